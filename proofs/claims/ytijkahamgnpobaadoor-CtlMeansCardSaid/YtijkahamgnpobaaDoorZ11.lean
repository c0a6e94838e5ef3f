/- CtlMeans: for every input the law's call returns true, and each argument reads behind it as before.
   What a row's list of variables and the world's shape give the walks; the shell round a law's walk.
   The walk of the theorem of the fifth stage.
   The walk of the reference's Same, of two lists that read the same.
   The walks of the reference's Unlist, and of Same.
   The walk of the reference's Cut. -/
import Derived.Test.YtijkahamgnpobaaDoorCards
import Derived.Test.YtijkahamgnpobaaDoorTie
import Derived.ProofKit
import Derived.OpenShut
import Derived.LaidMore
import Derived.Deep.DeepWitnessRowRef
import Derived.Lib.LaidTab
import Derived.Lib.SmallJoins
import Derived.Test.YtijkahamgnpobaaDoorZ03
import Derived.Test.YtijkahamgnpobaaDoorZ09
import Derived.Test.YtijkahamgnpobaaDoorZ10

set_option linter.unusedSimpArgs false
set_option linter.unusedVariables false
namespace Go.Proofs.YtijkahamgnpobaaDoor
open Go.RowKit
attribute [local go_sem ↓] Go.wp_at_zero Go.wp_at_succ

theorem info24r : ∃ i0, Tryd.prog.info? 28 = some i0 ∧ i0.zero = some (.slice none 0 0) ∧ i0.size = 1 ∧ i0.bytes = 24 := by
  have hi5 : (Tryd.prog.info? 28).map (fun i => (i.zero, i.size, i.bytes)) = some (some (.slice none 0 0), 1, 24) := by kernel_rfl
  obtain ⟨i0, hi, hx⟩ := Option.map_eq_some_iff.1 hi5
  simp only [Prod.mk.injEq] at hx
  exact ⟨i0, hi, hx.1, hx.2.1, hx.2.2⟩
/-- A row of parts that the call owns, read in w0. -/
def OwnR (w0 w : World) (B : Nat) (v : Value) (P : List (List UInt8)) : Prop :=
  ∃ xs : List Value, w.ownsRow B 28 1 v P.length xs ∧ ∀ (j : Nat) (u : Value) (l : List UInt8), xs[j]? = some u → P[j]? = some l → Bytes w0 u l
theorem OwnR.push {w0 w2 : World} {B : Nat} {v' u : Value} {P : List (List UInt8)} {l : List UInt8} {xs : List Value}
    (h : ∀ (j : Nat) (u : Value) (l : List UInt8), xs[j]? = some u → P[j]? = some l → Bytes w0 u l) (hl : xs.length = P.length) (ho : w2.ownsRow B 28 1 v' (P.length + 1) (xs ++ [u])) (hu : Bytes w0 u l) : OwnR w0 w2 B v' (P ++ [l]) := by
  refine ⟨xs ++ [u], by simpa using ho, fun j x y hx hy => ?_⟩
  rcases Nat.lt_or_ge j P.length with hj | hj
  · rw [List.getElem?_append_left (by omega)] at hx hy
    exact h j x y hx hy
  · rw [List.getElem?_append_right (by omega)] at hx hy
    have hj0 : j = P.length := by
      have := (List.getElem?_eq_some_iff.1 hy).1
      simp at this; omega
    subst hj0
    rw [hl] at hx
    simp at hx hy
    subst hx hy
    exact hu
theorem OwnR.lists {w0 w : World} {B : Nat} {v : Value} {P : List (List UInt8)} (h : OwnR w0 w B v P) (hb : Below w0.heap.size w0 w) : Lists w v P := by
  obtain ⟨xs, ho, hx⟩ := h
  have hl : xs.length = P.length := by simpa using ho.1
  have hr := Row.of_own ho
  rcases hr with ⟨rfl, a, c, rfl, h0⟩ | ⟨b, o, c, rfl, h1, h2, h3⟩
  · exact .inl ⟨List.eq_nil_of_length_eq_zero (by simpa using hl.symm), a, c, rfl, h0⟩
  · refine .inr ⟨b, o, c, by rw [hl], h1, by omega, fun j l hj => ?_⟩
    have hj' : j < xs.length := by rw [hl]; exact (List.getElem?_eq_some_iff.1 hj).1
    exact ⟨xs[j], h3 j _ (List.getElem?_eq_getElem hj'), (hx j _ l (List.getElem?_eq_getElem hj') hj).later hb⟩
/-- b[i:j]. -/
theorem Bytes.cut_lh {w : World} {a : Option Addr} {n c : Nat} {l : List UInt8} (h : Bytes w (.slice a n c) l) (i j : Int) (lo hi : Nat) (hi1 : i = lo) (hj1 : j = hi) (h1 : lo ≤ hi) (h2 : hi ≤ l.length) :
    ∃ a', (∀ w, (Instr.slice 28 (.slice a n c) (some (.int .i64 i)) (some (.int .i64 j)) none).run Tryd.prog w = .ok (.slice a' (hi - lo) (c - lo)) w) ∧ Bytes w (.slice a' (hi - lo) (c - lo)) ((l.take hi).drop lo) := by
  have hc := h.cap
  subst hi1 hj1
  have hb := h.sliced h1 h2 (Nat.le_trans h2 hc) (Nat.le_refl _)
  refine ⟨_, fun w => ?_, hb⟩
  rw [run_slice_lh w _ a _ _ cells1 _ _ _ _ (by omega) (by omega) (by omega), size1]
  rfl

/-- What is left, and whether it was short. -/
def scan : Nat × Bool → List Int → Nat × Bool
  | s, [] => s
  | (m, sh), z :: r => scan (if (m : Int) < z then (m, true) else (m - z.toNat, sh)) r
theorem scan_short : ∀ (r : List Int) (m : Nat), (scan (m, true) r).2 = true
  | [], _ => rfl
  | z :: r, m => by
    unfold scan
    split
    · exact scan_short r _
    · exact scan_short r _
theorem scan_cut : ∀ (r : List Int) (l : List UInt8), r.any (· < 0) = false → ((scan (l.length, false) r).2 = false ∧ (scan (l.length, false) r).1 = 0 ↔ (cutGo l r).isSome = true)
  | [], l, _ => by
    unfold scan cutGo
    by_cases h : l = [] <;> simp [h]
  | z :: r, l, h => by
    simp only [List.any_cons, Bool.or_eq_false_iff, decide_eq_false_iff_not] at h
    unfold scan cutGo
    by_cases hz : (l.length : Int) < z
    · simp only [if_pos hz]
      have := scan_short r l.length
      simp [this]
    · simp only [if_neg hz, Option.isSome_map]
      have := scan_cut r (l.drop z.toNat) h.2
      rw [List.length_drop] at this
      exact this
theorem scan_take {zs : List Int} {k : Nat} (h : k < zs.length) (s : Nat × Bool) : scan s (zs.take (k + 1)) = (let t := scan s (zs.take k); if (t.1 : Int) < zs[k] then (t.1, true) else (t.1 - zs[k].toNat, t.2)) := by
  have key : ∀ (r : List Int) (z : Int) (s : Nat × Bool), scan s (r ++ [z]) = (let t := scan s r; if (t.1 : Int) < z then (t.1, true) else (t.1 - z.toNat, t.2)) := by
    intro r
    induction r with
    | nil => intro z s; rfl
    | cons x r ih => intro z s; exact ih z _
  rw [List.take_succ_eq_append_getElem h, key]
theorem scan_le : ∀ (r : List Int) (m : Nat) (b : Bool), (scan (m, b) r).1 ≤ m
  | [], _, _ => Nat.le_refl _
  | z :: r, m, b => by
    unfold scan
    split
    · exact scan_le r _ _
    · exact Nat.le_trans (scan_le r _ _) (Nat.sub_le _ _)

end Go.Proofs.YtijkahamgnpobaaDoor

namespace Go.Proofs.YtijkahamgnpobaaDoor
open Go.RowKit
attribute [local go_sem ↓] Go.wp_at_zero Go.wp_at_succ

set_option maxHeartbeats 2000000 in
set_option maxRecDepth 100000 in
theorem unlistR_no (v : Value) (b : List UInt8) (w : World) (hv : Bytes w v b) (hl : b.length ≤ 9223372036854775807) (h : ¬ (1 ≤ b.length ∧ hd0 b ≤ 32 ∧ b.length = 1 + 6 * hd0 b)) :
    Calls Tryd.prog 19 #[v] w fun e w' => e = .returned (.tuple #[.slice none 0 0, .bool false]) ∧ w = w' := by
  by_cases h1 : 1 ≤ b.length
  · obtain ⟨bl, o, c, rfl, hbl, hc, hcell⟩ := head_cell hv h1
    obtain ⟨n, hn⟩ : ∃ n, n = hd0 b := ⟨_, rfl⟩
    have hn2 : n < 256 := by rw [hn]; exact hd0_lt b
    rw [← hn] at hcell h
    obtain ⟨m, hm⟩ : ∃ m, m = b.length := ⟨_, rfl⟩
    rw [← hm] at hc h h1 ⊢
    have k1 : (1 : Int) ≤ m := by omega
    have k1n : 0 < m := by omega
    have k2 : (m : Int) ≤ 9223372036854775807 := by omega
    have k3 : (n : Int) < 256 := by omega
    have u1 : IntKind.i64.wrap (n : Int) = n := IntWalk.i64_in _ ⟨by omega, by omega⟩
    have k7 : ((m : Int) == 0) = false := by rw [beq_eq_false_iff_ne]; omega
    clear hv hl hn hm
    by_cases h32 : 32 < n
    · have k4 : (32 : Int) < n := by omega
      have k5 : decide ((32 : Int) < n) = true := by simp; omega
      clear h
      go_enter Tryd.func19, Tryd.ntmps19
      go_wp2_with fail
      go_ret2
      exact ⟨rfl, rfl⟩
    · have k4 : (n : Int) ≤ 32 := by omega
      have k5 : decide ((32 : Int) < n) = false := by simp; omega
      have k6 : ((m : Int) - 1 != 6 * n) = true := by rw [bne_iff_ne]; omega
      clear h h32
      go_enter Tryd.func19, Tryd.ntmps19
      go_wp2_with fail
      go_ret2
      exact ⟨rfl, rfl⟩
  · obtain ⟨a, c, rfl⟩ := hv.form
    have e : b = [] := List.eq_nil_of_length_eq_zero (by omega)
    subst e
    clear hv h h1 hl
    go_enter Tryd.func19, Tryd.ntmps19
    go_wp2_with fail
    go_ret2
    exact ⟨rfl, rfl⟩

set_option maxHeartbeats 8000000 in
set_option maxRecDepth 100000 in
theorem unlistR_go (v : Value) (b : List UInt8) (w : World) (hv : Bytes w v b) (h1 : 1 ≤ b.length) (h32 : hd0 b ≤ 32) (hbl : b.length = 1 + 6 * hd0 b) :
    Calls Tryd.prog 19 #[v] w fun e w' => ∃ v, e = .returned (.tuple #[v, .bool (unOk b)]) ∧ Upds w' v (unL b) ∧ Below w.heap.size w w' := by
  obtain ⟨bl, o, c, rfl, hbll, hc, hcell⟩ := head_cell hv h1
  obtain ⟨n, hn⟩ : ∃ n, n = hd0 b := ⟨_, rfl⟩
  have HV := Lib.hid hv
  rw [← hn] at hcell h32 hbl
  obtain ⟨m, hm⟩ : ∃ m, m = b.length := ⟨_, rfl⟩
  rw [← hm] at hc h1 HV hbl ⊢
  have k1 : (1 : Int) ≤ m := by omega
  have k1n : 0 < m := by omega
  have k2 : (m : Int) ≤ 200 := by omega
  have k3 : (n : Int) < 256 := by omega
  have k4 : (n : Int) ≤ 32 := by omega
  have u1 : IntKind.i64.wrap (n : Int) = n := IntWalk.i64_in _ ⟨by omega, by omega⟩
  have k5 : decide ((32 : Int) < n) = false := by simp; omega
  have k6 : ((m : Int) - 1 != 6 * n) = false := by rw [bne_eq_false_iff_eq]; omega
  have k7 : ((m : Int) == 0) = false := by rw [beq_eq_false_iff_ne]; omega
  have HN : Hid (n = hd0 b ∧ m = b.length ∧ m = 1 + 6 * n) := ⟨hn, hm, hbl⟩
  clear hv hn hm hbl h32
  go_enter Tryd.func19, Tryd.ntmps19
  go_wp2_with fail
  go_loopw [4, 5] (fun v i wr => ∃ (j p : Nat), j ≤ n ∧ i = .int .i64 p ∧ p = 1 + 6 * j ∧ Hid (OwnU wr w.heap.size v (unPre b j)) ∧ Hid (unAll b j = true) ∧ Hid (Below w.heap.size w wr)) (fun _ i _ => m - (intOf i).toNat)
  case atStart => exact ⟨0, 1, Nat.zero_le _, rfl, rfl, OwnU.nil _ _, rfl, Below.refl _ _⟩
  case round =>
    obtain ⟨j, p, hj, rfl, hp, HW, HA, HB⟩ := hrel
    have hmn := HN.out.2.2
    rcases Nat.lt_or_ge j n with hlt | hge
    · have g0 : (p : Int) < m := by omega
      have g1 : (p : Int) + 6 ≤ m := by omega
      have g2 : (p : Int) + 6 ≤ c := by omega
      obtain ⟨a6, hcl, hb6⟩ := HV.out.cut_lh (p : Int) ((p : Int) + 6) p (p + 6) rfl (by omega) (by omega) (by have := HN.out; omega)
      have e6 : p + 6 - p = 6 := by omega
      rw [e6] at hcl hb6
      have hch : (b.take (p + 6)).drop p = chunk b j := by
        unfold chunk
        rw [← hp, List.take_drop]
      rw [hch] at hb6
      have hof := fun (W : World) (h : Below w.heap.size w W) => of5R_any (.slice a6 6 (c - p)) (chunk b j) W (hb6.later h) (by unfold chunk; simp; omega)
      obtain ⟨A0, hA0⟩ : ∃ x, x = ofA (chunk b j) := ⟨_, rfl⟩
      obtain ⟨N0, hN0⟩ : ∃ x, x = ofN (chunk b j) := ⟨_, rfl⟩
      obtain ⟨D0, hD0⟩ : ∃ x, x = ofD (chunk b j) := ⟨_, rfl⟩
      rw [← hA0, ← hN0, ← hD0] at hof
      have HP := Lib.hid hp
      have HS : Hid (unPre b (j + 1) = unPre b j ++ [⟨A0, N0, D0⟩]) := by show _ = _; rw [unPre_succ, hA0, hN0, hD0]; rfl
      cases hok : ofB (chunk b j) with
      | true =>
        rw [hok] at hof
        have HOF := Lib.hid hof
        have HAS : Hid (unAll b (j + 1) = true) := by show _ = _; rw [unAll_succ, HA.out, hok]; rfl
        clear hb6 hof hA0 hN0 hD0 hp hok hch e6 hmn
        go_wp2_with fail
        refine (HOF.out _ HB.out).mono ?_
        rintro e w2 ⟨rfl, hb2⟩
        have q := hb2.alloc hb2.size (.cells #[.int .u32 (A0 : Int), .int .i64 (N0 : Int), .int .i64 (D0 : Int)] 27)
        have HW2 := Lib.hid (OwnU.later HW.out q)
        have HB2 := Lib.hid (below_of HB.out q)
        clear hb2 q hcl
        go_wp2_with (at_builtin; refine wpList_appU rfl _ _ rfl w.heap.size u4 (unPre b j) ⟨A0, N0, D0⟩ (w2.heap.size + 1) rfl rfl (OwnU.later HW2.out ((Below.refl _ _).alloc (Nat.le_refl _) _)) (by simp) (by simp) (by simp) (by rw [unPre_length]; omega) (by have := HB2.out.size; simp at this ⊢; omega) ?_)
        intro v4 w4 ho4 hb4 _
        have HO4 : Hid (OwnU w4 w.heap.size v4 (unPre b (j + 1))) := by show OwnU _ _ _ _; rw [HS.out]; exact ho4
        have HB4 : Hid (Below w.heap.size w w4) := (HB2.out.alloc HB2.out.size _).trans hb4
        clear ho4 hb4
        go_wp2_with fail
        go_roundw
        case rel => exact ⟨j + 1, p + 6, by omega, by go_num, by have := HP.out; omega, HO4, HAS, HB4⟩
        case measure => simp [intOf]; omega
      | false =>
        rw [hok] at hof
        have HOF := Lib.hid hof
        have hno : unOk b = false := unOk_no (fun h => by
          have h2 := unAll_no (show j < hd0 b by have := HN.out; omega) hok
          rw [h2] at h
          exact absurd h.2.2.2 (by simp))
        have HE := Lib.hid (un_no hno)
        have HU := Lib.hid hno
        clear hb6 hof hA0 hN0 hD0 hp hok hno hch e6 hmn
        go_wp2_with fail
        refine (HOF.out _ HB.out).mono ?_
        rintro e w2 ⟨rfl, hb2⟩
        have HB2 := Lib.hid (below_of HB.out (hb2.alloc hb2.size (.cells #[.int .u32 (A0 : Int), .int .i64 (N0 : Int), .int .i64 (D0 : Int)] 27)))
        clear hb2 hcl
        go_wp2_with fail
        go_ret2
        exact ⟨_, by rw [HU.out]; rfl, by rw [HE.out.1]; exact Upds.nil _ _ _, HB2.out⟩
    · have e : j = n := by omega
      subst e
      have hok : unOk b = true := unOk_yes (by have := HN.out; omega) (by have := HN.out; omega) (by have := HN.out; omega) (by rw [← HN.out.1]; exact HA.out)
      have HE := Lib.hid (un_yes hok)
      have HU := Lib.hid hok
      have g0 : (m : Int) ≤ p := by omega
      clear hok hp hmn
      go_wp2_with fail
      go_ret2
      exact ⟨_, by rw [HU.out]; rfl, by rw [HE.out.1, ← HN.out.1]; exact HW.out.upds, HB.out⟩
theorem unlistR_any (v : Value) (b : List UInt8) (w : World) (hv : Bytes w v b) (hl : b.length ≤ 9223372036854775807) :
    Calls Tryd.prog 19 #[v] w fun e w' => ∃ v, e = .returned (.tuple #[v, .bool (unOk b)]) ∧ Upds w' v (unL b) ∧ Below w.heap.size w w' := by
  by_cases h : 1 ≤ b.length ∧ hd0 b ≤ 32 ∧ b.length = 1 + 6 * hd0 b
  · exact unlistR_go v b w hv h.1 h.2.1 h.2.2
  · have hno := unOk_no (b := b) (fun h2 => h ⟨h2.1, h2.2.1, h2.2.2.1⟩)
    obtain ⟨e1, e2⟩ := un_no hno
    refine (unlistR_no v b w hv hl h).mono ?_
    rintro e w' ⟨rfl, rfl⟩
    exact ⟨_, by rw [hno], by rw [e1]; exact Upds.nil _ _ _, Below.refl _ _⟩
end Go.Proofs.YtijkahamgnpobaaDoor

namespace Go.Proofs.YtijkahamgnpobaaDoor
open Go.RowKit
attribute [local go_sem ↓] Go.wp_at_zero Go.wp_at_succ

set_option maxHeartbeats 4000000 in
set_option maxRecDepth 100000 in
theorem sameU5_any (v v' : Value) (L : List Ud) (w : World) (h1 : Upds w v L) (h2 : Upds w v' L) (hL : L.length ≤ 9223372036854775807) :
    Calls Tryd.prog 20 #[v, v'] w fun e w' => e = .returned (.bool true) ∧ Below w.heap.size w w' := by
  obtain ⟨a, c, rfl⟩ := h1.form
  obtain ⟨a', c', rfl⟩ := h2.form
  have H1 := Lib.hid h1
  have H2 := Lib.hid h2
  obtain ⟨n, hn⟩ : ∃ n, n = L.length := ⟨_, rfl⟩
  rw [← hn] at H1 H2 ⊢
  have HN := Lib.hid hn
  have k0 : (n : Int) ≤ 9223372036854775807 := by omega
  have k1 : ((n : Int) != n) = false := by simp
  clear h1 h2 hn hL
  go_enter Tryd.func20, Tryd.ntmps20
  go_wp2_with fail
  go_loopw [5] (fun i wr => ∃ k : Nat, k ≤ n ∧ i = .int .i64 k ∧ Hid (Below w.heap.size w wr)) (fun i _ => n - (intOf i).toNat)
  case atStart => exact ⟨0, Nat.zero_le _, rfl, Below.refl _ _⟩
  case round =>
    obtain ⟨k, hk, rfl, HB⟩ := hrel
    rcases Nat.lt_or_ge k n with hlt | hge
    · have g1 : (k : Int) < n := by omega
      have hltL : k < L.length := by have := HN.out; omega
      obtain ⟨bl, bo, rfl, hbl, c0, c1, c2⟩ := (H1.out.later HB.out).at hltL
      obtain ⟨bl', bo', rfl, hbl', d0, d1, d2⟩ := (H2.out.later HB.out).at hltL
      obtain ⟨u, hu⟩ : ∃ u, u = L[k] := ⟨_, rfl⟩
      rw [← hu] at c0 c1 c2 d0 d1 d2
      clear hu hltL
      go_wp2_with fail
      go_quiet (fail)
      have HB2 := Lib.hid (below_drewN HB.out nq)
      go_wp2_with fail
      go_roundw
      case rel => exact ⟨k + 1, by omega, by go_num, HB2⟩
      case measure => simp [intOf]; omega
    · have e : k = n := by omega
      subst e
      go_wp2_with fail
      go_ret
      exact ⟨rfl, HB.out⟩
end Go.Proofs.YtijkahamgnpobaaDoor

namespace Go.Proofs.YtijkahamgnpobaaDoor
open Go.RowKit
attribute [local go_sem ↓] Go.wp_at_zero Go.wp_at_succ

theorem up_back (u : Ud) (hu : u.Ok) (h : mayD u = true) : ofB (upD u) = true ∧ (ofA (upD u) : Int) = u.a ∧ (ofN (upD u) : Int) = u.n ∧ (ofD (upD u) : Int) = u.d := by
  obtain ⟨a, n, d⟩ := u
  have h0 : mayU a n d = true := h
  obtain ⟨m1, m2, m3⟩ := mayU_of h0
  obtain ⟨n0, n1, _⟩ := Wp.may_of m1
  obtain ⟨n', rfl⟩ := Int.eq_ofNat_of_zero_le n0
  obtain ⟨d', rfl⟩ := Int.eq_ofNat_of_zero_le m2
  obtain ⟨b, q1, q2, q3⟩ := up_of (a := a) (n := n') (d := d') hu.a h0
  have e : upD ⟨a, n', d'⟩ = upL a n' d' := by unfold upD; simp only [Int.toNat_natCast]
  rw [e, q1, q2, q3]
  exact ⟨b, rfl, rfl, rfl⟩
theorem ofU_back (u : Ud) (hu : u.Ok) (h : mayD u = true) : ofU (upD u) = u := by
  obtain ⟨_, e1, e2, e3⟩ := up_back u hu h
  obtain ⟨a, n, d⟩ := u
  unfold ofU
  simp only at e1 e2 e3
  have e1' : ofA (upD ⟨a, n, d⟩) = a := by omega
  rw [e1', e2, e3]
theorem flat_len6 : ∀ L : List Ud, (L.map upD).flatten.length = 6 * L.length
  | [] => rfl
  | u :: L => by rw [List.map_cons, List.flatten_cons, List.length_append, flat_len6 L, upD_length, List.length_cons]; omega
theorem chunk_li (L : List Ud) {i : Nat} (h : i < L.length) : chunk (liL L) i = upD L[i] := by
  unfold chunk liL
  rw [show 1 + 6 * i = 6 * i + 1 by omega, List.drop_succ_cons]
  have e : L = L.take i ++ L[i] :: L.drop (i + 1) := by rw [← List.drop_eq_getElem_cons h, List.take_append_drop]
  have e2 : (L.map upD).flatten = ((L.take i).map upD).flatten ++ (upD L[i] ++ ((L.drop (i + 1)).map upD).flatten) := by
    conv => lhs; rw [e]
    rw [List.map_append, List.flatten_append, List.map_cons, List.flatten_cons]
  have hl : ((L.take i).map upD).flatten.length = 6 * i := by rw [flat_len6, List.length_take]; omega
  rw [e2, ← hl, List.drop_left, List.take_append_of_le_length (by rw [upD_length]; omega), List.take_of_length_le (by rw [upD_length]; omega)]
theorem hd0_li (L : List Ud) (h : L.length ≤ 32) : hd0 (liL L) = L.length := by
  unfold hd0 liL
  rw [List.getD_cons_zero]
  exact ofNat8 (by omega)
/-- A list's bytes are read as it. -/
theorem un_li (L : List Ud) (hk : ∀ u ∈ L, u.Ok) (hb : badL L = false) (hl : L.length ≤ 32) : unE (liL L) = 0 ∧ unL (liL L) = L := by
  have h0 := hd0_li L hl
  have hlen := liL_length L
  have hall : unAll (liL L) L.length = true := by
    unfold unAll
    rw [List.all_eq_true]
    intro i hi
    have hi' : i < L.length := List.mem_range.1 hi
    rw [chunk_li L hi']
    exact (up_back _ (hk _ (List.getElem_mem hi')) (good_at hb (List.getElem_mem hi'))).1
  have hok := unOk_yes (b := liL L) (by omega) (by omega) (by omega) (by rw [h0]; exact hall)
  obtain ⟨e1, e2⟩ := un_yes hok
  refine ⟨e2, ?_⟩
  rw [e1, h0]
  unfold unPre
  apply List.ext_getElem?
  intro i
  by_cases hi : i < L.length
  · simp only [List.getElem?_map, List.getElem?_range hi, Option.map_some, List.getElem?_eq_getElem hi]
    rw [chunk_li L hi, ofU_back _ (hk _ (List.getElem_mem hi)) (good_at hb (List.getElem_mem hi))]
  · rw [List.getElem?_eq_none (by simp; omega), List.getElem?_eq_none (by omega)]
theorem ut_backD (u : Ud) (hu : u.Ok) (h : mayD u = true) : utA (upT u.a u.n u.d) = u.a ∧ utN (upT u.a u.n u.d) = u.n ∧ utD (upT u.a u.n u.d) = u.d ∧ utE (upT u.a u.n u.d) = 0 := by
  have := ut_back (a := u.a) (n := u.n) (d := u.d) (by omega) (by have := hu.a; omega) h
  exact this.2
theorem bytesD_yes (u : Ud) (hu : u.Ok) (h : mayD u = true) (w : World) :
    Calls Tryd.prog 9 #[.agg #[.int .u32 (u.a : Int), .int .i64 u.n, .int .i64 u.d]] w fun e w' => ∃ v, e = .returned (.tuple #[v, .int .i64 0]) ∧ OwnB w' w.heap.size v (upD u) ∧ Below w.heap.size w w' := by
  obtain ⟨a, n, d⟩ := u
  have h0 : mayU a n d = true := h
  obtain ⟨m1, m2, m3⟩ := mayU_of h0
  obtain ⟨n0, n1, _⟩ := Wp.may_of m1
  obtain ⟨n', rfl⟩ := Int.eq_ofNat_of_zero_le n0
  obtain ⟨d', rfl⟩ := Int.eq_ofNat_of_zero_le m2
  exact bytesU_yes a n' d' hu.a h0 w
theorem ofD_back (u : Ud) (hu : u.Ok) (h : mayD u = true) (v : Value) (w : World) (hv : Bytes w v (upD u)) :
    Calls Tryd.prog 10 #[v] w fun e w' => e = .returned (.tuple #[.agg #[.int .u32 (u.a : Int), .int .i64 u.n, .int .i64 u.d], .int .i64 0]) ∧ Below w.heap.size w w' := by
  have h1 := of5W_any v _ w hv (by rw [upD_length]; omega)
  obtain ⟨b, e1, e2, e3⟩ := up_back u hu h
  rw [e1, e2, e3, show ofE (upD u) = 0 from by unfold ofE; rw [b]; rfl] at h1
  exact h1
theorem untextD_back (u : Ud) (hu : u.Ok) (h : mayD u = true) (w : World) (g : Gl w) :
    Calls Tryd.prog 22 #[.string ⟨(upT u.a u.n u.d).toArray⟩] w fun e w' => e = .returned (.tuple #[.agg #[.int .u32 (u.a : Int), .int .i64 u.n, .int .i64 u.d], .int .i64 0]) ∧ Below w.heap.size w w' := by
  have h1 := untextW_any ⟨(upT u.a u.n u.d).toArray⟩ (by have := upT_len (a := u.a) (n := u.n) (d := u.d) h; rw [Wp.bsize]; simp; omega) w g
  rw [toArr] at h1
  obtain ⟨e1, e2, e3, e4⟩ := ut_backD u hu h
  rw [e1, e2, e3, e4] at h1
  exact h1
/-- How far it is by a neighbour: Infinite, or more than it says. -/
theorem far_two (d c : Int) : farI d c = 255 ∨ (0 ≤ d ∧ 1 ≤ c ∧ c ≤ 50 ∧ d ≤ 255 ∧ farI d c = d + c ∧ d + c < 255) := by
  unfold farI; split <;> omega
set_option maxHeartbeats 8000000 in
set_option maxRecDepth 100000 in
theorem vy_a (la : Option Addr) (lc ln : Nat) (d cost : Int) (w : World) (g : Gl w) (h1 : (300 : Int) < ln) :
    Calls Tryd.prog 6 #[.slice la ln lc, .int .i64 d, .int .i64 cost] w fun e w' => e = .returned (.bool true) ∧ Below w.heap.size w w' := by
  go_enter Tryd.func6, Tryd.ntmps6
  go_wp2_with fail
  refine (known5_any _ g).mono ?_
  rintro e w1 ⟨rfl, hb⟩
  have B0 := Lib.hid hb
  clear hb
  go_wp2_with fail
  go_ret
  exact ⟨rfl, B0.out⟩
set_option maxHeartbeats 8000000 in
set_option maxRecDepth 100000 in
theorem vy_b (la : Option Addr) (lc ln : Nat) (L : List Ud) (d cost : Int) (w : World) (g : Gl w) (hln : ln = L.length) (hL : Upds w (.slice la ln lc) L) (hk : ∀ u ∈ L, u.Ok) (h1 : (ln : Int) ≤ 300) :
    Calls Tryd.prog 6 #[.slice la ln lc, .int .i64 d, .int .i64 cost] w fun e w' => e = .returned (.bool true) ∧ Below w.heap.size w w' := by
  have HL := Lib.hid hL
  have HK := Lib.hid hk
  have HN := Lib.hid hln
  obtain ⟨F1, hF1⟩ : ∃ F, F = farI d cost := ⟨_, rfl⟩
  have HF : Hid (∀ W, Calls Tryd.prog 24 #[.int .i64 d, .int .i64 cost] W fun e w' => e = .returned (.int .i64 F1) ∧ W = w') := fun W => by rw [hF1]; exact farW_any d cost W
  have HF2 : Hid (F1 = 255 ∨ (0 ≤ d ∧ 1 ≤ cost ∧ cost ≤ 50 ∧ d ≤ 255 ∧ F1 = d + cost ∧ d + cost < 255)) := by show _ ∨ _; rw [hF1]; exact far_two d cost
  have hli := fun (W : World) (h : Below w.heap.size w W) => listW_any _ L W (hL.later h) (by omega) hk
  have HLI := Lib.hid hli
  clear hL hk hln hF1 hli
  go_enter Tryd.func6, Tryd.ntmps6
  go_wp2_with fail
  refine (known5_any _ g).mono ?_
  rintro e w1 ⟨rfl, hb⟩
  have B1 := Lib.hid hb
  clear hb
  go_wp2_with fail
  go_loopw [7] (fun i wr => ∃ k : Nat, k ≤ ln ∧ i = .int .i64 k ∧ Hid (Below w.heap.size w wr)) (fun i _ => ln - (intOf i).toNat)
  case atStart => exact ⟨0, Nat.zero_le _, rfl, B1.out⟩
  case round =>
    obtain ⟨k, hk, rfl, B0⟩ := hrel
    rcases Nat.lt_or_ge k ln with hlt | hge
    · have g1 : (k : Int) < ln := by omega
      have hltL : k < L.length := by have := HN.out; omega
      obtain ⟨bl, bo, rfl, hbl, c0, c1, c2⟩ := HL.out.at hltL
      have huk := HK.out _ (List.getElem_mem hltL)
      obtain ⟨u, hu⟩ : ∃ u, u = L[k] := ⟨_, rfl⟩
      rw [← hu] at c0 c1 c2 huk
      have HCE : Hid (∀ W, Below w.heap.size w W → W.cell? ⟨bl, bo + k * 3, none⟩ = some (.int .u32 (u.a : Int)) ∧ W.cell? ⟨bl, bo + k * 3 + 1, none⟩ = some (.int .i64 u.n) ∧ W.cell? ⟨bl, bo + k * 3 + 2, none⟩ = some (.int .i64 u.d)) := fun W h => ⟨cell_later h c0, cell_later h c1, cell_later h c2⟩
      have HUK := Lib.hid huk
      clear c0 c1 c2 hu huk hltL
      obtain ⟨c0, c1, c2⟩ := HCE.out _ B0.out
      cases hd : mayD u with
      | false =>
        have hby := fun W => bytesU_no u.a u.n u.d hd W
        have HBY := Lib.hid hby
        clear hby hd
        go_wp2_with fail
        refine (HBY.out _).mono ?_
        rintro e w2 ⟨rfl, hb⟩
        have B0 := Lib.hid (below_of B0.out hb)
        clear hb c0 c1 c2
        go_wp2_with fail
        refine (num5_any _ _).mono ?_
        rintro e wn ⟨rfl, rfl⟩
        go_wp2_with fail
        go_roundw
        case rel => exact ⟨k + 1, by omega, by go_num, B0⟩
        case measure => simp [intOf]; omega
      | true =>
        have HBY := Lib.hid (fun W => bytesD_yes u HUK.out hd W)
        have HOF := Lib.hid (fun v W h => ofD_back u HUK.out hd v W h)
        have htx := fun (W : World) (G : Gl W) => textU_yes u.a u.n u.d (by omega) (by have := HUK.out.a; omega) hd W G
        have hut := fun W G => untextD_back u HUK.out hd W G
        obtain ⟨T1, hT1⟩ : ∃ T, T = upT u.a u.n u.d := ⟨_, rfl⟩
        rw [← hT1] at htx hut
        have HTX := Lib.hid htx
        have HUT := Lib.hid hut
        clear htx hut hT1 hd
        go_wp2_with fail
        refine (HBY.out _).mono ?_
        rintro e w2 ⟨x, rfl, ho, hb⟩
        obtain ⟨xa, xc, rfl⟩ := ho.form
        have HX := Lib.hid ho.bytes
        rw [upD_length] at HX ⊢
        have B0 := Lib.hid (below_of B0.out hb)
        clear hb ho c0 c1 c2
        go_wp2_with fail
        refine (num5_any _ _).mono ?_
        rintro e wn ⟨rfl, rfl⟩
        go_wp2_with fail
        refine (HOF.out _ _ HX.out).mono ?_
        rintro e w3 ⟨rfl, hb⟩
        have q := hb.alloc hb.size (.cells #[.int .u32 (u.a : Int), .int .i64 u.n, .int .i64 u.d] 27)
        have RX := Lib.hid (show BlkAt 27 w3.heap.size [.int .u32 (u.a : Int), .int .i64 u.n, .int .i64 u.d] (w3.alloc (.cells #[.int .u32 (u.a : Int), .int .i64 u.n, .int .i64 u.d] 27)) from BlkAt.new w3 _)
        have B0 := Lib.hid (below_of B0.out q)
        clear hb q
        obtain ⟨c0, c1, c2⟩ := HCE.out _ B0.out
        go_wp2_with fail
        refine (HTX.out _ (g.below B0.out)).mono ?_
        rintro e w4 ⟨rfl, hb⟩
        have RX := Lib.hid (BlkAt.later RX.out hb)
        have B0 := Lib.hid (below_of B0.out hb)
        clear hb c0 c1 c2
        go_wp2_with fail
        refine (HUT.out _ (g.below B0.out)).mono ?_
        rintro e w5 ⟨rfl, hb⟩
        have q := hb.alloc hb.size (.cells #[.int .u32 (u.a : Int), .int .i64 u.n, .int .i64 u.d] 27)
        have RX := Lib.hid (BlkAt.later RX.out q)
        have RY := Lib.hid (show BlkAt 27 w5.heap.size [.int .u32 (u.a : Int), .int .i64 u.n, .int .i64 u.d] (w5.alloc (.cells #[.int .u32 (u.a : Int), .int .i64 u.n, .int .i64 u.d] 27)) from BlkAt.new w5 _)
        have HBZ := Lib.hid (below_of B0.out q)
        clear hb q
        go_wp2_with fail
        obtain ⟨wz, hwz⟩ : ∃ wz, wz = w5.alloc (.cells #[.int .u32 (u.a : Int), .int .i64 u.n, .int .i64 u.d] 27) := ⟨_, rfl⟩
        rw [← hwz] at RX RY HBZ ⊢
        clear hwz
        (refine wp_region_held_drew (S := (fun w' => Below wz.heap.size wz w')) (by kernel_rfl) ?_ (fun hHeld => ?_); (focus ((try dsimp only); (exact (Below.refl _ _).drew))))
        (try dsimp only at hHeld)
        obtain ⟨w0, hw0⟩ : ∃ W0, W0 = World.drew wz := ⟨_, rfl⟩
        rw [← hw0]
        rw [← hw0] at hHeld
        clear hw0
        (refine wpAnyH_take (i := 0) (v := ?_) rfl (by kernel_rfl) (by kernel_rfl) (by kernel_rfl) (fun _ _ _ h => h) (Or.inl ⟨by rfl, ?_⟩) hHeld ?_; rotate_left; (focus (intro w hSw; (try dsimp only at hSw); go_simp; try with_reducible rfl)); (try simp only [Act.put, List.setIfInBounds_toArray, List.set_cons_zero, List.set_cons_succ, List.getElem_toArray, List.getElem_cons_zero])); (refine wpAnyH_take (i := 2) (v := ?_) rfl (by kernel_rfl) (by kernel_rfl) (by kernel_rfl) (fun _ _ _ h => h) (Or.inl ⟨by rfl, ?_⟩) hHeld ?_; rotate_left; (focus (intro w hSw; (try dsimp only at hSw); go_simp; try with_reducible rfl)); (try simp only [Act.put, List.setIfInBounds_toArray, List.set_cons_zero, List.set_cons_succ, List.getElem_toArray, List.getElem_cons_zero, List.getElem_cons_succ])); (refine wpAnyH_take (i := 5) (v := ?_) rfl (by kernel_rfl) (by kernel_rfl) (by kernel_rfl) (fun _ _ _ h => h) (Or.inl ⟨by rfl, ?_⟩) hHeld ?_; rotate_left; (focus (intro w hSw; (try dsimp only at hSw); go_simp; try with_reducible rfl)); (try simp only [Act.put, List.setIfInBounds_toArray, List.set_cons_zero, List.set_cons_succ, List.getElem_toArray, List.getElem_cons_zero, List.getElem_cons_succ]))
        refine wpAnyH_at (m := #[true, false, true, false, false, true, false, false, false, false, false, false, false, false, false, false, false, false, false, false, false, false, false, false, false]) (by kernel_rfl) ?_
        (refine wpAnyH_ready (rs := [1]) (by kernel_rfl) (by simp) ?_; refine AllReadyH.cons rfl (fun K hK => ?_) AllReadyH.nil; go_simp; refine (num5_any 0 _).mono ?_; rintro e y1 ⟨rfl, hs0⟩; subst hs0; refine hK.out _ _ ?_ (fun hHeldN => ?_); (focus ((try dsimp only); (exact hHeld))); clear hK K hHeld; have hHeld := hHeldN; clear hHeldN; (try simp only [Act.put, List.setIfInBounds_toArray, List.set_cons_zero, List.set_cons_succ, List.getElem_toArray, List.getElem_cons_zero, List.getElem_cons_succ]))
        refine wpAnyH_at (m := #[true, true, true, false, false, true, false, false, false, false, false, false, false, false, false, false, false, false, false, false, false, false, false, false, false]) (by kernel_rfl) ?_
        (refine wpAnyH_ready (rs := [3]) (by kernel_rfl) (by simp) ?_; refine AllReadyH.cons rfl (fun K hK => ?_) AllReadyH.nil; go_simp; refine (num5_any 0 _).mono ?_; rintro e y1 ⟨rfl, hs0⟩; subst hs0; refine hK.out _ _ ?_ (fun hHeldN => ?_); (focus ((try dsimp only); (exact hHeld))); clear hK K hHeld; have hHeld := hHeldN; clear hHeldN; (try simp only [Act.put, List.setIfInBounds_toArray, List.set_cons_zero, List.set_cons_succ, List.getElem_toArray, List.getElem_cons_zero, List.getElem_cons_succ]))
        refine wpAnyH_at (m := #[true, true, true, true, false, true, false, false, false, false, false, false, false, false, false, false, false, false, false, false, false, false, false, false, false]) (by kernel_rfl) ?_
        (refine wpAnyH_take (i := 4) (v := ?_) rfl (by kernel_rfl) (by kernel_rfl) (by kernel_rfl) (fun _ _ _ h => h) (Or.inl ⟨by rfl, ?_⟩) hHeld ?_; rotate_left; (focus (intro w hSw; (try dsimp only at hSw); go_simp; try with_reducible rfl)); (try simp only [Act.put, List.setIfInBounds_toArray, List.set_cons_zero, List.set_cons_succ, List.getElem_toArray, List.getElem_cons_zero, List.getElem_cons_succ]))
        refine wpAnyH_at (m := #[true, true, true, true, true, true, false, false, false, false, false, false, false, false, false, false, false, false, false, false, false, false, false, false, false]) (by kernel_rfl) ?_
        (refine wpAnyH_ready (rs := [6]) (by kernel_rfl) (by simp) ?_; refine AllReadyH.cons rfl (fun K hK => ?_) AllReadyH.nil; go_simp; refine (num5_any 0 _).mono ?_; rintro e y1 ⟨rfl, hs0⟩; subst hs0; refine hK.out _ _ ?_ (fun hHeldN => ?_); (focus ((try dsimp only); (exact hHeld))); clear hK K hHeld; have hHeld := hHeldN; clear hHeldN; (try simp only [Act.put, List.setIfInBounds_toArray, List.set_cons_zero, List.set_cons_succ, List.getElem_toArray, List.getElem_cons_zero, List.getElem_cons_succ]))
        refine wpAnyH_at (m := #[true, true, true, true, true, true, true, false, false, false, false, false, false, false, false, false, false, false, false, false, false, false, false, false, false]) (by kernel_rfl) ?_
        (refine wpAnyH_take (i := 7) (v := ?_) rfl (by kernel_rfl) (by kernel_rfl) (by kernel_rfl) (fun _ _ _ h => h) (Or.inl ⟨by rfl, ?_⟩) hHeld ?_; rotate_left; (focus (intro w hSw; (try dsimp only at hSw); go_simp; try with_reducible rfl)); (try simp only [Act.put, List.setIfInBounds_toArray, List.set_cons_zero, List.set_cons_succ, List.getElem_toArray, List.getElem_cons_zero, List.getElem_cons_succ])); (refine wpAnyH_take (i := 8) (v := ?_) rfl (by kernel_rfl) (by kernel_rfl) (by kernel_rfl) (fun _ _ _ h => h) (Or.inl ⟨by rfl, ?_⟩) hHeld ?_; rotate_left; (focus (intro w hSw; (try dsimp only at hSw); go_simp; try with_reducible rfl)); (try simp only [Act.put, List.setIfInBounds_toArray, List.set_cons_zero, List.set_cons_succ, List.getElem_toArray, List.getElem_cons_zero, List.getElem_cons_succ])); (refine wpAnyH_take (i := 9) (v := ?_) rfl (by kernel_rfl) (by kernel_rfl) (by kernel_rfl) (fun _ _ _ h => h) (Or.inl ⟨by rfl, ?_⟩) hHeld ?_; rotate_left; (focus (intro w hSw; (try dsimp only at hSw); go_simp; try with_reducible rfl)); (try simp only [Act.put, List.setIfInBounds_toArray, List.set_cons_zero, List.set_cons_succ, List.getElem_toArray, List.getElem_cons_zero, List.getElem_cons_succ]))
        (refine wpAnyH_take (i := 10) (v := ?_) rfl (by kernel_rfl) (by kernel_rfl) (by kernel_rfl) (fun _ _ _ h => h) (Or.inl ⟨by rfl, ?_⟩) hHeld ?_; rotate_left; (focus (intro w hSw; (try dsimp only at hSw); go_simp; (have hq := BlkAt.later RX.out hSw; have c0 := BlkAt.cell hq (j := 0) rfl; have c1 := BlkAt.cell hq (j := 1) rfl; have c2 := BlkAt.cell hq (j := 2) rfl; go_simp; try with_reducible rfl))); (try simp only [Act.put, List.setIfInBounds_toArray, List.set_cons_zero, List.set_cons_succ, List.getElem_toArray, List.getElem_cons_zero, List.getElem_cons_succ]))
        (refine wpAnyH_take (i := 11) (v := ?_) rfl (by kernel_rfl) (by kernel_rfl) (by kernel_rfl) (fun _ _ _ h => h) (Or.inl ⟨by rfl, ?_⟩) hHeld ?_; rotate_left; (focus (intro w hSw; (try dsimp only at hSw); go_simp; try with_reducible rfl)); (try simp only [Act.put, List.setIfInBounds_toArray, List.set_cons_zero, List.set_cons_succ, List.getElem_toArray, List.getElem_cons_zero, List.getElem_cons_succ])); (refine wpAnyH_take (i := 12) (v := ?_) rfl (by kernel_rfl) (by kernel_rfl) (by kernel_rfl) (fun _ _ _ h => h) (Or.inl ⟨by rfl, ?_⟩) hHeld ?_; rotate_left; (focus (intro w hSw; (try dsimp only at hSw); go_simp; try with_reducible rfl)); (try simp only [Act.put, List.setIfInBounds_toArray, List.set_cons_zero, List.set_cons_succ, List.getElem_toArray, List.getElem_cons_zero, List.getElem_cons_succ])); (refine wpAnyH_take (i := 13) (v := ?_) rfl (by kernel_rfl) (by kernel_rfl) (by kernel_rfl) (fun _ _ _ h => h) (Or.inl ⟨by rfl, ?_⟩) hHeld ?_; rotate_left; (focus (intro w hSw; (try dsimp only at hSw); go_simp; try with_reducible rfl)); (try simp only [Act.put, List.setIfInBounds_toArray, List.set_cons_zero, List.set_cons_succ, List.getElem_toArray, List.getElem_cons_zero, List.getElem_cons_succ]))
        (refine wpAnyH_take (i := 14) (v := ?_) rfl (by kernel_rfl) (by kernel_rfl) (by kernel_rfl) (fun _ _ _ h => h) (Or.inl ⟨by rfl, ?_⟩) hHeld ?_; rotate_left; (focus (intro w hSw; (try dsimp only at hSw); go_simp; (have qc := HCE.out _ (HBZ.out.trans (hSw.mono HBZ.out.size)); have c0 := qc.1; have c1 := qc.2.1; have c2 := qc.2.2; go_simp; try with_reducible rfl))); (try simp only [Act.put, List.setIfInBounds_toArray, List.set_cons_zero, List.set_cons_succ, List.getElem_toArray, List.getElem_cons_zero, List.getElem_cons_succ]))
        (refine wpAnyH_take (i := 15) (v := ?_) rfl (by kernel_rfl) (by kernel_rfl) (by kernel_rfl) (fun _ _ _ h => h) (Or.inl ⟨by rfl, ?_⟩) hHeld ?_; rotate_left; (focus (intro w hSw; (try dsimp only at hSw); go_simp; try with_reducible rfl)); (try simp only [Act.put, List.setIfInBounds_toArray, List.set_cons_zero, List.set_cons_succ, List.getElem_toArray, List.getElem_cons_zero, List.getElem_cons_succ])); (refine wpAnyH_take (i := 16) (v := ?_) rfl (by kernel_rfl) (by kernel_rfl) (by kernel_rfl) (fun _ _ _ h => h) (Or.inl ⟨by rfl, ?_⟩) hHeld ?_; rotate_left; (focus (intro w hSw; (try dsimp only at hSw); go_simp; try with_reducible rfl)); (try simp only [Act.put, List.setIfInBounds_toArray, List.set_cons_zero, List.set_cons_succ, List.getElem_toArray, List.getElem_cons_zero, List.getElem_cons_succ])); (refine wpAnyH_take (i := 17) (v := ?_) rfl (by kernel_rfl) (by kernel_rfl) (by kernel_rfl) (fun _ _ _ h => h) (Or.inl ⟨by rfl, ?_⟩) hHeld ?_; rotate_left; (focus (intro w hSw; (try dsimp only at hSw); go_simp; try with_reducible rfl)); (try simp only [Act.put, List.setIfInBounds_toArray, List.set_cons_zero, List.set_cons_succ, List.getElem_toArray, List.getElem_cons_zero, List.getElem_cons_succ]))
        (refine wpAnyH_take (i := 18) (v := ?_) rfl (by kernel_rfl) (by kernel_rfl) (by kernel_rfl) (fun _ _ _ h => h) (Or.inl ⟨by rfl, ?_⟩) hHeld ?_; rotate_left; (focus (intro w hSw; (try dsimp only at hSw); go_simp; (have hq := BlkAt.later RY.out hSw; have c0 := BlkAt.cell hq (j := 0) rfl; have c1 := BlkAt.cell hq (j := 1) rfl; have c2 := BlkAt.cell hq (j := 2) rfl; go_simp; try with_reducible rfl))); (try simp only [Act.put, List.setIfInBounds_toArray, List.set_cons_zero, List.set_cons_succ, List.getElem_toArray, List.getElem_cons_zero, List.getElem_cons_succ]))
        (refine wpAnyH_take (i := 19) (v := ?_) rfl (by kernel_rfl) (by kernel_rfl) (by kernel_rfl) (fun _ _ _ h => h) (Or.inl ⟨by rfl, ?_⟩) hHeld ?_; rotate_left; (focus (intro w hSw; (try dsimp only at hSw); go_simp; try with_reducible rfl)); (try simp only [Act.put, List.setIfInBounds_toArray, List.set_cons_zero, List.set_cons_succ, List.getElem_toArray, List.getElem_cons_zero, List.getElem_cons_succ])); (refine wpAnyH_take (i := 20) (v := ?_) rfl (by kernel_rfl) (by kernel_rfl) (by kernel_rfl) (fun _ _ _ h => h) (Or.inl ⟨by rfl, ?_⟩) hHeld ?_; rotate_left; (focus (intro w hSw; (try dsimp only at hSw); go_simp; try with_reducible rfl)); (try simp only [Act.put, List.setIfInBounds_toArray, List.set_cons_zero, List.set_cons_succ, List.getElem_toArray, List.getElem_cons_zero, List.getElem_cons_succ])); (refine wpAnyH_take (i := 21) (v := ?_) rfl (by kernel_rfl) (by kernel_rfl) (by kernel_rfl) (fun _ _ _ h => h) (Or.inl ⟨by rfl, ?_⟩) hHeld ?_; rotate_left; (focus (intro w hSw; (try dsimp only at hSw); go_simp; try with_reducible rfl)); (try simp only [Act.put, List.setIfInBounds_toArray, List.set_cons_zero, List.set_cons_succ, List.getElem_toArray, List.getElem_cons_zero, List.getElem_cons_succ]))
        (refine wpAnyH_take (i := 22) (v := ?_) rfl (by kernel_rfl) (by kernel_rfl) (by kernel_rfl) (fun _ _ _ h => h) (Or.inl ⟨by rfl, ?_⟩) hHeld ?_; rotate_left; (focus (intro w hSw; (try dsimp only at hSw); go_simp; (have qc := HCE.out _ (HBZ.out.trans (hSw.mono HBZ.out.size)); have c0 := qc.1; have c1 := qc.2.1; have c2 := qc.2.2; go_simp; try with_reducible rfl))); (try simp only [Act.put, List.setIfInBounds_toArray, List.set_cons_zero, List.set_cons_succ, List.getElem_toArray, List.getElem_cons_zero, List.getElem_cons_succ]))
        (refine wpAnyH_take (i := 23) (v := ?_) rfl (by kernel_rfl) (by kernel_rfl) (by kernel_rfl) (fun _ _ _ h => h) (Or.inl ⟨by rfl, ?_⟩) hHeld ?_; rotate_left; (focus (intro w hSw; (try dsimp only at hSw); go_simp; try with_reducible rfl)); (try simp only [Act.put, List.setIfInBounds_toArray, List.set_cons_zero, List.set_cons_succ, List.getElem_toArray, List.getElem_cons_zero, List.getElem_cons_succ])); (refine wpAnyH_take (i := 24) (v := ?_) rfl (by kernel_rfl) (by kernel_rfl) (by kernel_rfl) (fun _ _ _ h => h) (Or.inl ⟨by rfl, ?_⟩) hHeld ?_; rotate_left; (focus (intro w hSw; (try dsimp only at hSw); go_simp; try with_reducible rfl)); (try simp only [Act.put, List.setIfInBounds_toArray, List.set_cons_zero, List.set_cons_succ, List.getElem_toArray, List.getElem_cons_zero, List.getElem_cons_succ]))
        refine wpAnyH_done (by kernel_rfl) ?_ _
        have B0 := Lib.hid (HBZ.out.trans (hHeld.mono HBZ.out.size))
        clear hHeld
        go_wp2_with fail
        go_roundw
        case rel => exact ⟨k + 1, by omega, by go_num, B0⟩
        case measure => simp [intOf]; omega
    · have e : k = ln := by omega
      subst e
      cases hbd : badL L with
      | false =>
        rcases Nat.lt_or_ge 32 L.length with h32 | h32
        · obtain ⟨e1, e2⟩ := li_long hbd h32
          have hl3 := HLI.out _ B0.out
          unfold LiA at hl3
          rw [e1] at hl3
          have HL3 := Lib.hid hl3
          clear hl3 e1 e2 hbd h32
          go_wp2_with fail
          refine HL3.out.mono ?_
          rintro e w6 ⟨x, rfl, _, hb⟩
          have B0 := Lib.hid (below_of B0.out hb)
          clear hb
          go_wp2_with fail
          refine (num5_any _ _).mono ?_
          rintro e wn ⟨rfl, rfl⟩
          go_wp2_with fail
          refine (HF.out _).mono ?_
          rintro e wn ⟨rfl, rfl⟩
          rcases HF2.out with e9 | ⟨f0, f1, f2, f3, f4, f5⟩
          · subst e9
            go_wp2_with fail
            go_ret
            exact ⟨rfl, B0.out⟩
          · subst f4
            have k9 : ((d + cost) == 255) = false := by rw [beq_eq_false_iff_ne]; omega
            have k10 : d < d + cost := by omega
            go_wp2_with fail
            go_ret
            exact ⟨rfl, B0.out⟩
        · obtain ⟨e1, e2⟩ := li_ok hbd h32
          obtain ⟨e3, e4⟩ := un_li L HK.out hbd h32
          have hl3 := HLI.out _ B0.out
          unfold LiA at hl3
          rw [e1, e2] at hl3
          have HL3 := Lib.hid hl3
          have HUN : Hid (∀ v W, Bytes W v (liL L) → Calls Tryd.prog 18 #[v] W fun e w' => ∃ v, e = .returned (.tuple #[v, .int .i64 0]) ∧ Upds w' v L ∧ Below W.heap.size W w') := fun v W h => by
            have h9 := unlistW_any v _ W h (by rw [liL_length]; omega)
            rw [e3, e4] at h9; exact h9
          have HLE : Hid (L.length ≤ 9223372036854775807) := by show _ ≤ _; omega
          obtain ⟨xn, hxn⟩ : ∃ n, n = (liL L).length := ⟨_, rfl⟩
          have HXN := Lib.hid hxn
          clear hl3 e1 e2 e3 e4 hbd h32 hxn
          go_wp2_with fail
          refine HL3.out.mono ?_
          rintro e w6 ⟨x, rfl, hx, hb⟩
          obtain ⟨xa, xc, rfl⟩ := hx.form
          rw [← HXN.out] at hx ⊢
          have HX := Lib.hid hx
          have B0 := Lib.hid (below_of B0.out hb)
          clear hb hx
          go_wp2_with fail
          refine (num5_any _ _).mono ?_
          rintro e wn ⟨rfl, rfl⟩
          go_wp2_with fail
          refine (HUN.out _ _ HX.out).mono ?_
          rintro e w7 ⟨y, rfl, hy, hb⟩
          obtain ⟨ya, yc, rfl⟩ := hy.form
          rw [← HN.out] at hy ⊢
          have HY := Lib.hid hy
          have B0 := Lib.hid (below_of B0.out hb)
          clear hb hy
          go_wp2_with fail
          refine (num5_any _ _).mono ?_
          rintro e wn ⟨rfl, rfl⟩
          go_wp2_with fail
          refine (sameU5_any _ _ L _ HY.out (HL.out.later B0.out) HLE.out).mono ?_
          rintro e w8 ⟨rfl, hb⟩
          have B0 := Lib.hid (below_of B0.out hb)
          clear hb
          go_wp2_with fail
          refine (HF.out _).mono ?_
          rintro e wn ⟨rfl, rfl⟩
          rcases HF2.out with e9 | ⟨f0, f1, f2, f3, f4, f5⟩
          · subst e9
            go_wp2_with fail
            go_ret
            exact ⟨rfl, B0.out⟩
          · subst f4
            have k9 : ((d + cost) == 255) = false := by rw [beq_eq_false_iff_ne]; omega
            have k10 : d < d + cost := by omega
            go_wp2_with fail
            go_ret
            exact ⟨rfl, B0.out⟩
      | true =>
        obtain ⟨e1, e2⟩ := li_bad hbd
        have hl3 := HLI.out _ B0.out
        unfold LiA at hl3
        rw [e1] at hl3
        have HL3 := Lib.hid hl3
        clear hl3 e1 e2 hbd
        go_wp2_with fail
        refine HL3.out.mono ?_
        rintro e w6 ⟨x, rfl, _, hb⟩
        have B0 := Lib.hid (below_of B0.out hb)
        clear hb
        go_wp2_with fail
        refine (num5_any _ _).mono ?_
        rintro e wn ⟨rfl, rfl⟩
        go_wp2_with fail
        refine (HF.out _).mono ?_
        rintro e wn ⟨rfl, rfl⟩
        rcases HF2.out with e9 | ⟨f0, f1, f2, f3, f4, f5⟩
        · subst e9
          go_wp2_with fail
          go_ret
          exact ⟨rfl, B0.out⟩
        · subst f4
          have k9 : ((d + cost) == 255) = false := by rw [beq_eq_false_iff_ne]; omega
          have k10 : d < d + cost := by omega
          go_wp2_with fail
          go_ret
          exact ⟨rfl, B0.out⟩
theorem ctlMeans_walk (v : Value) (L : List Ud) (d cost : Int) (w : World) (g : Gl w) (hL : Upds w v L) (_hLl : L.length ≤ 9223372036854775807) (hk : ∀ u ∈ L, u.Ok) :
    Calls Tryd.prog 6 #[v, .int .i64 d, .int .i64 cost] w fun e w' => e = .returned (.bool true) ∧ Below w.heap.size w w' := by
  obtain ⟨la, lc, rfl⟩ := hL.form
  rcases Nat.lt_or_ge 300 L.length with h1 | h1
  · exact vy_a la lc _ d cost w g (by omega)
  · exact vy_b la lc _ L d cost w g rfl hL hk (by omega)
end Go.Proofs.YtijkahamgnpobaaDoor

namespace Go.Proofs.YtijkahamgnpobaaDoor
open Go.ChangeShapes Go.WideShapes Go.ChangeAt Go.RowKit

/-- What the rows of this seat list. -/
def laidL : List (String × DataW Unit) := [("math/bits.deBruijn32tab", Rows.laid_math_bits_deBruijn32tab), ("math/bits.deBruijn64tab", Rows.laid_math_bits_deBruijn64tab), ("internal/strconv.uint64pow10", Rows.laid_internal_strconv_uint64pow10), ("strconv.ErrRange", Rows.laid_strconv_ErrRange), ("strconv.ErrSyntax", Rows.laid_strconv_ErrSyntax)]

theorem of_iface {H : Type} {enc : TypeId × Value → H} {P : Program} {w : World} {fuel : Nat} {t : TypeId} {ms : Array (String × TypeId)} {cs : List Value} {n : String} {d : DataW H} {p : List MemPlace}
    (hu : P.underlying t = some (.interface ms)) (h : DataW.trod enc P w 0 (fun _ => true) false fuel t cs = some (.iface n d, p)) : ∃ te pe, cs = [.iface te pe] := by
  cases fuel with
  | zero => simp [DataW.trod] at h
  | succ fuel =>
    unfold DataW.trod at h
    rw [hu] at h
    match cs, h with
    | [.iface u v], _ => exact ⟨u, v, rfl⟩
    | [.nilIface], h => simp at h

theorem size_of_var {P : Program} {W : World} {n : String} {g : Nat} {cs : Array Value} (hg : P.globalNamed n = some g) (h : W.var? P n = some cs) : g < W.heap.size := by
  unfold World.var? at h
  rw [hg, Option.bind_some] at h
  rcases Nat.lt_or_ge g W.heap.size with h1 | h1
  · exact h1
  · rw [Array.getElem?_eq_none h1] at h; cases h

theorem gl_of {W : World} (hL : laidMetH Tryd.prog laidL W) (hsh : W.ShapedOpen Tryd.prog) : Gl W := by
  rw [MakeChecks.laidMetH_plain _ _ _ (by kernel_rfl)] at hL
  obtain ⟨ps, ⟨_, _, _, _, _, _, _, _, _, _, ⟨g2, t2, cs2, f2, p2, q2, hg2, ht2, hv2, hd2, ⟨g3, t3, cs3, f3, p3, q3, hg3, ht3, hv3, hd3, ⟨g4, t4, cs4, f4, p4, q4, hg4, ht4, hv4, hd4, ⟨g5, t5, cs5, f5, p5, q5, hg5, ht5, hv5, hd5, _, _⟩, _⟩, _⟩, _⟩, _⟩, _, _⟩ := hL
  obtain rfl := Option.some.inj ((show Tryd.prog.globalNamed "internal/strconv.uint64pow10" = some 3 by kernel_rfl).symm.trans hg3)
  obtain rfl := Option.some.inj ((show Tryd.prog.globalNamed "strconv.ErrRange" = some 2 by kernel_rfl).symm.trans hg4)
  obtain rfl := Option.some.inj ((show Tryd.prog.globalNamed "strconv.ErrSyntax" = some 1 by kernel_rfl).symm.trans hg5)
  obtain rfl := Option.some.inj ((show (Tryd.prog.globals[3]?).map (·.type) = some 128 by kernel_rfl).symm.trans ht3)
  obtain rfl := Option.some.inj ((show (Tryd.prog.globals[2]?).map (·.type) = some 75 by kernel_rfl).symm.trans ht4)
  obtain rfl := Option.some.inj ((show (Tryd.prog.globals[1]?).map (·.type) = some 75 by kernel_rfl).symm.trans ht5)
  obtain ⟨te4, pe4, h4⟩ := of_iface Tryd.underlying75 hd4
  obtain ⟨te5, pe5, h5⟩ := of_iface Tryd.underlying75 hd5
  have hz : 5 < W.heap.size := size_of_var (n := "math/bits.deBruijn64tab") (by kernel_rfl) hv2
  refine ⟨Tryd.laysM145.s1_3 W hsh, ⟨te5, pe5, ?_⟩, ⟨te4, pe4, ?_⟩, ?_, hz⟩
  · rw [World.var?_cell hg5 hv5 0, Array.eq_one_of_toList h5]; rfl
  · rw [World.var?_cell hg4 hv4 0, Array.eq_one_of_toList h4]; rfl
  · unfold Lib.TabIs
    rw [hv3, ← Lib.cells_of_tab (zs := Lib.pow10Tab) Tryd.underlying128 Tryd.underlying60 (by kernel_rfl) (by kernel_rfl) hd3]

/-- The rows' list is met in the heap that the variables' own initialisers leave. -/
theorem door_met (os : Os) (args : Array Value) : laidMet Tryd.prog laidL ((World.doorLaid Tryd.prog 4000 os).forCall (fun _ _ => 0) ⟨#[], args, []⟩).memory :=
  laidMet_of_run' 8 (by kernel_rfl) (by kernel_rfl)

end Go.Proofs.YtijkahamgnpobaaDoor

namespace Go.Proofs.YtijkahamgnpobaaDoor.ctlMeans
open Go.ChangeShapes Go.WideShapes Go.ChangeAt Go.RowKit Go.Joins
open Go.ChangeMaps (open_string shut_string)

set_option maxRecDepth 100000 in
theorem contract (H : Type) (enc : TypeId × Value → H) (W : World) (base : Nat) (args : Array Value) (ds gs : List (DataW H)) (before : List MemPlace)
    (hval : ∀ (j : Nat) t v, Tryd.f6.params[j]? = some t → args[j]? = some v → Value.okWide Tryd.prog W .any base t v)
    (hW : DataW.Whole enc Tryd.prog Tryd.f6.params.toList Rows.ctlMeansSpec.vars false W args.toList ds gs before) (hL : laidMetH Tryd.prog laidL W) (hsh : W.ShapedOpen Tryd.prog) :
    Calls Tryd.prog 6 args W fun e W' => ∃ v, e = .returned v ∧ Rows.ctlMeansSpec.post enc Tryd.prog Tryd.f6 false true false false W args v W' := by
  have g := gl_of hL hsh
  have hW' := hW
  obtain ⟨p, q, hA0, hV, rfl, hfz, hnd⟩ := hW
  have hA : DataW.TrodAll enc Tryd.prog W 0 (fun _ => true) true Tryd.f6.params.toList args.toList ds p := hA0
  rw [Tryd.params6] at hA hval
  obtain ⟨v0, vs0, d0, ds0, p0, q0, hargs, rfl, rfl, h0, r0⟩ := trodAll_cons hA
  obtain ⟨v1, vs1, d1, ds1, p1, q1, rfl, rfl, rfl, h1, r1⟩ := trodAll_cons r0
  obtain ⟨v2, vs2, d2, ds2, p2, q2, rfl, rfl, rfl, h2, r2⟩ := trodAll_cons r1
  obtain ⟨rfl, rfl, rfl⟩ := trodAll_nil r2
  obtain rfl : args = #[v0, v1, v2] := by cases args; simp_all
  obtain ⟨rfl, rfl⟩ := trodVars_none hV
  have k0 := h0
  have lt0 : ∀ x ∈ p0, x.block < W.heap.size := by obtain ⟨m, hm⟩ := k0; exact DataW.trod_lt m _ _ _ hm
  have k1 := h1
  have lt1 : ∀ x ∈ p1, x.block < W.heap.size := by obtain ⟨m, hm⟩ := k1; exact DataW.trod_lt m _ _ _ hm
  have k2 := h2
  have lt2 : ∀ x ∈ p2, x.block < W.heap.size := by obtain ⟨m, hm⟩ := k2; exact DataW.trod_lt m _ _ _ hm
  obtain ⟨l0, hb0, hl0, hk0⟩ := open_upds (hval 0 41 v0 rfl rfl) h0
  obtain ⟨a1, rfl, _, _, wa1⟩ := open_int Tryd.underlying3 (hval 1 3 v1 rfl rfl) h1
  obtain ⟨a2, rfl, _, _, wa2⟩ := open_int Tryd.underlying3 (hval 2 3 v2 rfl rfl) h2
  refine (ctlMeans_walk v0 l0 a1 a2 W g hb0 hl0 hk0).mono fun e W' ⟨he, bel⟩ => ?_
  subst he
  exact ⟨_, rfl, _, _, _, [], _, [], hW', trodAll_mk1 (shut_bool Tryd.underlying4 _), (trodAll_cons_mk (Below.trod laidOut (by kernel_rfl) (of_decide_eq_true (by kernel_rfl)) k0 bel lt0) (trodAll_cons_mk (Below.trod laidOut (by kernel_rfl) (of_decide_eq_true (by kernel_rfl)) k1 bel lt1) (trodAll_cons_mk (Below.trod laidOut (by kernel_rfl) (of_decide_eq_true (by kernel_rfl)) k2 bel lt2) trodAll_mk0))), rfl, bel.frame _, fun h => by cases h⟩

theorem reads (os : Os) {H : Type} (enc : TypeId × Value → H) : ∃ places, DataW.whole enc Tryd.prog ((World.doorLaid Tryd.prog 4000 os).forCall (fun _ _ => 0) ⟨#[], #[.slice none 0 0, .int .i64 0, .int .i64 0], []⟩).memory Tryd.f6.params.toList Rows.ctlMeansSpec.vars false (#[.slice none 0 0, .int .i64 0, .int .i64 0] : Array Value).toList 8 = some ([.nil, .lit (.int .i64 0), .lit (.int .i64 0)], [], places) :=
  ⟨[], by kernel_rfl⟩

set_option maxRecDepth 100000 in
theorem lifted (os : Os) (started : os.Started) (H : Type) (enc : TypeId × Value → H) (F : Stop.Interp) :
    ReturnsInHanded {} Tryd.checked os 6 .any ((OpenSpec.ofChange Rows.ctlMeansSpec).preRow enc Tryd.prog Tryd.f6 Rows.ctlMeansRow.domain false Rows.ctlMeansRow.laid) (((OpenSpec.ofChange Rows.ctlMeansSpec).at F).post enc Tryd.prog Tryd.f6 false true false false) := by
  obtain ⟨places, hx⟩ := reads os enc
  refine returnsInHanded_of_row (C := Tryd.checked) (s := OpenSpec.ofChange Rows.ctlMeansSpec) own started (by kernel_rfl) Tryd.func6
    (witness_row_atRef (enc := enc) (C := Tryd.checked) false (World.doorLaid Tryd.prog 4000 os) #[.slice none 0 0, .int .i64 0, .int .i64 0] rfl (by kernel_rfl) (by kernel_rfl) (by kernel_rfl)
      (OpenSpec.preRow_of_cond 8 hx (by kernel_rfl) (fun k hk => by cases hk) (by kernel_rfl) (door_met os _))) ?_
  intro W base args ds gs before hval hW _ _ _ hL hsh _
  exact contract H enc W base args ds gs before hval hW hL hsh

theorem said : Rows.CtlMeansSaid :=
  OpenClaim.holds_of_cond 6 Tryd.f6 rfl rfl rfl rfl rfl rfl rfl ⟨rfl, rfl, rfl, rfl, rfl⟩ rfl rfl rfl rfl rfl (by kernel_rfl) Tryd.func6 (by kernel_rfl)
    (of_decide_eq_true (by kernel_rfl)) (by unfold Func.isWrapper; first | (rw [if_pos (by decide +kernel)]; kernel_rfl) | (rw [if_neg (by decide +kernel)]; exact ⟨rfl, rfl⟩))
    (fun os started H enc _ F => by rw [OpenClaim.pre_eq_preRow]; exact lifted os started H enc F)

theorem plain (f : FuncId) (fn : Func) (hf : Tryd.pinned.checked.prog.funcNamed "guidepost/guidepostlaw05.CtlMeans" = some f) (hfn : Tryd.pinned.checked.prog.funcs[f]? = some fn) :
    true = Tryd.pinned.checked.prog.looks [] ∧ ∀ (j : Nat) t, fn.params[j]? = some t → Tryd.pinned.checked.prog.wantsStandIn t = false := by
  obtain rfl : f = 6 := Option.some.inj ((show Tryd.prog.funcNamed "guidepost/guidepostlaw05.CtlMeans" = some 6 by kernel_rfl).symm.trans hf) |>.symm
  obtain rfl : fn = Tryd.f6 := (Option.some.inj (Tryd.func6.symm.trans hfn)).symm
  refine ⟨by kernel_rfl, fun j t ht => ?_⟩
  rw [Tryd.params6] at ht
  have hm : t ∈ ([41, 3, 3] : List TypeId) := by simpa using Array.mem_of_getElem? ht
  have hall : (([41, 3, 3] : List TypeId).all fun u => !Tryd.prog.wantsStandIn u) = true := by kernel_rfl
  exact (show Tryd.prog.wantsStandIn t = false by simpa using List.all_eq_true.1 hall t hm)

/-- The card. -/
theorem card : Rows.CtlMeansCardSaid :=
  Claim7.holds_tied_plain_at .later [] _ _ _ _ said (fun _ h => by cases h) (by kernel_rfl) (fun _ h => by cases h) ctlMeans_row_tie rfl ⟨rfl, rfl⟩ (by kernel_rfl) rfl plain (by kernel_rfl)
#print axioms card
end Go.Proofs.YtijkahamgnpobaaDoor.ctlMeans
