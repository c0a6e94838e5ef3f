/- CtlLists: for every input the law's call returns true, and each argument reads behind it as before.
   What a row's list of variables and the world's shape give the walks; the shell round a law's walk.
   The walk of the law CtlLists.
   The walk of the reference's Same, of two lists that read the same.
   The walks of the reference's Unlist, and of Same.
   The walk of the reference's Cut. -/
import Derived.Test.YtijkahamgnpobaaDoorCards
import Derived.Test.YtijkahamgnpobaaDoorTie
import Derived.ProofKit
import Derived.OpenShut
import Derived.LaidMore
import Derived.Deep.DeepWitnessRowRef
import Derived.Lib.LaidTab
import Derived.Lib.SmallJoins
import Derived.Test.YtijkahamgnpobaaDoorZ03
import Derived.Test.YtijkahamgnpobaaDoorZ09
import Derived.Test.YtijkahamgnpobaaDoorZ10

set_option linter.unusedSimpArgs false
set_option linter.unusedVariables false
namespace Go.Proofs.YtijkahamgnpobaaDoor
open Go.RowKit
attribute [local go_sem ↓] Go.wp_at_zero Go.wp_at_succ

theorem info24r : ∃ i0, Tryd.prog.info? 28 = some i0 ∧ i0.zero = some (.slice none 0 0) ∧ i0.size = 1 ∧ i0.bytes = 24 := by
  have hi5 : (Tryd.prog.info? 28).map (fun i => (i.zero, i.size, i.bytes)) = some (some (.slice none 0 0), 1, 24) := by kernel_rfl
  obtain ⟨i0, hi, hx⟩ := Option.map_eq_some_iff.1 hi5
  simp only [Prod.mk.injEq] at hx
  exact ⟨i0, hi, hx.1, hx.2.1, hx.2.2⟩
/-- A row of parts that the call owns, read in w0. -/
def OwnR (w0 w : World) (B : Nat) (v : Value) (P : List (List UInt8)) : Prop :=
  ∃ xs : List Value, w.ownsRow B 28 1 v P.length xs ∧ ∀ (j : Nat) (u : Value) (l : List UInt8), xs[j]? = some u → P[j]? = some l → Bytes w0 u l
theorem OwnR.push {w0 w2 : World} {B : Nat} {v' u : Value} {P : List (List UInt8)} {l : List UInt8} {xs : List Value}
    (h : ∀ (j : Nat) (u : Value) (l : List UInt8), xs[j]? = some u → P[j]? = some l → Bytes w0 u l) (hl : xs.length = P.length) (ho : w2.ownsRow B 28 1 v' (P.length + 1) (xs ++ [u])) (hu : Bytes w0 u l) : OwnR w0 w2 B v' (P ++ [l]) := by
  refine ⟨xs ++ [u], by simpa using ho, fun j x y hx hy => ?_⟩
  rcases Nat.lt_or_ge j P.length with hj | hj
  · rw [List.getElem?_append_left (by omega)] at hx hy
    exact h j x y hx hy
  · rw [List.getElem?_append_right (by omega)] at hx hy
    have hj0 : j = P.length := by
      have := (List.getElem?_eq_some_iff.1 hy).1
      simp at this; omega
    subst hj0
    rw [hl] at hx
    simp at hx hy
    subst hx hy
    exact hu
theorem OwnR.lists {w0 w : World} {B : Nat} {v : Value} {P : List (List UInt8)} (h : OwnR w0 w B v P) (hb : Below w0.heap.size w0 w) : Lists w v P := by
  obtain ⟨xs, ho, hx⟩ := h
  have hl : xs.length = P.length := by simpa using ho.1
  have hr := Row.of_own ho
  rcases hr with ⟨rfl, a, c, rfl, h0⟩ | ⟨b, o, c, rfl, h1, h2, h3⟩
  · exact .inl ⟨List.eq_nil_of_length_eq_zero (by simpa using hl.symm), a, c, rfl, h0⟩
  · refine .inr ⟨b, o, c, by rw [hl], h1, by omega, fun j l hj => ?_⟩
    have hj' : j < xs.length := by rw [hl]; exact (List.getElem?_eq_some_iff.1 hj).1
    exact ⟨xs[j], h3 j _ (List.getElem?_eq_getElem hj'), (hx j _ l (List.getElem?_eq_getElem hj') hj).later hb⟩
/-- b[i:j]. -/
theorem Bytes.cut_lh {w : World} {a : Option Addr} {n c : Nat} {l : List UInt8} (h : Bytes w (.slice a n c) l) (i j : Int) (lo hi : Nat) (hi1 : i = lo) (hj1 : j = hi) (h1 : lo ≤ hi) (h2 : hi ≤ l.length) :
    ∃ a', (∀ w, (Instr.slice 28 (.slice a n c) (some (.int .i64 i)) (some (.int .i64 j)) none).run Tryd.prog w = .ok (.slice a' (hi - lo) (c - lo)) w) ∧ Bytes w (.slice a' (hi - lo) (c - lo)) ((l.take hi).drop lo) := by
  have hc := h.cap
  subst hi1 hj1
  have hb := h.sliced h1 h2 (Nat.le_trans h2 hc) (Nat.le_refl _)
  refine ⟨_, fun w => ?_, hb⟩
  rw [run_slice_lh w _ a _ _ cells1 _ _ _ _ (by omega) (by omega) (by omega), size1]
  rfl

/-- What is left, and whether it was short. -/
def scan : Nat × Bool → List Int → Nat × Bool
  | s, [] => s
  | (m, sh), z :: r => scan (if (m : Int) < z then (m, true) else (m - z.toNat, sh)) r
theorem scan_short : ∀ (r : List Int) (m : Nat), (scan (m, true) r).2 = true
  | [], _ => rfl
  | z :: r, m => by
    unfold scan
    split
    · exact scan_short r _
    · exact scan_short r _
theorem scan_cut : ∀ (r : List Int) (l : List UInt8), r.any (· < 0) = false → ((scan (l.length, false) r).2 = false ∧ (scan (l.length, false) r).1 = 0 ↔ (cutGo l r).isSome = true)
  | [], l, _ => by
    unfold scan cutGo
    by_cases h : l = [] <;> simp [h]
  | z :: r, l, h => by
    simp only [List.any_cons, Bool.or_eq_false_iff, decide_eq_false_iff_not] at h
    unfold scan cutGo
    by_cases hz : (l.length : Int) < z
    · simp only [if_pos hz]
      have := scan_short r l.length
      simp [this]
    · simp only [if_neg hz, Option.isSome_map]
      have := scan_cut r (l.drop z.toNat) h.2
      rw [List.length_drop] at this
      exact this
theorem scan_take {zs : List Int} {k : Nat} (h : k < zs.length) (s : Nat × Bool) : scan s (zs.take (k + 1)) = (let t := scan s (zs.take k); if (t.1 : Int) < zs[k] then (t.1, true) else (t.1 - zs[k].toNat, t.2)) := by
  have key : ∀ (r : List Int) (z : Int) (s : Nat × Bool), scan s (r ++ [z]) = (let t := scan s r; if (t.1 : Int) < z then (t.1, true) else (t.1 - z.toNat, t.2)) := by
    intro r
    induction r with
    | nil => intro z s; rfl
    | cons x r ih => intro z s; exact ih z _
  rw [List.take_succ_eq_append_getElem h, key]
theorem scan_le : ∀ (r : List Int) (m : Nat) (b : Bool), (scan (m, b) r).1 ≤ m
  | [], _, _ => Nat.le_refl _
  | z :: r, m, b => by
    unfold scan
    split
    · exact scan_le r _ _
    · exact Nat.le_trans (scan_le r _ _) (Nat.sub_le _ _)

end Go.Proofs.YtijkahamgnpobaaDoor

namespace Go.Proofs.YtijkahamgnpobaaDoor
open Go.RowKit
attribute [local go_sem ↓] Go.wp_at_zero Go.wp_at_succ

set_option maxHeartbeats 2000000 in
set_option maxRecDepth 100000 in
theorem unlistR_no (v : Value) (b : List UInt8) (w : World) (hv : Bytes w v b) (hl : b.length ≤ 9223372036854775807) (h : ¬ (1 ≤ b.length ∧ hd0 b ≤ 32 ∧ b.length = 1 + 6 * hd0 b)) :
    Calls Tryd.prog 19 #[v] w fun e w' => e = .returned (.tuple #[.slice none 0 0, .bool false]) ∧ w = w' := by
  by_cases h1 : 1 ≤ b.length
  · obtain ⟨bl, o, c, rfl, hbl, hc, hcell⟩ := head_cell hv h1
    obtain ⟨n, hn⟩ : ∃ n, n = hd0 b := ⟨_, rfl⟩
    have hn2 : n < 256 := by rw [hn]; exact hd0_lt b
    rw [← hn] at hcell h
    obtain ⟨m, hm⟩ : ∃ m, m = b.length := ⟨_, rfl⟩
    rw [← hm] at hc h h1 ⊢
    have k1 : (1 : Int) ≤ m := by omega
    have k1n : 0 < m := by omega
    have k2 : (m : Int) ≤ 9223372036854775807 := by omega
    have k3 : (n : Int) < 256 := by omega
    have u1 : IntKind.i64.wrap (n : Int) = n := IntWalk.i64_in _ ⟨by omega, by omega⟩
    have k7 : ((m : Int) == 0) = false := by rw [beq_eq_false_iff_ne]; omega
    clear hv hl hn hm
    by_cases h32 : 32 < n
    · have k4 : (32 : Int) < n := by omega
      have k5 : decide ((32 : Int) < n) = true := by simp; omega
      clear h
      go_enter Tryd.func19, Tryd.ntmps19
      go_wp2_with fail
      go_ret2
      exact ⟨rfl, rfl⟩
    · have k4 : (n : Int) ≤ 32 := by omega
      have k5 : decide ((32 : Int) < n) = false := by simp; omega
      have k6 : ((m : Int) - 1 != 6 * n) = true := by rw [bne_iff_ne]; omega
      clear h h32
      go_enter Tryd.func19, Tryd.ntmps19
      go_wp2_with fail
      go_ret2
      exact ⟨rfl, rfl⟩
  · obtain ⟨a, c, rfl⟩ := hv.form
    have e : b = [] := List.eq_nil_of_length_eq_zero (by omega)
    subst e
    clear hv h h1 hl
    go_enter Tryd.func19, Tryd.ntmps19
    go_wp2_with fail
    go_ret2
    exact ⟨rfl, rfl⟩

set_option maxHeartbeats 8000000 in
set_option maxRecDepth 100000 in
theorem unlistR_go (v : Value) (b : List UInt8) (w : World) (hv : Bytes w v b) (h1 : 1 ≤ b.length) (h32 : hd0 b ≤ 32) (hbl : b.length = 1 + 6 * hd0 b) :
    Calls Tryd.prog 19 #[v] w fun e w' => ∃ v, e = .returned (.tuple #[v, .bool (unOk b)]) ∧ Upds w' v (unL b) ∧ Below w.heap.size w w' := by
  obtain ⟨bl, o, c, rfl, hbll, hc, hcell⟩ := head_cell hv h1
  obtain ⟨n, hn⟩ : ∃ n, n = hd0 b := ⟨_, rfl⟩
  have HV := Lib.hid hv
  rw [← hn] at hcell h32 hbl
  obtain ⟨m, hm⟩ : ∃ m, m = b.length := ⟨_, rfl⟩
  rw [← hm] at hc h1 HV hbl ⊢
  have k1 : (1 : Int) ≤ m := by omega
  have k1n : 0 < m := by omega
  have k2 : (m : Int) ≤ 200 := by omega
  have k3 : (n : Int) < 256 := by omega
  have k4 : (n : Int) ≤ 32 := by omega
  have u1 : IntKind.i64.wrap (n : Int) = n := IntWalk.i64_in _ ⟨by omega, by omega⟩
  have k5 : decide ((32 : Int) < n) = false := by simp; omega
  have k6 : ((m : Int) - 1 != 6 * n) = false := by rw [bne_eq_false_iff_eq]; omega
  have k7 : ((m : Int) == 0) = false := by rw [beq_eq_false_iff_ne]; omega
  have HN : Hid (n = hd0 b ∧ m = b.length ∧ m = 1 + 6 * n) := ⟨hn, hm, hbl⟩
  clear hv hn hm hbl h32
  go_enter Tryd.func19, Tryd.ntmps19
  go_wp2_with fail
  go_loopw [4, 5] (fun v i wr => ∃ (j p : Nat), j ≤ n ∧ i = .int .i64 p ∧ p = 1 + 6 * j ∧ Hid (OwnU wr w.heap.size v (unPre b j)) ∧ Hid (unAll b j = true) ∧ Hid (Below w.heap.size w wr)) (fun _ i _ => m - (intOf i).toNat)
  case atStart => exact ⟨0, 1, Nat.zero_le _, rfl, rfl, OwnU.nil _ _, rfl, Below.refl _ _⟩
  case round =>
    obtain ⟨j, p, hj, rfl, hp, HW, HA, HB⟩ := hrel
    have hmn := HN.out.2.2
    rcases Nat.lt_or_ge j n with hlt | hge
    · have g0 : (p : Int) < m := by omega
      have g1 : (p : Int) + 6 ≤ m := by omega
      have g2 : (p : Int) + 6 ≤ c := by omega
      obtain ⟨a6, hcl, hb6⟩ := HV.out.cut_lh (p : Int) ((p : Int) + 6) p (p + 6) rfl (by omega) (by omega) (by have := HN.out; omega)
      have e6 : p + 6 - p = 6 := by omega
      rw [e6] at hcl hb6
      have hch : (b.take (p + 6)).drop p = chunk b j := by
        unfold chunk
        rw [← hp, List.take_drop]
      rw [hch] at hb6
      have hof := fun (W : World) (h : Below w.heap.size w W) => of5R_any (.slice a6 6 (c - p)) (chunk b j) W (hb6.later h) (by unfold chunk; simp; omega)
      obtain ⟨A0, hA0⟩ : ∃ x, x = ofA (chunk b j) := ⟨_, rfl⟩
      obtain ⟨N0, hN0⟩ : ∃ x, x = ofN (chunk b j) := ⟨_, rfl⟩
      obtain ⟨D0, hD0⟩ : ∃ x, x = ofD (chunk b j) := ⟨_, rfl⟩
      rw [← hA0, ← hN0, ← hD0] at hof
      have HP := Lib.hid hp
      have HS : Hid (unPre b (j + 1) = unPre b j ++ [⟨A0, N0, D0⟩]) := by show _ = _; rw [unPre_succ, hA0, hN0, hD0]; rfl
      cases hok : ofB (chunk b j) with
      | true =>
        rw [hok] at hof
        have HOF := Lib.hid hof
        have HAS : Hid (unAll b (j + 1) = true) := by show _ = _; rw [unAll_succ, HA.out, hok]; rfl
        clear hb6 hof hA0 hN0 hD0 hp hok hch e6 hmn
        go_wp2_with fail
        refine (HOF.out _ HB.out).mono ?_
        rintro e w2 ⟨rfl, hb2⟩
        have q := hb2.alloc hb2.size (.cells #[.int .u32 (A0 : Int), .int .i64 (N0 : Int), .int .i64 (D0 : Int)] 27)
        have HW2 := Lib.hid (OwnU.later HW.out q)
        have HB2 := Lib.hid (below_of HB.out q)
        clear hb2 q hcl
        go_wp2_with (at_builtin; refine wpList_appU rfl _ _ rfl w.heap.size u4 (unPre b j) ⟨A0, N0, D0⟩ (w2.heap.size + 1) rfl rfl (OwnU.later HW2.out ((Below.refl _ _).alloc (Nat.le_refl _) _)) (by simp) (by simp) (by simp) (by rw [unPre_length]; omega) (by have := HB2.out.size; simp at this ⊢; omega) ?_)
        intro v4 w4 ho4 hb4 _
        have HO4 : Hid (OwnU w4 w.heap.size v4 (unPre b (j + 1))) := by show OwnU _ _ _ _; rw [HS.out]; exact ho4
        have HB4 : Hid (Below w.heap.size w w4) := (HB2.out.alloc HB2.out.size _).trans hb4
        clear ho4 hb4
        go_wp2_with fail
        go_roundw
        case rel => exact ⟨j + 1, p + 6, by omega, by go_num, by have := HP.out; omega, HO4, HAS, HB4⟩
        case measure => simp [intOf]; omega
      | false =>
        rw [hok] at hof
        have HOF := Lib.hid hof
        have hno : unOk b = false := unOk_no (fun h => by
          have h2 := unAll_no (show j < hd0 b by have := HN.out; omega) hok
          rw [h2] at h
          exact absurd h.2.2.2 (by simp))
        have HE := Lib.hid (un_no hno)
        have HU := Lib.hid hno
        clear hb6 hof hA0 hN0 hD0 hp hok hno hch e6 hmn
        go_wp2_with fail
        refine (HOF.out _ HB.out).mono ?_
        rintro e w2 ⟨rfl, hb2⟩
        have HB2 := Lib.hid (below_of HB.out (hb2.alloc hb2.size (.cells #[.int .u32 (A0 : Int), .int .i64 (N0 : Int), .int .i64 (D0 : Int)] 27)))
        clear hb2 hcl
        go_wp2_with fail
        go_ret2
        exact ⟨_, by rw [HU.out]; rfl, by rw [HE.out.1]; exact Upds.nil _ _ _, HB2.out⟩
    · have e : j = n := by omega
      subst e
      have hok : unOk b = true := unOk_yes (by have := HN.out; omega) (by have := HN.out; omega) (by have := HN.out; omega) (by rw [← HN.out.1]; exact HA.out)
      have HE := Lib.hid (un_yes hok)
      have HU := Lib.hid hok
      have g0 : (m : Int) ≤ p := by omega
      clear hok hp hmn
      go_wp2_with fail
      go_ret2
      exact ⟨_, by rw [HU.out]; rfl, by rw [HE.out.1, ← HN.out.1]; exact HW.out.upds, HB.out⟩
theorem unlistR_any (v : Value) (b : List UInt8) (w : World) (hv : Bytes w v b) (hl : b.length ≤ 9223372036854775807) :
    Calls Tryd.prog 19 #[v] w fun e w' => ∃ v, e = .returned (.tuple #[v, .bool (unOk b)]) ∧ Upds w' v (unL b) ∧ Below w.heap.size w w' := by
  by_cases h : 1 ≤ b.length ∧ hd0 b ≤ 32 ∧ b.length = 1 + 6 * hd0 b
  · exact unlistR_go v b w hv h.1 h.2.1 h.2.2
  · have hno := unOk_no (b := b) (fun h2 => h ⟨h2.1, h2.2.1, h2.2.2.1⟩)
    obtain ⟨e1, e2⟩ := un_no hno
    refine (unlistR_no v b w hv hl h).mono ?_
    rintro e w' ⟨rfl, rfl⟩
    exact ⟨_, by rw [hno], by rw [e1]; exact Upds.nil _ _ _, Below.refl _ _⟩
end Go.Proofs.YtijkahamgnpobaaDoor

namespace Go.Proofs.YtijkahamgnpobaaDoor
open Go.RowKit
attribute [local go_sem ↓] Go.wp_at_zero Go.wp_at_succ

set_option maxHeartbeats 4000000 in
set_option maxRecDepth 100000 in
theorem sameU5_any (v v' : Value) (L : List Ud) (w : World) (h1 : Upds w v L) (h2 : Upds w v' L) (hL : L.length ≤ 9223372036854775807) :
    Calls Tryd.prog 20 #[v, v'] w fun e w' => e = .returned (.bool true) ∧ Below w.heap.size w w' := by
  obtain ⟨a, c, rfl⟩ := h1.form
  obtain ⟨a', c', rfl⟩ := h2.form
  have H1 := Lib.hid h1
  have H2 := Lib.hid h2
  obtain ⟨n, hn⟩ : ∃ n, n = L.length := ⟨_, rfl⟩
  rw [← hn] at H1 H2 ⊢
  have HN := Lib.hid hn
  have k0 : (n : Int) ≤ 9223372036854775807 := by omega
  have k1 : ((n : Int) != n) = false := by simp
  clear h1 h2 hn hL
  go_enter Tryd.func20, Tryd.ntmps20
  go_wp2_with fail
  go_loopw [5] (fun i wr => ∃ k : Nat, k ≤ n ∧ i = .int .i64 k ∧ Hid (Below w.heap.size w wr)) (fun i _ => n - (intOf i).toNat)
  case atStart => exact ⟨0, Nat.zero_le _, rfl, Below.refl _ _⟩
  case round =>
    obtain ⟨k, hk, rfl, HB⟩ := hrel
    rcases Nat.lt_or_ge k n with hlt | hge
    · have g1 : (k : Int) < n := by omega
      have hltL : k < L.length := by have := HN.out; omega
      obtain ⟨bl, bo, rfl, hbl, c0, c1, c2⟩ := (H1.out.later HB.out).at hltL
      obtain ⟨bl', bo', rfl, hbl', d0, d1, d2⟩ := (H2.out.later HB.out).at hltL
      obtain ⟨u, hu⟩ : ∃ u, u = L[k] := ⟨_, rfl⟩
      rw [← hu] at c0 c1 c2 d0 d1 d2
      clear hu hltL
      go_wp2_with fail
      go_quiet (fail)
      have HB2 := Lib.hid (below_drewN HB.out nq)
      go_wp2_with fail
      go_roundw
      case rel => exact ⟨k + 1, by omega, by go_num, HB2⟩
      case measure => simp [intOf]; omega
    · have e : k = n := by omega
      subst e
      go_wp2_with fail
      go_ret
      exact ⟨rfl, HB.out⟩
end Go.Proofs.YtijkahamgnpobaaDoor

namespace Go.Proofs.YtijkahamgnpobaaDoor
open Go.RowKit
attribute [local go_sem ↓] Go.wp_at_zero Go.wp_at_succ

set_option maxHeartbeats 8000000 in
set_option maxRecDepth 100000 in
theorem vw_a1 (la pa : Option Addr) (lc pc ln pn : Nat) (w : World) (g : Gl w) (h1 : (300 : Int) < ln) :
    Calls Tryd.prog 4 #[.slice la ln lc, .slice pa pn pc] w fun e w' => e = .returned (.bool true) ∧ Below w.heap.size w w' := by
  go_enter Tryd.func4, Tryd.ntmps4
  go_wp2_with fail
  refine (known5_any _ g).mono ?_
  rintro e w1 ⟨rfl, hb⟩
  have B0 := Lib.hid hb
  clear hb
  go_wp2_with fail
  go_ret
  exact ⟨rfl, B0.out⟩
set_option maxHeartbeats 8000000 in
set_option maxRecDepth 100000 in
theorem vw_a2 (la pa : Option Addr) (lc pc ln pn : Nat) (w : World) (g : Gl w) (h1 : (ln : Int) ≤ 300) (h2 : (9000 : Int) < pn) :
    Calls Tryd.prog 4 #[.slice la ln lc, .slice pa pn pc] w fun e w' => e = .returned (.bool true) ∧ Below w.heap.size w w' := by
  go_enter Tryd.func4, Tryd.ntmps4
  go_wp2_with fail
  refine (known5_any _ g).mono ?_
  rintro e w1 ⟨rfl, hb⟩
  have B0 := Lib.hid hb
  clear hb
  go_wp2_with fail
  go_ret
  exact ⟨rfl, B0.out⟩
set_option maxHeartbeats 8000000 in
set_option maxRecDepth 100000 in
theorem vw_y (la pa : Option Addr) (lc pc ln pn : Nat) (L : List Ud) (b : List UInt8) (w : World) (g : Gl w) (hln : ln = L.length) (hpn : pn = b.length) (hL : Upds w (.slice la ln lc) L) (hk : ∀ u ∈ L, u.Ok) (hv : Bytes w (.slice pa pn pc) b) (h1 : (ln : Int) ≤ 300) (h2 : (pn : Int) ≤ 9000) (hok : unOk b = true) :
    Calls Tryd.prog 4 #[.slice la ln lc, .slice pa pn pc] w fun e w' => e = .returned (.bool true) ∧ Below w.heap.size w w' := by
  obtain ⟨E1, hE1⟩ : ∃ E, E = liE L := ⟨_, rfl⟩
  obtain ⟨X, hX⟩ : ∃ X, X = liP L := ⟨_, rfl⟩
  obtain ⟨M, hM⟩ : ∃ M, M = unL b := ⟨_, rfl⟩
  have hMl : M.length ≤ 9223372036854775807 := by
    rw [hM]
    have h9 := hd0_lt b
    by_cases hu : unOk b = true
    · rw [(un_yes hu).1, unPre_length]; omega
    · rw [(un_no (by simpa using hu)).1]; exact Nat.zero_le _
  have HLW : Hid (∀ W, Below w.heap.size w W → Calls Tryd.prog 16 #[.slice la ln lc] W fun e w' => ∃ v, e = .returned (.tuple #[v, .int .i64 E1]) ∧ Bytes w' v X ∧ Below W.heap.size W w') := fun W hb => by
    rw [hE1, hX]; exact listW_any _ L W (hL.later hb) (by omega) hk
  have HLR : Hid (∀ W, Below w.heap.size w W → Calls Tryd.prog 17 #[.slice la ln lc] W fun e w' => ∃ v, e = .returned (.tuple #[v, .int .i64 E1]) ∧ Bytes w' v X ∧ Below W.heap.size W w') := fun W hb => by
    rw [hE1, hX]; exact listR_any _ L W (hL.later hb) (by omega) hk
  have HUW : Hid (∀ W, Below w.heap.size w W → Calls Tryd.prog 18 #[.slice pa pn pc] W fun e w' => ∃ v, e = .returned (.tuple #[v, .int .i64 0]) ∧ Upds w' v M ∧ Below W.heap.size W w') := fun W hb => by
    have h := unlistW_any _ b W (hv.later hb) (by omega)
    rw [← hM, show unE b = 0 from by unfold unE; rw [hok]; rfl] at h; exact h
  have HUR : Hid (∀ W, Below w.heap.size w W → Calls Tryd.prog 19 #[.slice pa pn pc] W fun e w' => ∃ v, e = .returned (.tuple #[v, .bool true]) ∧ Upds w' v M ∧ Below W.heap.size W w') := fun W hb => by
    have h := unlistR_any _ b W (hv.later hb) (by omega)
    rw [← hM, hok] at h; exact h
  obtain ⟨xn, hxn⟩ : ∃ n, n = X.length := ⟨_, rfl⟩
  obtain ⟨mn, hmn⟩ : ∃ n, n = M.length := ⟨_, rfl⟩
  have HXN := Lib.hid hxn
  have HMN := Lib.hid hmn
  have HML := Lib.hid hMl
  have hee : (E1 == E1) = true := by simp
  clear hE1 hX hM hMl hok hv hL hk hln hpn hxn hmn
  go_enter Tryd.func4, Tryd.ntmps4
  go_wp2_with fail
  refine (HLW.out _ (Below.refl _ _)).mono ?_
  rintro e w1 ⟨x, rfl, hx, hb⟩
  obtain ⟨xa, xc, rfl⟩ := hx.form
  rw [← HXN.out] at hx ⊢
  have HX1 := Lib.hid hx
  have B0 := Lib.hid hb
  clear hx hb
  go_wp2_with fail
  refine (HLR.out _ B0.out).mono ?_
  rintro e w2 ⟨y, rfl, hy, hb⟩
  obtain ⟨ya, yc, rfl⟩ := hy.form
  rw [← HXN.out] at hy ⊢
  have HX2 := Lib.hid (HX1.out.later hb)
  have HY2 := Lib.hid hy
  have B0 := Lib.hid (below_of B0.out hb)
  clear hy hb HX1
  go_wp2_with fail
  refine (HUW.out _ B0.out).mono ?_
  rintro e w3 ⟨p, rfl, hp, hb⟩
  obtain ⟨ma, mc, rfl⟩ := hp.form
  rw [← HMN.out] at hp ⊢
  have HX3 := Lib.hid (HX2.out.later hb)
  have HY3 := Lib.hid (HY2.out.later hb)
  have HP3 := Lib.hid hp
  have B0 := Lib.hid (below_of B0.out hb)
  clear hp hb HX2 HY2
  go_wp2_with fail
  refine (HUR.out _ B0.out).mono ?_
  rintro e w4 ⟨q, rfl, hq, hb⟩
  obtain ⟨na, nc, rfl⟩ := hq.form
  rw [← HMN.out] at hq ⊢
  have HX4 := Lib.hid (HX3.out.later hb)
  have HY4 := Lib.hid (HY3.out.later hb)
  have HP4 := Lib.hid (HP3.out.later hb)
  have HQ4 := Lib.hid hq
  have B0 := Lib.hid (below_of B0.out hb)
  clear hq hb HX3 HY3 HP3
  have hz1 := (show Bytes w4 _ X from HX4.out).str (P := Tryd.prog) (src := 28) (dst := 9) Tryd.underlying28 Tryd.underlying5 Tryd.underlying9
  have hz2 := (show Bytes w4 _ X from HY4.out).str (P := Tryd.prog) (src := 28) (dst := 9) Tryd.underlying28 Tryd.underlying5 Tryd.underlying9
  go_wp2_with fail
  refine (num5_any _ _).mono ?_
  rintro e wn ⟨rfl, rfl⟩
  clear hz1 hz2
  go_wp2_with fail
  refine (sameU5_any _ _ M _ HP4.out HQ4.out HML.out).mono ?_
  rintro e w5 ⟨rfl, hb⟩
  have B0 := Lib.hid (below_of B0.out hb)
  clear hb
  go_wp2_with fail
  refine (num5_any _ _).mono ?_
  rintro e wn ⟨rfl, rfl⟩
  go_wp2_with fail
  refine (known5_any _ (g.below B0.out)).mono ?_
  rintro e w6 ⟨rfl, hb⟩
  have B0 := Lib.hid (below_of B0.out hb)
  clear hb
  go_wp2_with fail
  go_ret
  exact ⟨rfl, B0.out⟩
set_option maxHeartbeats 8000000 in
set_option maxRecDepth 100000 in
theorem vw_n (la pa : Option Addr) (lc pc ln pn : Nat) (L : List Ud) (b : List UInt8) (w : World) (g : Gl w) (hln : ln = L.length) (hpn : pn = b.length) (hL : Upds w (.slice la ln lc) L) (hk : ∀ u ∈ L, u.Ok) (hv : Bytes w (.slice pa pn pc) b) (h1 : (ln : Int) ≤ 300) (h2 : (pn : Int) ≤ 9000) (hok : unOk b = false) :
    Calls Tryd.prog 4 #[.slice la ln lc, .slice pa pn pc] w fun e w' => e = .returned (.bool true) ∧ Below w.heap.size w w' := by
  obtain ⟨E1, hE1⟩ : ∃ E, E = liE L := ⟨_, rfl⟩
  obtain ⟨X, hX⟩ : ∃ X, X = liP L := ⟨_, rfl⟩
  obtain ⟨M, hM⟩ : ∃ M, M = unL b := ⟨_, rfl⟩
  have hMl : M.length ≤ 9223372036854775807 := by
    rw [hM]
    have h9 := hd0_lt b
    by_cases hu : unOk b = true
    · rw [(un_yes hu).1, unPre_length]; omega
    · rw [(un_no (by simpa using hu)).1]; exact Nat.zero_le _
  have HLW : Hid (∀ W, Below w.heap.size w W → Calls Tryd.prog 16 #[.slice la ln lc] W fun e w' => ∃ v, e = .returned (.tuple #[v, .int .i64 E1]) ∧ Bytes w' v X ∧ Below W.heap.size W w') := fun W hb => by
    rw [hE1, hX]; exact listW_any _ L W (hL.later hb) (by omega) hk
  have HLR : Hid (∀ W, Below w.heap.size w W → Calls Tryd.prog 17 #[.slice la ln lc] W fun e w' => ∃ v, e = .returned (.tuple #[v, .int .i64 E1]) ∧ Bytes w' v X ∧ Below W.heap.size W w') := fun W hb => by
    rw [hE1, hX]; exact listR_any _ L W (hL.later hb) (by omega) hk
  have HUW : Hid (∀ W, Below w.heap.size w W → Calls Tryd.prog 18 #[.slice pa pn pc] W fun e w' => ∃ v, e = .returned (.tuple #[v, .int .i64 4]) ∧ Upds w' v M ∧ Below W.heap.size W w') := fun W hb => by
    have h := unlistW_any _ b W (hv.later hb) (by omega)
    rw [← hM, show unE b = 4 from by unfold unE; rw [hok]; rfl] at h; exact h
  have HUR : Hid (∀ W, Below w.heap.size w W → Calls Tryd.prog 19 #[.slice pa pn pc] W fun e w' => ∃ v, e = .returned (.tuple #[v, .bool false]) ∧ Upds w' v M ∧ Below W.heap.size W w') := fun W hb => by
    have h := unlistR_any _ b W (hv.later hb) (by omega)
    rw [← hM, hok] at h; exact h
  obtain ⟨xn, hxn⟩ : ∃ n, n = X.length := ⟨_, rfl⟩
  obtain ⟨mn, hmn⟩ : ∃ n, n = M.length := ⟨_, rfl⟩
  have HXN := Lib.hid hxn
  have HMN := Lib.hid hmn
  have HML := Lib.hid hMl
  have hee : (E1 == E1) = true := by simp
  clear hE1 hX hM hMl hok hv hL hk hln hpn hxn hmn
  go_enter Tryd.func4, Tryd.ntmps4
  go_wp2_with fail
  refine (HLW.out _ (Below.refl _ _)).mono ?_
  rintro e w1 ⟨x, rfl, hx, hb⟩
  obtain ⟨xa, xc, rfl⟩ := hx.form
  rw [← HXN.out] at hx ⊢
  have HX1 := Lib.hid hx
  have B0 := Lib.hid hb
  clear hx hb
  go_wp2_with fail
  refine (HLR.out _ B0.out).mono ?_
  rintro e w2 ⟨y, rfl, hy, hb⟩
  obtain ⟨ya, yc, rfl⟩ := hy.form
  rw [← HXN.out] at hy ⊢
  have HX2 := Lib.hid (HX1.out.later hb)
  have HY2 := Lib.hid hy
  have B0 := Lib.hid (below_of B0.out hb)
  clear hy hb HX1
  go_wp2_with fail
  refine (HUW.out _ B0.out).mono ?_
  rintro e w3 ⟨p, rfl, hp, hb⟩
  obtain ⟨ma, mc, rfl⟩ := hp.form
  rw [← HMN.out] at hp ⊢
  have HX3 := Lib.hid (HX2.out.later hb)
  have HY3 := Lib.hid (HY2.out.later hb)
  have HP3 := Lib.hid hp
  have B0 := Lib.hid (below_of B0.out hb)
  clear hp hb HX2 HY2
  go_wp2_with fail
  refine (HUR.out _ B0.out).mono ?_
  rintro e w4 ⟨q, rfl, hq, hb⟩
  obtain ⟨na, nc, rfl⟩ := hq.form
  rw [← HMN.out] at hq ⊢
  have HX4 := Lib.hid (HX3.out.later hb)
  have HY4 := Lib.hid (HY3.out.later hb)
  have HP4 := Lib.hid (HP3.out.later hb)
  have HQ4 := Lib.hid hq
  have B0 := Lib.hid (below_of B0.out hb)
  clear hq hb HX3 HY3 HP3
  have hz1 := (show Bytes w4 _ X from HX4.out).str (P := Tryd.prog) (src := 28) (dst := 9) Tryd.underlying28 Tryd.underlying5 Tryd.underlying9
  have hz2 := (show Bytes w4 _ X from HY4.out).str (P := Tryd.prog) (src := 28) (dst := 9) Tryd.underlying28 Tryd.underlying5 Tryd.underlying9
  go_wp2_with fail
  refine (num5_any _ _).mono ?_
  rintro e wn ⟨rfl, rfl⟩
  clear hz1 hz2
  go_wp2_with fail
  refine (sameU5_any _ _ M _ HP4.out HQ4.out HML.out).mono ?_
  rintro e w5 ⟨rfl, hb⟩
  have B0 := Lib.hid (below_of B0.out hb)
  clear hb
  go_wp2_with fail
  refine (num5_any _ _).mono ?_
  rintro e wn ⟨rfl, rfl⟩
  go_wp2_with fail
  refine (num5_any _ _).mono ?_
  rintro e wn ⟨rfl, rfl⟩
  go_wp2_with fail
  refine (known5_any _ (g.below B0.out)).mono ?_
  rintro e w6 ⟨rfl, hb⟩
  have B0 := Lib.hid (below_of B0.out hb)
  clear hb
  go_wp2_with fail
  go_ret
  exact ⟨rfl, B0.out⟩
theorem ctlLists_walk (u : Value) (L : List Ud) (v : Value) (b : List UInt8) (w : World) (g : Gl w) (hL : Upds w u L) (hLl : L.length ≤ 9223372036854775807) (hk : ∀ u ∈ L, u.Ok) (hv : Bytes w v b) (hl : b.length ≤ 9223372036854775807) :
    Calls Tryd.prog 4 #[u, v] w fun e w' => e = .returned (.bool true) ∧ Below w.heap.size w w' := by
  obtain ⟨la, lc, rfl⟩ := hL.form
  obtain ⟨pa, pc, rfl⟩ := hv.form
  rcases Nat.lt_or_ge 300 L.length with h1 | h1
  · exact vw_a1 la pa lc pc _ _ w g (by omega)
  · rcases Nat.lt_or_ge 9000 b.length with h2 | h2
    · exact vw_a2 la pa lc pc _ _ w g (by omega) (by omega)
    · cases hok : unOk b with
      | true => exact vw_y la pa lc pc _ _ L b w g rfl rfl hL hk hv (by omega) (by omega) hok
      | false => exact vw_n la pa lc pc _ _ L b w g rfl rfl hL hk hv (by omega) (by omega) hok
end Go.Proofs.YtijkahamgnpobaaDoor

namespace Go.Proofs.YtijkahamgnpobaaDoor
open Go.ChangeShapes Go.WideShapes Go.ChangeAt Go.RowKit

/-- What the rows of this seat list. -/
def laidL : List (String × DataW Unit) := [("math/bits.deBruijn32tab", Rows.laid_math_bits_deBruijn32tab), ("math/bits.deBruijn64tab", Rows.laid_math_bits_deBruijn64tab), ("internal/strconv.uint64pow10", Rows.laid_internal_strconv_uint64pow10), ("strconv.ErrRange", Rows.laid_strconv_ErrRange), ("strconv.ErrSyntax", Rows.laid_strconv_ErrSyntax)]

theorem of_iface {H : Type} {enc : TypeId × Value → H} {P : Program} {w : World} {fuel : Nat} {t : TypeId} {ms : Array (String × TypeId)} {cs : List Value} {n : String} {d : DataW H} {p : List MemPlace}
    (hu : P.underlying t = some (.interface ms)) (h : DataW.trod enc P w 0 (fun _ => true) false fuel t cs = some (.iface n d, p)) : ∃ te pe, cs = [.iface te pe] := by
  cases fuel with
  | zero => simp [DataW.trod] at h
  | succ fuel =>
    unfold DataW.trod at h
    rw [hu] at h
    match cs, h with
    | [.iface u v], _ => exact ⟨u, v, rfl⟩
    | [.nilIface], h => simp at h

theorem size_of_var {P : Program} {W : World} {n : String} {g : Nat} {cs : Array Value} (hg : P.globalNamed n = some g) (h : W.var? P n = some cs) : g < W.heap.size := by
  unfold World.var? at h
  rw [hg, Option.bind_some] at h
  rcases Nat.lt_or_ge g W.heap.size with h1 | h1
  · exact h1
  · rw [Array.getElem?_eq_none h1] at h; cases h

theorem gl_of {W : World} (hL : laidMetH Tryd.prog laidL W) (hsh : W.ShapedOpen Tryd.prog) : Gl W := by
  rw [MakeChecks.laidMetH_plain _ _ _ (by kernel_rfl)] at hL
  obtain ⟨ps, ⟨_, _, _, _, _, _, _, _, _, _, ⟨g2, t2, cs2, f2, p2, q2, hg2, ht2, hv2, hd2, ⟨g3, t3, cs3, f3, p3, q3, hg3, ht3, hv3, hd3, ⟨g4, t4, cs4, f4, p4, q4, hg4, ht4, hv4, hd4, ⟨g5, t5, cs5, f5, p5, q5, hg5, ht5, hv5, hd5, _, _⟩, _⟩, _⟩, _⟩, _⟩, _, _⟩ := hL
  obtain rfl := Option.some.inj ((show Tryd.prog.globalNamed "internal/strconv.uint64pow10" = some 3 by kernel_rfl).symm.trans hg3)
  obtain rfl := Option.some.inj ((show Tryd.prog.globalNamed "strconv.ErrRange" = some 2 by kernel_rfl).symm.trans hg4)
  obtain rfl := Option.some.inj ((show Tryd.prog.globalNamed "strconv.ErrSyntax" = some 1 by kernel_rfl).symm.trans hg5)
  obtain rfl := Option.some.inj ((show (Tryd.prog.globals[3]?).map (·.type) = some 128 by kernel_rfl).symm.trans ht3)
  obtain rfl := Option.some.inj ((show (Tryd.prog.globals[2]?).map (·.type) = some 75 by kernel_rfl).symm.trans ht4)
  obtain rfl := Option.some.inj ((show (Tryd.prog.globals[1]?).map (·.type) = some 75 by kernel_rfl).symm.trans ht5)
  obtain ⟨te4, pe4, h4⟩ := of_iface Tryd.underlying75 hd4
  obtain ⟨te5, pe5, h5⟩ := of_iface Tryd.underlying75 hd5
  have hz : 5 < W.heap.size := size_of_var (n := "math/bits.deBruijn64tab") (by kernel_rfl) hv2
  refine ⟨Tryd.laysM145.s1_3 W hsh, ⟨te5, pe5, ?_⟩, ⟨te4, pe4, ?_⟩, ?_, hz⟩
  · rw [World.var?_cell hg5 hv5 0, Array.eq_one_of_toList h5]; rfl
  · rw [World.var?_cell hg4 hv4 0, Array.eq_one_of_toList h4]; rfl
  · unfold Lib.TabIs
    rw [hv3, ← Lib.cells_of_tab (zs := Lib.pow10Tab) Tryd.underlying128 Tryd.underlying60 (by kernel_rfl) (by kernel_rfl) hd3]

/-- The rows' list is met in the heap that the variables' own initialisers leave. -/
theorem door_met (os : Os) (args : Array Value) : laidMet Tryd.prog laidL ((World.doorLaid Tryd.prog 4000 os).forCall (fun _ _ => 0) ⟨#[], args, []⟩).memory :=
  laidMet_of_run' 8 (by kernel_rfl) (by kernel_rfl)

end Go.Proofs.YtijkahamgnpobaaDoor

namespace Go.Proofs.YtijkahamgnpobaaDoor.ctlLists
open Go.ChangeShapes Go.WideShapes Go.ChangeAt Go.RowKit Go.Joins
open Go.ChangeMaps (open_string shut_string)

set_option maxRecDepth 100000 in
theorem contract (H : Type) (enc : TypeId × Value → H) (W : World) (base : Nat) (args : Array Value) (ds gs : List (DataW H)) (before : List MemPlace)
    (hval : ∀ (j : Nat) t v, Tryd.f4.params[j]? = some t → args[j]? = some v → Value.okWide Tryd.prog W .any base t v)
    (hW : DataW.Whole enc Tryd.prog Tryd.f4.params.toList Rows.ctlListsSpec.vars false W args.toList ds gs before) (hL : laidMetH Tryd.prog laidL W) (hsh : W.ShapedOpen Tryd.prog) :
    Calls Tryd.prog 4 args W fun e W' => ∃ v, e = .returned v ∧ Rows.ctlListsSpec.post enc Tryd.prog Tryd.f4 false true false false W args v W' := by
  have g := gl_of hL hsh
  have hW' := hW
  obtain ⟨p, q, hA0, hV, rfl, hfz, hnd⟩ := hW
  have hA : DataW.TrodAll enc Tryd.prog W 0 (fun _ => true) true Tryd.f4.params.toList args.toList ds p := hA0
  rw [Tryd.params4] at hA hval
  obtain ⟨v0, vs0, d0, ds0, p0, q0, hargs, rfl, rfl, h0, r0⟩ := trodAll_cons hA
  obtain ⟨v1, vs1, d1, ds1, p1, q1, rfl, rfl, rfl, h1, r1⟩ := trodAll_cons r0
  obtain ⟨rfl, rfl, rfl⟩ := trodAll_nil r1
  obtain rfl : args = #[v0, v1] := by cases args; simp_all
  obtain ⟨rfl, rfl⟩ := trodVars_none hV
  have k0 := h0
  have lt0 : ∀ x ∈ p0, x.block < W.heap.size := by obtain ⟨m, hm⟩ := k0; exact DataW.trod_lt m _ _ _ hm
  have k1 := h1
  have lt1 : ∀ x ∈ p1, x.block < W.heap.size := by obtain ⟨m, hm⟩ := k1; exact DataW.trod_lt m _ _ _ hm
  obtain ⟨l0, hb0, hl0, hk0⟩ := open_upds (hval 0 41 v0 rfl rfl) h0
  obtain ⟨l1, hb1, hl1⟩ := open_bytes (hval 1 28 v1 rfl rfl) h1
  refine (ctlLists_walk v0 l0 v1 l1 W g hb0 hl0 hk0 hb1 hl1).mono fun e W' ⟨he, bel⟩ => ?_
  subst he
  exact ⟨_, rfl, _, _, _, [], _, [], hW', trodAll_mk1 (shut_bool Tryd.underlying4 _), (trodAll_cons_mk (Below.trod laidOut (by kernel_rfl) (of_decide_eq_true (by kernel_rfl)) k0 bel lt0) (trodAll_cons_mk (Below.trod laidOut (by kernel_rfl) (of_decide_eq_true (by kernel_rfl)) k1 bel lt1) trodAll_mk0)), rfl, bel.frame _, fun h => by cases h⟩

theorem reads (os : Os) {H : Type} (enc : TypeId × Value → H) : ∃ places, DataW.whole enc Tryd.prog ((World.doorLaid Tryd.prog 4000 os).forCall (fun _ _ => 0) ⟨#[], #[.slice none 0 0, .slice none 0 0], []⟩).memory Tryd.f4.params.toList Rows.ctlListsSpec.vars false (#[.slice none 0 0, .slice none 0 0] : Array Value).toList 8 = some ([.nil, .nil], [], places) :=
  ⟨[], by kernel_rfl⟩

set_option maxRecDepth 100000 in
theorem lifted (os : Os) (started : os.Started) (H : Type) (enc : TypeId × Value → H) (F : Stop.Interp) :
    ReturnsInHanded {} Tryd.checked os 4 .any ((OpenSpec.ofChange Rows.ctlListsSpec).preRow enc Tryd.prog Tryd.f4 Rows.ctlListsRow.domain false Rows.ctlListsRow.laid) (((OpenSpec.ofChange Rows.ctlListsSpec).at F).post enc Tryd.prog Tryd.f4 false true false false) := by
  obtain ⟨places, hx⟩ := reads os enc
  refine returnsInHanded_of_row (C := Tryd.checked) (s := OpenSpec.ofChange Rows.ctlListsSpec) own started (by kernel_rfl) Tryd.func4
    (witness_row_atRef (enc := enc) (C := Tryd.checked) false (World.doorLaid Tryd.prog 4000 os) #[.slice none 0 0, .slice none 0 0] rfl (by kernel_rfl) (by kernel_rfl) (by kernel_rfl)
      (OpenSpec.preRow_of_cond 8 hx (by kernel_rfl) (fun k hk => by cases hk) (by kernel_rfl) (door_met os _))) ?_
  intro W base args ds gs before hval hW _ _ _ hL hsh _
  exact contract H enc W base args ds gs before hval hW hL hsh

theorem said : Rows.CtlListsSaid :=
  OpenClaim.holds_of_cond 4 Tryd.f4 rfl rfl rfl rfl rfl rfl rfl ⟨rfl, rfl, rfl, rfl, rfl⟩ rfl rfl rfl rfl rfl (by kernel_rfl) Tryd.func4 (by kernel_rfl)
    (of_decide_eq_true (by kernel_rfl)) (by unfold Func.isWrapper; first | (rw [if_pos (by decide +kernel)]; kernel_rfl) | (rw [if_neg (by decide +kernel)]; exact ⟨rfl, rfl⟩))
    (fun os started H enc _ F => by rw [OpenClaim.pre_eq_preRow]; exact lifted os started H enc F)

theorem plain (f : FuncId) (fn : Func) (hf : Tryd.pinned.checked.prog.funcNamed "guidepost/guidepostlaw05.CtlLists" = some f) (hfn : Tryd.pinned.checked.prog.funcs[f]? = some fn) :
    true = Tryd.pinned.checked.prog.looks [] ∧ ∀ (j : Nat) t, fn.params[j]? = some t → Tryd.pinned.checked.prog.wantsStandIn t = false := by
  obtain rfl : f = 4 := Option.some.inj ((show Tryd.prog.funcNamed "guidepost/guidepostlaw05.CtlLists" = some 4 by kernel_rfl).symm.trans hf) |>.symm
  obtain rfl : fn = Tryd.f4 := (Option.some.inj (Tryd.func4.symm.trans hfn)).symm
  refine ⟨by kernel_rfl, fun j t ht => ?_⟩
  rw [Tryd.params4] at ht
  have hm : t ∈ ([41, 28] : List TypeId) := by simpa using Array.mem_of_getElem? ht
  have hall : (([41, 28] : List TypeId).all fun u => !Tryd.prog.wantsStandIn u) = true := by kernel_rfl
  exact (show Tryd.prog.wantsStandIn t = false by simpa using List.all_eq_true.1 hall t hm)

/-- The card. -/
theorem card : Rows.CtlListsCardSaid :=
  Claim7.holds_tied_plain_at .later [] _ _ _ _ said (fun _ h => by cases h) (by kernel_rfl) (fun _ h => by cases h) ctlLists_row_tie rfl ⟨rfl, rfl⟩ (by kernel_rfl) rfl plain (by kernel_rfl)
#print axioms card
end Go.Proofs.YtijkahamgnpobaaDoor.ctlLists
