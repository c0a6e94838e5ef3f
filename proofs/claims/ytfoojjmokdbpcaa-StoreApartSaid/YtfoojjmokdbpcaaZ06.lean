/- StoreApart: for every input the law's call returns true, and each argument reads behind it as before.
   StoreApart: the law's walk, for every input.
   StoreApart: the law's walk. -/
import Derived.Test.YtfoojjmokdbpcaaZ05

set_option linter.unusedSimpArgs false
set_option linter.unusedVariables false
namespace Go.Proofs.Ytfoojjmokdbpcaa
open Go.RowKit
attribute [local go_sem ↓] Go.wp_at_zero Go.wp_at_succ

theorem beq_swap (l m : List Ce) : (l == m) = (m == l) := by rw [Bool.eq_iff_iff, beq_iff_eq, beq_iff_eq]; exact eq_comm
/-- So far the same? -/
def samP (l m : List Ce) (i : Nat) : Bool := l.take i == m.take i
theorem samP_full {l m : List Ce} {n : Nat} (h1 : l.length = n) (h2 : m.length = n) : samP l m n = (m == l) := by
  unfold samP
  rw [← h1, List.take_length, h1, ← h2, List.take_length, beq_swap]
theorem samP_no {l m : List Ce} {i : Nat} (h1 : i < l.length) (h2 : i < m.length) (h : samP l m i = false) : samP l m (i + 1) = false := by
  unfold samP at h ⊢
  rw [beq_eq_false_iff_ne] at h ⊢
  intro e
  apply h
  have := congrArg (List.take i) e
  rwa [List.take_take, List.take_take, Nat.min_eq_left (by omega)] at this
theorem samP_yes {l m : List Ce} {i : Nat} {x y : Ce} (h1 : l[i]? = some x) (h2 : m[i]? = some y) (h : samP l m i = true) : samP l m (i + 1) = (decide (x = y)) := by
  obtain ⟨l1, e1⟩ := List.getElem?_eq_some_iff.1 h1
  obtain ⟨l2, e2⟩ := List.getElem?_eq_some_iff.1 h2
  unfold samP at h ⊢
  rw [beq_iff_eq] at h
  rw [List.take_succ_eq_append_getElem l1, List.take_succ_eq_append_getElem l2, h, e1, e2, Bool.eq_iff_iff, beq_iff_eq, decide_eq_true_iff]
  simp
/-- Ten blocks, none of them twice. -/
def Ten (p g q b u p' g' q' b' u' : Nat) : Prop := (p' ∉ [p, g, q, b, u] ∧ g' ∉ [p, g, q, b, u] ∧ q' ∉ [p, g, q, b, u] ∧ b' ∉ [p, g, q, b, u] ∧ u' ∉ [p, g, q, b, u]) ∧ (p ∉ [p', g', q', b', u'] ∧ g ∉ [p', g', q', b', u'] ∧ q ∉ [p', g', q', b', u'] ∧ b ∉ [p', g', q', b', u'] ∧ u ∉ [p', g', q', b', u'])
theorem Ten.of {p g q b u p' g' q' b' u' N : Nat} (h : p < N ∧ g < N ∧ q < N ∧ b < N ∧ u < N) (h' : N ≤ p' ∧ N ≤ g' ∧ N ≤ q' ∧ N ≤ b' ∧ N ≤ u') : Ten p g q b u p' g' q' b' u' := by
  unfold Ten
  simp
  omega
theorem Bo.lt {p g cap q b u cb cu : Nat} {s : St} {w : World} (h : Bo p g cap q b u cb cu s w) : p < w.heap.size ∧ g < w.heap.size ∧ q < w.heap.size ∧ b < w.heap.size ∧ u < w.heap.size := by
  have h1 := h.P.lt
  have h2 := h.R.lt
  exact ⟨h1.1, h1.2, h2.1, h2.2.1, h2.2.2⟩
set_option maxHeartbeats 16000000 in
set_option maxRecDepth 100000 in
theorem storeApart_go (m : Nat) (a1 : Option Addr) (c1 : Nat) (L1 : List Ac) (a2 : Option Addr) (c2 : Nat) (L2 : List Ac) (w : World) (hL1 : Acts w (.slice a1 L1.length c1) L1) (hok1 : ∀ x ∈ L1, x.Ok) (hL2 : Acts w (.slice a2 L2.length c2) L2) (hok2 : ∀ x ∈ L2, x.Ok) (g1 : 1 ≤ m) (g2 : m ≤ 40) (g3 : L1.length ≤ 40) (g4 : L2.length ≤ 40) :
    Calls Try.prog 5 #[.int .i64 (m : Int), .slice a1 L1.length c1, .slice a2 L2.length c2] w fun e w' => e = .returned (.bool true) ∧ Below w.heap.size w w' := by
  have HL1 := Lib.hid hL1
  have HL2 := Lib.hid hL2
  have HOK1 := Lib.hid hok1
  have HOK2 := Lib.hid hok2
  obtain ⟨k1, hk1⟩ : ∃ k, k = L1.length := ⟨_, rfl⟩
  obtain ⟨k2, hk2⟩ : ∃ k, k = L2.length := ⟨_, rfl⟩
  rw [← hk1] at HL1 g3 ⊢
  rw [← hk2] at HL2 g4 ⊢
  have HK1 := Lib.hid hk1
  have HK2 := Lib.hid hk2
  have HG : Hid (1 ≤ m ∧ m ≤ 40) := ⟨g1, g2⟩
  have r1 : decide ((m : Int) < 1) = false := decide_eq_false (by omega)
  have r2 : decide ((40 : Int) < m) = false := decide_eq_false (by omega)
  have r3 : decide ((40 : Int) < k1) = false := decide_eq_false (by omega)
  have r4 : decide ((40 : Int) < k2) = false := decide_eq_false (by omega)
  have k9 : (k1 : Int) ≤ 40 := by omega
  have k8 : (k2 : Int) ≤ 40 := by omega
  have m9 : (m : Int) ≤ 40 := by omega
  clear hL1 hok1 hk1 hL2 hok2 hk2 g1 g2 g3 g4
  go_enter Try.func5, Try.ntmps5
  go_wp2_with fail
  refine (newW m w HG.out.1 (by have := HG.out; omega)).mono ?_
  rintro e w1 ⟨p, g, rfl, hp, hg, hP, hB⟩
  have HP := Lib.hid hP
  have HB := Lib.hid hB
  have HPG := Lib.hid (And.intro hp hg)
  clear hp hg hP hB
  go_wp2_with fail
  refine (newRef m w1 HG.out.1 (by have := HG.out; omega)).mono ?_
  rintro e w2 ⟨q, b, u, rfl, hq, hb, hu, hR, hB2⟩
  have HBo := Lib.hid (Bo.made HP.out hR hB2 hq hb hu)
  have hsz := HB.out.size
  have HM : Hid (∀ z ∈ [p, g, q, b, u], w.heap.size ≤ z) := by
    intro z hz
    have := HPG.out
    simp at hz
    omega
  have HB2 := Lib.hid (below_of HB.out hB2)
  clear hq hb hu hR hB2 hsz
  go_wp2_with fail
  clear r1 r2 r3 r4
  go_loopw [10] (fun z wr => ∃ (i : Nat) (s : St), i ≤ k1 ∧ z = .int .i64 i ∧ Hid (s.c.length = m) ∧ Hid (Bo p g m q b u m m s wr) ∧ Hid (Below w.heap.size w wr)) (fun z _ => k1 - (intOf z).toNat)
  case atStart => exact ⟨0, nw m, Nat.zero_le _, rfl, by show _ = _; simp [nw], HBo.out, HB2.out⟩
  case round =>
    obtain ⟨i, s, hi, rfl, HS, HBo, HB⟩ := hrel
    rcases Nat.lt_or_ge i k1 with hlt | hge
    · have q0 : (i : Int) < k1 := by omega
      have hl : i < L1.length := by have := HK1.out; omega
      obtain ⟨b1, o1, x1, d1, rfl, hb1, hby, hcl⟩ := (show Acts w (.slice a1 k1 c1) L1 from HL1.out).at hl
      obtain ⟨A, hA⟩ : ∃ A, A = L1[i] := ⟨_, rfl⟩
      rw [← hA] at hby hcl
      have HA := Lib.hid (HOK1.out A (by rw [hA]; exact List.getElem_mem hl))
      have hcc := Acts.cells hcl
      have c0 := cell_later HB.out hcc.1
      have c1 := cell_later HB.out hcc.2.1
      have c2 := cell_later HB.out hcc.2.2.1
      have c3 := cell_later HB.out hcc.2.2.2.1
      have c4 := cell_later HB.out hcc.2.2.2.2.1
      have c5 := cell_later HB.out hcc.2.2.2.2.2
      by_cases hbl : 100 < A.B.length
      · have q1 : decide ((100 : Int) < A.B.length) = true := decide_eq_true (by omega)
        clear hby hcl hcc hb1 hA hl
        go_wp2_with fail
        refine (knownL _).mono ?_
        rintro e w9 ⟨rfl, hb9⟩
        have HB9 := Lib.hid (below_of HB.out hb9)
        clear hb9
        go_wp2_with fail
        go_ret
        exact ⟨rfl, HB9.out⟩
      · have q1 : decide ((100 : Int) < A.B.length) = false := decide_eq_false (by omega)
        have HDO := Lib.hid (do_any HBo.out A HA.out x1 d1 (fun W hW => hby.later (hW.on HB.out HM.out)))
        unfold acv at HDO
        clear hby hcl hcc hb1 hA hl
        go_wp2_with fail
        refine HDO.out.mono ?_
        rintro e w3 ⟨rfl, ⟨s3, hs3, hB3⟩, hC3⟩
        have HBo3 := Lib.hid hB3
        have HB3 := Lib.hid (hC3.on HB.out HM.out)
        have HS3 : Hid (s3.c.length = m) := hs3.trans HS.out
        clear hs3 hB3 hC3
        go_wp2_with fail
        go_roundw
        case rel => exact ⟨i + 1, s3, by omega, by go_num, HS3, HBo3, HB3⟩
        case measure => simp [intOf]; omega
    · have e : i = k1 := by omega
      subst e
      have q0 : ¬ (i : Int) < i := by omega
      have HCO := Lib.hid (copyS HBo.out.P)
      go_wp2_with fail
      refine HCO.out.mono ?_
      rintro e w4 ⟨p', g', cap', rfl, hp', hg', hP', hb4⟩
      have HBo4 := Lib.hid (HBo.out.later hb4)
      have HB4 := Lib.hid (below_of HB.out hb4)
      have HP4 := Lib.hid hP'
      have HPG' : Hid (wr.heap.size ≤ p' ∧ wr.heap.size ≤ g' ∧ wr.heap.size ≤ w4.heap.size) := ⟨hp', hg', hb4.size⟩
      have HLT := Lib.hid HBo.out.lt
      have HCR := Lib.hid (copyR HBo4.out.R)
      clear hp' hg' hP' hb4
      go_wp2_with fail
      refine HCR.out.mono ?_
      rintro e w5 ⟨q', b', u', cb', cu', rfl, hq', hb', hu', hR', hb5⟩
      have HBo5 := Lib.hid (HBo4.out.later hb5)
      have HB5 := Lib.hid (below_of HB4.out hb5)
      have hP5 := HP4.out.later hb5
      have hltp := HP4.out.lt
      have HBoc : Hid (Bo p' g' cap' q' b' u' cb' cu' s w5) := ⟨hP5, hR', by omega⟩
      have HTEN : Hid (Ten p g q b u p' g' q' b' u') := Ten.of HLT.out (by have := HPG'.out; omega)
      have HM' : Hid (∀ z ∈ [p', g', q', b', u'], w.heap.size ≤ z) := by
        intro z hz
        have := HPG'.out
        have h9 := HB.out.size
        simp at hz
        omega
      have HSA := Lib.hid (sameS hP5 HBo5.out.P)
      clear hq' hb' hu' hR' hb5 hP5 hltp
      go_wp2_with fail
      refine HSA.out.mono ?_
      rintro e w6 ⟨rfl, hb6⟩
      have HBo6 := Lib.hid (HBo5.out.later hb6)
      have HBoc6 := Lib.hid (HBoc.out.later hb6)
      have HB6 := Lib.hid (below_of HB5.out hb6)
      have hself : (s.c == s.c) = true := by simp
      rw [hself]
      clear hb6 hself
      obtain ⟨s0, hs0⟩ : ∃ s0, s0 = s := ⟨_, rfl⟩
      have HBoc6 : Hid (Bo p' g' cap' q' b' u' cb' cu' s0 w6) := by rw [hs0]; exact HBoc6.out
      have HS0 : Hid (s0.c.length = m) := by rw [hs0]; exact HS.out
      clear hs0
      go_wp2_with fail
      go_loopw [13] (fun z wr => ∃ (i : Nat) (s : St), i ≤ k2 ∧ z = .int .i64 i ∧ Hid (s.c.length = m) ∧ Hid (Bo p g m q b u m m s wr) ∧ Hid (Below w.heap.size w wr) ∧ Hid (Bo p' g' cap' q' b' u' cb' cu' s0 wr)) (fun z _ => k2 - (intOf z).toNat)
      case atStart => exact ⟨0, s, Nat.zero_le _, rfl, HS.out, HBo6.out, HB6.out, HBoc6.out⟩
      case round =>
        obtain ⟨i, s, hi, rfl, HS, HBo, HB, HBoc⟩ := hrel
        rcases Nat.lt_or_ge i k2 with hlt | hge
        · have q0 : (i : Int) < k2 := by omega
          have hl : i < L2.length := by have := HK2.out; omega
          obtain ⟨b1, o1, x1, d1, rfl, hb1, hby, hcl⟩ := (show Acts w (.slice a2 k2 c2) L2 from HL2.out).at hl
          obtain ⟨A, hA⟩ : ∃ A, A = L2[i] := ⟨_, rfl⟩
          rw [← hA] at hby hcl
          have HA := Lib.hid (HOK2.out A (by rw [hA]; exact List.getElem_mem hl))
          have hcc := Acts.cells hcl
          have c0 := cell_later HB.out hcc.1
          have c1 := cell_later HB.out hcc.2.1
          have c2 := cell_later HB.out hcc.2.2.1
          have c3 := cell_later HB.out hcc.2.2.2.1
          have c4 := cell_later HB.out hcc.2.2.2.2.1
          have c5 := cell_later HB.out hcc.2.2.2.2.2
          by_cases hbl : 100 < A.B.length
          · have q1 : decide ((100 : Int) < A.B.length) = true := decide_eq_true (by omega)
            clear hby hcl hcc hb1 hA hl
            go_wp2_with fail
            refine (knownL _).mono ?_
            rintro e w9 ⟨rfl, hb9⟩
            have HB9 := Lib.hid (below_of HB.out hb9)
            clear hb9
            go_wp2_with fail
            go_ret
            exact ⟨rfl, HB9.out⟩
          · have q1 : decide ((100 : Int) < A.B.length) = false := decide_eq_false (by omega)
            have HDO := Lib.hid (do_any HBo.out A HA.out x1 d1 (fun W hW => hby.later (hW.on HB.out HM.out)))
            unfold acv at HDO
            clear hby hcl hcc hb1 hA hl
            go_wp2_with fail
            refine HDO.out.mono ?_
            rintro e w3 ⟨rfl, ⟨s3, hs3, hB3⟩, hC3⟩
            have HBo3 := Lib.hid hB3
            have HB3 := Lib.hid (hC3.on HB.out HM.out)
            have HS3 : Hid (s3.c.length = m) := hs3.trans HS.out
            have HBoc3 := Lib.hid (HBoc.out.chg hC3 HTEN.out.1)
            clear hs3 hB3 hC3
            go_wp2_with fail
            go_roundw
            case rel => exact ⟨i + 1, s3, by omega, by go_num, HS3, HBo3, HB3, HBoc3⟩
            case measure => simp [intOf]; omega
        · have e : i = k2 := by omega
          subst e
          have q0 : ¬ (i : Int) < i := by omega
          go_wp2_with fail
          go_loopw [14, 15] (fun y z wr => ∃ (i : Nat) (t : Bool), i ≤ m ∧ y = .bool t ∧ z = .int .i64 i ∧ Hid (samP s.c s0.c i = t) ∧ Hid (Bo p g m q b u m m s wr) ∧ Hid (Bo p' g' cap' q' b' u' cb' cu' s0 wr) ∧ Hid (Below w.heap.size w wr)) (fun _ z _ => m - (intOf z).toNat)
          case atStart => exact ⟨0, true, Nat.zero_le _, rfl, rfl, by show _ = _; simp [samP], HBo.out, HBoc.out, HB.out⟩
          case round =>
            obtain ⟨i, t, hi, rfl, rfl, HT, HBo, HBoc, HB⟩ := hrel
            rcases Nat.lt_or_ge i m with hlt | hge
            · have q0 : (i : Int) < m := by omega
              have l1 : i < s.c.length := by have := HS.out; omega
              have l2 : i < s0.c.length := by have := HS0.out; omega
              obtain ⟨c0, c1, _, _, _, _⟩ := HBo.out.R.cells
              obtain ⟨e0, e1, _, _, _, _⟩ := HBoc.out.R.cells
              rw [show (nrm s).c.length = m from HS.out] at c0 c1
              rw [show (nrm s0).c.length = m from HS0.out] at e0 e1
              obtain ⟨x, hx⟩ : ∃ x, s.c[i]? = some x := ⟨_, List.getElem?_eq_getElem l1⟩
              obtain ⟨y, hy⟩ : ∃ x, s0.c[i]? = some x := ⟨_, List.getElem?_eq_getElem l2⟩
              obtain ⟨d0, _⟩ := HBo.out.R.atB (show (nrm s).c[i]? = some x from hx)
              obtain ⟨d1, _⟩ := HBo.out.R.atU (show (nrm s).c[i]? = some x from hx)
              obtain ⟨f0, _⟩ := HBoc.out.R.atB (show (nrm s0).c[i]? = some y from hy)
              obtain ⟨f1, _⟩ := HBoc.out.R.atU (show (nrm s0).c[i]? = some y from hy)
              cases t
              · have HF : Hid (samP s.c s0.c (i + 1) = false) := samP_no l1 l2 HT.out
                clear l1 l2 hx hy
                go_wp2_with fail
                go_quiet (fail)
                have hb8 := below_dr0 wr.heap.size wr nq
                have HBo8 := Lib.hid (HBo.out.later hb8)
                have HBoc8 := Lib.hid (HBoc.out.later hb8)
                have HB8 := Lib.hid (below_of HB.out hb8)
                clear hb8
                go_wp2_with fail
                go_roundw
                case rel => exact ⟨i + 1, false, by omega, by first | rfl | simp, by go_num, HF, HBo8, HBoc8, HB8⟩
                case measure => simp [intOf]; omega
              · have HF : Hid (samP s.c s0.c (i + 1) = decide (x = y)) := samP_yes hx hy HT.out
                clear l1 l2 hx hy
                obtain ⟨x1, x2⟩ := x
                obtain ⟨y1, y2⟩ := y
                simp only at d0 d1 f0 f1
                by_cases h1 : x1 = y1
                · subst h1
                  cases x2
                  · cases y2
                    · skip
                      go_wp2_with fail
                      go_quiet (fail)
                      have hb8 := below_dr0 wr.heap.size wr nq
                      have HBo8 := Lib.hid (HBo.out.later hb8)
                      have HBoc8 := Lib.hid (HBoc.out.later hb8)
                      have HB8 := Lib.hid (below_of HB.out hb8)
                      clear hb8
                      go_wp2_with fail
                      go_roundw
                      case rel => exact ⟨i + 1, true, by omega, by first | rfl | simp, by go_num, by show _ = _; rw [HF.out]; simp, HBo8, HBoc8, HB8⟩
                      case measure => simp [intOf]; omega
                    · skip
                      go_wp2_with fail
                      go_quiet (fail)
                      have hb8 := below_dr0 wr.heap.size wr nq
                      have HBo8 := Lib.hid (HBo.out.later hb8)
                      have HBoc8 := Lib.hid (HBoc.out.later hb8)
                      have HB8 := Lib.hid (below_of HB.out hb8)
                      clear hb8
                      go_wp2_with fail
                      go_roundw
                      case rel => exact ⟨i + 1, false, by omega, by first | rfl | simp, by go_num, by show _ = _; rw [HF.out]; simp, HBo8, HBoc8, HB8⟩
                      case measure => simp [intOf]; omega
                  · cases y2
                    · skip
                      go_wp2_with fail
                      go_quiet (fail)
                      have hb8 := below_dr0 wr.heap.size wr nq
                      have HBo8 := Lib.hid (HBo.out.later hb8)
                      have HBoc8 := Lib.hid (HBoc.out.later hb8)
                      have HB8 := Lib.hid (below_of HB.out hb8)
                      clear hb8
                      go_wp2_with fail
                      go_roundw
                      case rel => exact ⟨i + 1, false, by omega, by first | rfl | simp, by go_num, by show _ = _; rw [HF.out]; simp, HBo8, HBoc8, HB8⟩
                      case measure => simp [intOf]; omega
                    · skip
                      go_wp2_with fail
                      go_quiet (fail)
                      have hb8 := below_dr0 wr.heap.size wr nq
                      have HBo8 := Lib.hid (HBo.out.later hb8)
                      have HBoc8 := Lib.hid (HBoc.out.later hb8)
                      have HB8 := Lib.hid (below_of HB.out hb8)
                      clear hb8
                      go_wp2_with fail
                      go_roundw
                      case rel => exact ⟨i + 1, true, by omega, by first | rfl | simp, by go_num, by show _ = _; rw [HF.out]; simp, HBo8, HBoc8, HB8⟩
                      case measure => simp [intOf]; omega
                · have q1 : ((x1.toNat : Int) == (y1.toNat : Int)) = false := by
                    rw [beq_eq_false_iff_ne]; intro e; exact h1 (UInt8.toNat_inj.1 (by omega))
                  have q2 : (x1.toNat == y1.toNat) = false := by
                    rw [beq_eq_false_iff_ne]; intro e; exact h1 (UInt8.toNat_inj.1 e)
                  go_wp2_with fail
                  go_quiet (fail)
                  have hb8 := below_dr0 wr.heap.size wr nq
                  have HBo8 := Lib.hid (HBo.out.later hb8)
                  have HBoc8 := Lib.hid (HBoc.out.later hb8)
                  have HB8 := Lib.hid (below_of HB.out hb8)
                  clear hb8
                  go_wp2_with fail
                  go_roundw
                  case rel => exact ⟨i + 1, false, by omega, by first | rfl | simp, by go_num, by show _ = _; rw [HF.out]; simp [h1], HBo8, HBoc8, HB8⟩
                  case measure => simp [intOf]; omega
            · have e : i = m := by omega
              subst e
              have q0 : ¬ (i : Int) < i := by omega
              have HSM : Hid (samP s.c s0.c i = (s0.c == s.c)) := samP_full HS.out HS0.out
              have HTT : Hid ((s0.c == s.c) = t) := HSM.out.symm.trans HT.out
              go_wp2_with fail
              refine (bytesL HBoc.out).mono ?_
              rintro e w7 ⟨rfl, hb7⟩
              have HBo := Lib.hid (HBo.out.later hb7)
              have HBoc := Lib.hid (HBoc.out.later hb7)
              have HB := Lib.hid (below_of HB.out hb7)
              clear hb7
              go_wp2_with fail
              refine (bytesL HBo.out).mono ?_
              rintro e w8 ⟨rfl, hb8⟩
              have HBo := Lib.hid (HBo.out.later hb8)
              have HBoc := Lib.hid (HBoc.out.later hb8)
              have HB := Lib.hid (below_of HB.out hb8)
              clear hb8
              go_wp2_with fail
              refine (sameS HBoc.out.P HBo.out.P).mono ?_
              rintro e w9 ⟨rfl, hb9⟩
              rw [HTT.out]
              have HBoc := Lib.hid (HBoc.out.later hb9)
              have HB := Lib.hid (below_of HB.out hb9)
              clear hb9
              go_wp2_with fail
              have HLTC := Lib.hid HBoc.out.lt
              have HAPC := Lib.hid HBoc.out.apart
              obtain ⟨Z, hZ⟩ : ∃ Z : List UInt8, Z = List.replicate i 0 := ⟨_, rfl⟩
              have HZ := Lib.hid hZ
              have HZL : Hid (Z.length = i) := by show _ = _; rw [hZ]; simp
              obtain ⟨E, hE⟩ : ∃ E, E = wrE s0 0 Z := ⟨_, rfl⟩
              have HE : Hid (wrE s0 0 Z = E ∧ wrE (nrm s0) 0 Z = E ∧ wrS (nrm s0) 0 Z = nrm (wrS s0 0 Z)) := ⟨hE.symm, by rw [wrE_nrm]; exact hE.symm, wrS_nrm _ _ _⟩
              clear hZ hE
              have mk : ∀ W : World, ∃ W1, (Instr.makeSlice 30 (.int .i64 (i : Int)) (.int .i64 (i : Int))).run Try.prog W = .ok (.slice (some ⟨W.heap.size, 0, none⟩) i i) W1 ∧ Bytes W1 (.slice (some ⟨W.heap.size, 0, none⟩) i i) Z ∧ Below W.heap.size W W1 ∧ W.heap.size < W1.heap.size := fun W => by
                obtain ⟨W1, h1, h2, h3⟩ := make_zeros i W (by have := HG.out; omega)
                refine ⟨W1, h1, ?_, h3, (World.ownsRow.lt h2 W.heap.size rfl).2⟩
                rw [HZ.out]
                exact OwnB.bytes (show OwnB W1 _ (.slice (some ⟨W.heap.size, 0, none⟩) i i) (List.replicate i 0) from h2)
              have MK := Lib.hid mk
              clear mk
              (refine wp_region_held_drew (S := (fun w' => Below w.heap.size w w')) (by kernel_rfl) ?_ (fun hHeld => ?_); (focus ((try dsimp only); (exact HB.out.drew))))
              (try dsimp only at hHeld)
              obtain ⟨w0, hw0⟩ : ∃ W0, W0 = World.drew w9 := ⟨_, rfl⟩
              have HBC0 := Lib.hid (show Bo p' g' cap' q' b' u' cb' cu' s0 w0 by rw [hw0]; exact HBoc.out.later (Below.refl _ _).drew)
              rw [← hw0]
              rw [← hw0] at hHeld
              clear hw0
              (refine wpAnyH_take (i := 0) (v := ?_) rfl (by kernel_rfl) (by kernel_rfl) (by kernel_rfl) (fun _ _ _ h => h) (Or.inl ⟨by rfl, ?_⟩) hHeld ?_; rotate_left; (focus (intro w hSw; (try dsimp only at hSw); go_simp; try with_reducible rfl)); (try simp only [Act.put, List.setIfInBounds_toArray, List.set_cons_zero, List.set_cons_succ, List.getElem_toArray, List.getElem_cons_zero])); (refine wpAnyH_take (i := 1) (v := ?_) rfl (by kernel_rfl) (by kernel_rfl) (by kernel_rfl) (fun _ _ _ h => h) (Or.inl ⟨by rfl, ?_⟩) hHeld ?_; rotate_left; (focus (intro w hSw; (try dsimp only at hSw); go_simp; try with_reducible rfl)); (try simp only [Act.put, List.setIfInBounds_toArray, List.set_cons_zero, List.set_cons_succ, List.getElem_toArray, List.getElem_cons_zero, List.getElem_cons_succ])); (refine wpAnyH_take (i := 4) (v := ?_) rfl (by kernel_rfl) (by kernel_rfl) (by kernel_rfl) (fun _ _ _ h => h) (Or.inl ⟨by rfl, ?_⟩) hHeld ?_; rotate_left; (focus (intro w hSw; (try dsimp only at hSw); go_simp; try with_reducible rfl)); (try simp only [Act.put, List.setIfInBounds_toArray, List.set_cons_zero, List.set_cons_succ, List.getElem_toArray, List.getElem_cons_zero, List.getElem_cons_succ])); (refine wpAnyH_take (i := 5) (v := ?_) rfl (by kernel_rfl) (by kernel_rfl) (by kernel_rfl) (fun _ _ _ h => h) (Or.inl ⟨by rfl, ?_⟩) hHeld ?_; rotate_left; (focus (intro w hSw; (try dsimp only at hSw); go_simp; try with_reducible rfl)); (try simp only [Act.put, List.setIfInBounds_toArray, List.set_cons_zero, List.set_cons_succ, List.getElem_toArray, List.getElem_cons_zero, List.getElem_cons_succ]))
              have HLT0 := Lib.hid HBC0.out.lt
              refine wpAnyH_ready (rs := [2, 6]) (by kernel_rfl) (by simp) ?_
              obtain ⟨wA, hmA, hyA, hbA, hsA⟩ := MK.out w0
              have HYA := Lib.hid hyA
              have HBA := Lib.hid hbA
              have HBCA := Lib.hid (HBC0.out.later hbA)
              have HSA := Lib.hid hsA
              clear hsA
              clear hyA hbA
              refine AllReadyH.cons rfl (fun K hK => ?_) (AllReadyH.cons rfl (fun K hK => ?_) AllReadyH.nil)
              · skip
                go_simp
                refine hK.out _ _ (hHeld.trans (HBA.out.mono hHeld.size)) (fun hHeldN => ?_)
                clear hK K hHeld
                have hHeld := hHeldN
                clear hHeldN hmA
                (try simp only [Act.put, List.setIfInBounds_toArray, List.set_cons_zero, List.set_cons_succ, List.getElem_toArray, List.getElem_cons_zero, List.getElem_cons_succ])
                refine wpAnyH_at (m := #[true, true, true, false, true, true, false, false, false, false]) (by kernel_rfl) ?_
                refine wpAnyH_ready (rs := [3, 6]) (by kernel_rfl) (by simp) ?_
                refine AllReadyH.cons rfl (fun K hK => ?_) (AllReadyH.cons rfl (fun K hK => ?_) AllReadyH.nil)
                · skip
                  go_simp
                  refine (writeS HBCA.out.P 0 (by omega) (.slice (some ⟨w0.heap.size, 0, none⟩) i i) Z (fun W hW => Bytes.chg HYA.out hW (by have := HLT0.out; have := HSA.out; simp; omega))).mono ?_
                  rintro e wB ⟨rfl, hP, hC⟩
                  have HP := Lib.hid hP
                  have HCC := Lib.hid hC
                  clear hP
                  refine hK.out _ _ (Chg.on hHeld hC (by have := HM'.out; intro z hz; exact this z (by simp at hz ⊢; omega))) (fun hHeldN => ?_)
                  clear hK K hHeld
                  have hHeld := hHeldN
                  clear hHeldN
                  (try simp only [Act.put, List.setIfInBounds_toArray, List.set_cons_zero, List.set_cons_succ, List.getElem_toArray, List.getElem_cons_zero, List.getElem_cons_succ])
                  have HR := Lib.hid (HBCA.out.R.chg HCC.out (by have := HAPC.out; simp; omega) (by have := HAPC.out; simp; omega) (by have := HAPC.out; simp; omega))
                  obtain ⟨wC, hmC, hyC, hbC, _⟩ := MK.out wB
                  have HYC := Lib.hid hyC
                  have HBC := Lib.hid hbC
                  have HR := Lib.hid (HR.out.later hbC)
                  have HP := Lib.hid (HP.out.later hbC)
                  have HLB := Lib.hid (show wA.heap.size ≤ wB.heap.size from HCC.out.size)
                  clear hyC hbC
                  refine wpAnyH_at (m := #[true, true, true, true, true, true, false, false, false, false]) (by kernel_rfl) ?_
                  (refine wpAnyH_ready (rs := [6]) (by kernel_rfl) (by simp) ?_; refine AllReadyH.cons rfl (fun K hK => ?_) AllReadyH.nil; go_simp; skip; refine hK.out _ _ ?_ (fun hHeldN => ?_); (focus ((try dsimp only); (exact hHeld.trans (HBC.out.mono hHeld.size)))); clear hK K hHeld; have hHeld := hHeldN; clear hHeldN; (try simp only [Act.put, List.setIfInBounds_toArray, List.set_cons_zero, List.set_cons_succ, List.getElem_toArray, List.getElem_cons_zero, List.getElem_cons_succ]))
                  refine wpAnyH_at (m := #[true, true, true, true, true, true, true, false, false, false]) (by kernel_rfl) ?_
                  (refine wpAnyH_ready (rs := [7]) (by kernel_rfl) (by simp) ?_; refine AllReadyH.cons rfl (fun K hK => ?_) AllReadyH.nil; go_simp; refine (writeR HR.out 0 (.slice (some ⟨wB.heap.size, 0, none⟩) i i) Z (by have := HZL.out; have := HG.out; omega) (fun W hW => Bytes.chg HYC.out hW (by have := HLT0.out; have := HSA.out; have := HLB.out; simp; omega))).mono ?_; rintro e wD ⟨rfl, hR, hC3⟩; have HR3 := Lib.hid hR; have HCC3 := Lib.hid hC3; clear hR; refine hK.out _ _ ?_ (fun hHeldN => ?_); (focus ((try dsimp only); (exact Chg.on hHeld hC3 (by have := HM'.out; intro z hz; exact this z (by simp at hz ⊢; omega))))); clear hK K hHeld; have hHeld := hHeldN; clear hHeldN; (try simp only [Act.put, List.setIfInBounds_toArray, List.set_cons_zero, List.set_cons_succ, List.getElem_toArray, List.getElem_cons_zero, List.getElem_cons_succ]))
                  have HP3 := Lib.hid (HP.out.chg HCC3.out (by have := HAPC.out; simp; omega) (by have := HAPC.out; simp; omega))
                  rw [HE.out.2.2] at HR3
                  rw [HE.out.1, HE.out.2.1]
                  refine wpAnyH_at (m := #[true, true, true, true, true, true, true, true, false, false]) (by kernel_rfl) ?_
                  (refine wpAnyH_take (i := 8) (v := ?_) rfl (by kernel_rfl) (by kernel_rfl) (by kernel_rfl) (fun _ _ _ h => h) (Or.inl ⟨by rfl, ?_⟩) hHeld ?_; rotate_left; (focus (intro w hSw; (try dsimp only at hSw); go_simp; try with_reducible rfl)); (try simp only [Act.put, List.setIfInBounds_toArray, List.set_cons_zero, List.set_cons_succ, List.getElem_toArray, List.getElem_cons_zero, List.getElem_cons_succ])); (refine wpAnyH_take (i := 9) (v := ?_) rfl (by kernel_rfl) (by kernel_rfl) (by kernel_rfl) (fun _ _ _ h => h) (Or.inl ⟨by rfl, ?_⟩) hHeld ?_; rotate_left; (focus (intro w hSw; (try dsimp only at hSw); go_simp; try with_reducible rfl)); (try simp only [Act.put, List.setIfInBounds_toArray, List.set_cons_zero, List.set_cons_succ, List.getElem_toArray, List.getElem_cons_zero, List.getElem_cons_succ]))
                  refine wpAnyH_done (by kernel_rfl) ?_ _
                  have HBF : Hid (Bo p' g' cap' q' b' u' cb' cu' (wrS s0 0 Z) wD) := ⟨HP3.out, HR3.out, HAPC.out⟩
                  have HBL := Lib.hid hHeld
                  have hee : (E == E) = true := by simp
                  go_wp2_with fail
                  refine (bytesL HBF.out).mono ?_
                  rintro e wy ⟨rfl, hby⟩
                  have HBL := Lib.hid (below_of HBL.out hby)
                  clear hby
                  go_wp2_with fail
                  refine (knownL _).mono ?_
                  rintro e wz ⟨rfl, hbz⟩
                  have HBL := Lib.hid (below_of HBL.out hbz)
                  clear hbz
                  go_wp2_with fail
                  go_ret
                  exact ⟨rfl, HBL.out⟩
                · skip
                  obtain ⟨wB, hmB, hyB, hbB, _⟩ := MK.out wA
                  have HYB := Lib.hid hyB
                  have HBB := Lib.hid hbB
                  have HYA2 := Lib.hid (HYA.out.later HBB.out)
                  clear hyB hbB
                  have HBCB := Lib.hid (HBCA.out.later HBB.out)
                  go_simp
                  refine hK.out _ _ (hHeld.trans (HBB.out.mono hHeld.size)) (fun hHeldN => ?_)
                  clear hK K hHeld
                  have hHeld := hHeldN
                  clear hHeldN
                  (try simp only [Act.put, List.setIfInBounds_toArray, List.set_cons_zero, List.set_cons_succ, List.getElem_toArray, List.getElem_cons_zero, List.getElem_cons_succ])
                  refine wpAnyH_at (m := #[true, true, true, false, true, true, true, false, false, false]) (by kernel_rfl) ?_
                  (refine wpAnyH_ready (rs := [3]) (by kernel_rfl) (by simp) ?_; refine AllReadyH.cons rfl (fun K hK => ?_) AllReadyH.nil; go_simp; refine (writeS HBCB.out.P 0 (by omega) (.slice (some ⟨w0.heap.size, 0, none⟩) i i) Z (fun W hW => Bytes.chg HYA2.out hW (by have := HLT0.out; have := HSA.out; simp; omega))).mono ?_; rintro e wC ⟨rfl, hP, hC⟩; have HP := Lib.hid hP; have HCC := Lib.hid hC; clear hP; refine hK.out _ _ ?_ (fun hHeldN => ?_); (focus ((try dsimp only); (exact Chg.on hHeld hC (by have := HM'.out; intro z hz; exact this z (by simp at hz ⊢; omega))))); clear hK K hHeld; have hHeld := hHeldN; clear hHeldN; (try simp only [Act.put, List.setIfInBounds_toArray, List.set_cons_zero, List.set_cons_succ, List.getElem_toArray, List.getElem_cons_zero, List.getElem_cons_succ]))
                  have HR := Lib.hid (HBCB.out.R.chg HCC.out (by have := HAPC.out; simp; omega) (by have := HAPC.out; simp; omega) (by have := HAPC.out; simp; omega))
                  have HYB3 := Lib.hid (Bytes.chg HYB.out HCC.out (by have := HLT0.out; have := HSA.out; simp; omega))
                  refine wpAnyH_at (m := #[true, true, true, true, true, true, true, false, false, false]) (by kernel_rfl) ?_
                  (refine wpAnyH_ready (rs := [7]) (by kernel_rfl) (by simp) ?_; refine AllReadyH.cons rfl (fun K hK => ?_) AllReadyH.nil; go_simp; refine (writeR HR.out 0 (.slice (some ⟨wA.heap.size, 0, none⟩) i i) Z (by have := HZL.out; have := HG.out; omega) (fun W hW => Bytes.chg HYB3.out hW (by have := HLT0.out; have := HSA.out; simp; omega))).mono ?_; rintro e wD ⟨rfl, hR, hC3⟩; have HR3 := Lib.hid hR; have HCC3 := Lib.hid hC3; clear hR; refine hK.out _ _ ?_ (fun hHeldN => ?_); (focus ((try dsimp only); (exact Chg.on hHeld hC3 (by have := HM'.out; intro z hz; exact this z (by simp at hz ⊢; omega))))); clear hK K hHeld; have hHeld := hHeldN; clear hHeldN; (try simp only [Act.put, List.setIfInBounds_toArray, List.set_cons_zero, List.set_cons_succ, List.getElem_toArray, List.getElem_cons_zero, List.getElem_cons_succ]))
                  have HP3 := Lib.hid (HP.out.chg HCC3.out (by have := HAPC.out; simp; omega) (by have := HAPC.out; simp; omega))
                  rw [HE.out.2.2] at HR3
                  rw [HE.out.1, HE.out.2.1]
                  refine wpAnyH_at (m := #[true, true, true, true, true, true, true, true, false, false]) (by kernel_rfl) ?_
                  (refine wpAnyH_take (i := 8) (v := ?_) rfl (by kernel_rfl) (by kernel_rfl) (by kernel_rfl) (fun _ _ _ h => h) (Or.inl ⟨by rfl, ?_⟩) hHeld ?_; rotate_left; (focus (intro w hSw; (try dsimp only at hSw); go_simp; try with_reducible rfl)); (try simp only [Act.put, List.setIfInBounds_toArray, List.set_cons_zero, List.set_cons_succ, List.getElem_toArray, List.getElem_cons_zero, List.getElem_cons_succ])); (refine wpAnyH_take (i := 9) (v := ?_) rfl (by kernel_rfl) (by kernel_rfl) (by kernel_rfl) (fun _ _ _ h => h) (Or.inl ⟨by rfl, ?_⟩) hHeld ?_; rotate_left; (focus (intro w hSw; (try dsimp only at hSw); go_simp; try with_reducible rfl)); (try simp only [Act.put, List.setIfInBounds_toArray, List.set_cons_zero, List.set_cons_succ, List.getElem_toArray, List.getElem_cons_zero, List.getElem_cons_succ]))
                  refine wpAnyH_done (by kernel_rfl) ?_ _
                  have HBF : Hid (Bo p' g' cap' q' b' u' cb' cu' (wrS s0 0 Z) wD) := ⟨HP3.out, HR3.out, HAPC.out⟩
                  have HBL := Lib.hid hHeld
                  have hee : (E == E) = true := by simp
                  go_wp2_with fail
                  refine (bytesL HBF.out).mono ?_
                  rintro e wy ⟨rfl, hby⟩
                  have HBL := Lib.hid (below_of HBL.out hby)
                  clear hby
                  go_wp2_with fail
                  refine (knownL _).mono ?_
                  rintro e wz ⟨rfl, hbz⟩
                  have HBL := Lib.hid (below_of HBL.out hbz)
                  clear hbz
                  go_wp2_with fail
                  go_ret
                  exact ⟨rfl, HBL.out⟩
              · skip
                go_simp
                refine hK.out _ _ (hHeld.trans (HBA.out.mono hHeld.size)) (fun hHeldN => ?_)
                clear hK K hHeld
                have hHeld := hHeldN
                clear hHeldN hmA
                (try simp only [Act.put, List.setIfInBounds_toArray, List.set_cons_zero, List.set_cons_succ, List.getElem_toArray, List.getElem_cons_zero, List.getElem_cons_succ])
                obtain ⟨wB, hmB, hyB, hbB, _⟩ := MK.out wA
                have HYB := Lib.hid hyB
                have HBB := Lib.hid hbB
                have HYA2 := Lib.hid (HYA.out.later HBB.out)
                clear hyB hbB
                have HBCB := Lib.hid (HBCA.out.later HBB.out)
                refine wpAnyH_at (m := #[true, true, false, false, true, true, true, false, false, false]) (by kernel_rfl) ?_
                (refine wpAnyH_ready (rs := [2]) (by kernel_rfl) (by simp) ?_; refine AllReadyH.cons rfl (fun K hK => ?_) AllReadyH.nil; go_simp; skip; refine hK.out _ _ ?_ (fun hHeldN => ?_); (focus ((try dsimp only); (exact hHeld.trans (HBB.out.mono hHeld.size)))); clear hK K hHeld; have hHeld := hHeldN; clear hHeldN; (try simp only [Act.put, List.setIfInBounds_toArray, List.set_cons_zero, List.set_cons_succ, List.getElem_toArray, List.getElem_cons_zero, List.getElem_cons_succ]))
                refine wpAnyH_at (m := #[true, true, true, false, true, true, true, false, false, false]) (by kernel_rfl) ?_
                (refine wpAnyH_ready (rs := [3]) (by kernel_rfl) (by simp) ?_; refine AllReadyH.cons rfl (fun K hK => ?_) AllReadyH.nil; go_simp; refine (writeS HBCB.out.P 0 (by omega) (.slice (some ⟨wA.heap.size, 0, none⟩) i i) Z (fun W hW => Bytes.chg HYB.out hW (by have := HLT0.out; have := HSA.out; simp; omega))).mono ?_; rintro e wC ⟨rfl, hP, hC⟩; have HP := Lib.hid hP; have HCC := Lib.hid hC; clear hP; refine hK.out _ _ ?_ (fun hHeldN => ?_); (focus ((try dsimp only); (exact Chg.on hHeld hC (by have := HM'.out; intro z hz; exact this z (by simp at hz ⊢; omega))))); clear hK K hHeld; have hHeld := hHeldN; clear hHeldN; (try simp only [Act.put, List.setIfInBounds_toArray, List.set_cons_zero, List.set_cons_succ, List.getElem_toArray, List.getElem_cons_zero, List.getElem_cons_succ]))
                have HR := Lib.hid (HBCB.out.R.chg HCC.out (by have := HAPC.out; simp; omega) (by have := HAPC.out; simp; omega) (by have := HAPC.out; simp; omega))
                have HYA3 := Lib.hid (Bytes.chg HYA2.out HCC.out (by have := HLT0.out; have := HSA.out; simp; omega))
                refine wpAnyH_at (m := #[true, true, true, true, true, true, true, false, false, false]) (by kernel_rfl) ?_
                (refine wpAnyH_ready (rs := [7]) (by kernel_rfl) (by simp) ?_; refine AllReadyH.cons rfl (fun K hK => ?_) AllReadyH.nil; go_simp; refine (writeR HR.out 0 (.slice (some ⟨w0.heap.size, 0, none⟩) i i) Z (by have := HZL.out; have := HG.out; omega) (fun W hW => Bytes.chg HYA3.out hW (by have := HLT0.out; have := HSA.out; simp; omega))).mono ?_; rintro e wD ⟨rfl, hR, hC3⟩; have HR3 := Lib.hid hR; have HCC3 := Lib.hid hC3; clear hR; refine hK.out _ _ ?_ (fun hHeldN => ?_); (focus ((try dsimp only); (exact Chg.on hHeld hC3 (by have := HM'.out; intro z hz; exact this z (by simp at hz ⊢; omega))))); clear hK K hHeld; have hHeld := hHeldN; clear hHeldN; (try simp only [Act.put, List.setIfInBounds_toArray, List.set_cons_zero, List.set_cons_succ, List.getElem_toArray, List.getElem_cons_zero, List.getElem_cons_succ]))
                have HP3 := Lib.hid (HP.out.chg HCC3.out (by have := HAPC.out; simp; omega) (by have := HAPC.out; simp; omega))
                rw [HE.out.2.2] at HR3
                rw [HE.out.1, HE.out.2.1]
                refine wpAnyH_at (m := #[true, true, true, true, true, true, true, true, false, false]) (by kernel_rfl) ?_
                (refine wpAnyH_take (i := 8) (v := ?_) rfl (by kernel_rfl) (by kernel_rfl) (by kernel_rfl) (fun _ _ _ h => h) (Or.inl ⟨by rfl, ?_⟩) hHeld ?_; rotate_left; (focus (intro w hSw; (try dsimp only at hSw); go_simp; try with_reducible rfl)); (try simp only [Act.put, List.setIfInBounds_toArray, List.set_cons_zero, List.set_cons_succ, List.getElem_toArray, List.getElem_cons_zero, List.getElem_cons_succ])); (refine wpAnyH_take (i := 9) (v := ?_) rfl (by kernel_rfl) (by kernel_rfl) (by kernel_rfl) (fun _ _ _ h => h) (Or.inl ⟨by rfl, ?_⟩) hHeld ?_; rotate_left; (focus (intro w hSw; (try dsimp only at hSw); go_simp; try with_reducible rfl)); (try simp only [Act.put, List.setIfInBounds_toArray, List.set_cons_zero, List.set_cons_succ, List.getElem_toArray, List.getElem_cons_zero, List.getElem_cons_succ]))
                refine wpAnyH_done (by kernel_rfl) ?_ _
                have HBF : Hid (Bo p' g' cap' q' b' u' cb' cu' (wrS s0 0 Z) wD) := ⟨HP3.out, HR3.out, HAPC.out⟩
                have HBL := Lib.hid hHeld
                have hee : (E == E) = true := by simp
                go_wp2_with fail
                refine (bytesL HBF.out).mono ?_
                rintro e wy ⟨rfl, hby⟩
                have HBL := Lib.hid (below_of HBL.out hby)
                clear hby
                go_wp2_with fail
                refine (knownL _).mono ?_
                rintro e wz ⟨rfl, hbz⟩
                have HBL := Lib.hid (below_of HBL.out hbz)
                clear hbz
                go_wp2_with fail
                go_ret
                exact ⟨rfl, HBL.out⟩
end Go.Proofs.Ytfoojjmokdbpcaa

namespace Go.Proofs.Ytfoojjmokdbpcaa
open Go.RowKit
attribute [local go_sem ↓] Go.wp_at_zero Go.wp_at_succ

set_option maxHeartbeats 8000000 in
set_option maxRecDepth 100000 in
theorem storeApart_walk (n : Int) (v1 : Value) (L1 : List Ac) (v2 : Value) (L2 : List Ac) (w : World) (h1 : Acts w v1 L1) (hl1 : L1.length ≤ 9223372036854775807) (hok1 : ∀ x ∈ L1, x.Ok) (h2 : Acts w v2 L2) (hl2 : L2.length ≤ 9223372036854775807) (hok2 : ∀ x ∈ L2, x.Ok) :
    Calls Try.prog 5 #[.int .i64 n, v1, v2] w fun e w' => e = .returned (.bool true) ∧ Below w.heap.size w w' := by
  obtain ⟨a1, c1, rfl⟩ := h1.form
  obtain ⟨a2, c2, rfl⟩ := h2.form
  by_cases hg : 1 ≤ n ∧ n ≤ 40 ∧ L1.length ≤ 40 ∧ L2.length ≤ 40
  · obtain ⟨m, rfl⟩ := Int.eq_ofNat_of_zero_le (show 0 ≤ n by omega)
    exact storeApart_go m a1 c1 L1 a2 c2 L2 w h1 hok1 h2 hok2 (by omega) (by omega) hg.2.2.1 hg.2.2.2
  · have HK := Lib.hid (knownL w)
    obtain ⟨k1, hk1⟩ : ∃ k, k = L1.length := ⟨_, rfl⟩
    obtain ⟨k2, hk2⟩ : ∃ k, k = L2.length := ⟨_, rfl⟩
    rw [← hk1, ← hk2] at hg
    rw [← hk1] at hl1 ⊢
    rw [← hk2] at hl2 ⊢
    clear h1 h2 hok1 hok2 hk1 hk2
    by_cases p1 : n < 1
    · have r1 : decide (n < 1) = true := decide_eq_true p1
      clear hg hl1 hl2 p1
      go_enter Try.func5, Try.ntmps5
      go_wp2_with fail
      refine HK.out.mono ?_
      rintro e w1 ⟨rfl, hb⟩
      go_wp2_with fail
      go_ret
      exact ⟨rfl, hb⟩
    · have r1 : decide (n < 1) = false := decide_eq_false p1
      by_cases p2 : 40 < n
      · have r2 : decide (40 < n) = true := decide_eq_true p2
        clear hg hl1 hl2 p1 p2
        go_enter Try.func5, Try.ntmps5
        go_wp2_with fail
        refine HK.out.mono ?_
        rintro e w1 ⟨rfl, hb⟩
        go_wp2_with fail
        go_ret
        exact ⟨rfl, hb⟩
      · have r2 : decide (40 < n) = false := decide_eq_false p2
        by_cases p3 : 40 < k1
        · have r3 : decide ((40 : Int) < k1) = true := decide_eq_true (by omega)
          clear hg hl1 hl2 p1 p2 p3
          go_enter Try.func5, Try.ntmps5
          go_wp2_with fail
          refine HK.out.mono ?_
          rintro e w1 ⟨rfl, hb⟩
          go_wp2_with fail
          go_ret
          exact ⟨rfl, hb⟩
        · have r3 : decide ((40 : Int) < k1) = false := decide_eq_false (by omega)
          have r4 : decide ((40 : Int) < k2) = true := decide_eq_true (by omega)
          clear hg hl1 hl2 p1 p2 p3
          go_enter Try.func5, Try.ntmps5
          go_wp2_with fail
          refine HK.out.mono ?_
          rintro e w1 ⟨rfl, hb⟩
          go_wp2_with fail
          go_ret
          exact ⟨rfl, hb⟩
end Go.Proofs.Ytfoojjmokdbpcaa

namespace Go.Proofs.Ytfoojjmokdbpcaa.storeApart
open Go.ChangeShapes Go.WideShapes Go.ChangeAt Go.RowKit

set_option maxRecDepth 100000 in
theorem lifted (os : Os) (started : os.Started) (H : Type) (enc : TypeId × Value → H) :
    ReturnsInHanded {} Try.checked os 5 .any (Rows.storeApartSpec.pre6 enc Try.prog Try.f5 Rows.storeApartRow.domain false) (Rows.storeApartSpec.post enc Try.prog Try.f5 false true false false) := by
  refine returnsInHanded_of_change (C := Try.checked) own started (by kernel_rfl) Try.func5
    (ChangeSpec.witness6 (enc := enc) (C := Try.checked) false ⟨#[], #[.int .i64 0, .slice none 0 0, .slice none 0 0], []⟩ 8 (by kernel_rfl) (by kernel_rfl) (by kernel_rfl) (by kernel_rfl)) ?_
  intro W base args ds gs before hval0 hW hcnd _
  have hval : ∀ (j : Nat) t v, Try.f5.params[j]? = some t → args[j]? = some v → Value.okWide Try.prog W .any base t v := hval0
  have hW' := hW
  obtain ⟨p, q, hA0, hV, rfl, hfz, hnd⟩ := hW
  have hA : DataW.TrodAll enc Try.prog W 0 (fun _ => true) true Try.f5.params.toList args.toList ds p := hA0
  rw [Try.params5] at hA hval
  obtain ⟨v0, vs0, d0, ds0, p0, q0, hargs, rfl, rfl, h0, r0⟩ := trodAll_cons hA
  obtain ⟨v1, vs1, d1, ds1, p1, q1, rfl, rfl, rfl, h1, r1⟩ := trodAll_cons r0
  obtain ⟨v2, vs2, d2, ds2, p2, q2, rfl, rfl, rfl, h2, r2⟩ := trodAll_cons r1
  obtain ⟨rfl, rfl, rfl⟩ := trodAll_nil r2
  obtain rfl : args = #[v0, v1, v2] := by cases args; simp_all
  obtain ⟨rfl, rfl⟩ := trodVars_none hV
  have k0 := h0
  have lt0 : ∀ x ∈ p0, x.block < W.heap.size := by obtain ⟨m, hm⟩ := k0; exact DataW.trod_lt m _ _ _ hm
  have k1 := h1
  have lt1 : ∀ x ∈ p1, x.block < W.heap.size := by obtain ⟨m, hm⟩ := k1; exact DataW.trod_lt m _ _ _ hm
  have k2 := h2
  have lt2 : ∀ x ∈ p2, x.block < W.heap.size := by obtain ⟨m, hm⟩ := k2; exact DataW.trod_lt m _ _ _ hm
  obtain ⟨a0, rfl, _, _, wa0⟩ := open_int Try.underlying3 (hval 0 3 v0 rfl rfl) h0
  obtain ⟨l1, hb1, hl1, hs1⟩ := open_acts (hval 1 22 v1 rfl rfl) h1
  obtain ⟨l2, hb2, hl2, hs2⟩ := open_acts (hval 2 22 v2 rfl rfl) h2
  refine (storeApart_walk a0 v1 l1 v2 l2 W hb1 hl1 hs1 hb2 hl2 hs2).mono fun e W' ⟨he, bel⟩ => ?_
  subst he
  exact ⟨_, rfl, _, _, _, [], _, [], hW', trodAll_mk1 (shut_bool Try.underlying4 _), (trodAll_cons_mk (Below.trod laidOut (by kernel_rfl) (of_decide_eq_true (by kernel_rfl)) k0 bel lt0) (trodAll_cons_mk (Below.trod laidOut (by kernel_rfl) (of_decide_eq_true (by kernel_rfl)) k1 bel lt1) (trodAll_cons_mk (Below.trod laidOut (by kernel_rfl) (of_decide_eq_true (by kernel_rfl)) k2 bel lt2) trodAll_mk0))), rfl, bel.frame _, fun h => by cases h⟩

/-- The statement. -/
theorem said : Rows.StoreApartSaid :=
  OpenClaim.holds_of_wide 5 Try.f5 rfl rfl rfl rfl rfl rfl rfl ⟨rfl, rfl, rfl, rfl, rfl⟩ rfl rfl rfl rfl rfl (by kernel_rfl) Try.func5 (by kernel_rfl)
    (of_decide_eq_true (by kernel_rfl)) (by unfold Func.isWrapper; first | (rw [if_pos (by decide +kernel)]; kernel_rfl) | (rw [if_neg (by decide +kernel)]; exact ⟨rfl, rfl⟩))
    (fun os started H enc _ => lifted os started H enc)
#print axioms said
end Go.Proofs.Ytfoojjmokdbpcaa.storeApart
