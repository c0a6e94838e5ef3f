/- Both hold the same: the walk of the law's 'bytes'.
   StoreTears: the law's walk, for every input.
   StoreTears: one loss of power, plainly; the law's walk.
   StoreKeeps: the law's walk. -/
import Derived.Test.YtfoojjmokdbpcaaZ01
import Derived.Test.YtfoojjmokdbpcaaZ03

set_option linter.unusedSimpArgs false
set_option linter.unusedVariables false
namespace Go.Proofs.Ytfoojjmokdbpcaa
open Go.RowKit
attribute [local go_sem ↓] Go.wp_at_zero Go.wp_at_succ

/-- A store that holds these bytes, with power, without a fuse. -/
def full (l : List UInt8) : St := ⟨l.map fun x => (x, false), false, -1, 0, false⟩
theorem full_nw (n : Nat) : nw n = full (List.replicate n 0) := by simp [full, nw]
theorem full_wgo : ∀ (b : List UInt8) (k : Nat) (l : List UInt8), wgo b k (full l) = full (b.foldl (fun (p : List UInt8 × Nat) x => (p.1.set p.2 x, p.2 + 1)) (l, k)).1
  | [], _, _ => rfl
  | x :: r, k, l => by
    unfold wgo
    rw [if_neg (by simp [full])]
    have e : (full l).step k x = full (l.set k x) := by simp [full, St.step, List.map_set]
    rw [e, full_wgo r (k + 1) (l.set k x)]
    rfl
theorem fold_spl : ∀ (b : List UInt8) (k : Nat) (l : List UInt8), k + b.length ≤ l.length → (b.foldl (fun (p : List UInt8 × Nat) x => (p.1.set p.2 x, p.2 + 1)) (l, k)).1 = spl l k b
  | [], k, l, _ => by simp [spl]
  | x :: r, k, l, h => by
    simp only [List.length_cons] at h
    rw [List.foldl_cons, fold_spl r (k + 1) (l.set k x) (by simp; omega)]
    unfold spl
    simp only [List.length_cons]
    have hk : k < l.length := by omega
    rw [List.take_set, List.take_succ_eq_append_getElem hk, List.set_append_right _ _ (by simp; omega), List.drop_set]
    have e : (l.take k).length = k := by simp; omega
    rw [e, Nat.sub_self, if_pos (by omega), show k + 1 + r.length = k + (r.length + 1) by omega]
    simp
theorem full_wr {l b : List UInt8} {k : Nat} (h : k + b.length ≤ l.length) : wrE (full l) k b = 0 ∧ wrS (full l) k b = full (spl l k b) := by
  have hl : (full l).c.length = l.length := by simp [full]
  have hi : inn (full l).c.length k b.length = true := inn_iff.2 ⟨by omega, by omega, by omega⟩
  have hw : wgo b k (full l) = full (spl l k b) := by rw [full_wgo, fold_spl b k l h]
  unfold wrE wrS
  rw [if_pos hi, if_pos (And.intro hi (show (full l).dead = false from rfl)), Int.toNat_natCast, hw]
  exact ⟨by rw [if_neg (show ¬ (full l).dead = true by simp [full]), if_neg (show ¬ (full (spl l k b)).dead = true by simp [full])], rfl⟩
theorem full_no {l b : List UInt8} {k : Nat} (h : ¬ k + b.length ≤ l.length) : wrE (full l) k b = 2 ∧ wrS (full l) k b = full l := by
  have hl : (full l).c.length = l.length := by simp [full]
  have hi : ¬ inn (full l).c.length k b.length = true := by rw [inn_iff]; omega
  unfold wrE wrS
  rw [if_neg hi, if_neg (fun h2 => hi h2.1)]
  exact ⟨rfl, rfl⟩
theorem full_rd (l : List UInt8) (n : Nat) (h : l.length = n) : rdE (full l) 0 n = 0 ∧ rdB (full l) 0 n = l := by
  subst h
  have hl : (full l).c.length = l.length := by simp [full]
  have hi : inn (full l).c.length 0 l.length = true := inn_iff.2 ⟨by omega, by omega, by omega⟩
  have hL : rdL (full l) 0 l.length = l.map fun x => (x, false) := by
    unfold rdL full
    simp only [Int.toNat_zero, List.drop_zero, Int.toNat_natCast]
    rw [List.take_of_length_le (by simp)]
  have e : rdE (full l) 0 l.length = 0 := by
    unfold rdE
    rw [if_pos hi, hL]
    simp [full]
  refine ⟨e, ?_⟩
  unfold rdB
  rw [if_pos e, hL, List.map_map]
  exact List.map_id l

theorem place {z : Int} {m : Nat} (h1 : 1 ≤ m) (h2 : m ≤ 60) : ∃ K : Nat, K < m ∧ (wrap64 (z.tmod m + m)).tmod m = (K : Int) := by
  have a := Int.tmod_lt_of_pos z (show (0 : Int) < m by omega)
  have b := Int.lt_tmod_of_pos z (show (0 : Int) < m by omega)
  rw [IntWalk.wrap64_in _ ⟨by omega, by omega⟩, Int.tmod_eq_emod_of_nonneg (by omega)]
  have c := Int.emod_nonneg (z.tmod m + m) (show (m : Int) ≠ 0 by omega)
  have d := Int.emod_lt_of_pos (z.tmod m + m) (show (0 : Int) < m by omega)
  obtain ⟨K, hK⟩ := Int.eq_ofNat_of_zero_le c
  exact ⟨K, by omega, hK⟩
set_option maxHeartbeats 4000000 in
set_option maxRecDepth 100000 in
theorem storeKeeps_walk (n : Int) (v1 : Value) (zs : List Int) (v2 : Value) (L : List (List UInt8)) (w : World) (hr : Row w v1 (iv zs)) (hz : zs.length ≤ 9223372036854775807) (hzz : ∀ z ∈ zs, -9223372036854775808 ≤ z ∧ z ≤ 9223372036854775807) (hL : Lists w v2 L) (hl : L.length ≤ 9223372036854775807) (hll : ∀ l ∈ L, l.length ≤ 9223372036854775807) :
    Calls Try.prog 7 #[.int .i64 n, v1, v2] w fun e w' => e = .returned (.bool true) ∧ Below w.heap.size w w' := by
  obtain ⟨a1, c1, rfl⟩ := hr.form
  obtain ⟨a2, c2, rfl⟩ := hL.form
  have hil : (iv zs).length = zs.length := by simp [iv]
  rw [hil] at hr ⊢
  by_cases hg : 1 ≤ n ∧ n ≤ 60 ∧ zs.length ≤ 60 ∧ L.length ≤ 60
  · obtain ⟨g1, g2, g3, g4⟩ := hg
    obtain ⟨m, rfl⟩ := Int.eq_ofNat_of_zero_le (show 0 ≤ n by omega)
    have k1 : decide ((m : Int) < 1) = false := by simp; omega
    have k2 : decide ((60 : Int) < m) = false := by simp; omega
    have k3 : decide ((60 : Int) < zs.length) = false := by simp; omega
    have k4 : decide ((60 : Int) < L.length) = false := by simp; omega
    have HR := Lib.hid hr
    have HL := Lib.hid hL
    have HZ := Lib.hid hzz
    obtain ⟨A, hA⟩ : ∃ A, A = zs.length := ⟨_, rfl⟩
    obtain ⟨B, hB⟩ : ∃ A, A = L.length := ⟨_, rfl⟩
    rw [← hA] at k3 HR g3 ⊢
    rw [← hB] at k4 HL g4 ⊢
    have HAB := Lib.hid (And.intro hA hB)
    have HG : Hid (1 ≤ m ∧ m ≤ 60) := ⟨by omega, by omega⟩
    have m0 : (m : Int) ≠ 0 := by omega
    clear hr hL hzz hz hl hll hil hA hB g1 g2
    go_enter Try.func7, Try.ntmps7
    go_wp2_with fail
    refine (newW m w HG.out.1 (by have := HG.out; omega)).mono ?_
    rintro e w1 ⟨p, g, rfl, hp, hg, hP, hB⟩
    obtain ⟨w2, hmk, hown, hb2⟩ := make_zeros m w1 (by have := HG.out; omega)
    have hsz := hB.size
    have hltP := hP.lt
    have HP : Hid (PSt p g m (full (List.replicate m 0)) w2) := by rw [← full_nw]; exact hP.later hb2
    have HO : Hid (OwnB w2 w.heap.size (.slice (some ⟨w1.heap.size, 0, none⟩) m m) (List.replicate m 0)) := OwnB.weak hown hsz
    have HB := Lib.hid (below_of hB hb2)
    obtain ⟨N, hN⟩ : ∃ N, N = w1.heap.size := ⟨_, rfl⟩
    rw [← hN] at hmk HO
    have HN : Hid (w.heap.size ≤ p ∧ w.heap.size ≤ g ∧ w.heap.size ≤ N ∧ p < N ∧ g < N) := ⟨hp, hg, by omega, by omega, by omega⟩
    clear hp hg hP hB hown hb2 hsz hltP hN
    go_wp2_with fail
    clear hmk k1 k2 k3 k4
    go_loopw [10] (fun x wr => ∃ (i : Nat) (l : List UInt8), i ≤ A ∧ i ≤ B ∧ x = .int .i64 i ∧ l.length = m ∧ Hid (PSt p g m (full l) wr) ∧ Hid (OwnB wr w.heap.size (.slice (some ⟨N, 0, none⟩) m m) l) ∧ Hid (Below w.heap.size w wr)) (fun x _ => A - (intOf x).toNat)
    case atStart => exact ⟨0, _, Nat.zero_le _, Nat.zero_le _, rfl, by simp, HP.out, HO.out, HB.out⟩
    case round =>
      obtain ⟨i, l, hiA, hiB, rfl, hlm, HP, HO, HB⟩ := hrel
      have HLM := Lib.hid hlm
      clear hlm
      rcases Nat.lt_or_ge i A with hlt | hge
      · have q1 : decide ((i : Int) < A) = true := by simp; omega
        rcases Nat.lt_or_ge i B with hlt2 | hge2
        · have q2 : decide ((i : Int) < B) = true := by simp; omega
          have h1 : i < A := hlt
          have hz1 : i < zs.length := by have := HAB.out; omega
          have hl1 : i < L.length := by have := HAB.out; omega
          obtain ⟨b1, o1, rfl, hb1, hc1⟩ := (HR.out.later HB.out).at (iv_at hz1)
          obtain ⟨b2, o2, rfl, hb2, ua, uc, hc2, hu⟩ := (show Lists w (.slice a2 B c2) L from HL.out).at hl1
          have hc2 := cell_later HB.out hc2
          obtain ⟨z, hz⟩ : ∃ z, z = zs[i] := ⟨_, rfl⟩
          rw [← hz] at hc1
          obtain ⟨b, hb⟩ : ∃ b, b = L[i] := ⟨_, rfl⟩
          rw [← hb] at hc2 hu
          obtain ⟨K, hK, eK⟩ := place (z := z) (m := m) HG.out.1 HG.out.2
          have hv : ∀ W, Chg [p, g] wr W → Bytes W (.slice ua b.length uc) b := fun W hW => hu.later (hW.on HB.out (by have := HN.out; simp; omega))
          have HWR := Lib.hid (writeS HP.out (K : Int) (by have := HG.out; omega) _ b hv)
          have e3 : wrap64 ((m : Int) - K) = m - K := IntWalk.wrap64_in _ ⟨by omega, by have := HG.out; omega⟩
          have HV := Lib.hid hv
          have HKm := Lib.hid hK
          have HUU := Lib.hid hu
          clear hu hz hb hv hb1 hb2
          unfold WrA at HWR
          by_cases hf : K + b.length ≤ m
          · have k5 : decide ((m : Int) - K < b.length) = false := by simp; omega
            obtain ⟨e4, e5⟩ := full_wr (l := l) (b := b) (k := K) (by rw [HLM.out]; exact hf)
            rw [e4, e5] at HWR
            clear e4 e5
            have hcut := cut_front N m m K (by omega) hK
            go_wp2_with fail
            refine HWR.out.mono ?_
            rintro e w3 ⟨rfl, hP3, hC3⟩
            have HP3 := Lib.hid hP3
            have HB3 := Lib.hid (hC3.on HB.out (by have := HN.out; simp; omega))
            have HO3 : Hid (OwnB w3 w.heap.size (.slice (some ⟨N, 0, none⟩) m m) l) := hC3.owns HO.out (fun k hk => by simp [Value.ownBlock] at hk; have := HN.out; simp; omega)
            have HC3 := Lib.hid hC3
            clear hP3 hC3
            have HF := Lib.hid hf
            by_cases h0 : b.length = 0
            · have hsp : spl l K b = l := by
                have := List.length_eq_zero_iff.1 h0
                subst this; simp [spl]
              have HP4 : Hid (PSt p g m (full (spl l K b)) w3) := HP3
              have HO4 : Hid (OwnB w3 w.heap.size (.slice (some ⟨N, 0, none⟩) m m) (spl l K b)) := by rw [hsp]; exact HO3
              have HB4 := HB3
              have H0 := Lib.hid h0
              clear hsp h0
              go_wp2_with (refine wpList_copy_nothing rfl (.tmp 85) (.tmp 86) _ _ rfl 5 Try.underlying30 (by kernel_rfl) _ _ _ _ _ _ rfl rfl (by rw [H0.out]; exact Nat.zero_min _) ?_)
              have hlen : (spl l K b).length = m := by rw [spl_length (by rw [HLM.out]; exact hf)]; exact HLM.out
              obtain ⟨f4, f5⟩ := full_rd (spl l K b) m hlen
              have HRD := Lib.hid (readS HP4.out 0 m (by omega))
              unfold RdA at HRD
              rw [f4, f5] at HRD
              obtain ⟨l', hl'⟩ : ∃ l', l' = spl l K b := ⟨_, rfl⟩
              rw [← hl'] at HRD HP4 HO4 hlen
              have HLEN := Lib.hid hlen
              clear f4 f5 hl' hlen
              go_wp2_with fail
              refine HRD.out.mono ?_
              rintro e w5 ⟨v5, rfl, hby, hb5⟩
              obtain ⟨a5, c5, rfl⟩ := hby.form
              have HP5 := Lib.hid (HP4.out.later hb5)
              have HO5 := Lib.hid (OwnB.later HO4.out hb5)
              have HB5 := Lib.hid (below_of HB4.out hb5)
              have s1 := hby.str (P := Try.prog) (src := 30) (dst := 9) Try.underlying30 Try.underlying5 Try.underlying9
              have s2 := (OwnB.bytes HO5.out).str (P := Try.prog) (src := 30) (dst := 9) Try.underlying30 Try.underlying5 Try.underlying9
              obtain ⟨q, hq⟩ : ∃ q, q = l'.length := ⟨_, rfl⟩
              rw [← hq] at s1 ⊢
              obtain ⟨S, hS⟩ : ∃ S : ByteArray, S = ⟨l'.toArray⟩ := ⟨_, rfl⟩
              rw [← hS] at s1 s2
              clear hby hb5 hq hS
              go_wp2_with fail
              go_roundw
              case rel => exact ⟨i + 1, l', by omega, by omega, by go_num, HLEN.out, HP5, HO5, HB5⟩
              case measure => simp [intOf]; omega
            · obtain ⟨bl, bo, rfl, _⟩ := HUU.out.at (i := 0) (by omega)
              obtain ⟨g', cap', cur, e1, _, hcur, _, hcs⟩ := (show OwnB w3 w.heap.size (.slice (some ⟨N, 0, none⟩) l.length m) l by rw [HLM.out]; exact HO3.out).row (by have := HLM.out; omega)
              simp only [Value.slice.injEq, Option.some.injEq, Addr.mk.injEq, and_true] at e1
              obtain ⟨rfl, _, rfl⟩ := e1
              have HCUR := Lib.hid hcur
              have HCS := Lib.hid hcs
              obtain ⟨X, hX⟩ : ∃ X, X = bv b := ⟨_, rfl⟩
              have HX := Lib.hid hX
              have HXL : Hid (X.length = b.length) := by show _ = _; rw [hX]; simp [bv]
              clear hcur hcs hX
              go_wp2_with (with_reducible refine wpList_copy_put rfl (.tmp 85) (.tmp 86) rfl N K (m - K) (m - K) ⟨bl, bo, none⟩ b.length uc rfl rfl cur HCUR.out X ?_ ?_ ?_ ?_ ?_)
              · rw [HXL.out]; exact (Nat.min_eq_left (by have := HF.out; omega)).symm
              · rw [HX.out]; exact ((HV.out _ HC3.out).news)
              · rw [HXL.out]; have := HF.out; have := HCS.out; omega
              · rw [HX.out]; exact bv_one _
              · intro w4 hr hk hbl
                have hx : K + b.length ≤ l.length := by rw [HLM.out]; exact HF.out
                have ho := OwnB.splice (w' := w4) (show OwnB w3 w.heap.size (.slice (some ⟨N, 0, none⟩) l.length m) l by rw [HLM.out]; exact HO3.out) HCUR.out (by rw [← HX.out]; exact hr.out) hx
                rw [spl_length hx, HLM.out] at ho
                have HO4 := Lib.hid ho
                have hc4 : Chg [N] w3 w4 := ⟨hbl.out 0 (Nat.zero_le _), fun k _ hkn => hk.out k (by simpa using hkn)⟩
                have HP4 := Lib.hid (HP3.out.chg hc4 (by have := HN.out; simp; omega) (by have := HN.out; simp; omega))
                have HB4 := Lib.hid (hc4.on HB3.out (by have := HN.out; simp; omega))
                have hf := HF.out
                clear ho hc4 hr hk hbl hx
                have hlen : (spl l K b).length = m := by rw [spl_length (by rw [HLM.out]; exact hf)]; exact HLM.out
                obtain ⟨f4, f5⟩ := full_rd (spl l K b) m hlen
                have HRD := Lib.hid (readS HP4.out 0 m (by omega))
                unfold RdA at HRD
                rw [f4, f5] at HRD
                obtain ⟨l', hl'⟩ : ∃ l', l' = spl l K b := ⟨_, rfl⟩
                rw [← hl'] at HRD HP4 HO4 hlen
                have HLEN := Lib.hid hlen
                clear f4 f5 hl' hlen
                go_wp2_with fail
                refine HRD.out.mono ?_
                rintro e w5 ⟨v5, rfl, hby, hb5⟩
                obtain ⟨a5, c5, rfl⟩ := hby.form
                have HP5 := Lib.hid (HP4.out.later hb5)
                have HO5 := Lib.hid (OwnB.later HO4.out hb5)
                have HB5 := Lib.hid (below_of HB4.out hb5)
                have s1 := hby.str (P := Try.prog) (src := 30) (dst := 9) Try.underlying30 Try.underlying5 Try.underlying9
                have s2 := (OwnB.bytes HO5.out).str (P := Try.prog) (src := 30) (dst := 9) Try.underlying30 Try.underlying5 Try.underlying9
                obtain ⟨q, hq⟩ : ∃ q, q = l'.length := ⟨_, rfl⟩
                rw [← hq] at s1 ⊢
                obtain ⟨S, hS⟩ : ∃ S : ByteArray, S = ⟨l'.toArray⟩ := ⟨_, rfl⟩
                rw [← hS] at s1 s2
                clear hby hb5 hq hS
                go_wp2_with fail
                go_roundw
                case rel => exact ⟨i + 1, l', by omega, by omega, by go_num, HLEN.out, HP5, HO5, HB5⟩
                case measure => simp [intOf]; omega
          · have k5 : decide ((m : Int) - K < b.length) = true := by simp; omega
            obtain ⟨e4, e5⟩ := full_no (l := l) (b := b) (k := K) (by rw [HLM.out]; exact hf)
            rw [e4, e5] at HWR
            clear e4 e5 hf
            go_wp2_with fail
            refine HWR.out.mono ?_
            rintro e w3 ⟨rfl, hP3, hC3⟩
            have HP3 := Lib.hid hP3
            have HB3 := Lib.hid (hC3.on HB.out (by have := HN.out; simp; omega))
            have HO3 : Hid (OwnB w3 w.heap.size (.slice (some ⟨N, 0, none⟩) m m) l) := hC3.owns HO.out (fun k hk => by simp [Value.ownBlock] at hk; have := HN.out; simp; omega)
            clear hP3 hC3
            go_wp2_with fail
            go_roundw
            case rel => exact ⟨i + 1, l, by omega, by omega, by go_num, HLM.out, HP3, HO3, HB3⟩
            case measure => simp [intOf]; omega
        · have q2 : decide ((i : Int) < B) = false := by simp; omega
          go_wp2_with fail
          refine (knownL _).mono ?_
          rintro e w9 ⟨rfl, hb9⟩
          have HB9 := Lib.hid (below_of HB.out hb9)
          clear hb9
          go_wp2_with fail
          go_ret
          exact ⟨rfl, HB9.out⟩
      · have q1 : decide ((i : Int) < A) = false := by simp; omega
        go_wp2_with fail
        refine (knownL _).mono ?_
        rintro e w9 ⟨rfl, hb9⟩
        have HB9 := Lib.hid (below_of HB.out hb9)
        clear hb9
        go_wp2_with fail
        go_ret
        exact ⟨rfl, HB9.out⟩
  · have HK := Lib.hid (knownL w)
    have : n < 1 ∨ 60 < n ∨ 60 < zs.length ∨ 60 < L.length := by omega
    clear hr hL hz hzz hl hll hil hg
    by_cases h1 : n < 1
    · have k1 : decide (n < 1) = true := by simp [h1]
      clear this h1
      go_enter Try.func7, Try.ntmps7
      go_wp2_with fail
      refine HK.out.mono ?_
      rintro e w1 ⟨rfl, hb⟩
      go_wp2_with fail
      go_ret
      exact ⟨rfl, hb⟩
    · have k1 : decide (n < 1) = false := by simp; omega
      by_cases h2 : 60 < n
      · have k2 : decide (60 < n) = true := by simp [h2]
        clear this h1 h2
        go_enter Try.func7, Try.ntmps7
        go_wp2_with fail
        refine HK.out.mono ?_
        rintro e w1 ⟨rfl, hb⟩
        go_wp2_with fail
        go_ret
        exact ⟨rfl, hb⟩
      · have k2 : decide (60 < n) = false := by simp; omega
        by_cases h3 : 60 < zs.length
        · have k3 : decide ((60 : Int) < zs.length) = true := by simp; omega
          clear this h1 h2 h3
          go_enter Try.func7, Try.ntmps7
          go_wp2_with fail
          refine HK.out.mono ?_
          rintro e w1 ⟨rfl, hb⟩
          go_wp2_with fail
          go_ret
          exact ⟨rfl, hb⟩
        · have k3 : decide ((60 : Int) < zs.length) = false := by simp; omega
          have k4 : decide ((60 : Int) < L.length) = true := by simp; omega
          clear this h1 h2 h3
          go_enter Try.func7, Try.ntmps7
          go_wp2_with fail
          refine HK.out.mono ?_
          rintro e w1 ⟨rfl, hb⟩
          go_wp2_with fail
          go_ret
          exact ⟨rfl, hb⟩
end Go.Proofs.Ytfoojjmokdbpcaa

namespace Go.Proofs.Ytfoojjmokdbpcaa
open Go.RowKit
attribute [local go_sem ↓] Go.wp_at_zero Go.wp_at_succ

theorem wgo_torn : ∀ (b : List UInt8) (k : Nat) (s : St) (f : Nat), s.fuse = f → f < b.length → k + b.length ≤ s.c.length →
    (wgo b k s).dead = true ∧ (wgo b k s).c[k + f]? = some (s.by_, s.torn) ∧ ∀ j, j ≠ k + f → (wgo b k s).c[j]? = if k ≤ j ∧ j < k + f then (b[j - k]?).map (fun x => (x, false)) else s.c[j]?
  | [], _, _, _, _, h, _ => by simp at h
  | x :: r, k, s, f, hf, hb, hl => by
    simp only [List.length_cons] at hb hl
    unfold wgo
    cases f with
    | zero =>
      rw [if_pos (by rw [hf]; rfl)]
      refine ⟨rfl, ?_, fun j hj => ?_⟩
      · simp only [St.tear, Nat.add_zero]
        rw [List.getElem?_set_self (by omega)]
      · simp only [St.tear]
        rw [List.getElem?_set_ne (by omega), if_neg (by omega)]
    | succ f =>
      rw [if_neg (by rw [hf]; omega)]
      have hs : (s.step k x).fuse = (f : Int) := by unfold St.step; simp only; rw [if_pos (by omega)]; omega
      have hl2 : (s.step k x).c.length = s.c.length := by simp [St.step]
      obtain ⟨h1, h2, h3⟩ := wgo_torn r (k + 1) (s.step k x) f hs (by omega) (by rw [hl2]; omega)
      refine ⟨h1, ?_, fun j hj => ?_⟩
      · rw [show k + (f + 1) = k + 1 + f by omega]; exact h2
      · rw [h3 j (by omega)]
        by_cases hk : j = k
        · subst hk
          rw [if_neg (by omega), if_pos (by omega)]
          simp only [St.step, Nat.sub_self]
          rw [List.getElem?_set_self (by omega)]
          rfl
        · by_cases h4 : k ≤ j ∧ j < k + (f + 1)
          · rw [if_pos h4, if_pos (by omega), show j - k = (j - (k + 1)) + 1 by omega]
            rfl
          · rw [if_neg h4, if_neg (by omega)]
            simp only [St.step]
            rw [List.getElem?_set_ne (by omega)]
theorem wgo_whole : ∀ (b : List UInt8) (k : Nat) (s : St) (f : Nat), s.fuse = f → b.length ≤ f → s.dead = false → k + b.length ≤ s.c.length →
    (wgo b k s).dead = false ∧ ∀ j, (wgo b k s).c[j]? = if k ≤ j ∧ j < k + b.length then (b[j - k]?).map (fun x => (x, false)) else s.c[j]?
  | [], k, s, f, _, _, hd, _ => ⟨hd, fun j => by rw [if_neg (by simp only [List.length_nil]; omega)]; rfl⟩
  | x :: r, k, s, f, hf, hb, hd, hl => by
    simp only [List.length_cons] at hb hl
    unfold wgo
    cases f with
    | zero => omega
    | succ f =>
      rw [if_neg (by rw [hf]; omega)]
      have hs : (s.step k x).fuse = (f : Int) := by unfold St.step; simp only; rw [if_pos (by omega)]; omega
      have hl2 : (s.step k x).c.length = s.c.length := by simp [St.step]
      obtain ⟨h1, h3⟩ := wgo_whole r (k + 1) (s.step k x) f hs (by omega) hd (by rw [hl2]; omega)
      refine ⟨h1, fun j => ?_⟩
      rw [h3 j]
      simp only [List.length_cons]
      by_cases hk : j = k
      · subst hk
        rw [if_neg (by omega), if_pos (by omega)]
        simp only [St.step, Nat.sub_self]
        rw [List.getElem?_set_self (by omega)]
        rfl
      · by_cases h4 : k ≤ j ∧ j < k + (r.length + 1)
        · rw [if_pos h4, if_pos (by omega), show j - k = (j - (k + 1)) + 1 by omega]
          rfl
        · rw [if_neg h4, if_neg (by omega)]
          simp only [St.step]
          rw [List.getElem?_set_ne (by omega)]
/-- One byte is read. -/
theorem rd_one {s : St} {i : Nat} {c : Ce} (h : s.c[i]? = some c) (hd : s.dead = false) : rdE s i 1 = (if c.2 = true then 8 else 0) ∧ rdB s i 1 = (if c.2 = true then [] else [c.1]) := by
  have hi := (List.getElem?_eq_some_iff.1 h).1
  have hL : rdL s i 1 = [c] := by
    unfold rdL
    rw [Int.toNat_natCast, show (1 : Int).toNat = 1 from rfl, List.drop_eq_getElem_cons hi]
    have : s.c[i] = c := (List.getElem?_eq_some_iff.1 h).2
    simp [this]
  have e : rdE s i 1 = (if c.2 = true then 8 else 0) := by
    unfold rdE
    rw [if_pos (inn_iff.2 ⟨by omega, by omega, by omega⟩), if_neg (by rw [hd]; simp), hL]
    simp
  refine ⟨e, ?_⟩
  unfold rdB
  rw [e, hL]
  cases hc : c.2 <;> simp
/-- A store that holds these bytes, with a fuse. -/
def fused (l : List UInt8) (f : Nat) (x : UInt8) (t : Bool) : St := fuS (full l) f x t
/-- Behind the second write, raised. -/
def torn (l0 l1 : List UInt8) (f : Nat) (x : UInt8) (t : Bool) : St := raS (wgo l1 0 (fused l0 f x t))
theorem fused_at (l : List UInt8) (f : Nat) (x : UInt8) (t : Bool) (j : Nat) : (fused l f x t).c[j]? = (l[j]?).map (fun x => (x, false)) := by simp [fused, fuS, full]
theorem torn_yes {l0 l1 : List UInt8} {f : Nat} {x : UInt8} {t : Bool} (h : f < l1.length) (hl : l1.length ≤ l0.length) :
    (wgo l1 0 (fused l0 f x t)).dead = true ∧ (torn l0 l1 f x t).c[f]? = some (x, t) ∧ ∀ j, j ≠ f → (torn l0 l1 f x t).c[j]? = if j < f then (l1[j]?).map (fun x => (x, false)) else (l0[j]?).map (fun x => (x, false)) := by
  have hl2 : (fused l0 f x t).c.length = l0.length := by simp [fused, fuS, full]
  obtain ⟨h1, h2, h3⟩ := wgo_torn l1 0 (fused l0 f x t) f rfl h (by rw [hl2]; omega)
  refine ⟨h1, ?_, fun j hj => ?_⟩
  · rw [Nat.zero_add] at h2; exact h2
  · have := h3 j (by omega)
    rw [fused_at] at this
    show (wgo l1 0 (fused l0 f x t)).c[j]? = _
    rw [this]
    by_cases h4 : j < f
    · rw [if_pos (by omega), if_pos h4]; rfl
    · rw [if_neg (by omega), if_neg h4]
theorem torn_no {l0 l1 : List UInt8} {f : Nat} {x : UInt8} {t : Bool} (h : l1.length ≤ f) (hl : l1.length ≤ l0.length) :
    (wgo l1 0 (fused l0 f x t)).dead = false ∧ ∀ j, (torn l0 l1 f x t).c[j]? = if j < l1.length then (l1[j]?).map (fun x => (x, false)) else (l0[j]?).map (fun x => (x, false)) := by
  have hl2 : (fused l0 f x t).c.length = l0.length := by simp [fused, fuS, full]
  obtain ⟨h1, h3⟩ := wgo_whole l1 0 (fused l0 f x t) f rfl h rfl (by rw [hl2]; omega)
  refine ⟨h1, fun j => ?_⟩
  have := h3 j
  rw [fused_at] at this
  show (wgo l1 0 (fused l0 f x t)).c[j]? = _
  rw [this]
  by_cases h4 : j < l1.length
  · rw [if_pos (by omega), if_pos h4]; rfl
  · rw [if_neg (by omega), if_neg h4]
theorem fused_wr {l0 l1 : List UInt8} {f : Nat} {x : UInt8} {t : Bool} (hl : l1.length ≤ l0.length) : wrE (fused l0 f x t) 0 l1 = pe (wgo l1 0 (fused l0 f x t)) ∧ wrS (fused l0 f x t) 0 l1 = wgo l1 0 (fused l0 f x t) := by
  have hl2 : (fused l0 f x t).c.length = l0.length := by simp [fused, fuS, full]
  have hi : inn (fused l0 f x t).c.length 0 l1.length = true := inn_iff.2 ⟨by omega, by omega, by omega⟩
  unfold wrE wrS pe
  rw [if_pos hi, if_pos (And.intro hi (show (fused l0 f x t).dead = false from rfl)), if_neg (show ¬ (fused l0 f x t).dead = true by simp [fused, fuS, full])]
  exact ⟨rfl, rfl⟩
set_option maxHeartbeats 8000000 in
set_option maxRecDepth 100000 in
theorem storeTears_no (a0 : Option Addr) (c0 : Nat) (l0 : List UInt8) (a1 : Option Addr) (c1 : Nat) (l1 : List UInt8) (f : Nat) (x : UInt8) (t : Bool) (w : World) (h0 : Bytes w (.slice a0 l0.length c0) l0) (h1 : Bytes w (.slice a1 l1.length c1) l1) (g0 : 1 ≤ l0.length) (g1 : l0.length ≤ 100) (g2 : l1.length ≤ l0.length) (g3 : l1.length ≤ f) (g4 : f ≤ 9223372036854775807) :
    Calls Try.prog 4 #[.slice a0 l0.length c0, .slice a1 l1.length c1, .int .i64 (f : Int), .int .u8 (x.toNat : Int), .bool t] w fun e w' => e = .returned (.bool true) ∧ Below w.heap.size w w' := by
  have H0 := Lib.hid h0
  have H1 := Lib.hid h1
  obtain ⟨e1, e2⟩ := full_wr (l := List.replicate l0.length 0) (b := l0) (k := 0) (by simp)
  have e3 : spl (List.replicate l0.length 0) 0 l0 = l0 := by simp [spl]
  rw [e3] at e2
  have e1 : wrE (full (List.replicate l0.length 0)) 0 l0 = 0 := e1
  have e2 : wrS (full (List.replicate l0.length 0)) 0 l0 = full l0 := e2
  obtain ⟨e4, e5⟩ := fused_wr (l0 := l0) (l1 := l1) (f := f) (x := x) (t := t) g2
  obtain ⟨hdead, hT⟩ := torn_no (l0 := l0) (l1 := l1) (f := f) (x := x) (t := t) g3 g2
  have e6 : pe (wgo l1 0 (fused l0 f x t)) = 0 := by unfold pe; rw [hdead]; simp
  rw [e6] at e4
  have HE := Lib.hid (And.intro e1 (And.intro e2 (And.intro e4 e5)))
  have HT := Lib.hid hT
  have HDD := Lib.hid hdead
  obtain ⟨n, hn⟩ : ∃ n, n = l0.length := ⟨_, rfl⟩
  obtain ⟨m, hm⟩ : ∃ m, m = l1.length := ⟨_, rfl⟩
  have k1 : decide ((n : Int) < 1) = false := by simp; omega
  have k2 : decide ((100 : Int) < n) = false := by simp; omega
  have k3 : decide (n < m) = false := by simp; omega
  have k4 : decide ((f : Int) < 0) = false := decide_eq_false (by omega)
  have k5 : decide (f < m) = false := by simp; omega
  have n9 : (n : Int) ≤ 100 := by omega
  have HN : Hid (n = l0.length ∧ m = l1.length ∧ 1 ≤ n ∧ n ≤ 100 ∧ m ≤ n ∧ m ≤ f ∧ f ≤ 9223372036854775807) := ⟨hn, hm, by omega, by omega, by omega, by omega, g4⟩
  rw [← hn] at H0 ⊢
  rw [← hm] at H1 ⊢
  obtain ⟨y, hy⟩ : ∃ y : Int, y = (x.toNat : Int) := ⟨_, rfl⟩
  rw [← hy]
  have HY := Lib.hid hy
  clear h0 h1 g0 g1 g2 g3 g4 e1 e2 e3 e4 e5 e6 hdead hT hn hm hy
  go_enter Try.func4, Try.ntmps4
  go_wp2_with fail
  refine (newW n w HN.out.2.2.1 (by have := HN.out; omega)).mono ?_
  rintro e w1 ⟨p, g, rfl, hp, hg, hP, hB⟩
  have HG := Lib.hid (And.intro hp hg)
  have HB := Lib.hid hB
  have HWR := Lib.hid (writeS hP 0 (by omega) (.slice a0 n c0) l0 (fun W hW => (show Bytes w _ l0 from H0.out).later (hW.on HB.out (by have := HG.out; simp; omega))))
  unfold WrA at HWR
  rw [full_nw, HN.out.1, HE.out.1, HE.out.2.1, ← HN.out.1] at HWR
  clear hp hg hP hB
  go_wp2_with fail
  refine HWR.out.mono ?_
  rintro e w2 ⟨rfl, hP, hC⟩
  have HB := Lib.hid (hC.on HB.out (by have := HG.out; simp; omega))
  have HF := Lib.hid (fuseS hP (f : Int) x t (by have := HN.out; omega))
  rw [← HY.out] at HF
  clear hP hC
  go_wp2_with fail
  refine HF.out.mono ?_
  rintro e w3 ⟨⟨v, rfl⟩, hP, hC⟩
  have HB := Lib.hid (hC.on HB.out (by have := HG.out; simp; omega))
  have HWR := Lib.hid (writeS (show PSt p g n (fused l0 f x t) w3 from hP) 0 (by omega) (.slice a1 m c1) l1 (fun W hW => (show Bytes w _ l1 from H1.out).later (hW.on HB.out (by have := HG.out; simp; omega))))
  unfold WrA at HWR
  rw [HE.out.2.2.1, HE.out.2.2.2] at HWR
  clear hP hC
  go_wp2_with fail
  refine HWR.out.mono ?_
  rintro e w4 ⟨rfl, hP, hC⟩
  have HB := Lib.hid (hC.on HB.out (by have := HG.out; simp; omega))
  have HP := Lib.hid hP
  have HDE := Lib.hid (deadS hP)
  rw [HDD.out] at HDE
  clear hP hC
  go_wp2_with fail
  refine HDE.out.mono ?_
  rintro e w5 ⟨rfl, rfl⟩
  go_wp2_with fail
  refine (raiseS HP.out).mono ?_
  rintro e w6 ⟨⟨v, rfl⟩, hP, hC⟩
  have HB := Lib.hid (hC.on HB.out (by have := HG.out; simp; omega))
  have HP : Hid (PSt p g n (torn l0 l1 f x t) w6) := hP
  clear hP hC
  go_wp2_with fail
  clear k1 k2 k3 k4 k5
  go_loopw [15] (fun z wr => ∃ i : Nat, i ≤ n ∧ z = .int .i64 i ∧ Hid (Below w6.heap.size w6 wr)) (fun z _ => n - (intOf z).toNat)
  case atStart => exact ⟨0, Nat.zero_le _, rfl, Below.refl _ _⟩
  case round =>
    obtain ⟨i, hi, rfl, HR⟩ := hrel
    have HBW := Lib.hid (below_of HB.out HR.out)
    rcases Nat.lt_or_ge i n with hlt | hge
    · have q0 : (i : Int) < n := by omega
      have hl0 : i < l0.length := by have := HN.out; omega
      have hP := HP.out.later HR.out
      obtain ⟨b0, o0, rfl, hb0, hc0⟩ := ((show Bytes w (.slice a0 n c0) l0 from H0.out)).at hl0
      have hc0 := cell_later HBW.out hc0
      obtain ⟨z, hz⟩ : ∃ z, z = l0[i] := ⟨_, rfl⟩
      rw [← hz] at hc0
      have hz? : l0[i]? = some z := by rw [hz]; exact List.getElem?_eq_getElem hl0
      by_cases hm : i < m
      · have hl1 : i < l1.length := by have := HN.out; omega
        have q1 := (show decide (i < m) = true by simp; omega)
        obtain ⟨b1, o1, rfl, hb1, hc1⟩ := ((show Bytes w (.slice a1 m c1) l1 from H1.out)).at hl1
        have hc1 := cell_later HBW.out hc1
        obtain ⟨z1, hz1⟩ : ∃ z, z = l1[i] := ⟨_, rfl⟩
        rw [← hz1] at hc1
        have hz1? : l1[i]? = some z1 := by rw [hz1]; exact List.getElem?_eq_getElem hl1
        have hce : (torn l0 l1 f x t).c[i]? = some (z1, false) := by rw [HT.out i, if_pos hl1, hz1?]; rfl
        obtain ⟨r1, r2⟩ := rd_one hce rfl
        have HRD := Lib.hid (readS hP i 1 (by have := HN.out; omega))
        unfold RdA at HRD
        rw [r1, r2, if_neg (by simp), if_neg (by simp)] at HRD
        clear hP hz? r1 r2 hce hb0 hb1 hz1?
        go_wp2_with fail
        refine HRD.out.mono ?_
        rintro e w7 ⟨v7, rfl, hby, hb7⟩
        have HR7 := Lib.hid (below_of HR.out hb7)
        have hc0 := cell_later hb7 hc0
        have hc1 := cell_later hb7 hc1
        obtain ⟨a7, c7, rfl⟩ := hby.form
        obtain ⟨b7, o7, rfl, _, hc7⟩ := hby.at (i := 0) (by simp)
        simp only [List.getElem_cons_zero, Nat.add_zero] at hc7
        clear hby hb7
        have hl7 : ([z1] : List UInt8).length = 1 := rfl
        rw [hl7]
        go_wp2_with fail
        go_roundw
        case rel => exact ⟨i + 1, by omega, by go_num, HR7⟩
        case measure => simp [intOf]; omega
      · have hl1 : ¬ i < l1.length := by have := HN.out; omega
        have q1 := (show decide (i < m) = false by simp; omega)
        have hce : (torn l0 l1 f x t).c[i]? = some (z, false) := by rw [HT.out i, if_neg hl1, hz?]; rfl
        obtain ⟨r1, r2⟩ := rd_one hce rfl
        have HRD := Lib.hid (readS hP i 1 (by have := HN.out; omega))
        unfold RdA at HRD
        rw [r1, r2, if_neg (by simp), if_neg (by simp)] at HRD
        clear hP hz? r1 r2 hce hb0
        go_wp2_with fail
        refine HRD.out.mono ?_
        rintro e w7 ⟨v7, rfl, hby, hb7⟩
        have HR7 := Lib.hid (below_of HR.out hb7)
        have hc0 := cell_later hb7 hc0
        obtain ⟨a7, c7, rfl⟩ := hby.form
        obtain ⟨b7, o7, rfl, _, hc7⟩ := hby.at (i := 0) (by simp)
        simp only [List.getElem_cons_zero, Nat.add_zero] at hc7
        clear hby hb7
        have hl7 : ([z] : List UInt8).length = 1 := rfl
        rw [hl7]
        go_wp2_with fail
        go_roundw
        case rel => exact ⟨i + 1, by omega, by go_num, HR7⟩
        case measure => simp [intOf]; omega
    · have e : i = n := by omega
      subst e
      have q0 : ¬ (i : Int) < i := by omega
      go_wp2_with fail
      refine (knownL _).mono ?_
      rintro e w9 ⟨rfl, hb9⟩
      have HB9 := Lib.hid (below_of HBW.out hb9)
      clear hb9
      go_wp2_with fail
      go_ret
      exact ⟨rfl, HB9.out⟩
set_option maxHeartbeats 8000000 in
set_option maxRecDepth 100000 in
theorem storeTears_yes (a0 : Option Addr) (c0 : Nat) (l0 : List UInt8) (a1 : Option Addr) (c1 : Nat) (l1 : List UInt8) (f : Nat) (x : UInt8) (t : Bool) (w : World) (h0 : Bytes w (.slice a0 l0.length c0) l0) (h1 : Bytes w (.slice a1 l1.length c1) l1) (g0 : 1 ≤ l0.length) (g1 : l0.length ≤ 100) (g2 : l1.length ≤ l0.length) (g3 : f < l1.length) (g4 : f ≤ 9223372036854775807) :
    Calls Try.prog 4 #[.slice a0 l0.length c0, .slice a1 l1.length c1, .int .i64 (f : Int), .int .u8 (x.toNat : Int), .bool t] w fun e w' => e = .returned (.bool true) ∧ Below w.heap.size w w' := by
  have H0 := Lib.hid h0
  have H1 := Lib.hid h1
  obtain ⟨e1, e2⟩ := full_wr (l := List.replicate l0.length 0) (b := l0) (k := 0) (by simp)
  have e3 : spl (List.replicate l0.length 0) 0 l0 = l0 := by simp [spl]
  rw [e3] at e2
  have e1 : wrE (full (List.replicate l0.length 0)) 0 l0 = 0 := e1
  have e2 : wrS (full (List.replicate l0.length 0)) 0 l0 = full l0 := e2
  obtain ⟨e4, e5⟩ := fused_wr (l0 := l0) (l1 := l1) (f := f) (x := x) (t := t) g2
  obtain ⟨hdead, hT⟩ := torn_yes (l0 := l0) (l1 := l1) (f := f) (x := x) (t := t) g3 g2
  have e6 : pe (wgo l1 0 (fused l0 f x t)) = 7 := by unfold pe; rw [hdead]; simp
  rw [e6] at e4
  have HE := Lib.hid (And.intro e1 (And.intro e2 (And.intro e4 e5)))
  have HT := Lib.hid hT
  have HDD := Lib.hid hdead
  obtain ⟨n, hn⟩ : ∃ n, n = l0.length := ⟨_, rfl⟩
  obtain ⟨m, hm⟩ : ∃ m, m = l1.length := ⟨_, rfl⟩
  have k1 : decide ((n : Int) < 1) = false := by simp; omega
  have k2 : decide ((100 : Int) < n) = false := by simp; omega
  have k3 : decide (n < m) = false := by simp; omega
  have k4 : decide ((f : Int) < 0) = false := decide_eq_false (by omega)
  have k5 : decide (f < m) = true := by simp; omega
  have n9 : (n : Int) ≤ 100 := by omega
  have HN : Hid (n = l0.length ∧ m = l1.length ∧ 1 ≤ n ∧ n ≤ 100 ∧ m ≤ n ∧ f < m ∧ f ≤ 9223372036854775807) := ⟨hn, hm, by omega, by omega, by omega, by omega, g4⟩
  rw [← hn] at H0 ⊢
  rw [← hm] at H1 ⊢
  obtain ⟨y, hy⟩ : ∃ y : Int, y = (x.toNat : Int) := ⟨_, rfl⟩
  rw [← hy]
  have HY := Lib.hid hy
  clear h0 h1 g0 g1 g2 g3 g4 e1 e2 e3 e4 e5 e6 hdead hT hn hm hy
  go_enter Try.func4, Try.ntmps4
  go_wp2_with fail
  refine (newW n w HN.out.2.2.1 (by have := HN.out; omega)).mono ?_
  rintro e w1 ⟨p, g, rfl, hp, hg, hP, hB⟩
  have HG := Lib.hid (And.intro hp hg)
  have HB := Lib.hid hB
  have HWR := Lib.hid (writeS hP 0 (by omega) (.slice a0 n c0) l0 (fun W hW => (show Bytes w _ l0 from H0.out).later (hW.on HB.out (by have := HG.out; simp; omega))))
  unfold WrA at HWR
  rw [full_nw, HN.out.1, HE.out.1, HE.out.2.1, ← HN.out.1] at HWR
  clear hp hg hP hB
  go_wp2_with fail
  refine HWR.out.mono ?_
  rintro e w2 ⟨rfl, hP, hC⟩
  have HB := Lib.hid (hC.on HB.out (by have := HG.out; simp; omega))
  have HF := Lib.hid (fuseS hP (f : Int) x t (by have := HN.out; omega))
  rw [← HY.out] at HF
  clear hP hC
  go_wp2_with fail
  refine HF.out.mono ?_
  rintro e w3 ⟨⟨v, rfl⟩, hP, hC⟩
  have HB := Lib.hid (hC.on HB.out (by have := HG.out; simp; omega))
  have HWR := Lib.hid (writeS (show PSt p g n (fused l0 f x t) w3 from hP) 0 (by omega) (.slice a1 m c1) l1 (fun W hW => (show Bytes w _ l1 from H1.out).later (hW.on HB.out (by have := HG.out; simp; omega))))
  unfold WrA at HWR
  rw [HE.out.2.2.1, HE.out.2.2.2] at HWR
  clear hP hC
  go_wp2_with fail
  refine HWR.out.mono ?_
  rintro e w4 ⟨rfl, hP, hC⟩
  have HB := Lib.hid (hC.on HB.out (by have := HG.out; simp; omega))
  have HP := Lib.hid hP
  have HDE := Lib.hid (deadS hP)
  rw [HDD.out] at HDE
  clear hP hC
  go_wp2_with fail
  refine HDE.out.mono ?_
  rintro e w5 ⟨rfl, rfl⟩
  go_wp2_with fail
  refine (raiseS HP.out).mono ?_
  rintro e w6 ⟨⟨v, rfl⟩, hP, hC⟩
  have HB := Lib.hid (hC.on HB.out (by have := HG.out; simp; omega))
  have HP : Hid (PSt p g n (torn l0 l1 f x t) w6) := hP
  clear hP hC
  go_wp2_with fail
  clear k1 k2 k3 k4 k5
  go_loopw [15] (fun z wr => ∃ i : Nat, i ≤ n ∧ z = .int .i64 i ∧ Hid (Below w6.heap.size w6 wr)) (fun z _ => n - (intOf z).toNat)
  case atStart => exact ⟨0, Nat.zero_le _, rfl, Below.refl _ _⟩
  case round =>
    obtain ⟨i, hi, rfl, HR⟩ := hrel
    have HBW := Lib.hid (below_of HB.out HR.out)
    rcases Nat.lt_or_ge i n with hlt | hge
    · have q0 : (i : Int) < n := by omega
      have hl0 : i < l0.length := by have := HN.out; omega
      have hP := HP.out.later HR.out
      obtain ⟨b0, o0, rfl, hb0, hc0⟩ := ((show Bytes w (.slice a0 n c0) l0 from H0.out)).at hl0
      have hc0 := cell_later HBW.out hc0
      obtain ⟨z, hz⟩ : ∃ z, z = l0[i] := ⟨_, rfl⟩
      rw [← hz] at hc0
      have hz? : l0[i]? = some z := by rw [hz]; exact List.getElem?_eq_getElem hl0
      rcases Nat.lt_trichotomy i f with hif | hif | hif
      · have hl1 : i < l1.length := by have := HN.out; omega
        have q1 := (show decide (i < m) = true by have := HN.out; simp; omega)
        have q2 := (show decide (i < f) = true by simp; omega)
        have q3 := (show ((i : Int) == f) = false by rw [beq_eq_false_iff_ne]; omega)
        have him := (show i < m by have := HN.out; omega)
        obtain ⟨b1, o1, rfl, hb1, hc1⟩ := ((show Bytes w (.slice a1 m c1) l1 from H1.out)).at hl1
        have hc1 := cell_later HBW.out hc1
        obtain ⟨z1, hz1⟩ : ∃ z, z = l1[i] := ⟨_, rfl⟩
        rw [← hz1] at hc1
        have hz1? : l1[i]? = some z1 := by rw [hz1]; exact List.getElem?_eq_getElem hl1
        have hce : (torn l0 l1 f x t).c[i]? = some (z1, false) := by rw [HT.out.2 i (by omega), if_pos hif, hz1?]; rfl
        obtain ⟨r1, r2⟩ := rd_one hce rfl
        have HRD := Lib.hid (readS hP i 1 (by have := HN.out; omega))
        unfold RdA at HRD
        rw [r1, r2, if_neg (by simp), if_neg (by simp)] at HRD
        clear hP hz? r1 r2 hce hb0 hb1 hz1?
        go_wp2_with fail
        refine HRD.out.mono ?_
        rintro e w7 ⟨v7, rfl, hby, hb7⟩
        have HR7 := Lib.hid (below_of HR.out hb7)
        have hc0 := cell_later hb7 hc0
        have hc1 := cell_later hb7 hc1
        obtain ⟨a7, c7, rfl⟩ := hby.form
        obtain ⟨b7, o7, rfl, _, hc7⟩ := hby.at (i := 0) (by simp)
        simp only [List.getElem_cons_zero, Nat.add_zero] at hc7
        clear hby hb7
        have hl7 : ([z1] : List UInt8).length = 1 := rfl
        rw [hl7]
        go_wp2_with fail
        go_roundw
        case rel => exact ⟨i + 1, by omega, by go_num, HR7⟩
        case measure => simp [intOf]; omega
      · subst hif
        have hl1 : i < l1.length := by have := HN.out; omega
        cases t
        · skip
          have q1 := (show decide (i < m) = true by have := HN.out; simp; omega)
          have q2 := (show decide (i < i) = false by simp)
          have q3 := (show ((i : Int) == i) = true by simp)
          have hce : (torn l0 l1 i x false).c[i]? = some (x, false) := HT.out.1
          obtain ⟨r1, r2⟩ := rd_one hce rfl
          have HRD := Lib.hid (readS hP i 1 (by have := HN.out; omega))
          unfold RdA at HRD
          rw [r1, r2, if_neg (by simp), if_neg (by simp)] at HRD
          clear hP hz? r1 r2 hce hb0
          go_wp2_with fail
          refine HRD.out.mono ?_
          rintro e w7 ⟨v7, rfl, hby, hb7⟩
          have HR7 := Lib.hid (below_of HR.out hb7)
          have hc0 := cell_later hb7 hc0
          obtain ⟨a7, c7, rfl⟩ := hby.form
          obtain ⟨b7, o7, rfl, _, hc7⟩ := hby.at (i := 0) (by simp)
          simp only [List.getElem_cons_zero, Nat.add_zero] at hc7
          clear hby hb7
          have hl7 : ([x] : List UInt8).length = 1 := rfl
          rw [hl7]
          rw [← HY.out] at hc7
          go_wp2_with fail
          go_roundw
          case rel => exact ⟨i + 1, by omega, by go_num, HR7⟩
          case measure => simp [intOf]; omega
        · skip
          have q1 := (show decide (i < m) = true by have := HN.out; simp; omega)
          have q2 := (show decide (i < i) = false by simp)
          have q3 := (show ((i : Int) == i) = true by simp)
          have hce : (torn l0 l1 i x true).c[i]? = some (x, true) := HT.out.1
          obtain ⟨r1, r2⟩ := rd_one hce rfl
          have HRD := Lib.hid (readS hP i 1 (by have := HN.out; omega))
          unfold RdA at HRD
          rw [r1, r2, if_pos rfl, if_pos rfl] at HRD
          clear hP hz? r1 r2 hce hb0
          go_wp2_with fail
          refine HRD.out.mono ?_
          rintro e w7 ⟨v7, rfl, hby, hb7⟩
          have HR7 := Lib.hid (below_of HR.out hb7)
          have hc0 := cell_later hb7 hc0
          obtain ⟨a7, c7, rfl⟩ := hby.form
          clear hby hb7
          go_wp2_with fail
          go_roundw
          case rel => exact ⟨i + 1, by omega, by go_num, HR7⟩
          case measure => simp [intOf]; omega
      · have q2 : decide (i < f) = false := by simp; omega
        have q3 : ((i : Int) == f) = false := by rw [beq_eq_false_iff_ne]; omega
        have hcell : (torn l0 l1 f x t).c[i]? = some (z, false) := by rw [HT.out.2 i (by omega), if_neg (by omega), hz?]; rfl
        by_cases hm : i < m
        · skip
          have q1 := (show decide (i < m) = true by simp; omega)
          have hce : (torn l0 l1 f x t).c[i]? = some (z, false) := hcell
          obtain ⟨r1, r2⟩ := rd_one hce rfl
          have HRD := Lib.hid (readS hP i 1 (by have := HN.out; omega))
          unfold RdA at HRD
          rw [r1, r2, if_neg (by simp), if_neg (by simp)] at HRD
          clear hP hz? r1 r2 hce hb0
          go_wp2_with fail
          refine HRD.out.mono ?_
          rintro e w7 ⟨v7, rfl, hby, hb7⟩
          have HR7 := Lib.hid (below_of HR.out hb7)
          have hc0 := cell_later hb7 hc0
          obtain ⟨a7, c7, rfl⟩ := hby.form
          obtain ⟨b7, o7, rfl, _, hc7⟩ := hby.at (i := 0) (by simp)
          simp only [List.getElem_cons_zero, Nat.add_zero] at hc7
          clear hby hb7
          have hl7 : ([z] : List UInt8).length = 1 := rfl
          rw [hl7]
          go_wp2_with fail
          go_roundw
          case rel => exact ⟨i + 1, by omega, by go_num, HR7⟩
          case measure => simp [intOf]; omega
        · skip
          have q1 := (show decide (i < m) = false by simp; omega)
          have hce : (torn l0 l1 f x t).c[i]? = some (z, false) := hcell
          obtain ⟨r1, r2⟩ := rd_one hce rfl
          have HRD := Lib.hid (readS hP i 1 (by have := HN.out; omega))
          unfold RdA at HRD
          rw [r1, r2, if_neg (by simp), if_neg (by simp)] at HRD
          clear hP hz? r1 r2 hce hb0
          go_wp2_with fail
          refine HRD.out.mono ?_
          rintro e w7 ⟨v7, rfl, hby, hb7⟩
          have HR7 := Lib.hid (below_of HR.out hb7)
          have hc0 := cell_later hb7 hc0
          obtain ⟨a7, c7, rfl⟩ := hby.form
          obtain ⟨b7, o7, rfl, _, hc7⟩ := hby.at (i := 0) (by simp)
          simp only [List.getElem_cons_zero, Nat.add_zero] at hc7
          clear hby hb7
          have hl7 : ([z] : List UInt8).length = 1 := rfl
          rw [hl7]
          go_wp2_with fail
          go_roundw
          case rel => exact ⟨i + 1, by omega, by go_num, HR7⟩
          case measure => simp [intOf]; omega
    · have e : i = n := by omega
      subst e
      have q0 : ¬ (i : Int) < i := by omega
      go_wp2_with fail
      refine (knownL _).mono ?_
      rintro e w9 ⟨rfl, hb9⟩
      have HB9 := Lib.hid (below_of HBW.out hb9)
      clear hb9
      go_wp2_with fail
      go_ret
      exact ⟨rfl, HB9.out⟩
end Go.Proofs.Ytfoojjmokdbpcaa

namespace Go.Proofs.Ytfoojjmokdbpcaa
open Go.RowKit
attribute [local go_sem ↓] Go.wp_at_zero Go.wp_at_succ

set_option maxHeartbeats 4000000 in
set_option maxRecDepth 100000 in
theorem storeTears_walk (v0 : Value) (l0 : List UInt8) (v1 : Value) (l1 : List UInt8) (f x : Int) (t : Bool) (w : World) (h0 : Bytes w v0 l0) (hl0 : l0.length ≤ 9223372036854775807) (h1 : Bytes w v1 l1) (hl1 : l1.length ≤ 9223372036854775807) (hf0 : -9223372036854775808 ≤ f) (hf1 : f ≤ 9223372036854775807) (hx0 : 0 ≤ x) (hx1 : x < 256) :
    Calls Try.prog 4 #[v0, v1, .int .i64 f, .int .u8 x, .bool t] w fun e w' => e = .returned (.bool true) ∧ Below w.heap.size w w' := by
  obtain ⟨a0, c0, rfl⟩ := h0.form
  obtain ⟨a1, c1, rfl⟩ := h1.form
  by_cases hg : 1 ≤ l0.length ∧ l0.length ≤ 100 ∧ l1.length ≤ l0.length ∧ 0 ≤ f
  · obtain ⟨f, rfl⟩ := Int.eq_ofNat_of_zero_le hg.2.2.2
    obtain ⟨x, rfl⟩ := Int.eq_ofNat_of_zero_le hx0
    have e : (x : Int) = ((UInt8.ofNat x).toNat : Int) := by rw [UInt8.toNat_ofNat', Nat.mod_eq_of_lt (by omega)]
    rw [e]
    by_cases hd : f < l1.length
    · exact storeTears_yes a0 c0 l0 a1 c1 l1 f _ t w h0 h1 hg.1 hg.2.1 hg.2.2.1 hd (by omega)
    · exact storeTears_no a0 c0 l0 a1 c1 l1 f _ t w h0 h1 hg.1 hg.2.1 hg.2.2.1 (by omega) (by omega)
  · have HK := Lib.hid (knownL w)
    clear h0 h1 hf0 hx0 hx1
    obtain ⟨n, hn⟩ : ∃ n, n = l0.length := ⟨_, rfl⟩
    obtain ⟨m, hm⟩ : ∃ n, n = l1.length := ⟨_, rfl⟩
    rw [← hn, ← hm] at hg
    rw [← hn] at hl0 ⊢
    rw [← hm] at hl1 ⊢
    clear hn hm
    have n9 : (n : Int) ≤ 9223372036854775807 := by omega
    have m9 : (m : Int) ≤ 9223372036854775807 := by omega
    by_cases p1 : n < 1
    · have k1 : decide ((n : Int) < 1) = true := decide_eq_true (by omega)
      clear hg hl0 hl1 hf1 p1
      go_enter Try.func4, Try.ntmps4
      go_wp2_with fail
      refine HK.out.mono ?_
      rintro e w1 ⟨rfl, hb⟩
      go_wp2_with fail
      go_ret
      exact ⟨rfl, hb⟩
    · have k1 : decide ((n : Int) < 1) = false := decide_eq_false (by omega)
      by_cases p2 : 100 < n
      · have k2 : decide ((100 : Int) < n) = true := decide_eq_true (by omega)
        clear hg hl0 hl1 hf1 p1 p2
        go_enter Try.func4, Try.ntmps4
        go_wp2_with fail
        refine HK.out.mono ?_
        rintro e w1 ⟨rfl, hb⟩
        go_wp2_with fail
        go_ret
        exact ⟨rfl, hb⟩
      · have k2 : decide ((100 : Int) < n) = false := decide_eq_false (by omega)
        by_cases p3 : n < m
        · have k3 : decide (n < m) = true := decide_eq_true p3
          clear hg hl0 hl1 hf1 p1 p2 p3
          go_enter Try.func4, Try.ntmps4
          go_wp2_with fail
          refine HK.out.mono ?_
          rintro e w1 ⟨rfl, hb⟩
          go_wp2_with fail
          go_ret
          exact ⟨rfl, hb⟩
        · have k3 : decide (n < m) = false := decide_eq_false p3
          have k4 : decide (f < 0) = true := decide_eq_true (by omega)
          clear hg hl0 hl1 hf1 p1 p2 p3
          go_enter Try.func4, Try.ntmps4
          go_wp2_with fail
          refine HK.out.mono ?_
          rintro e w1 ⟨rfl, hb⟩
          go_wp2_with fail
          go_ret
          exact ⟨rfl, hb⟩
end Go.Proofs.Ytfoojjmokdbpcaa

namespace Go.Proofs.Ytfoojjmokdbpcaa
open Go.RowKit
attribute [local go_sem ↓] Go.wp_at_zero Go.wp_at_succ

/-- Both hold the same. -/
structure Bo (p g cap q b u cb cu : Nat) (s : St) (w : World) : Prop where
  P : PSt p g cap s w
  R : RSt q b u cb cu (nrm s) w
  apart : p ≠ q ∧ p ≠ b ∧ p ≠ u ∧ g ≠ q ∧ g ≠ b ∧ g ≠ u
theorem Bo.chg {p g cap q b u cb cu : Nat} {s : St} {w w' : World} (h : Bo p g cap q b u cb cu s w) {l : List Nat} (hm : Chg l w w') (hl : p ∉ l ∧ g ∉ l ∧ q ∉ l ∧ b ∉ l ∧ u ∉ l) : Bo p g cap q b u cb cu s w' :=
  ⟨h.P.chg hm hl.1 hl.2.1, h.R.chg hm hl.2.2.1 hl.2.2.2.1 hl.2.2.2.2, h.apart⟩
theorem Bo.later {p g cap q b u cb cu : Nat} {s : St} {w w' : World} (h : Bo p g cap q b u cb cu s w) (hb : Below w.heap.size w w') : Bo p g cap q b u cb cu s w' := h.chg (Chg.of_below [] hb) (by simp)
set_option maxHeartbeats 8000000 in
set_option maxRecDepth 100000 in
theorem bytesL {p g cap q b u cb cu : Nat} {s : St} {w : World} (h : Bo p g cap q b u cb cu s w) :
    Calls Try.prog 12 #[.pointer (some ⟨p, 0, none⟩), .pointer (some ⟨q, 0, none⟩)] w fun e w' => e = .returned (.bool true) ∧ Below w.heap.size w w' := by
  have HH := Lib.hid h
  have HC := Lib.hid (copyS h.P)
  obtain ⟨n, hn⟩ : ∃ n, n = s.c.length := ⟨_, rfl⟩
  have HN : Hid (n = s.c.length ∧ n ≤ 4096) := ⟨hn, by have := h.P.few; omega⟩
  have n9 : (n : Int) ≤ 4096 := by have := h.P.few; omega
  clear h hn
  go_enter Try.func12, Try.ntmps12
  go_wp2_with fail
  refine HC.out.mono ?_
  rintro e w1 ⟨p', g', cap', rfl, hp', hg', hP, hB⟩
  have HG := Lib.hid (And.intro hp' hg')
  have HR := Lib.hid (raiseS hP)
  have HB := Lib.hid hB
  clear hP hB hp' hg'
  go_wp2_with fail
  refine HR.out.mono ?_
  rintro e w2 ⟨⟨v2, rfl⟩, hP, hC⟩
  have HB := Lib.hid (hC.on HB.out (by have := HG.out; simp; omega))
  have HP := Lib.hid hP
  clear hP hC
  go_wp2_with fail
  go_loopw [6] (fun z wr => ∃ i : Nat, i ≤ n ∧ z = .int .i64 i ∧ Hid (Below w2.heap.size w2 wr)) (fun z _ => n - (intOf z).toNat)
  case atStart => exact ⟨0, Nat.zero_le _, rfl, Below.refl _ _⟩
  case round =>
    obtain ⟨i, hi, rfl, HR⟩ := hrel
    have HBW := Lib.hid (below_of HB.out HR.out)
    have hH := HH.out.later HBW.out
    obtain ⟨c0, c1, c2, c3, c4, c5⟩ := hH.R.cells
    have hl : (nrm s).c.length = n := by have := HN.out; unfold nrm; exact this.1.symm
    rw [hl] at c0 c1
    rcases Nat.lt_or_ge i n with hlt | hge
    · have q0 : (i : Int) < n := by omega
      have hi2 : i < s.c.length := by have := HN.out; omega
      obtain ⟨c, hc⟩ : ∃ c, c = s.c[i] := ⟨_, rfl⟩
      have hc1 : s.c[i]? = some c := by rw [hc]; exact List.getElem?_eq_getElem hi2
      obtain ⟨d0, hfb⟩ := hH.R.atB (show (nrm s).c[i]? = some c from hc1)
      obtain ⟨d1, hfu⟩ := hH.R.atU (show (nrm s).c[i]? = some c from hc1)
      obtain ⟨r1, r2⟩ := rd_one (s := raS s) (i := i) (c := c) hc1 rfl
      have HRD := Lib.hid (readS (HP.out.later HR.out) i 1 (by have := HN.out; omega))
      unfold RdA at HRD
      have HH2 := Lib.hid hH
      obtain ⟨x, un⟩ := c
      simp only at d0 d1 r1 r2
      clear hc hc1 hH c2 c3 c4 c5 hi2
      cases un
      · rw [r1, r2, if_neg (by simp), if_neg (by simp)] at HRD
        clear r1 r2
        go_wp2_with fail
        refine HRD.out.mono ?_
        rintro e w7 ⟨v7, rfl, hby, hb7⟩
        have HR7 := Lib.hid (below_of HR.out hb7)
        have c0 := cell_later hb7 c0
        have c1 := cell_later hb7 c1
        have d0 := cell_later hb7 d0
        have d1 := cell_later hb7 d1
        obtain ⟨a7, c7, rfl⟩ := hby.form
        obtain ⟨b7, o7, rfl, _, hc7⟩ := hby.at (i := 0) (by simp)
        simp only [List.getElem_cons_zero, Nat.add_zero] at hc7
        have hl7 : ([x] : List UInt8).length = 1 := rfl
        rw [hl7]
        clear hby hb7
        go_wp2_with fail
        go_quiet (fail)
        have HR8 := Lib.hid (below_drewN HR7.out nq)
        go_wp2_with fail
        go_roundw
        case rel => exact ⟨i + 1, by omega, by go_num, HR8⟩
        case measure => simp [intOf]; omega
      · rw [r1, r2, if_pos rfl, if_pos rfl] at HRD
        clear r1 r2
        go_wp2_with fail
        refine HRD.out.mono ?_
        rintro e w7 ⟨v7, rfl, hby, hb7⟩
        have HR7 := Lib.hid (below_of HR.out hb7)
        have c0 := cell_later hb7 c0
        have c1 := cell_later hb7 c1
        have d0 := cell_later hb7 d0
        have d1 := cell_later hb7 d1
        obtain ⟨a7, c7, rfl⟩ := hby.form
        clear hby hb7
        go_wp2_with fail
        go_quiet (fail)
        have HR8 := Lib.hid (below_drewN HR7.out nq)
        go_wp2_with fail
        go_roundw
        case rel => exact ⟨i + 1, by omega, by go_num, HR8⟩
        case measure => simp [intOf]; omega
    · have e : i = n := by omega
      subst e
      have q0 : ¬ (i : Int) < i := by omega
      have HL : Hid (∀ m, Calls Try.prog 23 #[.pointer (some ⟨p, 0, none⟩)] (wr.drewN m) fun e w' => e = .returned (.int .i64 (i : Int)) ∧ ∃ k, w' = wr.drewN k) := fun m => (lenS (hH.P.later (below_dr0 _ _ m))).mono fun e w' ⟨e1, e2⟩ => ⟨by rw [e1, HN.out.1], m, e2.symm⟩
      have HD : Hid (∀ m, Calls Try.prog 15 #[.pointer (some ⟨p, 0, none⟩)] (wr.drewN m) fun e w' => e = .returned (.bool s.dead) ∧ ∃ k, w' = wr.drewN k) := fun m => (deadS (hH.P.later (below_dr0 _ _ m))).mono fun e w' ⟨e1, e2⟩ => ⟨e1, m, e2.symm⟩
      replace c5 : wr.cell? ⟨q, 5, none⟩ = some (.bool s.dead) := c5
      obtain ⟨d, hd⟩ : ∃ d, d = s.dead := ⟨_, rfl⟩
      rw [← hd] at HD c5
      clear hH hd
      go_wp2_with fail
      go_quiet (first | (go_at_call 23; exact HL.out _) | (go_at_call 15; exact HD.out _))
      have HR8 := Lib.hid (below_drewN HBW.out nq)
      go_wp2_with fail
      go_ret
      exact ⟨rfl, HR8.out⟩
end Go.Proofs.Ytfoojjmokdbpcaa
