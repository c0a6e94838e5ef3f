/- The walks of the reference's AddrOf and PrefixOf. -/
import Derived.Test.YtlgdmfbpkmokaaaDoorRt
import Derived.Test.YtlgdmfbpkmokaaaDoorWf
import Derived.Test.YtlgdmfbpkmokaaaDoorWb
namespace Go.Proofs.YtlgdmfbpkmokaaaDoor
open Go.RowKit
attribute [local go_sem ↓] Go.wp_at_zero Go.wp_at_succ

/-- What parts come to, behind those that came to a. -/
def partsF : Int → List (List UInt8) → Option Int
  | a, [] => some a
  | a, p :: ps => if refB p 255 = true then partsF (a * 256 + (decN p : Int)) ps else none
theorem splitL_pos (c : UInt8) (l : List UInt8) : 0 < (splitL c l).length := by
  obtain ⟨p, ps, e⟩ := splitL_ne c l
  rw [e]; simp
theorem addr_parts : ∀ (k : Nat) (a : Int) (l : List UInt8), addrF (k + 1) a l = if (splitL 46 l).length = k + 1 then partsF a (splitL 46 l) else none := by
  intro k
  induction k with
  | zero =>
    intro a l
    rw [addrF_step, split_cut 46 l]
    obtain ⟨hn, hi⟩ := num_ref (Lib.cut l [46]).1 255 ⟨by omega, by omega⟩
    have hp := splitL_pos 46 (Lib.cut l [46]).2.1
    cases hb : refB (Lib.cut l [46]).1 255 with
    | false =>
      rw [hb] at hn
      rw [if_pos hn]
      cases (Lib.cut l [46]).2.2 <;> simp [partsF, hb]
    | true =>
      rw [hb] at hn
      rw [if_neg (by rw [hn]; simp), hi hb]
      cases hf : (Lib.cut l [46]).2.2 with
      | false => simp [partsF, hb]
      | true =>
        have : ¬ (splitL 46 (Lib.cut l [46]).2.1).length + 1 = 0 + 1 := by omega
        simp; intro e; rw [e] at hp; simp at hp
  | succ k ih =>
    intro a l
    rw [addrF_step, split_cut 46 l]
    obtain ⟨hn, hi⟩ := num_ref (Lib.cut l [46]).1 255 ⟨by omega, by omega⟩
    cases hb : refB (Lib.cut l [46]).1 255 with
    | false =>
      rw [hb] at hn
      rw [if_pos hn]
      cases (Lib.cut l [46]).2.2 <;> simp [partsF, hb]
    | true =>
      rw [hb] at hn
      rw [if_neg (by rw [hn]; simp), hi hb]
      cases hf : (Lib.cut l [46]).2.2 with
      | false => simp
      | true =>
        rw [if_neg (by simp), if_neg (by omega), ih]
        simp [partsF, hb]
theorem partsF_step (a : Int) (ps : List (List UInt8)) {k : Nat} (h : k < ps.length) : partsF a (ps.drop k) = if refB ps[k] 255 = true then partsF (a * 256 + (decN ps[k] : Int)) (ps.drop (k + 1)) else none := by
  rw [List.drop_eq_getElem_cons h]; rfl
theorem ref255 {p : List UInt8} (h : refB p 255 = true) : refN p = decN p ∧ decN p ≤ 255 := by
  unfold refB at h
  simp only [Bool.and_eq_true, decide_eq_true_eq] at h
  exact ⟨(ref_yes (most := 255) h.1).1, by omega⟩
theorem toArr (p : List UInt8) : (⟨p.toArray⟩ : ByteArray).data.toList = p := by simp
theorem splitL_size (c : UInt8) : ∀ (l : List UInt8), ∀ p ∈ splitL c l, p.length ≤ l.length
  | [], p, h => by simp [splitL] at h; subst h; simp
  | x :: r, p, h => by
    by_cases hx : x = c
    · subst hx
      rw [split_hit] at h
      rcases List.mem_cons.1 h with rfl | h
      · simp
      · have := splitL_size x r p h
        simp; omega
    · rw [split_miss hx] at h
      obtain ⟨q, qs, e⟩ := splitL_ne c r
      rw [e] at h
      have h1 := splitL_size c r
      rw [e] at h1
      simp only [ahead, List.mem_cons] at h
      rcases h with rfl | h
      · have := h1 q (by simp)
        simp; omega
      · have := h1 p (by simp [h])
        simp; omega

set_option maxHeartbeats 2000000 in
set_option maxRecDepth 100000 in
theorem addrR_any (s : ByteArray) (w : World) (hs : s.size ≤ 1000000) :
    Calls Tryd.prog 15 #[.string s] w fun e w' => e = .returned (.tuple #[.int .u32 (addrI s.data.toList), .bool (addrF 4 0 s.data.toList).isSome]) ∧ Below w.heap.size w w' := by
  obtain ⟨ps, hps⟩ : ∃ ps, ps = splitL 46 s.data.toList := ⟨_, rfl⟩
  have hf := addr_parts 3 0 s.data.toList
  rw [← hps] at hf
  have hsz : ∀ p ∈ ps, p.length ≤ 1000000 := fun p hp => by
    rw [hps] at hp
    have := splitL_size 46 _ p hp
    rw [Array.length_toList] at this
    exact Nat.le_trans this hs
  have HF := Lib.hid hf
  have HPs := Lib.hid hps
  have HSz := Lib.hid hsz
  have Hs := Lib.hid hs
  clear hf hps hsz hs
  go_enter Tryd.func15, Tryd.ntmps15
  go_wp2_with fail
  refine (splitR_any s 46 w Hs.out).mono ?_
  rintro e w1 ⟨v, rfl, hr, hb⟩
  rw [← HPs.out] at hr
  obtain ⟨av, cv, rfl⟩ := hr.form
  rw [show (sv ps).length = ps.length by simp [sv]] at hr ⊢
  have HR := Lib.hid hr
  have HB := Lib.hid hb
  clear hr hb
  by_cases h4 : ps.length = 4
  · have q4 : (ps.length : Int) = 4 := by omega
    have hfp := HF.out
    rw [if_pos h4] at hfp
    have HFP := Lib.hid hfp
    clear hfp
    go_wp2_with fail
    go_loop [5, 6] (fun a i => ∃ (k : Nat) (A : Int), k ≤ 4 ∧ i = .int .i64 k ∧ a = .int .u32 A ∧ 0 ≤ A ∧ Hid (A < 256 ^ k) ∧ Hid (partsF 0 ps = partsF A (ps.drop k))) (fun _ i => 4 - (intOf i).toNat)
    case atStart => exact ⟨0, 0, by omega, rfl, rfl, by omega, by show (0 : Int) < 256 ^ 0; omega, by show _ = _; rfl⟩
    case round =>
      obtain ⟨k, A, hk, rfl, rfl, hA, hA2, HP⟩ := hrel
      rcases Nat.lt_or_ge k 4 with hlt | hge
      · have g1 : (k : Int) < 4 := by omega
        have hkl : k < ps.length := by omega
        obtain ⟨bl, bo, rfl, hbl, hc⟩ := HR.out.at (sv_at hkl)
        have hst := partsF_step A ps hkl
        have hp256 := Wp.pow256 (show k ≤ 3 by omega)
        have hA3 : A < 16777216 := by have := hA2.out; omega
        have hpl := HSz.out _ (List.getElem_mem hkl)
        obtain ⟨p, hp⟩ : ∃ p, p = ps[k] := ⟨_, rfl⟩
        rw [← hp] at hc hst hpl
        have HST := Lib.hid hst
        have HPL := Lib.hid hpl
        clear hp hst hp256 hpl hkl
        cases hb : refB p 255 with
        | true =>
          obtain ⟨e1, e2⟩ := ref255 hb
          obtain ⟨d, hd⟩ : ∃ d, d = decN p := ⟨_, rfl⟩
          have HD := Lib.hid hd
          have HE := Lib.hid e1
          have HBB := Lib.hid hb
          have hd2 : (d : Int) ≤ 255 := by omega
          clear e1 e2 hd hb
          go_wp2_with fail
          refine (numberR_any ⟨p.toArray⟩ 255 w1 (by show p.toArray.size ≤ _; simpa using HPL.out)).mono ?_
          rintro e w2 ⟨rfl, rfl⟩
          rw [toArr, HE.out, HBB.out, ← HD.out]
          go_wp2_with fail
          go_round
          case rel =>
            refine ⟨k + 1, A * 256 + d, by omega, by go_num, rfl, by omega, Wp.pow256_succ hA2.out hd2, ?_⟩
            show _ = _
            rw [HP.out, HST.out, if_pos HBB.out, HD.out]
          case measure => simp [intOf]; omega
        | false =>
          have hno : addrF 4 0 s.data.toList = none := by rw [HFP.out, HP.out, HST.out, hb]; rfl
          have HNo := Lib.hid (addr_none hno)
          have HNo2 := Lib.hid hno
          have HBB := Lib.hid hb
          clear hb hno
          go_wp2_with fail
          refine (numberR_any ⟨p.toArray⟩ 255 w1 (by show p.toArray.size ≤ _; simpa using HPL.out)).mono ?_
          rintro e w2 ⟨rfl, rfl⟩
          rw [toArr, HBB.out]
          go_wp2_with fail
          go_ret2
          rw [HNo.out.1, HNo2.out]
          exact ⟨rfl, HB.out⟩
      · have hk4 : k = 4 := by omega
        subst hk4
        have hyes : addrF 4 0 s.data.toList = some A := by
          rw [HFP.out, HP.out, show ps.drop 4 = [] from List.drop_eq_nil_of_le (by omega)]; rfl
        have HY := Lib.hid (addr_some hyes)
        have HY2 := Lib.hid hyes
        clear hyes
        go_wp2_with fail
        go_ret2
        rw [HY.out.1, HY2.out]
        exact ⟨rfl, HB.out⟩
  · have q4 : ((ps.length : Int) == 4) = false := by simp; omega
    have hno := HF.out
    rw [if_neg h4] at hno
    have HNo := Lib.hid (addr_none hno)
    have HNo2 := Lib.hid hno
    clear hno h4
    go_wp2_with fail
    go_ret2
    rw [HNo.out.1, HNo2.out]
    exact ⟨rfl, HB.out⟩

/-- A prefix in a block of its own. -/
structure Res (N : Nat) (a n : Int) (w : World) : Prop where
  c0 : w.cell? ⟨N, 0, none⟩ = some (.int .u32 a)
  c1 : w.cell? ⟨N, 1, none⟩ = some (.int .i64 n)
  f0 : w.frozen? ⟨N, 0, none⟩ = false
  f1 : w.frozen? ⟨N, 1, none⟩ = false
  lt : N < w.heap.size
theorem Res.later {N : Nat} {a n : Int} {w w' : World} (h : Res N a n w) (hb : Below w.heap.size w w') : Res N a n w' :=
  ⟨cell_later hb h.c0, cell_later hb h.c1, (hb.frozen (p := ⟨N, 0, none⟩) h.lt).trans h.f0, (hb.frozen (p := ⟨N, 1, none⟩) h.lt).trans h.f1, Nat.lt_of_lt_of_le h.lt hb.size⟩
theorem Res.new (w : World) (a n : Int) : Res w.heap.size a n (w.alloc (.cells #[.int .u32 a, .int .i64 n] 40)) := ⟨by simp, by simp, by simp, by simp, by simp⟩
theorem Res.alloc {N : Nat} {a n : Int} {w : World} (h : Res N a n w) (o : Obj) : Res N a n (w.alloc o) := h.later ((Below.refl _ _).alloc (Nat.le_refl _) o)

theorem Res.set {N : Nat} {a n : Int} {w : World} (h : Res N a n w) (a' n' : Int) : Res N a' n' ((w.setCell ⟨N, 0, none⟩ (.int .u32 a')).setCell ⟨N, 1, none⟩ (.int .i64 n')) := by
  refine ⟨?_, ?_, ?_, ?_, ?_⟩
  · rw [World.cell?_setCell_other _ _ _ _ (by simp)]; exact World.cell?_setCell_same _ _ _ h.c0
  · exact World.cell?_setCell_same _ _ _ (u := .int .i64 n) (by rw [World.cell?_setCell_other _ _ _ _ (by simp)]; exact h.c1)
  · rw [World.frozen?_setCell, World.frozen?_setCell]; exact h.f0
  · rw [World.frozen?_setCell, World.frozen?_setCell]; exact h.f1
  · simpa using h.lt

theorem dig_no {l : List UInt8} (h : (47 : UInt8) ∈ l) (most : Int) : refB l most = false := by
  have e : l.all dig = false := by
    rw [Bool.eq_false_iff]
    intro h2
    have := List.all_eq_true.1 h2 _ h
    simp [dig] at this
  unfold refB refOk
  rw [e]; simp
theorem split_one {c : UInt8} {l : List UInt8} : (splitL c l).length = 1 ↔ c ∉ l := by
  constructor
  · intro h hc
    obtain ⟨a, r, rfl, ha⟩ := List.eq_append_cons_of_mem hc
    rw [split_mid r ha] at h
    have := splitL_pos c r
    simp at h
    rw [h] at this
    simp at this
  · intro h; rw [split_no h]; rfl
/-- A prefix's text, as the reference reads it. -/
theorem pf_ref (l : List UInt8) : pfOk l = (match splitL 47 l with | [p, q] => decide (addrE p = 0) && (refB q 32 && Wp.mayB (addrI p) (refN q)) | _ => false) ∧
    (pfOk l = true → ∃ p q, splitL 47 l = [p, q] ∧ pfA l = addrI p ∧ pfN l = refN q) := by
  have key : pfOk l = (decide (addrE (Lib.cut l [47]).1 = 0) && (numB (Lib.cut l [47]).2.1 32 && Wp.mayB (addrI (Lib.cut l [47]).1) (numI (Lib.cut l [47]).2.1 32))) := rfl
  by_cases h : (47 : UInt8) ∈ l
  · obtain ⟨p, r, rfl, hp⟩ := List.eq_append_cons_of_mem h
    have hcut := cut_mid p r 47 hp
    rw [split_mid r hp]
    by_cases hr : (47 : UInt8) ∈ r
    · have hno : numB r 32 = false := by rw [(num_ref r 32 ⟨by omega, by omega⟩).1]; exact dig_no hr 32
      have hf : pfOk (p ++ 47 :: r) = false := by rw [key, hcut]; simp [hno]
      rw [hf]
      refine ⟨?_, fun h => by cases h⟩
      have hl : (splitL 47 r).length ≠ 1 := fun e => split_one.1 e hr
      have hl0 := splitL_pos 47 r
      split
      · rename_i heq
        simp only [List.cons.injEq] at heq
        rw [heq.2] at hl
        simp at hl
      · rfl
    · rw [split_no hr]
      obtain ⟨h1, h2⟩ := num_ref r 32 ⟨by omega, by omega⟩
      have hk : pfOk (p ++ 47 :: r) = (decide (addrE p = 0) && (refB r 32 && Wp.mayB (addrI p) (refN r))) := by
        rw [key, hcut]
        simp only [h1]
        cases hb : refB r 32 with
        | false => simp
        | true =>
          have e : refN r = decN r := by
            unfold refB at hb
            simp only [Bool.and_eq_true] at hb
            exact (ref_yes (most := 32) hb.1).1
          rw [h2 hb, e]
      refine ⟨hk, fun hy => ⟨p, r, rfl, ?_, ?_⟩⟩
      · rw [(pf_yes hy).1, hcut]
      · rw [(pf_yes hy).2.1, hcut]
        have hb : refB r 32 = true := by
          rw [hk] at hy
          simp only [Bool.and_eq_true] at hy
          exact hy.2.1
        have e : refN r = decN r := by
          have hb2 := hb
          unfold refB at hb2
          simp only [Bool.and_eq_true] at hb2
          exact (ref_yes (most := 32) hb2.1).1
        show numI r 32 = _
        rw [h2 hb, e]
  · have hcut := cut_no l 47 h
    have hf : pfOk l = false := by
      rw [key, hcut]
      have : numB [] 32 = false := by decide +kernel
      simp [this]
    rw [hf, split_no h]
    exact ⟨rfl, fun h => by cases h⟩
theorem addr_is (l : List UInt8) : (addrF 4 0 l).isSome = decide (addrE l = 0) := by
  unfold addrE
  cases addrF 4 0 l <;> simp
theorem addrF_bd : ∀ (k : Nat) (a : Int) (l : List UInt8) (v : Int), addrF k a l = some v → 0 ≤ a → 0 ≤ v ∧ v < (a + 1) * 256 ^ k := by
  intro k
  induction k with
  | zero => intro a l v h; cases h
  | succ k ih =>
    intro a l v h ha
    rw [addrF_step] at h
    have hn := numI_bd (Lib.cut l [46]).1
    split at h
    · cases h
    · split at h
      · cases h
      · split at h
        · rename_i hk
          subst hk
          injection h with h
          subst h
          refine ⟨by omega, ?_⟩
          show _ < (a + 1) * 256
          omega
        · obtain ⟨h1, h2⟩ := ih _ _ _ h (by omega)
          refine ⟨h1, Int.lt_of_lt_of_le h2 ?_⟩
          rw [Int.pow_succ, Int.mul_comm (256 ^ k : Int) 256, ← Int.mul_assoc]
          exact Int.mul_le_mul_of_nonneg_right (by omega) (Int.le_of_lt (Int.pow_pos (by decide)))
theorem addrI_bd (l : List UInt8) : 0 ≤ addrI l ∧ addrI l < 4294967296 := by
  cases h : addrF 4 0 l with
  | none => rw [(addr_none h).1]; omega
  | some v =>
    rw [(addr_some h).1]
    have := addrF_bd 4 0 l v h (by omega)
    refine ⟨this.1, ?_⟩
    have h2 := this.2
    rw [show ((0 : Int) + 1) * 256 ^ 4 = 4294967296 by decide] at h2
    exact h2

set_option maxHeartbeats 2000000 in
set_option maxRecDepth 100000 in
theorem prefixR_any (s : ByteArray) (w : World) (hs : s.size ≤ 1000000) :
    Calls Tryd.prog 17 #[.string s] w fun e w' => e = .returned (.tuple #[.agg #[.int .u32 (pfA s.data.toList), .int .i64 (pfN s.data.toList)], .bool (pfOk s.data.toList)]) ∧ Below w.heap.size w w' := by
  obtain ⟨ps, hps⟩ : ∃ ps, ps = splitL 47 s.data.toList := ⟨_, rfl⟩
  obtain ⟨h1, h2⟩ := pf_ref s.data.toList
  rw [← hps] at h1 h2
  have hsz : ∀ p ∈ ps, p.length ≤ 1000000 := fun p hp => by
    rw [hps] at hp
    have := splitL_size 47 _ p hp
    rw [Array.length_toList] at this
    exact Nat.le_trans this hs
  have H1 := Lib.hid h1
  have H2 := Lib.hid h2
  have HPs := Lib.hid hps
  have HSz := Lib.hid hsz
  have Hs := Lib.hid hs
  clear h1 h2 hps hsz hs
  go_enter Tryd.func17, Tryd.ntmps17
  go_wp2_with fail
  refine (splitR_any s 47 _ Hs.out).mono ?_
  rintro e w1 ⟨v, rfl, hr, hb⟩
  rw [← HPs.out] at hr
  obtain ⟨av, cv, rfl⟩ := hr.form
  rw [show (sv ps).length = ps.length by simp [sv]] at hr ⊢
  have HR := Lib.hid hr
  have hres := (Res.new w 0 0).later hb
  have HRes := Lib.hid hres
  have HB : Hid (Below w.heap.size w w1) := ((Below.refl _ _).alloc (Nat.le_refl _) _).trans (hb.mono (by simp))
  have hlw := hres.lt
  obtain ⟨c0, c1, f0, f1, lt⟩ := hres
  clear hr hb
  by_cases h2l : ps.length = 2
  · obtain ⟨p, q, rfl⟩ : ∃ p q, ps = [p, q] := by
      match ps, h2l with
      | [p, q], _ => exact ⟨p, q, rfl⟩
    have hok : pfOk s.data.toList = ((addrF 4 0 p).isSome && (refB q 32 && Wp.mayB (addrI p) (refN q))) := by rw [H1.out, addr_is]
    have hval : pfOk s.data.toList = true → pfA s.data.toList = addrI p ∧ pfN s.data.toList = refN q := fun h => by
      obtain ⟨p', q', e, e1, e2⟩ := H2.out h
      simp only [List.cons.injEq, and_true] at e
      obtain ⟨rfl, rfl⟩ := e
      exact ⟨e1, e2⟩
    obtain ⟨bl, bo, rfl, hbl, k0⟩ := HR.out.at (i := 0) (x := .string ⟨p.toArray⟩) rfl
    obtain ⟨bl', bo', e0, hbl', k1⟩ := HR.out.at (i := 1) (x := .string ⟨q.toArray⟩) rfl
    simp only [Option.some.injEq, Addr.mk.injEq, and_true] at e0
    obtain ⟨rfl, rfl⟩ := e0
    have hpl := HSz.out p (by simp)
    have hql := HSz.out q (by simp)
    obtain ⟨hA0, hA1⟩ := addrI_bd p
    have HOk := Lib.hid hok
    have HVal := Lib.hid hval
    have HPl := Lib.hid (show (⟨p.toArray⟩ : ByteArray).size ≤ 1000000 by show p.toArray.size ≤ _; simpa using hpl)
    have HQl := Lib.hid (show (⟨q.toArray⟩ : ByteArray).size ≤ 1000000 by show q.toArray.size ≤ _; simpa using hql)
    obtain ⟨A, hA⟩ : ∃ A, A = addrI p := ⟨_, rfl⟩
    obtain ⟨n, hn⟩ : ∃ n, n = refN q := ⟨_, rfl⟩
    rw [← hA] at hA0 hA1
    have HA := Lib.hid hA
    have HN := Lib.hid hn
    have HA0 := Lib.hid hA0
    have HA1 := Lib.hid hA1
    have k1' : w1.cell? ⟨bl, bo + 1, none⟩ = some (.string ⟨q.toArray⟩) := k1
    have k0' : w1.cell? ⟨bl, bo, none⟩ = some (.string ⟨p.toArray⟩) := k0
    have HK1 := Lib.hid k1'
    clear h2l hok hval hpl hql hA hn k0 k1 hA0 hA1 hbl'
    go_wp2_with fail
    refine (addrR_any ⟨p.toArray⟩ w1 HPl.out).mono ?_
    rintro e w2 ⟨rfl, hb2⟩
    rw [toArr, ← HA.out]
    have HRes2 := Lib.hid (HRes.out.later hb2)
    have HB2 := Lib.hid (below_of HB.out hb2)
    have k2 := cell_later hb2 HK1.out
    have hz2 := Nat.lt_of_lt_of_le hbl hb2.size
    clear hb2 c0 c1 f0 f1 lt k1' k0'
    go_wp2_with fail
    refine (numberR_any ⟨q.toArray⟩ 32 w2 HQl.out).mono ?_
    rintro e w3 ⟨rfl, rfl⟩
    rw [toArr, ← HN.out]
    obtain ⟨hc0, hc1, hf0, hf1, hlt⟩ := HRes2.out
    have r0 := fun o => ((HRes2.out.set 0 0).alloc o).c0
    have r1 := fun o => ((HRes2.out.set 0 0).alloc o).c1
    have R0 := Lib.hid r0
    have R1 := Lib.hid r1
    clear r0 r1
    have hgc0 := fun o => (HRes2.out.alloc o).c0
    have hgc1 := fun o => (HRes2.out.alloc o).c1
    have hgf0 := fun o => (HRes2.out.alloc o).f0
    have hgf1 := fun o => (HRes2.out.alloc o).f1
    cases hoa : (addrF 4 0 p).isSome with
    | false =>
      have hno : pfOk s.data.toList = false := by rw [HOk.out, hoa]; rfl
      have HNo := Lib.hid (pf_no hno)
      have HNo2 := Lib.hid hno
      clear hno hoa
      go_wp2_with fail
      have r0 := R0.out
      have r1 := R1.out
      refine bodyPost_ret (v := .tuple #[.agg #[.int .u32 0, .int .i64 0], .bool false]) (by simp [results, Tryd.results17, go_sem, r0, r1]) rfl ?_
      rw [HNo.out.1, HNo.out.2.1, HNo2.out]
      refine ⟨rfl, ?_⟩
      exact ((HB2.out.setCell (Nat.le_refl _) _).setCell (Nat.le_refl _) _).alloc (by simpa using HB2.out.size) _
    | true =>
      cases hob : refB q 32 with
      | false =>
        have hno : pfOk s.data.toList = false := by rw [HOk.out, hoa, hob]; rfl
        have HNo := Lib.hid (pf_no hno)
        have HNo2 := Lib.hid hno
        clear hno hoa hob
        go_wp2_with fail
        have r0 := R0.out
        have r1 := R1.out
        refine bodyPost_ret (v := .tuple #[.agg #[.int .u32 0, .int .i64 0], .bool false]) (by simp [results, Tryd.results17, go_sem, r0, r1]) rfl ?_
        rw [HNo.out.1, HNo.out.2.1, HNo2.out]
        refine ⟨rfl, ?_⟩
        exact ((HB2.out.setCell (Nat.le_refl _) _).setCell (Nat.le_refl _) _).alloc (by simpa using HB2.out.size) _
      | true =>
        have HOa := Lib.hid hoa
        have HOb := Lib.hid hob
        clear hoa hob
        go_wp2_with fail
        refine (mayR_any A n _ HA0.out HA1.out).mono ?_
        rintro e w4 ⟨rfl, hb4⟩
        have HRes4 := Lib.hid ((HRes2.out.alloc (.cells #[.int .u32 A, .int .i64 n] 40)).later hb4)
        have HNew4 := Lib.hid ((Res.new w2 A n).later hb4)
        have HB4 : Hid (Below w.heap.size w w4) := (HB2.out.alloc HB2.out.size _).trans (hb4.mono (by have := HB2.out.size; simp; omega))
        have r0 := (HRes4.out.set 0 0).c0
        have r1 := (HRes4.out.set 0 0).c1
        have s0 := (HRes4.out.set A n).c0
        have s1 := (HRes4.out.set A n).c1
        have R0' := Lib.hid r0
        have R1' := Lib.hid r1
        have S0' := Lib.hid s0
        have S1' := Lib.hid s1
        clear r0 r1 s0 s1 hc0 hc1 hf0 hf1 hlt hgc0 hgc1 hgf0 hgf1 hb4
        obtain ⟨d0, d1, e0, e1, dl⟩ := HRes4.out
        obtain ⟨m0, m1, _, _, ml⟩ := HNew4.out
        cases hM : Wp.mayB A n with
        | false =>
          have hno : pfOk s.data.toList = false := by rw [HOk.out, HOa.out, HOb.out, ← HA.out, ← HN.out, hM]; rfl
          have HNo := Lib.hid (pf_no hno)
          have HNo2 := Lib.hid hno
          clear hno hM
          go_wp2_with fail
          have r0 := R0'.out
          have r1 := R1'.out
          refine bodyPost_ret (v := .tuple #[.agg #[.int .u32 0, .int .i64 0], .bool false]) (by simp [results, Tryd.results17, go_sem, r0, r1]) rfl ?_
          rw [HNo.out.1, HNo.out.2.1, HNo2.out]
          refine ⟨rfl, ?_⟩
          exact (HB4.out.setCell (Nat.le_refl _) _).setCell (Nat.le_refl _) _
        | true =>
          have hyes : pfOk s.data.toList = true := by rw [HOk.out, HOa.out, HOb.out, ← HA.out, ← HN.out, hM]; rfl
          have HY := Lib.hid (HVal.out hyes)
          have HY2 := Lib.hid hyes
          clear hyes hM
          go_wp2_with fail
          have s0 := S0'.out
          have s1 := S1'.out
          refine bodyPost_ret (v := .tuple #[.agg #[.int .u32 A, .int .i64 n], .bool true]) (by simp [results, Tryd.results17, go_sem, s0, s1]) rfl ?_
          rw [HY.out.1, HY.out.2, HY2.out, ← HA.out, ← HN.out]
          refine ⟨rfl, ?_⟩
          exact (HB4.out.setCell (Nat.le_refl _) _).setCell (Nat.le_refl _) _
  · have q2 : ((ps.length : Int) == 2) = false := by simp; omega
    have hno : pfOk s.data.toList = false := by
      rw [H1.out]
      split
      · simp at h2l
      · rfl
    have HNo := Lib.hid (pf_no hno)
    have HNo2 := Lib.hid hno
    clear hno h2l
    go_wp2_with fail
    refine bodyPost_ret (v := .tuple #[.agg #[.int .u32 0, .int .i64 0], .bool false]) (by simp [results, Tryd.results17, go_sem, c0, c1]) rfl ?_
    rw [HNo.out.1, HNo.out.2.1, HNo2.out]
    exact ⟨rfl, (HB.out.setCell (Nat.le_refl _) _).setCell (Nat.le_refl _) _⟩
end Go.Proofs.YtlgdmfbpkmokaaaDoor
