/- append on bytes that the call owns, whatever the source: one law in three forms.
   The walks of the first reference's Much and Join.
   Lists of bytes in memory: a slice value that reads as a list of lists of bytes.
   The walks of the reference's Room, Put and Get.
   May an update be, how far it is by a neighbour: the walks, the program's and the reference's.
   The walks of the reference's AddrOf and PrefixOf. -/
import Derived.Deep.AppendLies
import Derived.Laws.AppendOwnNone
import Derived.Laws.OwnMore
import Derived.Test.YtijkahamgnpobaaDoorZ01
import Derived.Test.YtijkahamgnpobaaDoorZ03
import Derived.Test.YtijkahamgnpobaaDoorZ04

set_option linter.unusedSimpArgs false
set_option linter.unusedVariables false
namespace Go.Proofs.YtijkahamgnpobaaDoor
open Go.RowKit
attribute [local go_sem ↓] Go.wp_at_zero Go.wp_at_succ

/-- What parts come to, behind those that came to a. -/
def partsF : Int → List (List UInt8) → Option Int
  | a, [] => some a
  | a, p :: ps => if refB p 255 = true then partsF (a * 256 + (decN p : Int)) ps else none
theorem splitL_pos (c : UInt8) (l : List UInt8) : 0 < (splitL c l).length := by
  obtain ⟨p, ps, e⟩ := splitL_ne c l
  rw [e]; simp
theorem addr_parts : ∀ (k : Nat) (a : Int) (l : List UInt8), addrF (k + 1) a l = if (splitL 46 l).length = k + 1 then partsF a (splitL 46 l) else none := by
  intro k
  induction k with
  | zero =>
    intro a l
    rw [addrF_step, split_cut 46 l]
    obtain ⟨hn, hi⟩ := num_ref (Lib.cut l [46]).1 255 ⟨by omega, by omega⟩
    have hp := splitL_pos 46 (Lib.cut l [46]).2.1
    cases hb : refB (Lib.cut l [46]).1 255 with
    | false =>
      rw [hb] at hn
      rw [if_pos hn]
      cases (Lib.cut l [46]).2.2 <;> simp [partsF, hb]
    | true =>
      rw [hb] at hn
      rw [if_neg (by rw [hn]; simp), hi hb]
      cases hf : (Lib.cut l [46]).2.2 with
      | false => simp [partsF, hb]
      | true =>
        have : ¬ (splitL 46 (Lib.cut l [46]).2.1).length + 1 = 0 + 1 := by omega
        simp; intro e; rw [e] at hp; simp at hp
  | succ k ih =>
    intro a l
    rw [addrF_step, split_cut 46 l]
    obtain ⟨hn, hi⟩ := num_ref (Lib.cut l [46]).1 255 ⟨by omega, by omega⟩
    cases hb : refB (Lib.cut l [46]).1 255 with
    | false =>
      rw [hb] at hn
      rw [if_pos hn]
      cases (Lib.cut l [46]).2.2 <;> simp [partsF, hb]
    | true =>
      rw [hb] at hn
      rw [if_neg (by rw [hn]; simp), hi hb]
      cases hf : (Lib.cut l [46]).2.2 with
      | false => simp
      | true =>
        rw [if_neg (by simp), if_neg (by omega), ih]
        simp [partsF, hb]
theorem partsF_step (a : Int) (ps : List (List UInt8)) {k : Nat} (h : k < ps.length) : partsF a (ps.drop k) = if refB ps[k] 255 = true then partsF (a * 256 + (decN ps[k] : Int)) (ps.drop (k + 1)) else none := by
  rw [List.drop_eq_getElem_cons h]; rfl
theorem ref255 {p : List UInt8} (h : refB p 255 = true) : refN p = decN p ∧ decN p ≤ 255 := by
  unfold refB at h
  simp only [Bool.and_eq_true, decide_eq_true_eq] at h
  exact ⟨(ref_yes (most := 255) h.1).1, by omega⟩
theorem toArr (p : List UInt8) : (⟨p.toArray⟩ : ByteArray).data.toList = p := by simp
theorem splitL_size (c : UInt8) : ∀ (l : List UInt8), ∀ p ∈ splitL c l, p.length ≤ l.length
  | [], p, h => by simp [splitL] at h; subst h; simp
  | x :: r, p, h => by
    by_cases hx : x = c
    · subst hx
      rw [split_hit] at h
      rcases List.mem_cons.1 h with rfl | h
      · simp
      · have := splitL_size x r p h
        simp; omega
    · rw [split_miss hx] at h
      obtain ⟨q, qs, e⟩ := splitL_ne c r
      rw [e] at h
      have h1 := splitL_size c r
      rw [e] at h1
      simp only [ahead, List.mem_cons] at h
      rcases h with rfl | h
      · have := h1 q (by simp)
        simp; omega
      · have := h1 p (by simp [h])
        simp; omega

set_option maxHeartbeats 2000000 in
set_option maxRecDepth 100000 in
theorem addrR_any (s : ByteArray) (w : World) (hs : s.size ≤ 1000000) :
    Calls Tryd.prog 58 #[.string s] w fun e w' => e = .returned (.tuple #[.int .u32 (addrI s.data.toList), .bool (addrF 4 0 s.data.toList).isSome]) ∧ Below w.heap.size w w' := by
  obtain ⟨ps, hps⟩ : ∃ ps, ps = splitL 46 s.data.toList := ⟨_, rfl⟩
  have hf := addr_parts 3 0 s.data.toList
  rw [← hps] at hf
  have hsz : ∀ p ∈ ps, p.length ≤ 1000000 := fun p hp => by
    rw [hps] at hp
    have := splitL_size 46 _ p hp
    rw [Array.length_toList] at this
    exact Nat.le_trans this hs
  have HF := Lib.hid hf
  have HPs := Lib.hid hps
  have HSz := Lib.hid hsz
  have Hs := Lib.hid hs
  clear hf hps hsz hs
  go_enter Tryd.func58, Tryd.ntmps58
  go_wp2_with fail
  refine (splitR_any s 46 w Hs.out).mono ?_
  rintro e w1 ⟨v, rfl, hr, hb⟩
  rw [← HPs.out] at hr
  obtain ⟨av, cv, rfl⟩ := hr.form
  rw [show (sv ps).length = ps.length by simp [sv]] at hr ⊢
  have HR := Lib.hid hr
  have HB := Lib.hid hb
  clear hr hb
  by_cases h4 : ps.length = 4
  · have q4 : (ps.length : Int) = 4 := by omega
    have hfp := HF.out
    rw [if_pos h4] at hfp
    have HFP := Lib.hid hfp
    clear hfp
    go_wp2_with fail
    go_loop [5, 6] (fun a i => ∃ (k : Nat) (A : Int), k ≤ 4 ∧ i = .int .i64 k ∧ a = .int .u32 A ∧ 0 ≤ A ∧ Hid (A < 256 ^ k) ∧ Hid (partsF 0 ps = partsF A (ps.drop k))) (fun _ i => 4 - (intOf i).toNat)
    case atStart => exact ⟨0, 0, by omega, rfl, rfl, by omega, by show (0 : Int) < 256 ^ 0; omega, by show _ = _; rfl⟩
    case round =>
      obtain ⟨k, A, hk, rfl, rfl, hA, hA2, HP⟩ := hrel
      rcases Nat.lt_or_ge k 4 with hlt | hge
      · have g1 : (k : Int) < 4 := by omega
        have hkl : k < ps.length := by omega
        obtain ⟨bl, bo, rfl, hbl, hc⟩ := HR.out.at (sv_at hkl)
        have hst := partsF_step A ps hkl
        have hp256 := Wp.pow256 (show k ≤ 3 by omega)
        have hA3 : A < 16777216 := by have := hA2.out; omega
        have hpl := HSz.out _ (List.getElem_mem hkl)
        obtain ⟨p, hp⟩ : ∃ p, p = ps[k] := ⟨_, rfl⟩
        rw [← hp] at hc hst hpl
        have HST := Lib.hid hst
        have HPL := Lib.hid hpl
        clear hp hst hp256 hpl hkl
        cases hb : refB p 255 with
        | true =>
          obtain ⟨e1, e2⟩ := ref255 hb
          obtain ⟨d, hd⟩ : ∃ d, d = decN p := ⟨_, rfl⟩
          have HD := Lib.hid hd
          have HE := Lib.hid e1
          have HBB := Lib.hid hb
          have hd2 : (d : Int) ≤ 255 := by omega
          clear e1 e2 hd hb
          go_wp2_with fail
          refine (numberR_any ⟨p.toArray⟩ 255 w1 (by show p.toArray.size ≤ _; simpa using HPL.out)).mono ?_
          rintro e w2 ⟨rfl, rfl⟩
          rw [toArr, HE.out, HBB.out, ← HD.out]
          go_wp2_with fail
          go_round
          case rel =>
            refine ⟨k + 1, A * 256 + d, by omega, by go_num, rfl, by omega, Wp.pow256_succ hA2.out hd2, ?_⟩
            show _ = _
            rw [HP.out, HST.out, if_pos HBB.out, HD.out]
          case measure => simp [intOf]; omega
        | false =>
          have hno : addrF 4 0 s.data.toList = none := by rw [HFP.out, HP.out, HST.out, hb]; rfl
          have HNo := Lib.hid (addr_none hno)
          have HNo2 := Lib.hid hno
          have HBB := Lib.hid hb
          clear hb hno
          go_wp2_with fail
          refine (numberR_any ⟨p.toArray⟩ 255 w1 (by show p.toArray.size ≤ _; simpa using HPL.out)).mono ?_
          rintro e w2 ⟨rfl, rfl⟩
          rw [toArr, HBB.out]
          go_wp2_with fail
          go_ret2
          rw [HNo.out.1, HNo2.out]
          exact ⟨rfl, HB.out⟩
      · have hk4 : k = 4 := by omega
        subst hk4
        have hyes : addrF 4 0 s.data.toList = some A := by
          rw [HFP.out, HP.out, show ps.drop 4 = [] from List.drop_eq_nil_of_le (by omega)]; rfl
        have HY := Lib.hid (addr_some hyes)
        have HY2 := Lib.hid hyes
        clear hyes
        go_wp2_with fail
        go_ret2
        rw [HY.out.1, HY2.out]
        exact ⟨rfl, HB.out⟩
  · have q4 : ((ps.length : Int) == 4) = false := by simp; omega
    have hno := HF.out
    rw [if_neg h4] at hno
    have HNo := Lib.hid (addr_none hno)
    have HNo2 := Lib.hid hno
    clear hno h4
    go_wp2_with fail
    go_ret2
    rw [HNo.out.1, HNo2.out]
    exact ⟨rfl, HB.out⟩

/-- A prefix in a block of its own. -/
structure Res (N : Nat) (a n : Int) (w : World) : Prop where
  c0 : w.cell? ⟨N, 0, none⟩ = some (.int .u32 a)
  c1 : w.cell? ⟨N, 1, none⟩ = some (.int .i64 n)
  f0 : w.frozen? ⟨N, 0, none⟩ = false
  f1 : w.frozen? ⟨N, 1, none⟩ = false
  lt : N < w.heap.size
theorem Res.later {N : Nat} {a n : Int} {w w' : World} (h : Res N a n w) (hb : Below w.heap.size w w') : Res N a n w' :=
  ⟨cell_later hb h.c0, cell_later hb h.c1, (hb.frozen (p := ⟨N, 0, none⟩) h.lt).trans h.f0, (hb.frozen (p := ⟨N, 1, none⟩) h.lt).trans h.f1, Nat.lt_of_lt_of_le h.lt hb.size⟩
theorem Res.new (w : World) (a n : Int) : Res w.heap.size a n (w.alloc (.cells #[.int .u32 a, .int .i64 n] 25)) := ⟨by simp, by simp, by simp, by simp, by simp⟩
theorem Res.alloc {N : Nat} {a n : Int} {w : World} (h : Res N a n w) (o : Obj) : Res N a n (w.alloc o) := h.later ((Below.refl _ _).alloc (Nat.le_refl _) o)

theorem Res.set {N : Nat} {a n : Int} {w : World} (h : Res N a n w) (a' n' : Int) : Res N a' n' ((w.setCell ⟨N, 0, none⟩ (.int .u32 a')).setCell ⟨N, 1, none⟩ (.int .i64 n')) := by
  refine ⟨?_, ?_, ?_, ?_, ?_⟩
  · rw [World.cell?_setCell_other _ _ _ _ (by simp)]; exact World.cell?_setCell_same _ _ _ h.c0
  · exact World.cell?_setCell_same _ _ _ (u := .int .i64 n) (by rw [World.cell?_setCell_other _ _ _ _ (by simp)]; exact h.c1)
  · rw [World.frozen?_setCell, World.frozen?_setCell]; exact h.f0
  · rw [World.frozen?_setCell, World.frozen?_setCell]; exact h.f1
  · simpa using h.lt

theorem dig_no {l : List UInt8} (h : (47 : UInt8) ∈ l) (most : Int) : refB l most = false := by
  have e : l.all dig = false := by
    rw [Bool.eq_false_iff]
    intro h2
    have := List.all_eq_true.1 h2 _ h
    simp [dig] at this
  unfold refB refOk
  rw [e]; simp
theorem split_one {c : UInt8} {l : List UInt8} : (splitL c l).length = 1 ↔ c ∉ l := by
  constructor
  · intro h hc
    obtain ⟨a, r, rfl, ha⟩ := List.eq_append_cons_of_mem hc
    rw [split_mid r ha] at h
    have := splitL_pos c r
    simp at h
    rw [h] at this
    simp at this
  · intro h; rw [split_no h]; rfl
/-- A prefix's text, as the reference reads it. -/
theorem pf_ref (l : List UInt8) : pfOk l = (match splitL 47 l with | [p, q] => decide (addrE p = 0) && (refB q 32 && Wp.mayB (addrI p) (refN q)) | _ => false) ∧
    (pfOk l = true → ∃ p q, splitL 47 l = [p, q] ∧ pfA l = addrI p ∧ pfN l = refN q) := by
  have key : pfOk l = (decide (addrE (Lib.cut l [47]).1 = 0) && (numB (Lib.cut l [47]).2.1 32 && Wp.mayB (addrI (Lib.cut l [47]).1) (numI (Lib.cut l [47]).2.1 32))) := rfl
  by_cases h : (47 : UInt8) ∈ l
  · obtain ⟨p, r, rfl, hp⟩ := List.eq_append_cons_of_mem h
    have hcut := cut_mid p r 47 hp
    rw [split_mid r hp]
    by_cases hr : (47 : UInt8) ∈ r
    · have hno : numB r 32 = false := by rw [(num_ref r 32 ⟨by omega, by omega⟩).1]; exact dig_no hr 32
      have hf : pfOk (p ++ 47 :: r) = false := by rw [key, hcut]; simp [hno]
      rw [hf]
      refine ⟨?_, fun h => by cases h⟩
      have hl : (splitL 47 r).length ≠ 1 := fun e => split_one.1 e hr
      have hl0 := splitL_pos 47 r
      split
      · rename_i heq
        simp only [List.cons.injEq] at heq
        rw [heq.2] at hl
        simp at hl
      · rfl
    · rw [split_no hr]
      obtain ⟨h1, h2⟩ := num_ref r 32 ⟨by omega, by omega⟩
      have hk : pfOk (p ++ 47 :: r) = (decide (addrE p = 0) && (refB r 32 && Wp.mayB (addrI p) (refN r))) := by
        rw [key, hcut]
        simp only [h1]
        cases hb : refB r 32 with
        | false => simp
        | true =>
          have e : refN r = decN r := by
            unfold refB at hb
            simp only [Bool.and_eq_true] at hb
            exact (ref_yes (most := 32) hb.1).1
          rw [h2 hb, e]
      refine ⟨hk, fun hy => ⟨p, r, rfl, ?_, ?_⟩⟩
      · rw [(pf_yes hy).1, hcut]
      · rw [(pf_yes hy).2.1, hcut]
        have hb : refB r 32 = true := by
          rw [hk] at hy
          simp only [Bool.and_eq_true] at hy
          exact hy.2.1
        have e : refN r = decN r := by
          have hb2 := hb
          unfold refB at hb2
          simp only [Bool.and_eq_true] at hb2
          exact (ref_yes (most := 32) hb2.1).1
        show numI r 32 = _
        rw [h2 hb, e]
  · have hcut := cut_no l 47 h
    have hf : pfOk l = false := by
      rw [key, hcut]
      have : numB [] 32 = false := by decide +kernel
      simp [this]
    rw [hf, split_no h]
    exact ⟨rfl, fun h => by cases h⟩
theorem addr_is (l : List UInt8) : (addrF 4 0 l).isSome = decide (addrE l = 0) := by
  unfold addrE
  cases addrF 4 0 l <;> simp
theorem addrF_bd : ∀ (k : Nat) (a : Int) (l : List UInt8) (v : Int), addrF k a l = some v → 0 ≤ a → 0 ≤ v ∧ v < (a + 1) * 256 ^ k := by
  intro k
  induction k with
  | zero => intro a l v h; cases h
  | succ k ih =>
    intro a l v h ha
    rw [addrF_step] at h
    have hn := numI_bd (Lib.cut l [46]).1
    split at h
    · cases h
    · split at h
      · cases h
      · split at h
        · rename_i hk
          subst hk
          injection h with h
          subst h
          refine ⟨by omega, ?_⟩
          show _ < (a + 1) * 256
          omega
        · obtain ⟨h1, h2⟩ := ih _ _ _ h (by omega)
          refine ⟨h1, Int.lt_of_lt_of_le h2 ?_⟩
          rw [Int.pow_succ, Int.mul_comm (256 ^ k : Int) 256, ← Int.mul_assoc]
          exact Int.mul_le_mul_of_nonneg_right (by omega) (Int.le_of_lt (Int.pow_pos (by decide)))
theorem addrI_bd (l : List UInt8) : 0 ≤ addrI l ∧ addrI l < 4294967296 := by
  cases h : addrF 4 0 l with
  | none => rw [(addr_none h).1]; omega
  | some v =>
    rw [(addr_some h).1]
    have := addrF_bd 4 0 l v h (by omega)
    refine ⟨this.1, ?_⟩
    have h2 := this.2
    rw [show ((0 : Int) + 1) * 256 ^ 4 = 4294967296 by decide] at h2
    exact h2

set_option maxHeartbeats 2000000 in
set_option maxRecDepth 100000 in
theorem prefixR_any (s : ByteArray) (w : World) (hs : s.size ≤ 1000000) :
    Calls Tryd.prog 43 #[.string s] w fun e w' => e = .returned (.tuple #[.agg #[.int .u32 (pfA s.data.toList), .int .i64 (pfN s.data.toList)], .bool (pfOk s.data.toList)]) ∧ Below w.heap.size w w' := by
  obtain ⟨ps, hps⟩ : ∃ ps, ps = splitL 47 s.data.toList := ⟨_, rfl⟩
  obtain ⟨h1, h2⟩ := pf_ref s.data.toList
  rw [← hps] at h1 h2
  have hsz : ∀ p ∈ ps, p.length ≤ 1000000 := fun p hp => by
    rw [hps] at hp
    have := splitL_size 47 _ p hp
    rw [Array.length_toList] at this
    exact Nat.le_trans this hs
  have H1 := Lib.hid h1
  have H2 := Lib.hid h2
  have HPs := Lib.hid hps
  have HSz := Lib.hid hsz
  have Hs := Lib.hid hs
  clear h1 h2 hps hsz hs
  go_enter Tryd.func43, Tryd.ntmps43
  go_wp2_with fail
  refine (splitR_any s 47 _ Hs.out).mono ?_
  rintro e w1 ⟨v, rfl, hr, hb⟩
  rw [← HPs.out] at hr
  obtain ⟨av, cv, rfl⟩ := hr.form
  rw [show (sv ps).length = ps.length by simp [sv]] at hr ⊢
  have HR := Lib.hid hr
  have hres := (Res.new w 0 0).later hb
  have HRes := Lib.hid hres
  have HB : Hid (Below w.heap.size w w1) := ((Below.refl _ _).alloc (Nat.le_refl _) _).trans (hb.mono (by simp))
  have hlw := hres.lt
  obtain ⟨c0, c1, f0, f1, lt⟩ := hres
  clear hr hb
  by_cases h2l : ps.length = 2
  · obtain ⟨p, q, rfl⟩ : ∃ p q, ps = [p, q] := by
      match ps, h2l with
      | [p, q], _ => exact ⟨p, q, rfl⟩
    have hok : pfOk s.data.toList = ((addrF 4 0 p).isSome && (refB q 32 && Wp.mayB (addrI p) (refN q))) := by rw [H1.out, addr_is]
    have hval : pfOk s.data.toList = true → pfA s.data.toList = addrI p ∧ pfN s.data.toList = refN q := fun h => by
      obtain ⟨p', q', e, e1, e2⟩ := H2.out h
      simp only [List.cons.injEq, and_true] at e
      obtain ⟨rfl, rfl⟩ := e
      exact ⟨e1, e2⟩
    obtain ⟨bl, bo, rfl, hbl, k0⟩ := HR.out.at (i := 0) (x := .string ⟨p.toArray⟩) rfl
    obtain ⟨bl', bo', e0, hbl', k1⟩ := HR.out.at (i := 1) (x := .string ⟨q.toArray⟩) rfl
    simp only [Option.some.injEq, Addr.mk.injEq, and_true] at e0
    obtain ⟨rfl, rfl⟩ := e0
    have hpl := HSz.out p (by simp)
    have hql := HSz.out q (by simp)
    obtain ⟨hA0, hA1⟩ := addrI_bd p
    have HOk := Lib.hid hok
    have HVal := Lib.hid hval
    have HPl := Lib.hid (show (⟨p.toArray⟩ : ByteArray).size ≤ 1000000 by show p.toArray.size ≤ _; simpa using hpl)
    have HQl := Lib.hid (show (⟨q.toArray⟩ : ByteArray).size ≤ 1000000 by show q.toArray.size ≤ _; simpa using hql)
    obtain ⟨A, hA⟩ : ∃ A, A = addrI p := ⟨_, rfl⟩
    obtain ⟨n, hn⟩ : ∃ n, n = refN q := ⟨_, rfl⟩
    rw [← hA] at hA0 hA1
    have HA := Lib.hid hA
    have HN := Lib.hid hn
    have HA0 := Lib.hid hA0
    have HA1 := Lib.hid hA1
    have k1' : w1.cell? ⟨bl, bo + 1, none⟩ = some (.string ⟨q.toArray⟩) := k1
    have k0' : w1.cell? ⟨bl, bo, none⟩ = some (.string ⟨p.toArray⟩) := k0
    have HK1 := Lib.hid k1'
    clear h2l hok hval hpl hql hA hn k0 k1 hA0 hA1 hbl'
    go_wp2_with fail
    refine (addrR_any ⟨p.toArray⟩ w1 HPl.out).mono ?_
    rintro e w2 ⟨rfl, hb2⟩
    rw [toArr, ← HA.out]
    have HRes2 := Lib.hid (HRes.out.later hb2)
    have HB2 := Lib.hid (below_of HB.out hb2)
    have k2 := cell_later hb2 HK1.out
    have hz2 := Nat.lt_of_lt_of_le hbl hb2.size
    clear hb2 c0 c1 f0 f1 lt k1' k0'
    go_wp2_with fail
    refine (numberR_any ⟨q.toArray⟩ 32 w2 HQl.out).mono ?_
    rintro e w3 ⟨rfl, rfl⟩
    rw [toArr, ← HN.out]
    obtain ⟨hc0, hc1, hf0, hf1, hlt⟩ := HRes2.out
    have r0 := fun o => ((HRes2.out.set 0 0).alloc o).c0
    have r1 := fun o => ((HRes2.out.set 0 0).alloc o).c1
    have R0 := Lib.hid r0
    have R1 := Lib.hid r1
    clear r0 r1
    have hgc0 := fun o => (HRes2.out.alloc o).c0
    have hgc1 := fun o => (HRes2.out.alloc o).c1
    have hgf0 := fun o => (HRes2.out.alloc o).f0
    have hgf1 := fun o => (HRes2.out.alloc o).f1
    cases hoa : (addrF 4 0 p).isSome with
    | false =>
      have hno : pfOk s.data.toList = false := by rw [HOk.out, hoa]; rfl
      have HNo := Lib.hid (pf_no hno)
      have HNo2 := Lib.hid hno
      clear hno hoa
      go_wp2_with fail
      have r0 := R0.out
      have r1 := R1.out
      refine bodyPost_ret (v := .tuple #[.agg #[.int .u32 0, .int .i64 0], .bool false]) (by simp [results, Tryd.results43, go_sem, r0, r1]) rfl ?_
      rw [HNo.out.1, HNo.out.2.1, HNo2.out]
      refine ⟨rfl, ?_⟩
      exact ((HB2.out.setCell (Nat.le_refl _) _).setCell (Nat.le_refl _) _).alloc (by simpa using HB2.out.size) _
    | true =>
      cases hob : refB q 32 with
      | false =>
        have hno : pfOk s.data.toList = false := by rw [HOk.out, hoa, hob]; rfl
        have HNo := Lib.hid (pf_no hno)
        have HNo2 := Lib.hid hno
        clear hno hoa hob
        go_wp2_with fail
        have r0 := R0.out
        have r1 := R1.out
        refine bodyPost_ret (v := .tuple #[.agg #[.int .u32 0, .int .i64 0], .bool false]) (by simp [results, Tryd.results43, go_sem, r0, r1]) rfl ?_
        rw [HNo.out.1, HNo.out.2.1, HNo2.out]
        refine ⟨rfl, ?_⟩
        exact ((HB2.out.setCell (Nat.le_refl _) _).setCell (Nat.le_refl _) _).alloc (by simpa using HB2.out.size) _
      | true =>
        have HOa := Lib.hid hoa
        have HOb := Lib.hid hob
        clear hoa hob
        go_wp2_with fail
        refine (mayR_any A n _ HA0.out HA1.out).mono ?_
        rintro e w4 ⟨rfl, hb4⟩
        have HRes4 := Lib.hid ((HRes2.out.alloc (.cells #[.int .u32 A, .int .i64 n] 25)).later hb4)
        have HNew4 := Lib.hid ((Res.new w2 A n).later hb4)
        have HB4 : Hid (Below w.heap.size w w4) := (HB2.out.alloc HB2.out.size _).trans (hb4.mono (by have := HB2.out.size; simp; omega))
        have r0 := (HRes4.out.set 0 0).c0
        have r1 := (HRes4.out.set 0 0).c1
        have s0 := (HRes4.out.set A n).c0
        have s1 := (HRes4.out.set A n).c1
        have R0' := Lib.hid r0
        have R1' := Lib.hid r1
        have S0' := Lib.hid s0
        have S1' := Lib.hid s1
        clear r0 r1 s0 s1 hc0 hc1 hf0 hf1 hlt hgc0 hgc1 hgf0 hgf1 hb4
        obtain ⟨d0, d1, e0, e1, dl⟩ := HRes4.out
        obtain ⟨m0, m1, _, _, ml⟩ := HNew4.out
        cases hM : Wp.mayB A n with
        | false =>
          have hno : pfOk s.data.toList = false := by rw [HOk.out, HOa.out, HOb.out, ← HA.out, ← HN.out, hM]; rfl
          have HNo := Lib.hid (pf_no hno)
          have HNo2 := Lib.hid hno
          clear hno hM
          go_wp2_with fail
          have r0 := R0'.out
          have r1 := R1'.out
          refine bodyPost_ret (v := .tuple #[.agg #[.int .u32 0, .int .i64 0], .bool false]) (by simp [results, Tryd.results43, go_sem, r0, r1]) rfl ?_
          rw [HNo.out.1, HNo.out.2.1, HNo2.out]
          refine ⟨rfl, ?_⟩
          exact (HB4.out.setCell (Nat.le_refl _) _).setCell (Nat.le_refl _) _
        | true =>
          have hyes : pfOk s.data.toList = true := by rw [HOk.out, HOa.out, HOb.out, ← HA.out, ← HN.out, hM]; rfl
          have HY := Lib.hid (HVal.out hyes)
          have HY2 := Lib.hid hyes
          clear hyes hM
          go_wp2_with fail
          have s0 := S0'.out
          have s1 := S1'.out
          refine bodyPost_ret (v := .tuple #[.agg #[.int .u32 A, .int .i64 n], .bool true]) (by simp [results, Tryd.results43, go_sem, s0, s1]) rfl ?_
          rw [HY.out.1, HY.out.2, HY2.out, ← HA.out, ← HN.out]
          refine ⟨rfl, ?_⟩
          exact (HB4.out.setCell (Nat.le_refl _) _).setCell (Nat.le_refl _) _
  · have q2 : ((ps.length : Int) == 2) = false := by simp; omega
    have hno : pfOk s.data.toList = false := by
      rw [H1.out]
      split
      · simp at h2l
      · rfl
    have HNo := Lib.hid (pf_no hno)
    have HNo2 := Lib.hid hno
    clear hno h2l
    go_wp2_with fail
    refine bodyPost_ret (v := .tuple #[.agg #[.int .u32 0, .int .i64 0], .bool false]) (by simp [results, Tryd.results43, go_sem, c0, c1]) rfl ?_
    rw [HNo.out.1, HNo.out.2.1, HNo2.out]
    exact ⟨rfl, (HB.out.setCell (Nat.le_refl _) _).setCell (Nat.le_refl _) _⟩
end Go.Proofs.YtijkahamgnpobaaDoor

namespace Go.Proofs.YtijkahamgnpobaaDoor
open Go.RowKit
attribute [local go_sem ↓] Go.wp_at_zero Go.wp_at_succ

/-- May an update be? -/
def mayU (a n d : Int) : Bool := Wp.mayB a n && (decide (0 ≤ d) && decide (d ≤ 255))
theorem mayU_of {a n d : Int} (h : mayU a n d = true) : Wp.mayB a n = true ∧ 0 ≤ d ∧ d ≤ 255 := by
  simpa [mayU] using h
theorem mayU_mk {a n d : Int} (h : Wp.mayB a n = true) (h0 : 0 ≤ d) (h1 : d ≤ 255) : mayU a n d = true := by
  simp [mayU, h, h0, h1]
/-- How far it is by a neighbour. -/
def farI (d c : Int) : Int := if 0 ≤ d ∧ d ≤ 255 ∧ 1 ≤ c ∧ c ≤ 50 then min (d + c) 255 else 255
theorem far_yes {d c : Int} (h : 0 ≤ d) (h1 : d ≤ 255) (h2 : 1 ≤ c) (h3 : c ≤ 50) : farI d c = min (d + c) 255 := if_pos ⟨h, h1, h2, h3⟩
theorem far_no {d c : Int} (h : ¬ (0 ≤ d ∧ d ≤ 255 ∧ 1 ≤ c ∧ c ≤ 50)) : farI d c = 255 := if_neg h

set_option maxHeartbeats 400000 in
theorem num5_any (n : Int) (w : World) :
    Calls Tryd.prog 14 #[.int .i64 n] w fun e w' => e = .returned (.int .i64 n) ∧ w = w' := by
  go_enter Tryd.func14, Tryd.ntmps14
  go_wp2
  go_ret
  exact ⟨rfl, rfl⟩

theorem mayD_any (d : Int) (w : World) : Calls Tryd.prog 31 #[.int .i64 d] w fun e w' => e = .returned (.bool (decide (0 ≤ d) && decide (d ≤ 255))) ∧ w = w' := by
  by_cases h1 : 0 ≤ d
  · by_cases h2 : d ≤ 255
    · go_enter Tryd.func31, Tryd.ntmps31
      go_wp2
      go_ret
      exact ⟨ret_b (by simp [h1, h2]), rfl⟩
    · go_enter Tryd.func31, Tryd.ntmps31
      go_wp2
      go_ret
      exact ⟨ret_b (by simp [h1, h2]), rfl⟩
  · go_enter Tryd.func31, Tryd.ntmps31
    go_wp2
    go_ret
    exact ⟨ret_b (by rw [decide_eq_false (show ¬ 0 ≤ d by omega)]; rfl), rfl⟩

set_option maxHeartbeats 1000000 in
theorem mayUW_any (a n d : Int) (w : World) :
    Calls Tryd.prog 12 #[.agg #[.int .u32 a, .int .i64 n, .int .i64 d]] w fun e w' => e = .returned (.bool (mayU a n d)) ∧ Below w.heap.size w w' := by
  have hf : mayU a n d = (Wp.mayB a n && (decide (0 ≤ d) && decide (d ≤ 255))) := rfl
  rcases hm : Wp.mayB a n with _ | _
  · rw [hm] at hf
    have Hf := Lib.hid hf
    have Hm := Lib.hid hm
    clear hm hf
    go_enter Tryd.func12, Tryd.ntmps12
    go_wp2_with fail
    refine (mayW_any _ _ _).mono ?_
    rintro e w1 ⟨rfl, hb1⟩
    rw [Hm.out]
    obtain ⟨hc, hfz⟩ := bcell hb1
    go_wp2_with fail
    go_ret
    exact ⟨ret_b (by rw [Hf.out]; rfl), ((Below.refl _ _).alloc (Nat.le_refl _) _).trans (hb1.mono (by simp))⟩
  · rw [hm] at hf
    have Hf := Lib.hid hf
    have Hm := Lib.hid hm
    clear hm hf
    go_enter Tryd.func12, Tryd.ntmps12
    go_wp2_with fail
    refine (mayW_any _ _ _).mono ?_
    rintro e w1 ⟨rfl, hb1⟩
    rw [Hm.out]
    obtain ⟨hc, hfz⟩ := bcell hb1
    go_wp2_with fail
    refine (mayD_any _ _).mono ?_
    rintro e w2 ⟨rfl, rfl⟩
    go_wp2_with fail
    go_ret
    exact ⟨ret_b (by rw [Hf.out]; rfl), ((Below.refl _ _).alloc (Nat.le_refl _) _).trans (hb1.mono (by simp))⟩

set_option maxHeartbeats 1000000 in
theorem mayUR_any (a n d : Int) (w : World) (ha : 0 ≤ a) (ha2 : a < 4294967296) :
    Calls Tryd.prog 13 #[.agg #[.int .u32 a, .int .i64 n, .int .i64 d]] w fun e w' => e = .returned (.bool (mayU a n d)) ∧ Below w.heap.size w w' := by
  have hf : mayU a n d = (Wp.mayB a n && (decide (0 ≤ d) && decide (d ≤ 255))) := rfl
  rcases hm : Wp.mayB a n with _ | _
  · rw [hm] at hf
    have Hf := Lib.hid hf
    have Hm := Lib.hid hm
    clear hm hf
    go_enter Tryd.func13, Tryd.ntmps13
    go_wp2_with fail
    refine (mayR_any _ _ _ ha ha2).mono ?_
    rintro e w1 ⟨rfl, hb1⟩
    rw [Hm.out]
    obtain ⟨hc, hfz⟩ := bcell hb1
    go_wp2_with fail
    go_ret
    exact ⟨ret_b (by rw [Hf.out]; rfl), ((Below.refl _ _).alloc (Nat.le_refl _) _).trans (hb1.mono (by simp))⟩
  · rw [hm] at hf
    have Hf := Lib.hid hf
    have Hm := Lib.hid hm
    clear hm hf
    by_cases h1 : 0 ≤ d
    · go_enter Tryd.func13, Tryd.ntmps13
      go_wp2_with fail
      refine (mayR_any _ _ _ ha ha2).mono ?_
      rintro e w1 ⟨rfl, hb1⟩
      rw [Hm.out]
      obtain ⟨hc, hfz⟩ := bcell hb1
      go_wp2_with fail
      go_ret
      exact ⟨ret_b (by rw [Hf.out]; simp [h1]), ((Below.refl _ _).alloc (Nat.le_refl _) _).trans (hb1.mono (by simp))⟩
    · go_enter Tryd.func13, Tryd.ntmps13
      go_wp2_with fail
      refine (mayR_any _ _ _ ha ha2).mono ?_
      rintro e w1 ⟨rfl, hb1⟩
      rw [Hm.out]
      obtain ⟨hc, hfz⟩ := bcell hb1
      go_wp2_with fail
      go_ret
      exact ⟨ret_b (by rw [Hf.out, decide_eq_false (show ¬ 0 ≤ d by omega)]; rfl), ((Below.refl _ _).alloc (Nat.le_refl _) _).trans (hb1.mono (by simp))⟩

theorem minI (x : Int) : min x 255 = if x ≤ 255 then x else 255 := by omega
set_option maxHeartbeats 1000000 in
theorem farW_any (d c : Int) (w : World) :
    Calls Tryd.prog 24 #[.int .i64 d, .int .i64 c] w fun e w' => e = .returned (.int .i64 (farI d c)) ∧ w = w' := by
  by_cases h1 : 0 ≤ d
  · by_cases h2 : d ≤ 255
    · have hd : (decide (0 ≤ d) && decide (d ≤ 255)) = true := by simp [h1, h2]
      have Hd := Lib.hid hd
      clear hd
      by_cases h3 : 1 ≤ c
      · by_cases h4 : c ≤ 50
        · have Hf := Lib.hid (far_yes h1 h2 h3 h4)
          go_enter Tryd.func24, Tryd.ntmps24
          go_wp2_with fail
          refine (mayD_any _ _).mono ?_
          rintro e w1 ⟨rfl, rfl⟩
          rw [Hd.out]
          go_wp2_with fail
          all_goals
            go_ret
            exact ⟨ret_i (by rw [Hf.out] <;> omega), rfl⟩
        · have Hf := Lib.hid (far_no (d := d) (c := c) (by omega))
          go_enter Tryd.func24, Tryd.ntmps24
          go_wp2_with fail
          refine (mayD_any _ _).mono ?_
          rintro e w1 ⟨rfl, rfl⟩
          rw [Hd.out]
          go_wp2_with fail
          go_ret
          exact ⟨ret_i Hf.out.symm, rfl⟩
      · have Hf := Lib.hid (far_no (d := d) (c := c) (by omega))
        go_enter Tryd.func24, Tryd.ntmps24
        go_wp2_with fail
        refine (mayD_any _ _).mono ?_
        rintro e w1 ⟨rfl, rfl⟩
        rw [Hd.out]
        go_wp2_with fail
        go_ret
        exact ⟨ret_i Hf.out.symm, rfl⟩
    · have Hf := Lib.hid (far_no (d := d) (c := c) (by omega))
      have Hd := Lib.hid (show (decide (0 ≤ d) && decide (d ≤ 255)) = false by simp [h2])
      go_enter Tryd.func24, Tryd.ntmps24
      go_wp2_with fail
      refine (mayD_any _ _).mono ?_
      rintro e w1 ⟨rfl, rfl⟩
      rw [Hd.out]
      go_wp2_with fail
      go_ret
      exact ⟨ret_i Hf.out.symm, rfl⟩
  · have Hf := Lib.hid (far_no (d := d) (c := c) (by omega))
    have Hd := Lib.hid (show (decide (0 ≤ d) && decide (d ≤ 255)) = false by simp [h1])
    go_enter Tryd.func24, Tryd.ntmps24
    go_wp2_with fail
    refine (mayD_any _ _).mono ?_
    rintro e w1 ⟨rfl, rfl⟩
    rw [Hd.out]
    go_wp2_with fail
    go_ret
    exact ⟨ret_i Hf.out.symm, rfl⟩

set_option maxHeartbeats 1000000 in
theorem farR_any (d c : Int) (w : World) :
    Calls Tryd.prog 25 #[.int .i64 d, .int .i64 c] w fun e w' => e = .returned (.int .i64 (farI d c)) ∧ w = w' := by
  by_cases h0 : d < 0
  · have Hf := Lib.hid (far_no (d := d) (c := c) (by omega))
    go_enter Tryd.func25, Tryd.ntmps25
    go_wp2_with fail
    go_ret
    exact ⟨ret_i Hf.out.symm, rfl⟩
  by_cases h2 : 255 ≤ d
  · have Hf := Lib.hid (show farI d c = 255 by unfold farI; split <;> omega)
    go_enter Tryd.func25, Tryd.ntmps25
    go_wp2_with fail
    go_ret
    exact ⟨ret_i Hf.out.symm, rfl⟩
  by_cases h3 : c < 1
  · have Hf := Lib.hid (far_no (d := d) (c := c) (by omega))
    go_enter Tryd.func25, Tryd.ntmps25
    go_wp2_with fail
    go_ret
    exact ⟨ret_i Hf.out.symm, rfl⟩
  by_cases h4 : 50 < c
  · have Hf := Lib.hid (far_no (d := d) (c := c) (by omega))
    go_enter Tryd.func25, Tryd.ntmps25
    go_wp2_with fail
    go_ret
    exact ⟨ret_i Hf.out.symm, rfl⟩
  have q0 : 0 ≤ d := by omega
  have q1 : d ≤ 255 := by omega
  have q2 : 1 ≤ c := by omega
  have q3 : c ≤ 50 := by omega
  by_cases h5 : 255 < d + c
  · have Hf := Lib.hid (show farI d c = 255 by rw [far_yes q0 q1 q2 q3]; omega)
    go_enter Tryd.func25, Tryd.ntmps25
    go_wp2_with fail
    go_ret
    exact ⟨ret_i Hf.out.symm, rfl⟩
  · have Hf := Lib.hid (show farI d c = d + c by rw [far_yes q0 q1 q2 q3]; omega)
    go_enter Tryd.func25, Tryd.ntmps25
    go_wp2_with fail
    go_ret
    exact ⟨ret_i Hf.out.symm, rfl⟩
end Go.Proofs.YtijkahamgnpobaaDoor

namespace Go.Proofs.YtijkahamgnpobaaDoor
open Go.RowKit
def AnsV (l : List UInt8) (w : World) (e : Ending) (w' : World) : Prop := ∃ v, e = .returned v ∧ Bytes w' v l ∧ Below w.heap.size w w'

theorem byte_of2 {n k : Nat} : ((n / 256 ^ k : Nat) : Int) % 256 = ((UInt8.ofNat (n / 256 ^ k)).toNat : Int) := by
  rw [UInt8.toNat_ofNat']; simp

set_option maxHeartbeats 1000000 in
set_option maxRecDepth 100000 in
theorem putRO_any (n size : Nat) (w : World) (hn : n < 18446744073709551616) (h2 : size ≤ 8) :
    Calls Tryd.prog 33 #[.int .u64 (n : Int), .int .i64 (size : Int)] w fun e w' => ∃ v, e = .returned v ∧ w'.ownsRow w.heap.size 5 1 v (putL n size).length (bv (putL n size)) ∧ Below w.heap.size w w' := by
  have hi5 : (Tryd.prog.info? 5).map (fun i => (i.zero, i.size, i.bytes)) = some (some (.int .u8 0), 1, 1) := by kernel_rfl
  obtain ⟨i0, hi, hx⟩ := Option.map_eq_some_iff.1 hi5
  simp only [Prod.mk.injEq] at hx
  obtain ⟨hz0, hz1, hz2⟩ := hx
  obtain ⟨w1, hmk, hown0, hg0⟩ := run_make_full (P := Tryd.prog) (w := w) w.heap.size 28 5 i0 (.int .u8 0) 1 Tryd.underlying28 hi hz0 hz1 .i64 .i64 size (by rw [hz2]; omega) (by unfold maxLen; omega) (Nat.le_refl _)
  clear hi5
  have HU := Lib.hid (show Below w.heap.size w w1 from (Below.refl _ _).grown hg0 (Nat.le_refl _) (by simp))
  have hm : (madeCells (Value.int IntKind.u8 0).cells (size * 1)).toList = bv (putR n size 0) := by
    rw [Nat.mul_one]; show (madeCells #[.int .u8 0] size).toList = _
    rw [toList_madeCells_one]; simp [putR, putL, bv]
  rw [hm] at hown0
  have HO := Lib.hid hown0
  clear hm hown0 hg0
  go_enter Tryd.func33, Tryd.ntmps33
  go_wp2
  clear hmk
  go_loopw [0, 6] (fun x i wr => ∃ k : Nat, k ≤ size ∧ i = .int .i64 ((size : Int) - 1 - k) ∧ x = .int .u64 ((n / 256 ^ k : Nat) : Int) ∧ Hid (wr.ownsRow w.heap.size 5 1 (.slice (some ⟨w.heap.size, 0, none⟩) size size) size (bv (putR n size k))) ∧ Hid (Below w.heap.size w wr)) (fun _ i _ => (intOf i + 1).toNat)
  case atStart => exact ⟨0, Nat.zero_le _, by simp, by simp, HO.out, HU⟩
  case round =>
    obtain ⟨k, hk, rfl, rfl, HW, HB⟩ := hrel
    obtain ⟨y, hy⟩ : ∃ y : Nat, y = n / 256 ^ k := ⟨_, rfl⟩
    have hyn : y < 18446744073709551616 := by rw [hy]; exact Nat.lt_of_le_of_lt (Nat.div_le_self _ _) hn
    rw [← hy]
    have Hy := Lib.hid hy
    clear hy
    by_cases hlt : k < size
    · obtain ⟨u, hu⟩ := own_cell HW.out (by simp [bv, putR, putL_length]; omega) (j := size - 1 - k) (by omega)
      have hf := HW.out.frozenAt (size - 1 - k)
      have hnat : ((size : Int) - 1 - k).toNat = size - 1 - k := by omega
      go_wp2
      have hst := (HW.out.stored (size - 1 - k) (.int .u8 ((UInt8.ofNat (n / 256 ^ k)).toNat : Int)))
      rw [putR_set n size k hlt] at hst
      rw [Hy.out, byte_of2 (n := n) (k := k)]
      exact ⟨⟨k + 1, by omega, congrArg (Value.int .i64) (by omega), by rw [Nat.pow_succ, ← Nat.div_div_eq_div_mul]; simp, hst.1, HB.out.setCell (Nat.le_refl _) _⟩, by simp [intOf]; omega⟩
    · have hk2 : k = size := by omega
      subst hk2
      go_wp2
      go_ret
      refine ⟨_, rfl, ?_, HB.out⟩
      have := HW.out
      rw [show putR n k k = putL n k from by simp [putR]] at this
      rw [putL_length]
      exact this
theorem putR_any (n size : Nat) (w : World) (hn : n < 18446744073709551616) (h2 : size ≤ 8) :
    Calls Tryd.prog 33 #[.int .u64 (n : Int), .int .i64 (size : Int)] w (AnsV (putL n size) w) :=
  (putRO_any n size w hn h2).mono fun _ _ ⟨v, h1, h2, h3⟩ => ⟨v, h1, Bytes.of_own h2, h3⟩

set_option maxHeartbeats 1000000 in
theorem getR_any (v : Value) (l : List UInt8) (w : World) (hv : Bytes w v l) (hl : l.length ≤ 8) :
    Calls Tryd.prog 29 #[v] w fun e w' => e = .returned (.int .u64 ((getL l : Nat) : Int)) ∧ w = w' := by
  rcases hv with ⟨rfl, a, c, rfl, _⟩ | ⟨b, o, c, rfl, hb, _, hc⟩
  · go_enter Tryd.func29, Tryd.ntmps29
    go_wp2
    go_rounds 1
    go_ret
    exact ⟨rfl, rfl⟩
  · have HC := Lib.hid hc
    clear hc
    go_enter Tryd.func29, Tryd.ntmps29
    go_wp2
    go_loop [3, 4] (fun x i => ∃ k : Nat, k ≤ l.length ∧ i = .int .i64 k ∧ x = .int .u64 ((getL (l.take k) : Nat) : Int)) (fun _ i => l.length - (intOf i).toNat)
    case atStart => exact ⟨0, Nat.zero_le _, rfl, by simp [getL]⟩
    case round =>
      obtain ⟨k, hk, rfl, rfl⟩ := hrel
      obtain ⟨y, hy⟩ : ∃ y : Nat, y = getL (l.take k) := ⟨_, rfl⟩
      by_cases hlt : k < l.length
      · have hyn : y < 72057594037927936 := by rw [hy]; exact getL_take_lt l (by omega) (by omega)
        have hs := getL_take l k hlt
        have hcell := HC.out k l[k] (List.getElem?_eq_getElem hlt)
        obtain ⟨z, hz⟩ : ∃ z : Nat, z = l[k].toNat := ⟨_, rfl⟩
        have hzn : z < 256 := by rw [hz]; exact l[k].toNat_lt
        rw [← hy]
        rw [← hy, ← hz] at hs
        rw [← hz] at hcell
        have Hs := Lib.hid hs
        clear hs hy hz
        go_wp2
        go_round
        case rel => exact ⟨k + 1, by omega, by go_num, by rw [Hs.out]; simp⟩
        case measure => simp [intOf]; omega
      · have hk2 : k = l.length := by omega
        subst hk2
        rw [← hy]
        have Hy : Hid (y = getL l) := by rw [List.take_length] at hy; exact hy
        clear hy
        go_wp2
        go_ret
        exact ⟨ret_i (by rw [← Hy.out]), rfl⟩
end Go.Proofs.YtijkahamgnpobaaDoor

namespace Go.Proofs.YtijkahamgnpobaaDoor
open Go.RowKit

/-- The value reads as these lists of bytes. -/
def Lists (w : World) (v : Value) (L : List (List UInt8)) : Prop :=
  (L = [] ∧ ∃ a c, v = .slice a 0 c ∧ (a = none → c = 0)) ∨
  ∃ b o c, v = .slice (some ⟨b, o, none⟩) L.length c ∧ b < w.heap.size ∧ L.length ≤ c ∧ ∀ j l, L[j]? = some l → ∃ u, w.cell? ⟨b, o + j, none⟩ = some u ∧ Bytes w u l

theorem Lists.later {w w' : World} {v : Value} {L : List (List UInt8)} (h : Lists w v L) (hb : Below w.heap.size w w') : Lists w' v L := by
  rcases h with h | ⟨b, o, c, h1, h2, hp, h3⟩
  · exact .inl h
  · refine .inr ⟨b, o, c, h1, Nat.lt_of_lt_of_le h2 hb.size, hp, fun j l hl => ?_⟩
    obtain ⟨u, hu, hx⟩ := h3 j l hl
    exact ⟨u, cell_later hb hu, hx.later hb⟩
theorem Lists.form {w : World} {v : Value} {L : List (List UInt8)} (h : Lists w v L) : ∃ a c, v = .slice a L.length c := by
  rcases h with ⟨rfl, a, c, rfl, _⟩ | ⟨b, o, c, rfl, _, _⟩
  · exact ⟨a, c, rfl⟩
  · exact ⟨_, c, rfl⟩
/-- The element at a place: where it lies, in every later world. -/
theorem Lists.at {w : World} {a : Option Addr} {n c : Nat} {L : List (List UInt8)} (h : Lists w (.slice a n c) L) {i : Nat} (hi : i < L.length) :
    ∃ b o, a = some ⟨b, o, none⟩ ∧ b < w.heap.size ∧ ∃ x d, w.cell? ⟨b, o + i, none⟩ = some (.slice x L[i].length d) ∧ Bytes w (.slice x L[i].length d) L[i] := by
  rcases h with ⟨rfl, _⟩ | ⟨b, o, c', h1, h2, _, h3⟩
  · simp at hi
  · obtain ⟨u, hu, hx⟩ := h3 i L[i] (List.getElem?_eq_getElem hi)
    obtain ⟨x, d, rfl⟩ := hx.form
    simp only [Value.slice.injEq] at h1
    exact ⟨b, o, h1.1, h2, x, d, hu, hx⟩
theorem Bytes.at {w : World} {a : Option Addr} {n c : Nat} {l : List UInt8} (h : Bytes w (.slice a n c) l) {i : Nat} (hi : i < l.length) :
    ∃ b o, a = some ⟨b, o, none⟩ ∧ b < w.heap.size ∧ w.cell? ⟨b, o + i, none⟩ = some (.int .u8 (l[i].toNat : Int)) := by
  rcases h with ⟨rfl, _⟩ | ⟨b, o, c', h1, h2, _, h3⟩
  · simp at hi
  · simp only [Value.slice.injEq] at h1
    exact ⟨b, o, h1.1, h2, h3 i _ (List.getElem?_eq_getElem hi)⟩
theorem Lists.nil (w : World) (a : Option Addr) (c : Nat) (h : a = none → c = 0 := by intros; first | rfl | contradiction | simp_all) : Lists w (.slice a 0 c) [] := .inl ⟨rfl, a, c, rfl, h⟩

theorem bytes_lit (w : World) (l : List UInt8) : Bytes (w.alloc (.cells (bv l).toArray 5)) (.slice (some ⟨w.heap.size, 0, none⟩) l.length l.length) l :=
  .inr ⟨w.heap.size, 0, l.length, rfl, by simp, Nat.le_refl _, fun j x hx => by
    have : (bv l)[j]? = some (.int .u8 (x.toNat : Int)) := by simp [bv, hx]
    simp [this]⟩

/-- Bytes that are kept, and all that was there ahead. -/
def KeptB (w0 : World) (v : Value) (l : List UInt8) (w' : World) : Prop := Bytes w' v l ∧ w0.heap.size < w'.heap.size ∧ Below w0.heap.size w0 w'
theorem KeptB.later {w0 w1 w2 : World} {v : Value} {l : List UInt8} (h : KeptB w0 v l w1) (hb : Below w1.heap.size w1 w2) : KeptB w0 v l w2 :=
  ⟨h.1.later hb, Nat.lt_of_lt_of_le h.2.1 hb.size, h.2.2.trans (hb.mono (Nat.le_of_lt h.2.1))⟩
theorem KeptB.drew {w0 w1 : World} {v : Value} {l : List UInt8} (h : KeptB w0 v l w1) : KeptB w0 v l w1.drew := h.later (Below.refl _ _).drew
theorem KeptB.alloc {w0 w1 : World} {v : Value} {l : List UInt8} (h : KeptB w0 v l w1) (o : Obj) : KeptB w0 v l (w1.alloc o) := h.later ((Below.refl _ _).alloc (Nat.le_refl _) o)
theorem KeptB.allocDrew {w0 w1 : World} {v : Value} {l : List UInt8} (h : KeptB w0 v l w1) (o : Obj) : KeptB w0 v l (w1.alloc o).drew := (h.alloc o).drew

theorem ret_u {k : IntKind} {a : Nat} {b : Int} (h : (a : Int) = b) : Ending.returned (.int k a) = .returned (.int k b) := by rw [h]
theorem bytes_take {w : World} {b : Option Addr} {n c : Nat} {l : List UInt8} (h : Bytes w (.slice b n c) l) {k : Nat} (hk : k ≤ l.length) : Bytes w (.slice b k c) (l.take k) := by
  rcases h with ⟨rfl, a, c', h1, h2⟩ | ⟨bl, o, c', h1, h2, hp, h3⟩
  · simp only [Value.slice.injEq] at h1
    obtain ⟨rfl, rfl, rfl⟩ := h1
    have : k = 0 := by simpa using hk
    subst this
    exact .inl ⟨by simp, _, _, rfl, h2⟩
  · simp only [Value.slice.injEq] at h1
    obtain ⟨rfl, rfl, rfl⟩ := h1
    refine .inr ⟨bl, o, c, by rw [List.length_take, Nat.min_eq_left hk], h2, by rw [List.length_take]; omega, fun j x hx => h3 j x ?_⟩
    rw [List.getElem?_take] at hx
    split at hx
    · exact hx
    · cases hx
theorem bytes_drop {w : World} {bl o c : Nat} {l : List UInt8} {n : Nat} (h : Bytes w (.slice (some ⟨bl, o, none⟩) n c) l) (k : Nat) (m : Nat) (hm : m = l.length - k) (d : Nat) (hd : m ≤ d) : Bytes w (.slice (some ⟨bl, o + k, none⟩) m d) (l.drop k) := by
  subst hm
  rcases h with ⟨rfl, a, c', h1, h2⟩ | ⟨bl, o, c', h1, h2, hp, h3⟩
  · simp only [Value.slice.injEq] at h1
    exact .inl ⟨by simp, some ⟨bl, o + k, none⟩, d, by simp, fun h => by cases h⟩
  · simp only [Value.slice.injEq, Option.some.injEq, Addr.mk.injEq] at h1
    obtain ⟨⟨rfl, rfl, _⟩, rfl, rfl⟩ := h1
    refine .inr ⟨bl, o + k, d, by simp, h2, by simpa using hd, fun j x hx => ?_⟩
    rw [List.getElem?_drop] at hx
    rw [Nat.add_assoc]
    exact h3 (k + j) x hx

theorem lists_one3 {W : World} {v : Value} {l : List UInt8} {n : Nat} (h : Bytes W v l) (hc : W.cell? ⟨n, 0, none⟩ = some v) (hn : n < W.heap.size) : Lists W (.slice (some ⟨n, 0, none⟩) 1 1) [l] :=
  .inr ⟨n, 0, 1, rfl, hn, Nat.le_refl _, fun j x hx => by
    match j, hx with
    | 0, hx => simp at hx; subst hx; exact ⟨v, hc, h⟩⟩
theorem lists_two3 {W : World} {u v : Value} {k l : List UInt8} {n : Nat} (g : Bytes W u k) (h : Bytes W v l) (hu : W.cell? ⟨n, 0, none⟩ = some u) (hc : W.cell? ⟨n, 1, none⟩ = some v) (hn : n < W.heap.size) : Lists W (.slice (some ⟨n, 0, none⟩) 2 2) [k, l] :=
  .inr ⟨n, 0, 2, rfl, hn, Nat.le_refl _, fun j x hx => by
    match j, hx with
    | 0, hx => simp at hx; subst hx; exact ⟨u, by simpa using hu, g⟩
    | 1, hx => simp at hx; subst hx; exact ⟨v, by simpa using hc, h⟩⟩

theorem Bytes.cap {w : World} {a : Option Addr} {n c : Nat} {l : List UInt8} (h : Bytes w (.slice a n c) l) : l.length ≤ c := by
  rcases h with ⟨rfl, _⟩ | ⟨b, o, c', e1, e2, e3, e4⟩
  · simp
  · simp only [Value.slice.injEq] at e1
    obtain ⟨rfl, rfl, rfl⟩ := e1
    exact e3
/-- What is cut out of a slice reads as the part. -/
theorem Bytes.sliced {w : World} {a : Option Addr} {n c : Nat} {l : List UInt8} (h : Bytes w (.slice a n c) l) {lo hi m : Nat} (h1 : lo ≤ hi) (h2 : hi ≤ l.length) (h3 : hi ≤ m) (h4 : m ≤ c) : Bytes w (Go.sliced a lo hi m 1) ((l.take hi).drop lo) := by
  unfold Go.sliced
  rcases h with ⟨rfl, a', c', e1, e2⟩ | ⟨b, o, c', e1, e2, e3, e4⟩
  · simp only [Value.slice.injEq] at e1
    obtain ⟨rfl, rfl, rfl⟩ := e1
    have : hi = 0 := by simpa using h2
    subst this
    have : lo = 0 := by omega
    subst this
    refine .inl ⟨by simp, _, _, rfl, fun h => ?_⟩
    split at h
    · omega
    · have : a = none := by simpa using h
      have := e2 this
      omega
  · simp only [Value.slice.injEq] at e1
    obtain ⟨rfl, rfl, rfl⟩ := e1
    rcases Nat.eq_or_lt_of_le h1 with rfl | h5
    · refine .inl ⟨by simp, _, _, by rw [Nat.sub_self], fun h => ?_⟩
      split at h <;> simp at h
    · have hlen : ((l.take hi).drop lo).length = hi - lo := by simp; omega
      rw [if_neg (by omega)]
      refine .inr ⟨b, o + lo, m - lo, ?_, e2, by omega, fun j x hx => ?_⟩
      · rw [hlen]
        simp only [Option.map_some, Nat.mul_one, Value.slice.injEq, and_true]
        unfold Addr.add
        by_cases h0 : lo = 0 <;> simp [h0]
      · rw [List.getElem?_drop, List.getElem?_take] at hx
        split at hx
        · have := e4 (lo + j) x hx
          rw [Nat.add_assoc]; exact this
        · cases hx
theorem cells1 : (Tryd.prog.underlying 28) = some (.slice (Tryd.prog.elem 28)) := by kernel_rfl
theorem size1 (w : World) : (sizeOf (Tryd.prog.elem 28)).run Tryd.prog w = .ok 1 w := by kernel_rfl
/-- b[i:]. -/
theorem Bytes.cut_l {w : World} {a : Option Addr} {c : Nat} {l : List UInt8} (h : Bytes w (.slice a l.length c) l) (i : Int) (lo : Nat) (hi : i = lo) (hlo : lo ≤ l.length) :
    ∃ a', (∀ w, (Instr.slice 28 (.slice a l.length c) (some (.int .i64 i)) none none).run Tryd.prog w = .ok (.slice a' (l.length - lo) (c - lo)) w) ∧ Bytes w (.slice a' (l.length - lo) (c - lo)) (l.drop lo) := by
  have hc := h.cap
  subst hi
  have hb := h.sliced hlo (Nat.le_refl _) hc (Nat.le_refl _)
  rw [List.take_length] at hb
  refine ⟨_, fun w => ?_, hb⟩
  rw [run_slice_l w _ a _ _ cells1 _ _ (by omega) (by omega), size1]
  rfl
/-- b[:i]. -/
theorem Bytes.cut_h {w : World} {a : Option Addr} {n c : Nat} {l : List UInt8} (h : Bytes w (.slice a n c) l) (i : Int) (hi : Nat) (he : i = hi) (hlo : hi ≤ l.length) :
    (∀ w, (Instr.slice 28 (.slice a n c) none (some (.int .i64 i)) none).run Tryd.prog w = .ok (.slice a hi c) w) ∧ Bytes w (.slice a hi c) (l.take hi) := by
  have hc := h.cap
  subst he
  have hb := h.sliced (lo := 0) (Nat.zero_le _) hlo (by omega) (Nat.le_refl _)
  have e : Go.sliced a 0 hi c 1 = .slice a hi c := by
    unfold Go.sliced
    congr 1
    split
    · rfl
    · cases a <;> simp [Addr.add]
  refine ⟨fun w => ?_, bytes_take h hlo⟩
  rw [run_slice_h w _ a _ _ cells1 _ _ (by omega) (by omega), size1]
  show Result.ok (Go.sliced a 0 _ c 1) w = _
  rw [Int.toNat_natCast, e]
end Go.Proofs.YtijkahamgnpobaaDoor

namespace Go.Proofs.YtijkahamgnpobaaDoor
open Go.RowKit
attribute [local go_sem ↓] Go.wp_at_zero Go.wp_at_succ

/-- What the count of the first lists comes to. -/
def msum (L : List (List UInt8)) : Nat → Nat
  | 0 => 0
  | k + 1 => msum L k + min (L[k]?.getD []).length 9001
def lsum (L : List (List UInt8)) : Nat → Nat
  | 0 => 0
  | k + 1 => lsum L k + (L[k]?.getD []).length
theorem msum_le (L : List (List UInt8)) : ∀ k, msum L k ≤ lsum L k
  | 0 => Nat.le_refl _
  | k + 1 => by have := msum_le L k; unfold msum lsum; omega
theorem msum_eq (L : List (List UInt8)) : ∀ k, msum L k ≤ 9000 → msum L k = lsum L k
  | 0, _ => rfl
  | k + 1, h => by
    unfold msum at h ⊢
    unfold lsum
    have e := msum_eq L k (by omega)
    omega
theorem lsum_take (L : List (List UInt8)) : ∀ k, k ≤ L.length → lsum L k = (L.take k).flatten.length
  | 0, _ => by simp [lsum]
  | k + 1, h => by
    unfold lsum
    rw [lsum_take L k (by omega), List.take_succ_eq_append_getElem (by omega), List.flatten_append, List.length_append, List.flatten_singleton, List.getElem?_eq_getElem (by omega)]
    rfl
theorem lsum_all (L : List (List UInt8)) : lsum L L.length = L.flatten.length := by rw [lsum_take L _ (Nat.le_refl _), List.take_length]
theorem lsum_mono (L : List (List UInt8)) {i k : Nat} (h : i ≤ k) : lsum L i ≤ lsum L k := by
  induction k with
  | zero => have : i = 0 := by omega
            subst this; exact Nat.le_refl _
  | succ k ih =>
    rcases Nat.eq_or_lt_of_le h with rfl | h
    · exact Nat.le_refl _
    · have := ih (by omega)
      show _ ≤ lsum L k + _
      omega
/-- More than so many bytes and parts. -/
def muchB (L : List (List UInt8)) : Bool := decide (9000 < L.length + L.flatten.length)

end Go.Proofs.YtijkahamgnpobaaDoor

namespace Go.Proofs.YtijkahamgnpobaaDoor
open Go.RowKit

/-- The value owns these bytes. -/
def OwnB (w : World) (B : Nat) (v : Value) (l : List UInt8) : Prop := w.ownsRow B 5 1 v l.length (bv l)
theorem OwnB.bytes {w : World} {B : Nat} {v : Value} {l : List UInt8} (h : OwnB w B v l) : Bytes w v l := Bytes.of_own h
theorem OwnB.nil (w : World) (B : Nat) : OwnB w B (.slice none 0 0) [] := World.ownsRow_nil w _ _ _
theorem OwnB.form {w : World} {B : Nat} {v : Value} {l : List UInt8} (h : OwnB w B v l) : ∃ a c, v = .slice a l.length c := (OwnB.bytes h).form
theorem OwnB.alloc {w : World} {B : Nat} {v : Value} {l : List UInt8} (h : OwnB w B v l) (o : Obj) : OwnB (w.alloc o) B v l := World.ownsRow.alloc h o
theorem OwnB.drew {w : World} {B : Nat} {v : Value} {l : List UInt8} (h : OwnB w B v l) : OwnB w.drew B v l := h
theorem info8 : ∃ i0, Tryd.prog.info? 5 = some i0 ∧ i0.zero = some (.int .u8 0) ∧ i0.size = 1 ∧ i0.bytes = 1 := by
  have hi5 : (Tryd.prog.info? 5).map (fun i => (i.zero, i.size, i.bytes)) = some (some (.int .u8 0), 1, 1) := by kernel_rfl
  obtain ⟨i0, hi, hx⟩ := Option.map_eq_some_iff.1 hi5
  simp only [Prod.mk.injEq] at hx
  exact ⟨i0, hi, hx.1, hx.2.1, hx.2.2⟩
/-- Behind a call that left what was there: what is owned is still owned. -/
theorem OwnB.later {w w' : World} {B : Nat} {v : Value} {l : List UInt8} (h : OwnB w B v l) (hb : Below w.heap.size w w') : OwnB w' B v l := by
  obtain ⟨hl, h0 | ⟨g, cap, cur, rfl, hb1, hg, hn, hm, hc, ht⟩⟩ := h
  · exact ⟨hl, .inl h0⟩
  · refine ⟨hl, .inr ⟨g, cap, cur, rfl, hb1, ?_, hn, hm, hc, ht⟩⟩
    rw [hb.block g ?_]
    · exact hg
    · rcases Nat.lt_or_ge g w.heap.size with h1 | h1
      · exact h1
      · rw [Array.getElem?_eq_none h1] at hg; cases hg

theorem OwnB.weak {w : World} {B B' : Nat} {v : Value} {l : List UInt8} (h : OwnB w B' v l) (hB : B ≤ B') : OwnB w B v l := by
  obtain ⟨hl, h0 | ⟨g, cap, cur, rfl, hb1, hr⟩⟩ := h
  · exact ⟨hl, .inl h0⟩
  · exact ⟨hl, .inr ⟨g, cap, cur, rfl, Nat.le_trans hB hb1, hr⟩⟩

theorem own_block {w : World} {B : Nat} {e : TypeId} {size n g : Nat} {v : Value} {xs : List Value} (h : w.ownsRow B e size v n xs) (hg : v.ownBlock = some g) : ∃ cur, w.heap[g]? = some (.cells cur e (0, 0)) := by
  rcases h.2 with ⟨rfl, _⟩ | ⟨g', cap, cur, rfl, _, hgg, _⟩
  · simp [Value.ownBlock] at hg
  · simp [Value.ownBlock] at hg; subst hg; exact ⟨_, hgg⟩
theorem grownBy_setCell_at (W : World) (b j : Nat) (v : Value) : W.grownBy (W.setCell ⟨b, j, none⟩ v) (some b) :=
  ⟨rfl, rfl, rfl, by simp, fun k _ hk => Below.heap_setCell _ _ _ k (fun e => hk (by rw [e]))⟩

theorem own_apart {w : World} {B B' : Nat} {e e' : TypeId} {size size' n n' : Nat} {v v' : Value} {xs xs' : List Value} (h : w.ownsRow B e size v n xs) (h' : w.ownsRow B' e' size' v' n' xs') (he : e ≠ e') : v.ownBlock = none ∨ v.ownBlock ≠ v'.ownBlock := by
  cases hv : v.ownBlock with
  | none => exact .inl rfl
  | some g =>
    refine .inr fun e2 => ?_
    obtain ⟨c1, h1⟩ := own_block h hv
    obtain ⟨c2, h2⟩ := own_block h' e2.symm
    rw [h1] at h2
    simp at h2
    exact he h2.2
/-- A slice that was just spelled out is owned. -/
theorem own_lit (w : World) (B : Nat) (t : TypeId) (xs : List Value) (hB : B ≤ w.heap.size) (hm : xs.length ≤ maxLen) : (w.alloc (.cells xs.toArray t)).ownsRow B t 1 (.slice (some ⟨w.heap.size, 0, none⟩) xs.length xs.length) xs.length xs :=
  ⟨by simp, .inr ⟨w.heap.size, xs.length, xs.toArray, rfl, hB, (by show (w.heap.push _)[w.heap.size]? = _; exact Array.getElem?_push_size), Nat.le_refl _, hm, by simp, by simp⟩⟩

theorem run_app (w : World) (B : Nat) (ty : TypeId) (v u : Value) (l0 l1 : List UInt8) (hown : OwnB w B v l0) (hu : Bytes w u l1) (hn : l0.length + l1.length ≤ 140737488355328) (hB : B ≤ w.heap.size) :
    ∃ v' w', (Builtin.append_ #[28, 28] ty #[v, u]).run Tryd.prog w = .ok v' w' ∧ OwnB w' B v' (l0 ++ l1) ∧ Below B w w' ∧ w.grownBy w' v.ownBlock := by
  obtain ⟨i0, hi, hz0, hz1, hz2⟩ := info8
  obtain ⟨a, c, rfl⟩ := hu.form
  cases a with
  | none =>
    obtain ⟨e1, rfl, rfl⟩ := hu.noaddr
    have := run_append_owned_none (P := Tryd.prog) (w := w) B 28 ty 5 i0 1 Tryd.underlying28 hi v l0.length _ hown
    refine ⟨v, w, this, by simpa using hown, Below.refl _ _, ⟨rfl, rfl, rfl, Nat.le_refl _, fun _ _ _ => rfl⟩⟩
  | some x =>
    obtain ⟨v', w', h1, h2, h3, _⟩ := run_append_own (P := Tryd.prog) (w := w) B 28 ty 5 i0 (.int .u8 0) 1 1 Tryd.underlying28 hi hz0 hz1 hz2 rfl (by decide) v l0.length (bv l0) hown x l1.length c (bv l1) (by simp [bv]) hu.news (bv_one l1) (by unfold maxLen; omega) (by omega) hB
    refine ⟨v', w', h1, ?_, (Below.refl B w).grown h3 hB (fun j hj => own_base hown hj), h3⟩
    show World.ownsRow _ _ _ _ _ _ _
    rw [List.length_append, bv_append]; exact h2

theorem wp_app {w : World} {o : Oper} {a : Act} {K : Act → World → Prop} {Q : Exit → Act → World → Prop} (s x : Operand)
    (ho : o.op = .call { callee := .builtin .append, args := #[s, x], argTypes := #[28, 28] }) (B : Nat) (v u : Value) (l0 l1 : List UInt8) (hs : a.eval s = v) (hx : a.eval x = u)
    (hown : OwnB w B v l0) (hu : Bytes w u l1) (hn : l0.length + l1.length ≤ 140737488355328) (hB : B ≤ w.heap.size)
    (h : ∀ v' w', OwnB w' B v' (l0 ++ l1) → Below B w w' → w.grownBy w' v.ownBlock → K (a.put o.dst v') w') : o.wp Tryd.prog a w K Q := by
  obtain ⟨v', w', hr, h2, h3, h4⟩ := run_app w B o.type v u l0 l1 hown hu hn hB
  unfold Oper.wp execOp
  simp only [ho, resolve, invoke, builtin, Sem.run_bind, Sem.run_pure, Result.andThen_ok, List.map_toArray, List.map_cons, List.map_nil, hs, hx, hr]
  exact h v' w' h2 h3 h4
theorem wpList_app {w : World} {ops : Array Oper} {rest : List Oper} {o : Oper} {a : Act} {Q : Exit → Act → World → Prop} (hgd : o.guard = none) (s x : Operand)
    (ho : o.op = .call { callee := .builtin .append, args := #[s, x], argTypes := #[28, 28] }) (B : Nat) (v u : Value) (l0 l1 : List UInt8) (hs : a.eval s = v) (hx : a.eval x = u)
    (hown : OwnB w B v l0) (hu : Bytes w u l1) (hn : l0.length + l1.length ≤ 140737488355328) (hB : B ≤ w.heap.size)
    (h : ∀ v' w', OwnB w' B v' (l0 ++ l1) → Below B w w' → w.grownBy w' v.ownBlock → wpList Tryd.prog ops Q rest (a.put o.dst v') w') : wpList Tryd.prog ops Q (o :: rest) a w :=
  wpList_plain hgd fun _ hK => wp_app s x ho B v u l0 l1 hs hx hown hu hn hB fun v' w' h2 h3 h4 => hK _ _ (h v' w' h2 h3 h4)
/-- At a step of a region that draws its order. -/
theorem step_app {w : World} {ops : Array Oper} {o : Oper} {a : Act} {K : Act → World → Prop} {Q : Exit → Act → World → Prop} {E : Prop} (hgd : o.guard = none) (s x : Operand)
    (ho : o.op = .call { callee := .builtin .append, args := #[s, x], argTypes := #[28, 28] }) (B : Nat) (v u : Value) (l0 l1 : List UInt8) (hs : a.eval s = v) (hx : a.eval x = u)
    (hown : OwnB w B v l0) (hu : Bytes w u l1) (hn : l0.length + l1.length ≤ 140737488355328) (hB : B ≤ w.heap.size)
    (h : ∀ v' w', OwnB w' B v' (l0 ++ l1) → Below B w w' → w.grownBy w' v.ownBlock → K (a.put o.dst v') w') :
    if Region.wanted o (yielded ops a.tmps) = true then Oper.wp Tryd.prog o a w K Q else E := by
  have hw : Region.wanted o (yielded ops a.tmps) = true := by simp [Region.wanted, hgd]
  rw [if_pos hw]
  exact wp_app s x ho B v u l0 l1 hs hx hown hu hn hB h
end Go.Proofs.YtijkahamgnpobaaDoor
