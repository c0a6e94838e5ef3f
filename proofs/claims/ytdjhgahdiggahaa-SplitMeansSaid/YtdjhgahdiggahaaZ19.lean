/- SplitMeans: for every input the law's call returns true, and each argument reads behind it as before.
   SplitMeans: the law's walk, whatever the sizes.
   SplitMeans: the law's walk. -/
import Derived.Test.YtdjhgahdiggahaaZ10
import Derived.Test.YtdjhgahdiggahaaZ16
import Derived.Test.YtdjhgahdiggahaaZ17
import Derived.Test.YtdjhgahdiggahaaZ18

set_option linter.unusedSimpArgs false
set_option linter.unusedVariables false
namespace Go.Proofs.Ytdjhgahdiggahaa
open Go.RowKit
attribute [local go_sem ↓] Go.wp_at_zero Go.wp_at_succ
open Sp

/-- What a fragment's hash hangs on. -/
theorem hash_frag {h : Hd} {O P : List UInt8} (hh : h.Ok) (hm : mayO h.off O = true) (hP : P.length ≤ 65535 - 20 - O.length) (hf : fragB h = true) :
    flt (pktL h O P) = 0 ∧ hashH (hdP (pktL h O P)) (plP (pktL h O P)) = fnvs [putL h.src 4, putL h.dst 4, [UInt8.ofNat h.pr], []] := by
  have h0 := flt_pkt h O P [] hh hm hP
  obtain ⟨g1, g2, g3, g4, g5, g6, g7⟩ := pkt_fields h O P [] hh hm
  rw [List.append_nil] at h0 g1 g2 g3 g4 g5 g6 g7
  obtain ⟨_, _, ho0, ho1, _⟩ := mayO_len hm
  obtain ⟨b1, b2, b3, b4⟩ := flags_back h ho0 ho1
  refine ⟨h0, ?_⟩
  have hd := hdP_yes h0
  have e1 : (hdP (pktL h O P)).src = h.src := by rw [hd]; exact g6
  have e2 : (hdP (pktL h O P)).dst = h.dst := by rw [hd]; exact g7
  have e3 : (hdP (pktL h O P)).pr = h.pr := by rw [hd]; exact g5
  have e4 : fragB (hdP (pktL h O P)) = true := by
    rw [hd]
    unfold fragB at hf ⊢
    simp only [g3, b3, b4]
    exact hf
  unfold hashH
  rw [e1, e2, e3]
  have e5 : pthI (hdP (pktL h O P)) (plP (pktL h O P)) = [] := by
    unfold pthI
    rw [if_neg (fun hh => by rw [e4] at hh; cases hh.2.1)]
  rw [e5]
set_option maxRecDepth 100000 in
theorem mayB_nil {a : Int} (h0 : 0 ≤ a) (h1 : a ≤ 8191) : mayO a [] = true := by
  unfold mayO
  simp [h0, h1, Om.ok, Om.seq_nil]
set_option maxHeartbeats 8000000 in
set_option maxRecDepth 100000 in
theorem splitMeansBig (h : Hd) (v0 : Value) (l : List Sp.WyN) (oa : Option Addr) (oc : Nat) (O : List UInt8) (v2 : Value) (A : List UInt8) (v3 : Value) (B : List UInt8) (at_ : Int) (w : World) (hv : Nxs w v0 l) (ho : ∀ n ∈ l, NxOk n) (hh : h.Ok) (hO : Bytes w (.slice oa O.length oc) O) (hA : Bytes w v2 A) (hB : Bytes w v3 B)
    (ha0 : -9223372036854775808 ≤ at_) (ha1 : at_ ≤ 9223372036854775807) (hbig : ¬ (l.length ≤ 300 ∧ O.length ≤ 300 ∧ A.length ≤ 3000 ∧ B.length ≤ 3000)) :
    Calls Try.prog 13 #[v0, .agg #[.int .u8 (h.tos : Nat), .int .u16 (h.id : Nat), .bool h.ev, .bool h.df, .bool h.mf, .int .i64 h.off, .int .u8 (h.ttl : Nat), .int .u8 (h.pr : Nat), .int .u32 (h.src : Nat), .int .u32 (h.dst : Nat), .slice oa O.length oc], v2, v3, .int .i64 at_] w fun e w' => e = .returned (.bool true) ∧ Below w.heap.size w w' := by
  have HK := Lib.hid (fun W => knownL W)
  obtain ⟨va, vc, rfl⟩ := hv.form
  obtain ⟨aa, ac, rfl⟩ := hA.form
  obtain ⟨ba, bc, rfl⟩ := hB.form
  have HVV := Lib.hid hv
  have HOO := Lib.hid hO
  have HAA := Lib.hid hA
  have HBB := Lib.hid hB
  obtain ⟨n, hn⟩ : ∃ n, n = l.length := ⟨_, rfl⟩
  obtain ⟨on, hon⟩ : ∃ n, n = O.length := ⟨_, rfl⟩
  obtain ⟨an, han⟩ : ∃ n, n = A.length := ⟨_, rfl⟩
  obtain ⟨bn, hbn⟩ : ∃ n, n = B.length := ⟨_, rfl⟩
  rw [← hn] at HVV
  rw [← hon] at HOO
  rw [← han] at HAA
  rw [← hbn] at HBB
  rw [← hn, ← hon, ← han, ← hbn]
  have HNS : Hid (n = l.length ∧ on = O.length ∧ an = A.length ∧ bn = B.length) := ⟨hn, hon, han, hbn⟩
  obtain ⟨w1, hw1⟩ : ∃ w1, w1 = w.alloc (.cells #[.int .u8 (h.tos : Nat), .int .u16 (h.id : Nat), .bool h.ev, .bool h.df, .bool h.mf, .int .i64 h.off, .int .u8 (h.ttl : Nat), .int .u8 (h.pr : Nat), .int .u32 (h.src : Nat), .int .u32 (h.dst : Nat), .slice oa on oc] 106) := ⟨_, rfl⟩
  have hb1 : Below w.heap.size w w1 := by rw [hw1]; exact ba1 _ _
  have hX : BlkAt 106 w.heap.size [.int .u8 (h.tos : Nat), .int .u16 (h.id : Nat), .bool h.ev, .bool h.df, .bool h.mf, .int .i64 h.off, .int .u8 (h.ttl : Nat), .int .u8 (h.pr : Nat), .int .u32 (h.src : Nat), .int .u32 (h.dst : Nat), .slice oa on oc] w1 := by rw [hw1]; exact BlkAt.new w _
  have HB1 := Lib.hid hb1
  have HX := Lib.hid hX
  have HW1 := Lib.hid hw1
  have hcs : 300 < n ∨ (¬ 300 < n ∧ 300 < on) ∨ (¬ 300 < n ∧ ¬ 300 < on ∧ 3000 < an) ∨ (¬ 300 < n ∧ ¬ 300 < on ∧ ¬ 3000 < an ∧ 3000 < bn) := by omega
  clear hn hon han hbn hbig hv hO hA hB hw1 hb1 hX hh ho
  rcases hcs with k1 | ⟨k1, k2⟩ | ⟨k1, k2, k3⟩ | ⟨k1, k2, k3, k4⟩
  · have g0 : (300 : Int) < (n : Nat) := by omega
    clear k1
    go_enter Try.func13, Try.ntmps13
    go_wp2_with fail
    rw [← HW1.out]
    refine (HK.out _).mono ?_
    rintro e w2 ⟨rfl, hb2⟩
    have c10 := (HX.out.later hb2).cell (j := 10) rfl
    have HB2 := Lib.hid (below_of HB1.out hb2)
    clear hb2
    go_wp2_with fail
    go_ret
    exact ⟨rfl, HB2.out⟩
  · have g0 : ¬ (300 : Int) < (n : Nat) := by omega
    have g1 : (300 : Int) < (on : Nat) := by omega
    clear k1 k2
    go_enter Try.func13, Try.ntmps13
    go_wp2_with fail
    rw [← HW1.out]
    refine (HK.out _).mono ?_
    rintro e w2 ⟨rfl, hb2⟩
    have c10 := (HX.out.later hb2).cell (j := 10) rfl
    have HB2 := Lib.hid (below_of HB1.out hb2)
    clear hb2
    go_wp2_with fail
    go_ret
    exact ⟨rfl, HB2.out⟩
  · have g0 : ¬ (300 : Int) < (n : Nat) := by omega
    have g1 : ¬ (300 : Int) < (on : Nat) := by omega
    have g2 : (3000 : Int) < (an : Nat) := by omega
    clear k1 k2 k3
    go_enter Try.func13, Try.ntmps13
    go_wp2_with fail
    rw [← HW1.out]
    refine (HK.out _).mono ?_
    rintro e w2 ⟨rfl, hb2⟩
    have c10 := (HX.out.later hb2).cell (j := 10) rfl
    have HB2 := Lib.hid (below_of HB1.out hb2)
    clear hb2
    go_wp2_with fail
    go_ret
    exact ⟨rfl, HB2.out⟩
  · have g0 : ¬ (300 : Int) < (n : Nat) := by omega
    have g1 : ¬ (300 : Int) < (on : Nat) := by omega
    have g2 : ¬ (3000 : Int) < (an : Nat) := by omega
    have g3 : (3000 : Int) < (bn : Nat) := by omega
    clear k1 k2 k3 k4
    go_enter Try.func13, Try.ntmps13
    go_wp2_with fail
    rw [← HW1.out]
    refine (HK.out _).mono ?_
    rintro e w2 ⟨rfl, hb2⟩
    have c10 := (HX.out.later hb2).cell (j := 10) rfl
    have HB2 := Lib.hid (below_of HB1.out hb2)
    clear hb2
    go_wp2_with fail
    go_ret
    exact ⟨rfl, HB2.out⟩
set_option maxHeartbeats 8000000 in
set_option maxRecDepth 100000 in
theorem splitMeansIn (h : Hd) (v0 : Value) (l : List Sp.WyN) (oa : Option Addr) (oc : Nat) (O : List UInt8) (v2 : Value) (A : List UInt8) (v3 : Value) (B : List UInt8) (at_ : Int) (w : World) (hv : Nxs w v0 l) (ho : ∀ n ∈ l, NxOk n) (hh : h.Ok) (hO : Bytes w (.slice oa O.length oc) O) (hA : Bytes w v2 A) (hB : Bytes w v3 B)
    (ha0 : -9223372036854775808 ≤ at_) (ha1 : at_ ≤ 9223372036854775807) (hsm : l.length ≤ 300 ∧ O.length ≤ 300 ∧ A.length ≤ 3000 ∧ B.length ≤ 3000) :
    Calls Try.prog 13 #[v0, .agg #[.int .u8 (h.tos : Nat), .int .u16 (h.id : Nat), .bool h.ev, .bool h.df, .bool h.mf, .int .i64 h.off, .int .u8 (h.ttl : Nat), .int .u8 (h.pr : Nat), .int .u32 (h.src : Nat), .int .u32 (h.dst : Nat), .slice oa O.length oc], v2, v3, .int .i64 at_] w fun e w' => e = .returned (.bool true) ∧ Below w.heap.size w w' := by
  have HK := Lib.hid (fun W => knownL W)
  obtain ⟨va, vc, rfl⟩ := hv.form
  obtain ⟨aa, ac, rfl⟩ := hA.form
  obtain ⟨ba, bc, rfl⟩ := hB.form
  have HVV := Lib.hid hv
  have HOO := Lib.hid hO
  have HAA := Lib.hid hA
  have HBB := Lib.hid hB
  obtain ⟨n, hn⟩ : ∃ n, n = l.length := ⟨_, rfl⟩
  obtain ⟨on, hon⟩ : ∃ n, n = O.length := ⟨_, rfl⟩
  obtain ⟨an, han⟩ : ∃ n, n = A.length := ⟨_, rfl⟩
  obtain ⟨bn, hbn⟩ : ∃ n, n = B.length := ⟨_, rfl⟩
  rw [← hn] at HVV
  rw [← hon] at HOO
  rw [← han] at HAA
  rw [← hbn] at HBB
  rw [← hn, ← hon, ← han, ← hbn]
  have HNS : Hid (n = l.length ∧ on = O.length ∧ an = A.length ∧ bn = B.length) := ⟨hn, hon, han, hbn⟩
  obtain ⟨w1, hw1⟩ : ∃ w1, w1 = w.alloc (.cells #[.int .u8 (h.tos : Nat), .int .u16 (h.id : Nat), .bool h.ev, .bool h.df, .bool h.mf, .int .i64 h.off, .int .u8 (h.ttl : Nat), .int .u8 (h.pr : Nat), .int .u32 (h.src : Nat), .int .u32 (h.dst : Nat), .slice oa on oc] 106) := ⟨_, rfl⟩
  have hb1 : Below w.heap.size w w1 := by rw [hw1]; exact ba1 _ _
  have hX : BlkAt 106 w.heap.size [.int .u8 (h.tos : Nat), .int .u16 (h.id : Nat), .bool h.ev, .bool h.df, .bool h.mf, .int .i64 h.off, .int .u8 (h.ttl : Nat), .int .u8 (h.pr : Nat), .int .u32 (h.src : Nat), .int .u32 (h.dst : Nat), .slice oa on oc] w1 := by rw [hw1]; exact BlkAt.new w _
  have HB1 := Lib.hid hb1
  have HX := Lib.hid hX
  have HW1 := Lib.hid hw1
  have g0 : ¬ (300 : Int) < (n : Nat) := by omega
  have g1 : ¬ (300 : Int) < (on : Nat) := by omega
  have g2 : ¬ (3000 : Int) < (an : Nat) := by omega
  have g3 : ¬ (3000 : Int) < (bn : Nat) := by omega
  have HOK := Lib.hid hh
  have HSM : Hid (n ≤ 300 ∧ on ≤ 300 ∧ an ≤ 3000 ∧ bn ≤ 3000) := ⟨by omega, by omega, by omega, by omega⟩
  have HNO : Hid (∀ n ∈ l, NxOk n) := by
    have : ∀ n ∈ l, NxOk n := ho
    exact this
  clear hn hon han hbn hsm hv hO hA hB hw1 hb1 hX hh ho
  by_cases hm : mayP l
  · have HM := Lib.hid hm
    have hnn := mayP_len hm
    have g8 : (n : Int) ≤ 8 := by have := HNS.out.1; omega
    clear hm hnn
    go_enter Try.func13, Try.ntmps13
    go_wp2_with fail
    rw [← HW1.out]
    obtain ⟨hb6, hhb6⟩ : ∃ b, b = w.heap.size := ⟨_, rfl⟩
    rw [← hhb6] at HX ⊢
    have HB6 := Lib.hid hhb6
    clear hhb6
    refine (HK.out _).mono ?_
    rintro e w2 ⟨rfl, hb2⟩
    have c10 := (HX.out.later hb2).cell (j := 10) rfl
    have HX2 := Lib.hid (HX.out.later hb2)
    have HB2 := Lib.hid (below_of HB1.out hb2)
    clear hb2
    go_wp2_with fail
    have hsy := sharesYes (HVV.out.later HB2.out) HNO.out HM.out
    rw [← HNS.out.1] at hsy
    refine hsy.mono ?_
    rintro e w3 ⟨g, rfl, _, hi, hb3⟩
    have HI3 := Lib.hid hi
    have HX3 := Lib.hid (HX2.out.later hb3)
    have HB3 := Lib.hid (below_of HB2.out hb3)
    clear hi hb3 hsy c10
    go_wp2_with fail
    refine (numL 0 w3).mono ?_
    rintro e w4 ⟨rfl, rfl⟩
    go_wp2_with fail
    obtain ⟨SS, hSS⟩ : ∃ S, S = shares (ws l) := ⟨_, rfl⟩
    rw [← hSS] at HI3
    have HSS : Hid (SS.length = n ∧ SS.sum = 256 ∧ SS = shares (ws l)) := ⟨by rw [hSS, shares_len, ws_len, ← HNS.out.1], by rw [hSS]; exact shares_sum (ws_pos HM.out), hSS⟩
    clear hSS
    go_loopw [13, 14] (fun y x wr => ∃ i : Nat, i ≤ n ∧ y = .int .i64 (((SS.take i).sum : Nat) : Int) ∧ x = .int .i64 i ∧ Hid (Below w3.heap.size w3 wr)) (fun _ x _ => n - (intOf x).toNat)
    case atStart => exact ⟨0, Nat.zero_le _, rfl, rfl, Below.refl _ _⟩
    case round =>
      obtain ⟨i, hi, rfl, rfl, HBI⟩ := hrel
      rcases Nat.lt_or_ge i n with hlt | hge
      · have k2 : (i : Int) < (n : Nat) := by omega
        obtain ⟨x, hx⟩ : ∃ x, l[i]? = some x := ⟨l[i]'(by have := HNS.out.1; omega), List.getElem?_eq_getElem _⟩
        obtain ⟨bb, oo, ha, _, hcell⟩ := (HVV.out.later HB3.out).at hx
        have HXC : Hid (∀ j u, (nxc x)[j]? = some u → w3.cell? ⟨bb, oo + i * 2 + j, none⟩ = some u) := by
          have : ∀ j u, (nxc x)[j]? = some u → w3.cell? ⟨bb, oo + i * 2 + j, none⟩ = some u := hcell
          exact this
        subst ha
        have HXI := Lib.hid (Sp.wyAt_get hx)
        have e0 := ib_at (HI3.out.later HBI.out) (j := i) (by have := HSS.out.1; omega)
        obtain ⟨si, hsi⟩ : ∃ s, s = SS.getD i 0 := ⟨_, rfl⟩
        rw [← hsi] at e0
        have hs1 := sum_take SS i (by have := HSS.out.1; omega)
        have hs2 := take_sum_le SS (i + 1)
        rw [← hsi] at hs1
        obtain ⟨s0, hs0⟩ : ∃ s, s = (SS.take i).sum := ⟨_, rfl⟩
        rw [← hs0] at hs1 ⊢
        have k5 : (s0 : Int) + si ≤ 256 := by have := HSS.out.2.1; omega
        have HS1 := Lib.hid hs1
        have HSI := Lib.hid hsi
        clear hcell hx hsi hs1 hs2 hs0
        go_wp2_with fail
        go_loopw [15] (fun x wr => ∃ k : Nat, k ≤ n ∧ x = .int .i64 k ∧ Hid (Below w3.heap.size w3 wr)) (fun x _ => n - (intOf x).toNat)
        case atStart => exact ⟨0, Nat.zero_le _, rfl, HBI.out⟩
        case round =>
          obtain ⟨k, hk, rfl, HBK⟩ := hrel
          rcases Nat.lt_or_ge k n with hlk | hgk
          · have k3 : (k : Int) < (n : Nat) := by omega
            obtain ⟨y, hy⟩ : ∃ y, l[k]? = some y := ⟨l[k]'(by have := HNS.out.1; omega), List.getElem?_eq_getElem _⟩
            obtain ⟨b3, o3, ha3, _, hcell3⟩ := (HVV.out.later HB3.out).at hy
            cases ha3
            have hyk := Sp.wyAt_get hy
            have c1 := cell_later HBK.out (HXC.out 1 _ rfl)
            have d1 := cell_later HBK.out (hcell3 1 _ rfl)
            have e0 := ib_at (HI3.out.later HBK.out) (j := i) (by have := HSS.out.1; omega)
            have e1 := ib_at (HI3.out.later HBK.out) (j := k) (by have := HSS.out.1; omega)
            rw [← HSI.out] at e0
            obtain ⟨sk, hsk⟩ : ∃ s, s = SS.getD k 0 := ⟨_, rfl⟩
            rw [← hsk] at e1
            have HF : Hid (x.2 < y.2 → sk ≤ si) := by
              have : x.2 < y.2 → sk ≤ si := fun he => by
                have hil : i < l.length := by have := HNS.out.1; omega
                have hkl : k < l.length := by have := HNS.out.1; omega
                have h1 := HM.out.2 i hil
                have h2 := HM.out.2 k hkl
                unfold okAt at h1 h2
                rw [HXI.out] at h1
                rw [hyk] at h2
                have hw : (ws l).getD k 0 < (ws l).getD i 0 := by
                  rw [ws_at hil, ws_at hkl, HXI.out, hyk]
                  exact wt_lt h1.2.2.1 he h2.2.2.2
                rw [HSI.out, hsk, HSS.out.2.2]
                exact shares_mono (by rw [ws_len]; exact hil) (by rw [ws_len]; exact hkl) (.inl hw)
              exact this
            obtain ⟨xp, xd⟩ := x
            obtain ⟨yp, yd⟩ := y
            simp only at c1 d1 HF
            clear hcell3 hy hyk hsk
            by_cases he : xd < yd
            · have h1 := HF.out he
              have t0 : decide (xd < yd) = true := decide_eq_true he
              have t5 : decide (si < sk) = false := decide_eq_false (by omega)
              have t6 : decide ((si : Int) < (sk : Int)) = false := decide_eq_false (by omega)
              clear h1 he HF
              go_wp2_with fail
              go_quiet (fail)
              have HB2 := Lib.hid (below_drewN HBK.out nq)
              go_wp2_with fail
              go_roundw
              case rel => exact ⟨k + 1, by omega, by go_num, HB2.out⟩
              case measure => simp [intOf]; omega
            · have t0 : decide (xd < yd) = false := decide_eq_false he
              clear he HF
              go_wp2_with fail
              go_quiet (fail)
              have HB2 := Lib.hid (below_drewN HBK.out nq)
              go_wp2_with fail
              go_roundw
              case rel => exact ⟨k + 1, by omega, by go_num, HB2.out⟩
              case measure => simp [intOf]; omega
          · obtain rfl : k = n := by omega
            have q0 : ¬ (k : Int) < k := by omega
            go_wp2_with fail
            go_roundw
            case rel => exact ⟨i + 1, by omega, by rw [HS1.out]; go_num, by go_num, HBK.out⟩
            case measure => simp [intOf]; omega
      · obtain rfl : i = n := by omega
        have q0 : ¬ (i : Int) < i := by omega
        have hfe : SS.take i = SS := List.take_of_length_le (by have := HSS.out.1; omega)
        rw [hfe, HSS.out.2.1]
        obtain ⟨wq, hwq⟩ : ∃ wq, wq = wr := ⟨_, rfl⟩
        have HXQ : Hid (BlkAt 106 hb6 [.int .u8 (h.tos : Nat), .int .u16 (h.id : Nat), .bool h.ev, .bool h.df, .bool h.mf, .int .i64 h.off, .int .u8 (h.ttl : Nat), .int .u8 (h.pr : Nat), .int .u32 (h.src : Nat), .int .u32 (h.dst : Nat), .slice oa on oc] wq) := by
          show BlkAt _ _ _ _
          rw [hwq]; exact HX3.out.later HBI.out
        have HBQ : Hid (Below w.heap.size w wq) := by
          show Below _ _ _
          rw [hwq]; exact HB3.out.trans (HBI.out.mono HB3.out.size)
        rw [← hwq]
        clear hwq hfe
        have y0 := BlkAt.cell HXQ.out (j := 0) rfl; have y1 := BlkAt.cell HXQ.out (j := 1) rfl; have y2 := BlkAt.cell HXQ.out (j := 2) rfl; have y3 := BlkAt.cell HXQ.out (j := 3) rfl; have y4 := BlkAt.cell HXQ.out (j := 4) rfl; have y5 := BlkAt.cell HXQ.out (j := 5) rfl; have y6 := BlkAt.cell HXQ.out (j := 6) rfl; have y7 := BlkAt.cell HXQ.out (j := 7) rfl; have y8 := BlkAt.cell HXQ.out (j := 8) rfl; have y9 := BlkAt.cell HXQ.out (j := 9) rfl; have y10 := BlkAt.cell HXQ.out (j := 10) rfl
        have hfz : ∀ j, wq.frozen? ⟨hb6, j, none⟩ = false := fun j => BlkAt.frozen HXQ.out j
        obtain ⟨wS, hwS⟩ : ∃ wS, wS = wq.setCell ⟨hb6, 4, none⟩ (.bool true) := ⟨_, rfl⟩
        have hXS : BlkAt 106 hb6 [.int .u8 (h.tos : Nat), .int .u16 (h.id : Nat), .bool h.ev, .bool h.df, .bool true, .int .i64 h.off, .int .u8 (h.ttl : Nat), .int .u8 (h.pr : Nat), .int .u32 (h.src : Nat), .int .u32 (h.dst : Nat), .slice oa on oc] wS := by rw [hwS]; exact BlkAt.set HXQ.out 4 (.bool true)
        have HXS := Lib.hid hXS
        have HBS : Hid (Below w.heap.size w wS) := by
          show Below _ _ _
          rw [hwS]; exact HBQ.out.setCell (by rw [HB6.out]; exact Nat.le_refl _) _
        obtain ⟨hT, hhT⟩ : ∃ hT : Hd, hT = { h with mf := true } := ⟨_, rfl⟩
        have hokT : hT.Ok := by rw [hhT]; exact ⟨HOK.out.tos, HOK.out.id, HOK.out.ttl, HOK.out.pr, HOK.out.src, HOK.out.dst⟩
        have HMY : Hid (Calls Try.prog 44 #[.agg #[.int .u8 (h.tos : Nat), .int .u16 (h.id : Nat), .bool h.ev, .bool h.df, .bool true, .int .i64 h.off, .int .u8 (h.ttl : Nat), .int .u8 (h.pr : Nat), .int .u32 (h.src : Nat), .int .u32 (h.dst : Nat), .slice oa on oc]] wS fun e w' => e = .returned (.bool (mayO h.off O)) ∧ Below wS.heap.size wS w') := by
          have h1 := mayHdR_any hT oa oc O wS (by rw [← HNS.out.2.1]; exact HOO.out.later HBS.out) (by have := HSM.out; have := HNS.out; omega)
          rw [← HNS.out.2.1, hhT] at h1
          exact h1
        obtain ⟨mb, hmb⟩ : ∃ mb, mb = mayO h.off O := ⟨_, rfl⟩
        rw [← hmb] at HMY
        have HMB : Hid (mb = mayO h.off O ∧ hT = { h with mf := true } ∧ hT.Ok) := ⟨hmb, hhT, hokT⟩
        have HWS := Lib.hid hwS
        clear hwS hXS hhT hokT hmb
        go_wp2_with fail
        rw [← HWS.out]
        clear hfz y0 y1 y2 y3 y4 y5 y6 y7 y8 y9 y10
        have y0 := BlkAt.cell HXS.out (j := 0) rfl; have y1 := BlkAt.cell HXS.out (j := 1) rfl; have y2 := BlkAt.cell HXS.out (j := 2) rfl; have y3 := BlkAt.cell HXS.out (j := 3) rfl; have y4 := BlkAt.cell HXS.out (j := 4) rfl; have y5 := BlkAt.cell HXS.out (j := 5) rfl; have y6 := BlkAt.cell HXS.out (j := 6) rfl; have y7 := BlkAt.cell HXS.out (j := 7) rfl; have y8 := BlkAt.cell HXS.out (j := 8) rfl; have y9 := BlkAt.cell HXS.out (j := 9) rfl; have y10 := BlkAt.cell HXS.out (j := 10) rfl
        go_wp2_with fail
        refine HMY.out.mono ?_
        rintro e w5 ⟨rfl, hb5⟩
        have HB5 := Lib.hid (below_of HBS.out hb5)
        have HX5 := Lib.hid (HXS.out.later hb5)
        clear hb5 HMY y0 y1 y2 y3 y4 y5 y6 y7 y8 y9 y10
        cases mb with
        | false =>
          go_wp2_with fail
          go_ret
          exact ⟨rfl, HB5.out⟩
        | true =>
          by_cases ht0 : at_ < 0
          · go_wp2_with fail
            go_ret
            exact ⟨rfl, HB5.out⟩
          · by_cases ht1 : 8191 < at_
            · go_wp2_with fail
              go_ret
              exact ⟨rfl, HB5.out⟩
            · have y0 := BlkAt.cell HX5.out (j := 0) rfl; have y1 := BlkAt.cell HX5.out (j := 1) rfl; have y2 := BlkAt.cell HX5.out (j := 2) rfl; have y3 := BlkAt.cell HX5.out (j := 3) rfl; have y4 := BlkAt.cell HX5.out (j := 4) rfl; have y5 := BlkAt.cell HX5.out (j := 5) rfl; have y6 := BlkAt.cell HX5.out (j := 6) rfl; have y7 := BlkAt.cell HX5.out (j := 7) rfl; have y8 := BlkAt.cell HX5.out (j := 8) rfl; have y9 := BlkAt.cell HX5.out (j := 9) rfl; have y10 := BlkAt.cell HX5.out (j := 10) rfl
              obtain ⟨w6, hw6⟩ : ∃ w6, w6 = w5.alloc (.cells #[.int .u8 0, .int .u16 0, .bool false, .bool false, .bool (at_ == 0), .int .i64 at_, .int .u8 (h.ttl : Nat), .int .u8 (h.pr : Nat), .int .u32 (h.src : Nat), .int .u32 (h.dst : Nat), .slice none 0 0] 106) := ⟨_, rfl⟩
              have hb6' : Below w5.heap.size w5 w6 := by rw [hw6]; exact ba1 _ _
              have HX6 := Lib.hid (HX5.out.later hb6')
              have hY6 : BlkAt 106 w5.heap.size [.int .u8 0, .int .u16 0, .bool false, .bool false, .bool (at_ == 0), .int .i64 at_, .int .u8 (h.ttl : Nat), .int .u8 (h.pr : Nat), .int .u32 (h.src : Nat), .int .u32 (h.dst : Nat), .slice none 0 0] w6 := by rw [hw6]; exact BlkAt.new w5 _
              have HY6 := Lib.hid hY6
              have HB66 := Lib.hid (below_of HB5.out hb6')
              have HW6 := Lib.hid hw6
              obtain ⟨z, hz⟩ : ∃ z, z = fnvs [putL h.src 4, putL h.dst 4, [UInt8.ofNat h.pr], []] := ⟨_, rfl⟩
              have hmy : mayO hT.off O = true := by rw [HMB.out.2.1]; exact HMB.out.1.symm
              obtain ⟨hl40, _⟩ := mayO_len hmy
              have hfA : A.length ≤ 65535 - 20 - O.length := by have := HSM.out; have := HNS.out; omega
              have hfg : fragB hT = true := by rw [HMB.out.2.1]; unfold fragB; rfl
              have HFA : Hid (flt (pktL hT O A) = 0 ∧ hashH (hdP (pktL hT O A)) (plP (pktL hT O A)) = z ∧ (pktL hT O A).length ≤ 1000000) := by
                obtain ⟨f1, f2⟩ := hash_frag HMB.out.2.2 hmy hfA hfg
                refine ⟨f1, ?_, ?_⟩
                · rw [f2, hz, HMB.out.2.1]
                · rw [pkt_len]; have := HSM.out; have := HNS.out; omega
              have HBA : Hid (Calls Try.prog 45 #[.agg #[.int .u8 (h.tos : Nat), .int .u16 (h.id : Nat), .bool h.ev, .bool h.df, .bool true, .int .i64 h.off, .int .u8 (h.ttl : Nat), .int .u8 (h.pr : Nat), .int .u32 (h.src : Nat), .int .u32 (h.dst : Nat), .slice oa on oc], .slice aa an ac] w6 fun e w' => ∃ v, e = .returned v ∧ OwnB w' w6.heap.size v (pktL hT O A) ∧ Below w6.heap.size w6 w') := by
                have h1 := bytesR_yes hT HMB.out.2.2 oa oc O aa ac A w6 (by rw [← HNS.out.2.1]; exact HOO.out.later HB66.out) (by rw [← HNS.out.2.2.1]; exact HAA.out.later HB66.out) hmy hfA
                rw [← HNS.out.2.1, ← HNS.out.2.2.1] at h1
                have e1 : hT = { h with mf := true } := HMB.out.2.1
                rw [e1] at h1 ⊢
                exact h1
              obtain ⟨h2, hh2⟩ : ∃ h2 : Hd, h2 = ⟨0, 0, false, false, (at_ == 0), at_, h.ttl, h.pr, h.src, h.dst⟩ := ⟨_, rfl⟩
              have hok2 : h2.Ok := by rw [hh2]; exact ⟨by show 0 < 256; decide, by show 0 < 65536; decide, HOK.out.ttl, HOK.out.pr, HOK.out.src, HOK.out.dst⟩
              have hmy2 : mayO h2.off [] = true := by rw [hh2]; exact mayB_nil (by show 0 ≤ at_; omega) (by show at_ ≤ 8191; omega)
              have hfB : B.length ≤ 65535 - 20 - ([] : List UInt8).length := by show B.length ≤ 65535 - 20 - 0; have := HSM.out; have := HNS.out; omega
              have hfg2 : fragB h2 = true := by
                rw [hh2]
                unfold fragB
                by_cases h0 : at_ = 0
                · simp [h0]
                · simp; omega
              have HFB : Hid (flt (pktL h2 [] B) = 0 ∧ hashH (hdP (pktL h2 [] B)) (plP (pktL h2 [] B)) = z ∧ (pktL h2 [] B).length ≤ 1000000) := by
                obtain ⟨f1, f2⟩ := hash_frag hok2 hmy2 hfB hfg2
                refine ⟨f1, ?_, ?_⟩
                · rw [f2, hz, hh2]
                · rw [pkt_len]; show 20 + 0 + B.length ≤ _; have := HSM.out; have := HNS.out; omega
              have HBB2 : Hid (∀ W, Below w.heap.size w W → Calls Try.prog 45 #[.agg #[.int .u8 0, .int .u16 0, .bool false, .bool false, .bool (at_ == 0), .int .i64 at_, .int .u8 (h.ttl : Nat), .int .u8 (h.pr : Nat), .int .u32 (h.src : Nat), .int .u32 (h.dst : Nat), .slice none 0 0], .slice ba bn bc] W fun e w' => ∃ v, e = .returned v ∧ OwnB w' W.heap.size v (pktL h2 [] B) ∧ Below W.heap.size W w') := by
                have : ∀ W, Below w.heap.size w W → Calls Try.prog 45 #[.agg #[.int .u8 0, .int .u16 0, .bool false, .bool false, .bool (at_ == 0), .int .i64 at_, .int .u8 (h.ttl : Nat), .int .u8 (h.pr : Nat), .int .u32 (h.src : Nat), .int .u32 (h.dst : Nat), .slice none 0 0], .slice ba bn bc] W fun e w' => ∃ v, e = .returned v ∧ OwnB w' W.heap.size v (pktL h2 [] B) ∧ Below W.heap.size W w' := fun W hW => by
                  have h1 := bytesR_yes h2 hok2 none 0 [] ba bc B W (Bytes.nil W none 0) (by rw [← HNS.out.2.2.2]; exact HBB.out.later hW) hmy2 hfB
                  rw [← HNS.out.2.2.2] at h1
                  rw [hh2] at h1 ⊢
                  exact h1
                exact this
              clear hb6' hY6 hw6 hz hmy hl40 hfA hfg hh2 hok2 hmy2 hfB hfg2
              have hx6 := HX6.out
              rw [HW6.out] at hx6
              have x0 := BlkAt.cell hx6 (j := 0) rfl; have x1 := BlkAt.cell hx6 (j := 1) rfl; have x2 := BlkAt.cell hx6 (j := 2) rfl; have x3 := BlkAt.cell hx6 (j := 3) rfl; have x4 := BlkAt.cell hx6 (j := 4) rfl; have x5 := BlkAt.cell hx6 (j := 5) rfl; have x6 := BlkAt.cell hx6 (j := 6) rfl; have x7 := BlkAt.cell hx6 (j := 7) rfl; have x8 := BlkAt.cell hx6 (j := 8) rfl; have x9 := BlkAt.cell hx6 (j := 9) rfl; have x10 := BlkAt.cell hx6 (j := 10) rfl
              go_wp2_with fail
              rw [← HW6.out]
              clear hx6 x0 x1 x2 x3 x4 x5 x6 x7 x8 x9 x10
              obtain ⟨ob, hob⟩ : ∃ b, b = w5.heap.size := ⟨_, rfl⟩
              rw [← hob] at HY6 ⊢
              clear hob
              refine HBA.out.mono ?_
              rintro e w7 ⟨u7, rfl, ho7, hb7⟩
              obtain ⟨a7, c7, rfl⟩ := ho7.form
              have hha := hash_yes (OwnB.bytes ho7) HFA.out.2.2 HFA.out.1
              rw [HFA.out.2.1] at hha
              obtain ⟨n7, hn7⟩ : ∃ n, n = (pktL hT O A).length := ⟨_, rfl⟩
              rw [← hn7] at hha ⊢
              have HHA := Lib.hid hha
              have HB7 := Lib.hid (below_of HB66.out hb7)
              have HY7 := Lib.hid (HY6.out.later hb7)
              clear ho7 hb7 hha hn7 y0 y1 y2 y3 y4 y5 y6 y7 y8 y9 y10
              go_wp2_with fail
              refine HHA.out.mono ?_
              rintro e w8 ⟨rfl, hb8⟩
              have HB8 := Lib.hid (below_of HB7.out hb8)
              have HY8 := Lib.hid (HY7.out.later hb8)
              have y0 := BlkAt.cell HY8.out (j := 0) rfl; have y1 := BlkAt.cell HY8.out (j := 1) rfl; have y2 := BlkAt.cell HY8.out (j := 2) rfl; have y3 := BlkAt.cell HY8.out (j := 3) rfl; have y4 := BlkAt.cell HY8.out (j := 4) rfl; have y5 := BlkAt.cell HY8.out (j := 5) rfl; have y6 := BlkAt.cell HY8.out (j := 6) rfl; have y7 := BlkAt.cell HY8.out (j := 7) rfl; have y8 := BlkAt.cell HY8.out (j := 8) rfl; have y9 := BlkAt.cell HY8.out (j := 9) rfl; have y10 := BlkAt.cell HY8.out (j := 10) rfl
              clear hb8
              go_wp2_with fail
              refine (HBB2.out _ HB8.out).mono ?_
              rintro e w9 ⟨u9, rfl, ho9, hb9⟩
              obtain ⟨a9, c9, rfl⟩ := ho9.form
              have hhb := hash_yes (OwnB.bytes ho9) HFB.out.2.2 HFB.out.1
              rw [HFB.out.2.1] at hhb
              obtain ⟨n9, hn9⟩ : ∃ n, n = (pktL h2 [] B).length := ⟨_, rfl⟩
              rw [← hn9] at hhb ⊢
              have HHB := Lib.hid hhb
              have HB9 := Lib.hid (below_of HB8.out hb9)
              clear ho9 hb9 hhb hn9 y0 y1 y2 y3 y4 y5 y6 y7 y8 y9 y10
              go_wp2_with fail
              refine HHB.out.mono ?_
              rintro e w10 ⟨rfl, hb10⟩
              have HB10 := Lib.hid (below_of HB9.out hb10)
              have t0 : ((z : Int) == z) = true := by simp
              have t1 : (z == z) = true := by simp
              clear hb10
              go_wp2_with fail
              refine (numL 0 w10).mono ?_
              rintro e w11 ⟨rfl, rfl⟩
              go_wp2_with fail
              refine (numL 0 w10).mono ?_
              rintro e w11 ⟨rfl, rfl⟩
              go_wp2_with fail
              go_ret
              exact ⟨rfl, HB10.out⟩
  · have HM := Lib.hid hm
    clear hm
    go_enter Try.func13, Try.ntmps13
    go_wp2_with fail
    rw [← HW1.out]
    obtain ⟨hb6, hhb6⟩ : ∃ b, b = w.heap.size := ⟨_, rfl⟩
    rw [← hhb6] at HX ⊢
    have HB6 := Lib.hid hhb6
    clear hhb6
    refine (HK.out _).mono ?_
    rintro e w2 ⟨rfl, hb2⟩
    have c10 := (HX.out.later hb2).cell (j := 10) rfl
    have HX2 := Lib.hid (HX.out.later hb2)
    have HB2 := Lib.hid (below_of HB1.out hb2)
    clear hb2
    go_wp2_with fail
    have hsn := sharesNo (HVV.out.later HB2.out) (by have := HSM.out; have := HNS.out; omega) HNO.out HM.out
    refine hsn.mono ?_
    rintro e wq ⟨rfl, hb3⟩
    have HXQ := Lib.hid (HX2.out.later hb3)
    have HBQ := Lib.hid (below_of HB2.out hb3)
    clear hb3 hsn c10
    go_wp2_with fail
    refine (numL 2 wq).mono ?_
    rintro e w4 ⟨rfl, rfl⟩
    have y0 := BlkAt.cell HXQ.out (j := 0) rfl; have y1 := BlkAt.cell HXQ.out (j := 1) rfl; have y2 := BlkAt.cell HXQ.out (j := 2) rfl; have y3 := BlkAt.cell HXQ.out (j := 3) rfl; have y4 := BlkAt.cell HXQ.out (j := 4) rfl; have y5 := BlkAt.cell HXQ.out (j := 5) rfl; have y6 := BlkAt.cell HXQ.out (j := 6) rfl; have y7 := BlkAt.cell HXQ.out (j := 7) rfl; have y8 := BlkAt.cell HXQ.out (j := 8) rfl; have y9 := BlkAt.cell HXQ.out (j := 9) rfl; have y10 := BlkAt.cell HXQ.out (j := 10) rfl
    have hfz : ∀ j, wq.frozen? ⟨hb6, j, none⟩ = false := fun j => BlkAt.frozen HXQ.out j
    obtain ⟨wS, hwS⟩ : ∃ wS, wS = wq.setCell ⟨hb6, 4, none⟩ (.bool true) := ⟨_, rfl⟩
    have hXS : BlkAt 106 hb6 [.int .u8 (h.tos : Nat), .int .u16 (h.id : Nat), .bool h.ev, .bool h.df, .bool true, .int .i64 h.off, .int .u8 (h.ttl : Nat), .int .u8 (h.pr : Nat), .int .u32 (h.src : Nat), .int .u32 (h.dst : Nat), .slice oa on oc] wS := by rw [hwS]; exact BlkAt.set HXQ.out 4 (.bool true)
    have HXS := Lib.hid hXS
    have HBS : Hid (Below w.heap.size w wS) := by
      show Below _ _ _
      rw [hwS]; exact HBQ.out.setCell (by rw [HB6.out]; exact Nat.le_refl _) _
    obtain ⟨hT, hhT⟩ : ∃ hT : Hd, hT = { h with mf := true } := ⟨_, rfl⟩
    have hokT : hT.Ok := by rw [hhT]; exact ⟨HOK.out.tos, HOK.out.id, HOK.out.ttl, HOK.out.pr, HOK.out.src, HOK.out.dst⟩
    have HMY : Hid (Calls Try.prog 44 #[.agg #[.int .u8 (h.tos : Nat), .int .u16 (h.id : Nat), .bool h.ev, .bool h.df, .bool true, .int .i64 h.off, .int .u8 (h.ttl : Nat), .int .u8 (h.pr : Nat), .int .u32 (h.src : Nat), .int .u32 (h.dst : Nat), .slice oa on oc]] wS fun e w' => e = .returned (.bool (mayO h.off O)) ∧ Below wS.heap.size wS w') := by
      have h1 := mayHdR_any hT oa oc O wS (by rw [← HNS.out.2.1]; exact HOO.out.later HBS.out) (by have := HSM.out; have := HNS.out; omega)
      rw [← HNS.out.2.1, hhT] at h1
      exact h1
    obtain ⟨mb, hmb⟩ : ∃ mb, mb = mayO h.off O := ⟨_, rfl⟩
    rw [← hmb] at HMY
    have HMB : Hid (mb = mayO h.off O ∧ hT = { h with mf := true } ∧ hT.Ok) := ⟨hmb, hhT, hokT⟩
    have HWS := Lib.hid hwS
    clear hwS hXS hhT hokT hmb
    go_wp2_with fail
    rw [← HWS.out]
    clear hfz y0 y1 y2 y3 y4 y5 y6 y7 y8 y9 y10
    have y0 := BlkAt.cell HXS.out (j := 0) rfl; have y1 := BlkAt.cell HXS.out (j := 1) rfl; have y2 := BlkAt.cell HXS.out (j := 2) rfl; have y3 := BlkAt.cell HXS.out (j := 3) rfl; have y4 := BlkAt.cell HXS.out (j := 4) rfl; have y5 := BlkAt.cell HXS.out (j := 5) rfl; have y6 := BlkAt.cell HXS.out (j := 6) rfl; have y7 := BlkAt.cell HXS.out (j := 7) rfl; have y8 := BlkAt.cell HXS.out (j := 8) rfl; have y9 := BlkAt.cell HXS.out (j := 9) rfl; have y10 := BlkAt.cell HXS.out (j := 10) rfl
    go_wp2_with fail
    refine HMY.out.mono ?_
    rintro e w5 ⟨rfl, hb5⟩
    have HB5 := Lib.hid (below_of HBS.out hb5)
    have HX5 := Lib.hid (HXS.out.later hb5)
    clear hb5 HMY y0 y1 y2 y3 y4 y5 y6 y7 y8 y9 y10
    cases mb with
    | false =>
      go_wp2_with fail
      go_ret
      exact ⟨rfl, HB5.out⟩
    | true =>
      by_cases ht0 : at_ < 0
      · go_wp2_with fail
        go_ret
        exact ⟨rfl, HB5.out⟩
      · by_cases ht1 : 8191 < at_
        · go_wp2_with fail
          go_ret
          exact ⟨rfl, HB5.out⟩
        · have y0 := BlkAt.cell HX5.out (j := 0) rfl; have y1 := BlkAt.cell HX5.out (j := 1) rfl; have y2 := BlkAt.cell HX5.out (j := 2) rfl; have y3 := BlkAt.cell HX5.out (j := 3) rfl; have y4 := BlkAt.cell HX5.out (j := 4) rfl; have y5 := BlkAt.cell HX5.out (j := 5) rfl; have y6 := BlkAt.cell HX5.out (j := 6) rfl; have y7 := BlkAt.cell HX5.out (j := 7) rfl; have y8 := BlkAt.cell HX5.out (j := 8) rfl; have y9 := BlkAt.cell HX5.out (j := 9) rfl; have y10 := BlkAt.cell HX5.out (j := 10) rfl
          obtain ⟨w6, hw6⟩ : ∃ w6, w6 = w5.alloc (.cells #[.int .u8 0, .int .u16 0, .bool false, .bool false, .bool (at_ == 0), .int .i64 at_, .int .u8 (h.ttl : Nat), .int .u8 (h.pr : Nat), .int .u32 (h.src : Nat), .int .u32 (h.dst : Nat), .slice none 0 0] 106) := ⟨_, rfl⟩
          have hb6' : Below w5.heap.size w5 w6 := by rw [hw6]; exact ba1 _ _
          have HX6 := Lib.hid (HX5.out.later hb6')
          have hY6 : BlkAt 106 w5.heap.size [.int .u8 0, .int .u16 0, .bool false, .bool false, .bool (at_ == 0), .int .i64 at_, .int .u8 (h.ttl : Nat), .int .u8 (h.pr : Nat), .int .u32 (h.src : Nat), .int .u32 (h.dst : Nat), .slice none 0 0] w6 := by rw [hw6]; exact BlkAt.new w5 _
          have HY6 := Lib.hid hY6
          have HB66 := Lib.hid (below_of HB5.out hb6')
          have HW6 := Lib.hid hw6
          obtain ⟨z, hz⟩ : ∃ z, z = fnvs [putL h.src 4, putL h.dst 4, [UInt8.ofNat h.pr], []] := ⟨_, rfl⟩
          have hmy : mayO hT.off O = true := by rw [HMB.out.2.1]; exact HMB.out.1.symm
          obtain ⟨hl40, _⟩ := mayO_len hmy
          have hfA : A.length ≤ 65535 - 20 - O.length := by have := HSM.out; have := HNS.out; omega
          have hfg : fragB hT = true := by rw [HMB.out.2.1]; unfold fragB; rfl
          have HFA : Hid (flt (pktL hT O A) = 0 ∧ hashH (hdP (pktL hT O A)) (plP (pktL hT O A)) = z ∧ (pktL hT O A).length ≤ 1000000) := by
            obtain ⟨f1, f2⟩ := hash_frag HMB.out.2.2 hmy hfA hfg
            refine ⟨f1, ?_, ?_⟩
            · rw [f2, hz, HMB.out.2.1]
            · rw [pkt_len]; have := HSM.out; have := HNS.out; omega
          have HBA : Hid (Calls Try.prog 45 #[.agg #[.int .u8 (h.tos : Nat), .int .u16 (h.id : Nat), .bool h.ev, .bool h.df, .bool true, .int .i64 h.off, .int .u8 (h.ttl : Nat), .int .u8 (h.pr : Nat), .int .u32 (h.src : Nat), .int .u32 (h.dst : Nat), .slice oa on oc], .slice aa an ac] w6 fun e w' => ∃ v, e = .returned v ∧ OwnB w' w6.heap.size v (pktL hT O A) ∧ Below w6.heap.size w6 w') := by
            have h1 := bytesR_yes hT HMB.out.2.2 oa oc O aa ac A w6 (by rw [← HNS.out.2.1]; exact HOO.out.later HB66.out) (by rw [← HNS.out.2.2.1]; exact HAA.out.later HB66.out) hmy hfA
            rw [← HNS.out.2.1, ← HNS.out.2.2.1] at h1
            have e1 : hT = { h with mf := true } := HMB.out.2.1
            rw [e1] at h1 ⊢
            exact h1
          obtain ⟨h2, hh2⟩ : ∃ h2 : Hd, h2 = ⟨0, 0, false, false, (at_ == 0), at_, h.ttl, h.pr, h.src, h.dst⟩ := ⟨_, rfl⟩
          have hok2 : h2.Ok := by rw [hh2]; exact ⟨by show 0 < 256; decide, by show 0 < 65536; decide, HOK.out.ttl, HOK.out.pr, HOK.out.src, HOK.out.dst⟩
          have hmy2 : mayO h2.off [] = true := by rw [hh2]; exact mayB_nil (by show 0 ≤ at_; omega) (by show at_ ≤ 8191; omega)
          have hfB : B.length ≤ 65535 - 20 - ([] : List UInt8).length := by show B.length ≤ 65535 - 20 - 0; have := HSM.out; have := HNS.out; omega
          have hfg2 : fragB h2 = true := by
            rw [hh2]
            unfold fragB
            by_cases h0 : at_ = 0
            · simp [h0]
            · simp; omega
          have HFB : Hid (flt (pktL h2 [] B) = 0 ∧ hashH (hdP (pktL h2 [] B)) (plP (pktL h2 [] B)) = z ∧ (pktL h2 [] B).length ≤ 1000000) := by
            obtain ⟨f1, f2⟩ := hash_frag hok2 hmy2 hfB hfg2
            refine ⟨f1, ?_, ?_⟩
            · rw [f2, hz, hh2]
            · rw [pkt_len]; show 20 + 0 + B.length ≤ _; have := HSM.out; have := HNS.out; omega
          have HBB2 : Hid (∀ W, Below w.heap.size w W → Calls Try.prog 45 #[.agg #[.int .u8 0, .int .u16 0, .bool false, .bool false, .bool (at_ == 0), .int .i64 at_, .int .u8 (h.ttl : Nat), .int .u8 (h.pr : Nat), .int .u32 (h.src : Nat), .int .u32 (h.dst : Nat), .slice none 0 0], .slice ba bn bc] W fun e w' => ∃ v, e = .returned v ∧ OwnB w' W.heap.size v (pktL h2 [] B) ∧ Below W.heap.size W w') := by
            have : ∀ W, Below w.heap.size w W → Calls Try.prog 45 #[.agg #[.int .u8 0, .int .u16 0, .bool false, .bool false, .bool (at_ == 0), .int .i64 at_, .int .u8 (h.ttl : Nat), .int .u8 (h.pr : Nat), .int .u32 (h.src : Nat), .int .u32 (h.dst : Nat), .slice none 0 0], .slice ba bn bc] W fun e w' => ∃ v, e = .returned v ∧ OwnB w' W.heap.size v (pktL h2 [] B) ∧ Below W.heap.size W w' := fun W hW => by
              have h1 := bytesR_yes h2 hok2 none 0 [] ba bc B W (Bytes.nil W none 0) (by rw [← HNS.out.2.2.2]; exact HBB.out.later hW) hmy2 hfB
              rw [← HNS.out.2.2.2] at h1
              rw [hh2] at h1 ⊢
              exact h1
            exact this
          clear hb6' hY6 hw6 hz hmy hl40 hfA hfg hh2 hok2 hmy2 hfB hfg2
          have hx6 := HX6.out
          rw [HW6.out] at hx6
          have x0 := BlkAt.cell hx6 (j := 0) rfl; have x1 := BlkAt.cell hx6 (j := 1) rfl; have x2 := BlkAt.cell hx6 (j := 2) rfl; have x3 := BlkAt.cell hx6 (j := 3) rfl; have x4 := BlkAt.cell hx6 (j := 4) rfl; have x5 := BlkAt.cell hx6 (j := 5) rfl; have x6 := BlkAt.cell hx6 (j := 6) rfl; have x7 := BlkAt.cell hx6 (j := 7) rfl; have x8 := BlkAt.cell hx6 (j := 8) rfl; have x9 := BlkAt.cell hx6 (j := 9) rfl; have x10 := BlkAt.cell hx6 (j := 10) rfl
          go_wp2_with fail
          rw [← HW6.out]
          clear hx6 x0 x1 x2 x3 x4 x5 x6 x7 x8 x9 x10
          obtain ⟨ob, hob⟩ : ∃ b, b = w5.heap.size := ⟨_, rfl⟩
          rw [← hob] at HY6 ⊢
          clear hob
          refine HBA.out.mono ?_
          rintro e w7 ⟨u7, rfl, ho7, hb7⟩
          obtain ⟨a7, c7, rfl⟩ := ho7.form
          have hha := hash_yes (OwnB.bytes ho7) HFA.out.2.2 HFA.out.1
          rw [HFA.out.2.1] at hha
          obtain ⟨n7, hn7⟩ : ∃ n, n = (pktL hT O A).length := ⟨_, rfl⟩
          rw [← hn7] at hha ⊢
          have HHA := Lib.hid hha
          have HB7 := Lib.hid (below_of HB66.out hb7)
          have HY7 := Lib.hid (HY6.out.later hb7)
          clear ho7 hb7 hha hn7 y0 y1 y2 y3 y4 y5 y6 y7 y8 y9 y10
          go_wp2_with fail
          refine HHA.out.mono ?_
          rintro e w8 ⟨rfl, hb8⟩
          have HB8 := Lib.hid (below_of HB7.out hb8)
          have HY8 := Lib.hid (HY7.out.later hb8)
          have y0 := BlkAt.cell HY8.out (j := 0) rfl; have y1 := BlkAt.cell HY8.out (j := 1) rfl; have y2 := BlkAt.cell HY8.out (j := 2) rfl; have y3 := BlkAt.cell HY8.out (j := 3) rfl; have y4 := BlkAt.cell HY8.out (j := 4) rfl; have y5 := BlkAt.cell HY8.out (j := 5) rfl; have y6 := BlkAt.cell HY8.out (j := 6) rfl; have y7 := BlkAt.cell HY8.out (j := 7) rfl; have y8 := BlkAt.cell HY8.out (j := 8) rfl; have y9 := BlkAt.cell HY8.out (j := 9) rfl; have y10 := BlkAt.cell HY8.out (j := 10) rfl
          clear hb8
          go_wp2_with fail
          refine (HBB2.out _ HB8.out).mono ?_
          rintro e w9 ⟨u9, rfl, ho9, hb9⟩
          obtain ⟨a9, c9, rfl⟩ := ho9.form
          have hhb := hash_yes (OwnB.bytes ho9) HFB.out.2.2 HFB.out.1
          rw [HFB.out.2.1] at hhb
          obtain ⟨n9, hn9⟩ : ∃ n, n = (pktL h2 [] B).length := ⟨_, rfl⟩
          rw [← hn9] at hhb ⊢
          have HHB := Lib.hid hhb
          have HB9 := Lib.hid (below_of HB8.out hb9)
          clear ho9 hb9 hhb hn9 y0 y1 y2 y3 y4 y5 y6 y7 y8 y9 y10
          go_wp2_with fail
          refine HHB.out.mono ?_
          rintro e w10 ⟨rfl, hb10⟩
          have HB10 := Lib.hid (below_of HB9.out hb10)
          have t0 : ((z : Int) == z) = true := by simp
          have t1 : (z == z) = true := by simp
          clear hb10
          go_wp2_with fail
          refine (numL 0 w10).mono ?_
          rintro e w11 ⟨rfl, rfl⟩
          go_wp2_with fail
          refine (numL 0 w10).mono ?_
          rintro e w11 ⟨rfl, rfl⟩
          go_wp2_with fail
          go_ret
          exact ⟨rfl, HB10.out⟩

end Go.Proofs.Ytdjhgahdiggahaa

namespace Go.Proofs.Ytdjhgahdiggahaa
open Go.RowKit

set_option maxRecDepth 100000 in
theorem splitMeans_walk (v0 : Value) (l : List Sp.WyN) (h : Hd) (oa : Option Addr) (oc : Nat) (O : List UInt8) (v2 : Value) (A : List UInt8) (v3 : Value) (B : List UInt8) (at_ : Int) (w : World) (hv : Nxs w v0 l) (_ : l.length ≤ 9223372036854775807) (ho : ∀ n ∈ l, NxOk n) (hh : h.Ok) (hO : Bytes w (.slice oa O.length oc) O) (_ : O.length ≤ 9223372036854775807) (_ : -9223372036854775808 ≤ h.off) (_ : h.off ≤ 9223372036854775807) (hA : Bytes w v2 A) (_ : A.length ≤ 9223372036854775807) (hB : Bytes w v3 B) (_ : B.length ≤ 9223372036854775807)
    (ha0 : -9223372036854775808 ≤ at_) (ha1 : at_ ≤ 9223372036854775807) :
    Calls Try.prog 13 #[v0, .agg #[.int .u8 (h.tos : Nat), .int .u16 (h.id : Nat), .bool h.ev, .bool h.df, .bool h.mf, .int .i64 h.off, .int .u8 (h.ttl : Nat), .int .u8 (h.pr : Nat), .int .u32 (h.src : Nat), .int .u32 (h.dst : Nat), .slice oa O.length oc], v2, v3, .int .i64 at_] w fun e w' => e = .returned (.bool true) ∧ Below w.heap.size w w' := by
  by_cases hs : l.length ≤ 300 ∧ O.length ≤ 300 ∧ A.length ≤ 3000 ∧ B.length ≤ 3000
  · exact splitMeansIn h v0 l oa oc O v2 A v3 B at_ w hv ho hh hO hA hB ha0 ha1 hs
  · exact splitMeansBig h v0 l oa oc O v2 A v3 B at_ w hv ho hh hO hA hB ha0 ha1 hs
end Go.Proofs.Ytdjhgahdiggahaa

namespace Go.Proofs.Ytdjhgahdiggahaa.splitMeans
open Go.ChangeShapes Go.WideShapes Go.ChangeAt Go.RowKit

set_option maxRecDepth 100000 in
theorem lifted (os : Os) (started : os.Started) (H : Type) (enc : TypeId × Value → H) :
    ReturnsInHanded {} Try.checked os 13 .any (Rows.splitMeansSpec.pre6 enc Try.prog Try.f13 Rows.splitMeansRow.domain false) (Rows.splitMeansSpec.post enc Try.prog Try.f13 false true false false) := by
  refine returnsInHanded_of_change (C := Try.checked) own started (by kernel_rfl) Try.func13
    (ChangeSpec.witness6 (enc := enc) (C := Try.checked) false ⟨#[], #[.slice none 0 0, .agg #[.int .u8 0, .int .u16 0, .bool false, .bool false, .bool false, .int .i64 0, .int .u8 0, .int .u8 0, .int .u32 0, .int .u32 0, .slice none 0 0], .slice none 0 0, .slice none 0 0, .int .i64 0], []⟩ 8 (by kernel_rfl) (by kernel_rfl) (by kernel_rfl) (by kernel_rfl)) ?_
  intro W bseS args ds gs before hval0 hW hcnd _
  have hval : ∀ (j : Nat) t v, Try.f13.params[j]? = some t → args[j]? = some v → Value.okWide Try.prog W .any bseS t v := hval0
  have hW' := hW
  obtain ⟨p, q, hA0, hV, rfl, hfz, hnd⟩ := hW
  have hA : DataW.TrodAll enc Try.prog W 0 (fun _ => true) true Try.f13.params.toList args.toList ds p := hA0
  rw [Try.params13] at hA hval
  obtain ⟨v0, vs0, d0, ds0, p0, q0, hargs, rfl, rfl, h0, r0⟩ := trodAll_cons hA
  obtain ⟨v1, vs1, d1, ds1, p1, q1, rfl, rfl, rfl, h1, r1⟩ := trodAll_cons r0
  obtain ⟨v2, vs2, d2, ds2, p2, q2, rfl, rfl, rfl, h2, r2⟩ := trodAll_cons r1
  obtain ⟨v3, vs3, d3, ds3, p3, q3, rfl, rfl, rfl, h3, r3⟩ := trodAll_cons r2
  obtain ⟨v4, vs4, d4, ds4, p4, q4, rfl, rfl, rfl, h4, r4⟩ := trodAll_cons r3
  obtain ⟨rfl, rfl, rfl⟩ := trodAll_nil r4
  obtain rfl : args = #[v0, v1, v2, v3, v4] := by cases args; simp_all
  obtain ⟨rfl, rfl⟩ := trodVars_none hV
  have k0 := h0
  have lt0 : ∀ x ∈ p0, x.block < W.heap.size := by obtain ⟨m, hm⟩ := k0; exact DataW.trod_lt m _ _ _ hm
  have k1 := h1
  have lt1 : ∀ x ∈ p1, x.block < W.heap.size := by obtain ⟨m, hm⟩ := k1; exact DataW.trod_lt m _ _ _ hm
  have k2 := h2
  have lt2 : ∀ x ∈ p2, x.block < W.heap.size := by obtain ⟨m, hm⟩ := k2; exact DataW.trod_lt m _ _ _ hm
  have k3 := h3
  have lt3 : ∀ x ∈ p3, x.block < W.heap.size := by obtain ⟨m, hm⟩ := k3; exact DataW.trod_lt m _ _ _ hm
  have k4 := h4
  have lt4 : ∀ x ∈ p4, x.block < W.heap.size := by obtain ⟨m, hm⟩ := k4; exact DataW.trod_lt m _ _ _ hm
  obtain ⟨l0, hb0, hl0, hs0⟩ := open_nexts (hval 0 69 v0 rfl rfl) h0
  obtain ⟨g1, oa1, oc1, O1, rfl, hk1, hb1, hl1, ho1, hp1⟩ := open_hdr (hval 1 106 v1 rfl rfl) h1
  obtain ⟨l2, hb2, hl2⟩ := open_bytes (hval 2 97 v2 rfl rfl) h2
  obtain ⟨l3, hb3, hl3⟩ := open_bytes (hval 3 97 v3 rfl rfl) h3
  obtain ⟨a4, rfl, _, _, wa4⟩ := open_int Try.underlying3 (hval 4 3 v4 rfl rfl) h4
  refine (splitMeans_walk v0 l0 g1 oa1 oc1 O1 v2 l2 v3 l3 a4 W hb0 hl0 hs0 hk1 hb1 hl1 ho1 hp1 hb2 hl2 hb3 hl3 (bounds_i64 wa4).1 (bounds_i64 wa4).2).mono fun e W' ⟨he, bel⟩ => ?_
  subst he
  exact ⟨_, rfl, _, _, _, [], _, [], hW', trodAll_mk1 (shut_bool Try.underlying4 _), (trodAll_cons_mk (Below.trod laidOut (by kernel_rfl) (of_decide_eq_true (by kernel_rfl)) k0 bel lt0) (trodAll_cons_mk (Below.trod laidOut (by kernel_rfl) (of_decide_eq_true (by kernel_rfl)) k1 bel lt1) (trodAll_cons_mk (Below.trod laidOut (by kernel_rfl) (of_decide_eq_true (by kernel_rfl)) k2 bel lt2) (trodAll_cons_mk (Below.trod laidOut (by kernel_rfl) (of_decide_eq_true (by kernel_rfl)) k3 bel lt3) (trodAll_cons_mk (Below.trod laidOut (by kernel_rfl) (of_decide_eq_true (by kernel_rfl)) k4 bel lt4) trodAll_mk0))))), rfl, bel.frame _, fun h => by cases h⟩

/-- The statement. -/
theorem said : Rows.SplitMeansSaid :=
  OpenClaim.holds_of_wide 13 Try.f13 rfl rfl rfl rfl rfl rfl rfl ⟨rfl, rfl, rfl, rfl, rfl⟩ rfl rfl rfl rfl rfl (by kernel_rfl) Try.func13 (by kernel_rfl)
    (of_decide_eq_true (by kernel_rfl)) (by unfold Func.isWrapper; first | (rw [if_pos (by decide +kernel)]; kernel_rfl) | (rw [if_neg (by decide +kernel)]; exact ⟨rfl, rfl⟩))
    (fun os started H enc _ => lifted os started H enc)
#print axioms said
end Go.Proofs.Ytdjhgahdiggahaa.splitMeans
