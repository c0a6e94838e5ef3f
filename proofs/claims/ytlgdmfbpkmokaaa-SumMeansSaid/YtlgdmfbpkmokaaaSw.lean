/- The walk of the law SumMeans. -/
import Derived.Test.YtlgdmfbpkmokaaaSn
namespace Go.Proofs.Ytlgdmfbpkmokaaa
open Go.RowKit
attribute [local go_sem ↓] Go.wp_at_zero Go.wp_at_succ

theorem below_nil {w w' : World} (h : w.grownBy w' (Value.slice none 0 0).ownBlock) : Below w.heap.size w w' := (Below.refl _ _).grown h (Nat.le_refl _) (fun j hj => by simp [Value.ownBlock] at hj)

set_option maxHeartbeats 8000000 in
set_option maxRecDepth 100000 in
theorem sumMeans_in (a : Option Addr) (c k n : Nat) (l : List UInt8) (w : World) (hb : Bytes w (.slice a l.length c) l) (hl : l.length ≤ 9000) (hk : k < l.length / 2) (hn : n < 65536) :
    Calls Try.prog 7 #[.slice a l.length c, .int .i64 (k : Int), .int .u16 (n : Int)] w fun e w' => e = .returned (.bool true) ∧ Below w.heap.size w w' := by
  obtain ⟨hrh, hP⟩ := hb.cut_h ((l.length : Int) / 2 * 2) (l.length / 2 * 2) (by omega) (by omega)
  have HP := Lib.hid hP
  have g1 : (l.length : Int) ≤ 9000 := by omega
  have hlen : (l.take (l.length / 2 * 2)).length = l.length / 2 * 2 := by simp; omega
  obtain ⟨l0, hl0⟩ : ∃ l0, l0 = l.take (l.length / 2 * 2) := ⟨_, rfl⟩
  rw [← hl0] at hlen
  have HL0 := Lib.hid hl0
  have HLen := Lib.hid hlen
  have k1 : 2 * k + 1 < l0.length := by omega
  have k2 : (k : Int) < (l0.length : Int) / 2 := by omega
  have k3 : l0.length ≤ 9000 := by omega
  have K1 := Lib.hid k1
  have K2 := Lib.hid k2
  have K3 := Lib.hid k3
  have Hk := Lib.hid hk
  have Hn := Lib.hid hn
  -- the checksum, and its two bytes
  obtain ⟨cN, hcN⟩ : ∃ cN, cN = 65535 - Sm.tot l0 := ⟨_, rfl⟩
  have cb : cN < 65536 := by omega
  obtain ⟨x, hx⟩ : ∃ x : UInt8, x.toNat = cN / 256 := ⟨UInt8.ofNat (cN / 256), by rw [UInt8.toNat_ofNat']; omega⟩
  obtain ⟨y, hy⟩ : ∃ y : UInt8, y.toNat = cN % 256 := ⟨UInt8.ofNat (cN % 256), by rw [UInt8.toNat_ofNat']; omega⟩
  have hgood : (Sm.tot (l0 ++ [x, y]) == 65535) = true := by
    rw [beq_iff_eq]
    exact Sm.tot_good (n := l.length / 2) (by omega) (by rw [hx, hcN]) (by rw [hy, hcN])
  have HGood := Lib.hid hgood
  obtain ⟨x', hx'⟩ : ∃ x : UInt8, x.toNat = n / 256 := ⟨UInt8.ofNat (n / 256), by rw [UInt8.toNat_ofNat']; omega⟩
  obtain ⟨y', hy'⟩ : ∃ y : UInt8, y.toNat = n % 256 := ⟨UInt8.ofNat (n % 256), by rw [UInt8.toNat_ofNat']; omega⟩
  obtain ⟨p, hp⟩ : ∃ p, p = Sm.at0 l0 (2 * k) := ⟨_, rfl⟩
  obtain ⟨q, hq⟩ : ∃ q, q = Sm.at0 l0 (2 * k + 1) := ⟨_, rfl⟩
  have HM := Lib.hid (means_pq l0 k k1 n hn x' y' hx' hy' p q hp hq)
  have bp : p < 256 := by rw [hp]; exact Sm.at0_lt _ _
  have bq : q < 256 := by rw [hq]; exact Sm.at0_lt _ _
  obtain ⟨mN, hm⟩ : ∃ m, m = 256 * p + q := ⟨_, rfl⟩
  have bm : mN < 65536 := by omega
  obtain ⟨l2, hl2⟩ : ∃ l2, l2 = (l0.set (2 * k) x').set (2 * k + 1) y' := ⟨_, rfl⟩
  have hlen2 : l2.length = l0.length := by rw [hl2]; simp
  rw [← hm, ← hl2, ← hcN] at HM
  have HX := Lib.hid hx
  have HY := Lib.hid hy
  have HX' := Lib.hid hx'
  have HY' := Lib.hid hy'
  have HPq := Lib.hid hp
  have HQ := Lib.hid hq
  have HMm := Lib.hid hm
  have HL2 := Lib.hid hl2
  have HLen2 := Lib.hid hlen2
  have HCN := Lib.hid hcN
  have CB := Lib.hid cb
  have BP := Lib.hid bp
  have BQ := Lib.hid bq
  have BM := Lib.hid bm
  clear hk hn hb hP hl0 hlen k1 k2 k3 hcN cb hx hy hgood hx' hy' hp hq bp bq hm bm hl2 hlen2
  go_enter Try.func7, Try.ntmps7
  go_wp2_with fail
  refine (known2_any _).mono ?_
  rintro e w1 ⟨rfl, hb1⟩
  have HB := Lib.hid hb1
  clear hb1
  go_wp2_with (at_builtin; refine wpList_app rfl (.const (.slice none 0 0)) (.tmp 23) rfl w1.heap.size (.slice none 0 0) _ [] (l.take (l.length / 2 * 2)) rfl rfl (OwnB.nil _ _) (HP.out.later HB.out) (by simp; omega) (Nat.le_refl _) ?_)
  intro v2 w2 ho2 hb2 hg2
  rw [← HL0.out] at ho2
  obtain ⟨g, c2, rfl, hg1, hg3, -⟩ := OwnB.slice ho2 (by have := K1.out; omega)
  have HO := Lib.hid ho2
  have hgw : w.heap.size ≤ g := Nat.le_trans HB.out.size hg1
  have HB := Lib.hid (below_of HB.out hb2)
  clear ho2 hb2 hg2
  go_wp2_with fail
  refine (check_one w2 _ l0 HO.out.bytes (by have := K3.out; omega)).mono ?_
  rintro e w3 ⟨rfl, hb3⟩
  rw [← HCN.out]
  have HO := Lib.hid (HO.out.later hb3)
  have HB := Lib.hid (below_of HB.out hb3)
  clear hb3
  have cb2 : (cN : Int) < 65536 := by have := CB.out; omega
  have hx2 : (cN : Int) / 256 = (x.toNat : Int) := by have := HX.out; omega
  have hy2 : (cN : Int) % 256 = (y.toNat : Int) := by have := HY.out; omega
  go_wp2_with (at_builtin; refine wpList_app rfl (.const (.slice none 0 0)) (.tmp 28) rfl w3.heap.size (.slice none 0 0) _ [] l0 rfl rfl (OwnB.nil _ _) HO.out.bytes (by have := K3.out; simp; omega) (Nat.le_refl _) ?_)
  intro v4 w4 ho4 hb4 hg4
  have H4 := Lib.hid ho4
  have hB4 := Lib.hid (show Below w3.heap.size w3 w4 from hb4)
  clear ho4 hb4 hg4
  have bx := x.toNat_lt
  have by' := y.toNat_lt
  go_wp2_with (at_builtin; refine wpList_app rfl (.tmp 29) (.tmp 36) rfl w3.heap.size v4 _ l0 [x, y] rfl rfl (H4.out.alloc _) (bytes_lit w4 [x, y]) (by have := K3.out; simp; omega) (by have := hB4.out.size; simp; omega) ?_)
  intro v5 w5 ho5 hb5 hg5
  have hB5 : Below w3.heap.size w3 w5 := (hB4.out.alloc hB4.out.size _).trans hb5
  have H5 := Lib.hid ho5.bytes
  have HO := Lib.hid (HO.out.later hB5)
  have HB := Lib.hid (below_of HB.out hB5)
  clear ho5 hb5 hg5 hB5 H4 hB4 hx2 hy2 bx by'
  go_wp2_with fail
  refine (goodW_any w5 _ _ H5.out (by have := K3.out; simp; omega)).mono ?_
  rintro e w6 ⟨rfl, hb6⟩
  have HG := HGood.out
  rw [HG]
  have HO := Lib.hid (HO.out.later hb6)
  have HB := Lib.hid (below_of HB.out hb6)
  clear hb6 H5 HG cb2
  obtain ⟨hN, hh⟩ : ∃ hN : Nat, (l0.length : Int) / 2 = (hN : Int) := ⟨l0.length / 2, by omega⟩
  have k2 : (k : Int) < hN := by have := K2.out; omega
  have k3 : (hN : Int) ≤ 4500 := by have := K3.out; omega
  go_wp2_with fail
  clear hh
  have kk := K1.out
  have i1 : (2 * (k : Int)) < l0.length := by omega
  have i2 : (2 * (k : Int)) + 1 < l0.length := by omega
  obtain ⟨c1, f1⟩ := HO.out.at0 (j := 2 * k) (by omega)
  obtain ⟨c2', f2⟩ := HO.out.at0 (j := 2 * k + 1) (by omega)
  rw [← HPq.out] at c1
  rw [← HQ.out] at c2'
  have bp := BP.out
  have bq := BQ.out
  clear k2
  have hw1 : IntKind.u16.wrap (256 * (p : Int)) = 256 * (p : Int) := IntWalk.u16_in _ ⟨by omega, by omega⟩
  have hw2 : IntKind.u16.wrap (256 * (p : Int) + (q : Int)) = (mN : Int) := by rw [IntWalk.u16_in _ ⟨by omega, by omega⟩]; have := HMm.out; omega
  go_quiet (fail)
  have hn2 : (n : Int) < 65536 := by have := Hn.out; omega
  have hx2 : (n : Int) / 256 = (x'.toNat : Int) := by have := HX'.out; omega
  have hy2 : (n : Int) % 256 = (y'.toNat : Int) := by have := HY'.out; omega
  have bx := x'.toNat_lt
  have by' := y'.toNat_lt
  clear hw1 hw2
  rename_i nq
  have HO2 := Lib.hid (((HO.out.later (below_drewN _ _ nq)).set rfl (2 * k) x').set (by simp) (2 * k + 1) y')
  go_wp2_with fail
  obtain ⟨t2, ht2⟩ : ∃ t2, t2 = Sm.tot l2 := ⟨_, rfl⟩
  have tb : t2 < 65536 := by rw [ht2]; exact Sm.tot_lt _
  have HO3 := Lib.hid HO2.out
  rw [← HL2.out] at HO3
  have hlist := lists_one HO3.out.bytes
  have hb7 : Below w.heap.size w6 (((w6.drewN nq).setCell ⟨g, 2 * k, none⟩ (.int .u8 (x'.toNat : Int))).setCell ⟨g, 2 * k + 1, none⟩ (.int .u8 (y'.toNat : Int))) := by
    refine Below.setCell (Below.setCell ?_ hgw _) hgw _
    exact below_drewN _ _ _
  have HB7 := Lib.hid (HB.out.trans hb7)
  have hgl : g < w6.heap.size := by
    have := World.block_lt_of_cell? _ _ c1
    simpa using this
  refine (check_of _ _ l2 t2 ht2 (by have := HLen2.out; have := K3.out; omega) (by simpa using hlist)).mono ?_
  rintro e w8 ⟨rfl, hb8⟩
  have HO8 := Lib.hid ((HO3.out.alloc _).later hb8)
  have HB8 := Lib.hid (below_of (HB7.out.alloc HB7.out.size _) hb8)
  clear hb7 hb8 hlist HO HO2 HO3 HB HB7 c1 c2' f1 f2 bx by' hx2 hy2
  obtain ⟨xN, hxN⟩ : ∃ xN, xN = 65535 - t2 := ⟨_, rfl⟩
  have ex : 65535 - (t2 : Int) = (xN : Int) := by omega
  rw [ex]
  have bxN : xN < 65536 := by omega
  have hm := HM.out
  rw [← ht2, ← hxN] at hm
  have HM2 := Lib.hid hm
  have BX := Lib.hid bxN
  clear ex hxN ht2 tb hm bxN HM hn2
  go_wp2_with fail
  refine (changeW_any cN mN n _ CB.out BM.out Hn.out).mono ?_
  rintro e w9 ⟨rfl, rfl⟩
  obtain ⟨yN, hyN⟩ : ∃ yN, yN = Sm.changed cN mN n := ⟨_, rfl⟩
  have hm := HM2.out
  rw [← hyN] at hm ⊢
  have HM3 := Lib.hid hm
  have ho8 := HO8.out
  rw [← HLen2.out] at ho8
  have HO9 := Lib.hid ho8
  have k3' := K3.out
  have g9 : (l0.length : Int) ≤ 9000 := by omega
  clear hyN hm HM2 ho8 HO8 k3 kk i1 i2 bp bq hgl hgw
  go_wp2_with fail
  go_loop [11, 12] (fun z i => ∃ j : Nat, j ≤ l0.length ∧ i = .int .i64 j ∧ z = .bool (nz l2 j)) (fun _ i => l0.length - (intOf i).toNat)
  case atStart => exact ⟨0, Nat.zero_le _, rfl, rfl⟩
  case round =>
    obtain ⟨j, hj, rfl, rfl⟩ := hrel
    rcases Nat.lt_or_ge j l0.length with hlt | hge
    · have g1 : (j : Int) < l0.length := by omega
      obtain ⟨cj, _⟩ := HO9.out.at0 (j := j) (by rw [HLen2.out]; exact hlt)
      have hst := nz_step l2 j (by rw [HLen2.out]; exact hlt)
      obtain ⟨b, hbb⟩ : ∃ b, b = Sm.at0 l2 j := ⟨_, rfl⟩
      rw [← hbb] at cj hst
      have HST := Lib.hid hst
      clear hbb hst
      rcases hz : nz l2 j with _ | _
      · have HZ := Lib.hid hz
        clear hz
        go_wp2_with fail
        go_round
        case rel => exact ⟨j + 1, by omega, by go_num, by rw [HST.out, HZ.out]; rfl⟩
        case measure => simp [intOf]; omega
      · have HZ := Lib.hid hz
        clear hz
        rcases Nat.eq_zero_or_pos b with h0 | h0
        · subst h0
          go_wp2_with fail
          go_round
          case rel => exact ⟨j + 1, by omega, by go_num, by rw [HST.out, HZ.out]; rfl⟩
          case measure => simp [intOf]; omega
        · have q1 : ((b : Int) == 0) = false := by simp; omega
          have q2 : (b == 0) = false := by simp; omega
          have Q2 := Lib.hid q2
          clear q2
          go_wp2_with fail
          go_round
          case rel => exact ⟨j + 1, by omega, by go_num, by rw [HST.out, HZ.out, Q2.out]; rfl⟩
          case measure => simp [intOf]; omega
    · have e : j = l0.length := by omega
      subst e
      have hm := HM3.out
      rcases hm with hm | ⟨h1, h2, h3⟩
      · subst hm
        generalize nz l2 l0.length = z
        go_wp2_with fail
        go_ret
        exact ⟨rfl, HB8.out⟩
      · have hz := nz_all h1
        rw [HLen2.out] at hz
        rw [hz]
        subst h2 h3
        clear hz h1
        go_wp2_with fail
        go_ret
        exact ⟨rfl, HB8.out⟩

set_option maxHeartbeats 8000000 in
set_option maxRecDepth 100000 in
theorem sumMeans_out (a : Option Addr) (c : Nat) (i : Int) (n : Nat) (l : List UInt8) (w : World) (hb : Bytes w (.slice a l.length c) l) (hl : l.length ≤ 9000) (hi : i < 0 ∨ ((l.length / 2 : Nat) : Int) ≤ i) :
    Calls Try.prog 7 #[.slice a l.length c, .int .i64 i, .int .u16 (n : Int)] w fun e w' => e = .returned (.bool true) ∧ Below w.heap.size w w' := by
  obtain ⟨hrh, hP⟩ := hb.cut_h ((l.length : Int) / 2 * 2) (l.length / 2 * 2) (by omega) (by omega)
  have HP := Lib.hid hP
  have g1 : (l.length : Int) ≤ 9000 := by omega
  have hlen : (l.take (l.length / 2 * 2)).length = l.length / 2 * 2 := by simp; omega
  obtain ⟨l0, hl0⟩ : ∃ l0, l0 = l.take (l.length / 2 * 2) := ⟨_, rfl⟩
  rw [← hl0] at hlen
  have HL0 := Lib.hid hl0
  have k3 : l0.length ≤ 9000 := by omega
  have K3 := Lib.hid k3
  obtain ⟨hN, hh⟩ : ∃ hN : Nat, l0.length / 2 = hN := ⟨_, rfl⟩
  have hi2 : i < 0 ∨ (hN : Int) ≤ i := by omega
  have HH := Lib.hid (show (l0.length : Int) / 2 = (hN : Int) by omega)
  have HN := Lib.hid (show (hN : Int) ≤ 4500 by omega)
  have HI := Lib.hid hi2
  obtain ⟨cN, hcN⟩ : ∃ cN, cN = 65535 - Sm.tot l0 := ⟨_, rfl⟩
  have cb : cN < 65536 := by omega
  obtain ⟨x, hx⟩ : ∃ x : UInt8, x.toNat = cN / 256 := ⟨UInt8.ofNat (cN / 256), by rw [UInt8.toNat_ofNat']; omega⟩
  obtain ⟨y, hy⟩ : ∃ y : UInt8, y.toNat = cN % 256 := ⟨UInt8.ofNat (cN % 256), by rw [UInt8.toNat_ofNat']; omega⟩
  have hgood : (Sm.tot (l0 ++ [x, y]) == 65535) = true := by
    rw [beq_iff_eq]
    exact Sm.tot_good (n := l.length / 2) (by omega) (by rw [hx, hcN]) (by rw [hy, hcN])
  have HGood := Lib.hid hgood
  have HX := Lib.hid hx
  have HY := Lib.hid hy
  have HCN := Lib.hid hcN
  have CB := Lib.hid cb
  clear hb hP hl0 hlen k3 hcN cb hx hy hgood hh hi2 hi
  go_enter Try.func7, Try.ntmps7
  go_wp2_with fail
  refine (known2_any _).mono ?_
  rintro e w1 ⟨rfl, hb1⟩
  have HB := Lib.hid hb1
  clear hb1
  go_wp2_with (at_builtin; refine wpList_app rfl (.const (.slice none 0 0)) (.tmp 23) rfl w1.heap.size (.slice none 0 0) _ [] (l.take (l.length / 2 * 2)) rfl rfl (OwnB.nil _ _) (HP.out.later HB.out) (by simp; omega) (Nat.le_refl _) ?_)
  intro v2 w2 ho2 hb2 hg2
  rw [← HL0.out] at ho2
  obtain ⟨a2, c2, rfl⟩ := OwnB.form ho2
  have HO := Lib.hid (OwnB.bytes ho2)
  have HB := Lib.hid (below_of HB.out hb2)
  clear ho2 hb2 hg2
  go_wp2_with fail
  refine (check_one w2 _ l0 HO.out (by have := K3.out; omega)).mono ?_
  rintro e w3 ⟨rfl, hb3⟩
  rw [← HCN.out]
  have HO := Lib.hid (HO.out.later hb3)
  have HB := Lib.hid (below_of HB.out hb3)
  clear hb3
  have cb2 : (cN : Int) < 65536 := by have := CB.out; omega
  have hx2 : (cN : Int) / 256 = (x.toNat : Int) := by have := HX.out; omega
  have hy2 : (cN : Int) % 256 = (y.toNat : Int) := by have := HY.out; omega
  go_wp2_with (at_builtin; refine wpList_app rfl (.const (.slice none 0 0)) (.tmp 28) rfl w3.heap.size (.slice none 0 0) _ [] l0 rfl rfl (OwnB.nil _ _) HO.out (by have := K3.out; simp; omega) (Nat.le_refl _) ?_)
  intro v4 w4 ho4 hb4 hg4
  have H4 := Lib.hid ho4
  have hB4 := Lib.hid (show Below w3.heap.size w3 w4 from hb4)
  clear ho4 hb4 hg4
  have bx := x.toNat_lt
  have by' := y.toNat_lt
  go_wp2_with (at_builtin; refine wpList_app rfl (.tmp 29) (.tmp 36) rfl w3.heap.size v4 _ l0 [x, y] rfl rfl (H4.out.alloc _) (bytes_lit w4 [x, y]) (by have := K3.out; simp; omega) (by have := hB4.out.size; simp; omega) ?_)
  intro v5 w5 ho5 hb5 hg5
  have hB5 : Below w3.heap.size w3 w5 := (hB4.out.alloc hB4.out.size _).trans hb5
  have H5 := Lib.hid ho5.bytes
  have HB := Lib.hid (below_of HB.out hB5)
  clear ho5 hb5 hg5 hB5 H4 hB4 hx2 hy2 bx by'
  go_wp2_with fail
  refine (goodW_any w5 _ _ H5.out (by have := K3.out; simp; omega)).mono ?_
  rintro e w6 ⟨rfl, hb6⟩
  have HG := HGood.out
  rw [HG]
  have HB := Lib.hid (below_of HB.out hb6)
  clear hb6 H5 HG cb2
  have hh := HH.out
  have hn := HN.out
  rcases HI.out with h | h
  · go_wp2_with fail
    go_ret
    exact ⟨rfl, HB.out⟩
  · have h0 : ¬ i < 0 := by omega
    go_wp2_with fail
    go_ret
    exact ⟨rfl, HB.out⟩
theorem sumMeans_great (a : Option Addr) (c : Nat) (i : Int) (n : Nat) (l : List UInt8) (w : World) (hl : 9000 < l.length) :
    Calls Try.prog 7 #[.slice a l.length c, .int .i64 i, .int .u16 (n : Int)] w fun e w' => e = .returned (.bool true) ∧ Below w.heap.size w w' := by
  have g1 : (9000 : Int) < l.length := by omega
  go_enter Try.func7, Try.ntmps7
  go_wp2_with fail
  refine (known2_any _).mono ?_
  rintro e w1 ⟨rfl, hb1⟩
  go_wp2_with fail
  go_ret
  exact ⟨rfl, hb1⟩
theorem sumMeans_walk (v : Value) (l : List UInt8) (i m : Int) (w : World) (hb : Bytes w v l) (_hl : l.length ≤ 9223372036854775807) (hm : 0 ≤ m) (hm2 : m < 65536) :
    Calls Try.prog 7 #[v, .int .i64 i, .int .u16 m] w fun e w' => e = .returned (.bool true) ∧ Below w.heap.size w w' := by
  obtain ⟨a, c, rfl⟩ := hb.form
  obtain ⟨n, rfl⟩ := Int.eq_ofNat_of_zero_le hm
  by_cases h : 9000 < l.length
  · exact sumMeans_great a c i n l w h
  · by_cases h2 : i < 0 ∨ ((l.length / 2 : Nat) : Int) ≤ i
    · exact sumMeans_out a c i n l w hb (by omega) h2
    · obtain ⟨k, rfl⟩ := Int.eq_ofNat_of_zero_le (show 0 ≤ i by omega)
      exact sumMeans_in a c k n l w hb (by omega) (by omega) (by omega)
end Go.Proofs.Ytlgdmfbpkmokaaa
