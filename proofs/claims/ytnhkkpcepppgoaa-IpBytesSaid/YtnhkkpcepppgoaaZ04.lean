/- A row of one-cell elements in memory: a slice value that reads as a list of values.
   A reference's parts of options: plain mathematics.
   The walk of ip.Bytes.
   A region that draws its order, cut at what is done: one lemma for each set of done operations.
   The walks of slices.Grow of nothing, slices.Concat, wire.Join.
   The walk of ip.flags; the bytes of a header, plain. -/
import Derived.Lib.SliceRun
import Derived.Lib.AppendZerosOnto
import Derived.Deep.RegionHeld3
import Derived.Deep.AppendLies
import Derived.Test.YtnhkkpcepppgoaaZ01
import Derived.Test.YtnhkkpcepppgoaaZ02
import Derived.Test.YtnhkkpcepppgoaaZ03

namespace Go.Proofs.Ytnhkkpcepppgoaa
open Go.RowKit
attribute [local go_sem ↓] Go.wp_at_zero Go.wp_at_succ

theorem or_bit (x k : Nat) (h : x / 2 ^ k % 2 = 0) : x ||| 2 ^ k = x + 2 ^ k := by
  have hp : 0 < 2 ^ k := Nat.pow_pos (by decide)
  have hlt : x % 2 ^ (k + 1) < 2 ^ k := by
    rw [Nat.pow_succ, Nat.mod_mul, h, Nat.mul_zero, Nat.add_zero]
    exact Nat.mod_lt _ hp
  have e : x = x / 2 ^ (k + 1) * 2 ^ (k + 1) + x % 2 ^ (k + 1) := by rw [Nat.mul_comm]; exact (Nat.div_add_mod _ _).symm
  obtain ⟨hi, hhi⟩ : ∃ y, y = x / 2 ^ (k + 1) * 2 ^ (k + 1) := ⟨_, rfl⟩
  obtain ⟨lo, hlo⟩ : ∃ y, y = x % 2 ^ (k + 1) := ⟨_, rfl⟩
  rw [← hlo] at hlt
  rw [← hhi, ← hlo] at e
  have hm : hi % 2 ^ (k + 1) = 0 := by rw [hhi]; exact Nat.mul_mod_left _ _
  have hk1 : 2 ^ (k + 1) = 2 * 2 ^ k := by rw [Nat.pow_succ, Nat.mul_comm]
  rw [e, ← nat_join (k + 1) hi lo hm (by omega), Nat.or_assoc, Nat.or_comm lo, nat_join k (2 ^ k) lo (Nat.mod_self _) hlt, nat_join (k + 1) hi _ hm (by omega), nat_join (k + 1) hi lo hm (by omega)]
  omega
theorem or_u64 (x m k : Nat) (hm : m = 2 ^ k) (hk : m < 65536) (hx : x < 65536) (h : x / 2 ^ k % 2 = 0) : bits .or .u64 (x : Int) (m : Int) = ((x + m : Nat) : Int) := by
  rw [u64_or_nat _ _ (by omega) (by omega), hm, or_bit _ _ h]
theorem or64 (k : Nat) (h : k < 16) : bits .or .i64 64 (k : Int) = ((64 + k : Nat) : Int) := by
  have hall : ∀ k : Fin 16, bits .or .i64 64 ((k.val : Nat) : Int) = ((64 + k.val : Nat) : Int) := by decide +kernel
  exact hall ⟨k, h⟩

set_option maxHeartbeats 8000000 in
set_option maxRecDepth 100000 in
theorem flagsW_any (h : Hd) (a : Option Addr) (n c : Nat) (w : World) (h1 : 0 ≤ h.off) (h2 : h.off ≤ 8191) :
    Calls Try.prog 61 #[.agg #[.int .u8 (h.tos : Nat), .int .u16 (h.id : Nat), .bool h.ev, .bool h.df, .bool h.mf, .int .i64 h.off, .int .u8 (h.ttl : Nat), .int .u8 (h.pr : Nat), .int .u32 (h.src : Nat), .int .u32 (h.dst : Nat), .slice a n c]] w fun e w' => e = .returned (.int .u64 (flagsN h : Nat)) ∧ Below w.heap.size w w' := by
  obtain ⟨tos, id, ev, df, mf, off, ttl, pr, src, dst⟩ := h
  obtain ⟨o, rfl⟩ := Int.eq_ofNat_of_zero_le h1
  simp only at h1 h2 ⊢
  have ho : o < 8192 := by omega
  have hw : IntKind.u64.wrap (o : Int) = o := IntWalk.u64_in _ ⟨by omega, by omega⟩
  have HW := Lib.hid hw
  have g1 : (o : Int) ≤ 8191 := h2
  clear hw h1 h2
  cases ev <;> cases df <;> cases mf
  · have HF : Hid (flagsN ⟨tos, id, false, false, false, o, ttl, pr, src, dst⟩ = o) := by show _ = _; simp [flagsN]
    clear ho
    go_enter Try.func61, Try.ntmps61
    go_wp2_with fail
    go_ret
    exact ⟨ret_i (by rw [HF.out]), by go_grown⟩
  · have HF : Hid (flagsN ⟨tos, id, false, false, true, o, ttl, pr, src, dst⟩ = o + 8192) := by show _ = _; simp [flagsN]; omega
    have HO := Lib.hid (or_u64 o 8192 13 rfl (by omega) (by omega) (by omega))
    clear ho
    go_enter Try.func61, Try.ntmps61
    go_wp2_with fail
    go_ret
    exact ⟨ret_i (by rw [HF.out, ← HO.out]; rfl), by go_grown⟩
  · have HF : Hid (flagsN ⟨tos, id, false, true, false, o, ttl, pr, src, dst⟩ = o + 16384) := by show _ = _; simp [flagsN]; omega
    have HO := Lib.hid (or_u64 o 16384 14 rfl (by omega) (by omega) (by omega))
    clear ho
    go_enter Try.func61, Try.ntmps61
    go_wp2_with fail
    go_ret
    exact ⟨ret_i (by rw [HF.out, ← HO.out]; rfl), by go_grown⟩
  · have HF : Hid (flagsN ⟨tos, id, false, true, true, o, ttl, pr, src, dst⟩ = o + 16384 + 8192) := by show _ = _; simp [flagsN]; omega
    have HO := Lib.hid (or_u64 o 16384 14 rfl (by omega) (by omega) (by omega))
    have HO2 := Lib.hid (or_u64 (o + 16384) 8192 13 rfl (by omega) (by omega) (by omega))
    clear ho
    go_enter Try.func61, Try.ntmps61
    go_wp2_with fail
    go_ret
    exact ⟨ret_i (by rw [HF.out, ← HO2.out, ← HO.out]; rfl), by go_grown⟩
  · have HF : Hid (flagsN ⟨tos, id, true, false, false, o, ttl, pr, src, dst⟩ = o + 32768) := by show _ = _; simp [flagsN]; omega
    have HO := Lib.hid (or_u64 o 32768 15 rfl (by omega) (by omega) (by omega))
    clear ho
    go_enter Try.func61, Try.ntmps61
    go_wp2_with fail
    go_ret
    exact ⟨ret_i (by rw [HF.out, ← HO.out]; rfl), by go_grown⟩
  · have HF : Hid (flagsN ⟨tos, id, true, false, true, o, ttl, pr, src, dst⟩ = o + 32768 + 8192) := by show _ = _; simp [flagsN]; omega
    have HO := Lib.hid (or_u64 o 32768 15 rfl (by omega) (by omega) (by omega))
    have HO2 := Lib.hid (or_u64 (o + 32768) 8192 13 rfl (by omega) (by omega) (by omega))
    clear ho
    go_enter Try.func61, Try.ntmps61
    go_wp2_with fail
    go_ret
    exact ⟨ret_i (by rw [HF.out, ← HO2.out, ← HO.out]; rfl), by go_grown⟩
  · have HF : Hid (flagsN ⟨tos, id, true, true, false, o, ttl, pr, src, dst⟩ = o + 32768 + 16384) := by show _ = _; simp [flagsN]; omega
    have HO := Lib.hid (or_u64 o 32768 15 rfl (by omega) (by omega) (by omega))
    have HO2 := Lib.hid (or_u64 (o + 32768) 16384 14 rfl (by omega) (by omega) (by omega))
    clear ho
    go_enter Try.func61, Try.ntmps61
    go_wp2_with fail
    go_ret
    exact ⟨ret_i (by rw [HF.out, ← HO2.out, ← HO.out]; rfl), by go_grown⟩
  · have HF : Hid (flagsN ⟨tos, id, true, true, true, o, ttl, pr, src, dst⟩ = o + 32768 + 16384 + 8192) := by show _ = _; simp [flagsN]; omega
    have HO := Lib.hid (or_u64 o 32768 15 rfl (by omega) (by omega) (by omega))
    have HO2 := Lib.hid (or_u64 (o + 32768) 16384 14 rfl (by omega) (by omega) (by omega))
    have HO3 := Lib.hid (or_u64 (o + 32768 + 16384) 8192 13 rfl (by omega) (by omega) (by omega))
    clear ho
    go_enter Try.func61, Try.ntmps61
    go_wp2_with fail
    go_ret
    exact ⟨ret_i (by rw [HF.out, ← HO3.out, ← HO2.out, ← HO.out]; rfl), by go_grown⟩

/-- The first twenty bytes of a header. -/
def hd20 (h : Hd) (size total chk : Nat) : List UInt8 :=
  putL (64 + size / 4) 1 ++ (putL h.tos 1 ++ (putL total 2 ++ (putL h.id 2 ++ (putL (flagsN h) 2 ++ (putL h.ttl 1 ++ (putL h.pr 1 ++ (putL chk 2 ++ (putL h.src 4 ++ putL h.dst 4))))))))
theorem hd20_length (h : Hd) (size total chk : Nat) : (hd20 h size total chk).length = 20 := rfl
/-- A header's bytes, with a checksum. -/
def hdrS (h : Hd) (O P : List UInt8) (chk : Nat) : List UInt8 := hd20 h (20 + O.length) (20 + O.length + P.length) chk ++ O
def chkN (h : Hd) (O P : List UInt8) : Nat := 65535 - Sm.tot (hdrS h O P 0)
/-- A packet's bytes. -/
def pktL (h : Hd) (O P : List UInt8) : List UInt8 := hdrS h O P (chkN h O P) ++ P
theorem spl_hd (h : Hd) (size total chk : Nat) (R : List UInt8) :
    spl (spl (spl (spl (spl (spl (spl (spl (spl (List.replicate 20 0 ++ R) 0 (putL (64 + size / 4) 1)) 1 (putL h.tos 1)) 2 (putL total 2)) 4 (putL h.id 2)) 6 (putL (flagsN h) 2)) 8 (putL h.ttl 1)) 9 (putL h.pr 1)) 12 (putL h.src 4)) 16 (putL h.dst 4) = hd20 h size total 0 ++ R := rfl
theorem spl_chk (h : Hd) (size total chk : Nat) (R : List UInt8) : spl (hd20 h size total 0 ++ R) 10 (putL chk 2) = hd20 h size total chk ++ R := rfl
end Go.Proofs.Ytnhkkpcepppgoaa

namespace Go.Proofs.Ytnhkkpcepppgoaa
open Go.RowKit
attribute [local go_sem ↓] Go.wp_at_zero Go.wp_at_succ

set_option maxRecDepth 100000 in
theorem growW_some (n : Nat) (w : World) (h0 : 0 < n) (hn : n ≤ 100000) :
    Calls Try.prog 88 #[.slice none 0 0, .int .i64 (n : Int)] w fun e w' => ∃ v, e = .returned v ∧ OwnB w' w.heap.size v [] ∧ Below w.heap.size w w' := by
  obtain ⟨i0, hi, hz0, hz1, hz2⟩ := info8
  have hold : (Builtin.firstCells i0.size 0 (.slice none 0 0)).run Try.prog w.drew = .ok #[] w.drew := run_firstCells_none w.drew i0.size 0 0 0
  have hrz : ∀ ty, (Builtin.append_ #[22, 3] ty #[.slice none 0 0, .int .i64 (n : Int)]).run Try.prog w =
      .ok (.slice (some ⟨w.heap.size, 0, none⟩) n (grownCap w n 0 5)) (w.drew.alloc (.cells (([] : List Value).toArray ++ Builtin.zeroCells (Value.int .u8 0).cells n ++ Builtin.zeroCells (Value.int .u8 0).cells (grownCap w n 0 5 - n)) 5)) := fun ty => by
    have h := Lib.run_append_grow_zeros w 22 3 ty 5 i0 (.int .u8 0) .i64 .i64 Try.underlying22 Try.underlying3 hi hz0 none 0 0 [] hold n (by omega) (by omega) (by omega) (by omega)
      (by rw [hz2]; omega) (by rw [Nat.zero_add]; exact growslice_fits h0 (by rw [hz2]; omega))
    rw [Nat.zero_add] at h
    exact h
  have hGn : n ≤ grownCap w n 0 5 := grownCap_ge w _ _ _
  have hG63 := grownCap_le_maxLen w n 0 5 (by unfold maxLen; omega)
  obtain ⟨G, hG⟩ : ∃ G, G = grownCap w n 0 5 := ⟨_, rfl⟩
  rw [← hG] at hrz hGn hG63
  have hsz : (([] : List Value).toArray ++ Builtin.zeroCells (Value.int .u8 0).cells n ++ Builtin.zeroCells (Value.int .u8 0).cells (G - n)).size = G * 1 := by
    have e : ∀ k, (Builtin.zeroCells (Value.int .u8 0).cells k).size = k := fun k => by simp [Builtin.zeroCells, Value.cells]
    simp [e]; omega
  obtain ⟨cur, hcur⟩ : ∃ cur, cur = (([] : List Value).toArray ++ Builtin.zeroCells (Value.int .u8 0).cells n ++ Builtin.zeroCells (Value.int .u8 0).cells (G - n)) := ⟨_, rfl⟩
  rw [← hcur] at hrz hsz
  have hown : OwnB (w.drew.alloc (.cells cur 5)) w.heap.size (.slice (some ⟨w.heap.size, 0, none⟩) 0 G) [] :=
    World.ownsRow_made (w := w.drew) cur G (Nat.le_refl _) hG63 hsz
  have HO := Lib.hid hown
  have HB := Lib.hid (show Below w.heap.size w (w.drew.alloc (.cells cur 5)) from ((Below.refl _ _).drew).alloc (Nat.le_refl _) _)
  have g1 : (0 : Int) < n := by omega
  have g2 : (n : Int) ≤ 100000 := by omega
  clear hold hG hcur hsz hown hG63 hGn hn h0
  go_enter Try.func88, Try.ntmps88
  go_wp2_with (at_builtin; refine Lib.wpList_append_run _ rfl _ _ _ _ rfl _ _ rfl rfl _ _ (hrz _) ?_)
  all_goals
    go_ret
    exact ⟨_, rfl, HO.out, HB.out⟩
theorem growW_none (w : World) :
    Calls Try.prog 88 #[.slice none 0 0, .int .i64 0] w fun e w' => e = .returned (.slice none 0 0) ∧ w = w' := by
  go_enter Try.func88, Try.ntmps88
  go_wp2_with fail
  go_ret
  exact ⟨rfl, rfl⟩

set_option maxHeartbeats 2000000 in
set_option maxRecDepth 100000 in
theorem concatW_some (b : Option Addr) (c : Nat) (L : List (List UInt8)) (w : World) (hv : Lists w (.slice b L.length c) L) (hL : L.length ≤ 10000) (hS : L.flatten.length ≤ 100000) :
    Calls Try.prog 83 #[.slice b L.length c] w fun e w' => ∃ v, e = .returned v ∧ OwnB w' w.heap.size v L.flatten ∧ Below w.heap.size w w' := by
  have HV := Lib.hid hv
  clear hv
  go_enter Try.func83, Try.ntmps83
  go_wp2_with fail
  go_loop [3, 11] (fun s i => ∃ k : Nat, k ≤ L.length ∧ i = .int .i64 k ∧ s = .int .i64 (lsum L k)) (fun _ i => L.length - (intOf i).toNat)
  case atStart => exact ⟨0, Nat.zero_le _, rfl, rfl⟩
  case round =>
    obtain ⟨k, hk, rfl, rfl⟩ := hrel
    have hz1 := lsum_mono L hk
    rw [lsum_all] at hz1
    obtain ⟨z, hz⟩ : ∃ z, z = lsum L k := ⟨_, rfl⟩
    rw [← hz] at hz1 ⊢
    have Hz := Lib.hid hz
    have HZ1 := Lib.hid (show z ≤ 100000 by omega)
    clear hz hz1
    rcases Nat.lt_or_ge k L.length with hlt | hge
    · obtain ⟨bl, bo, rfl, hbl, x, d, he, hbe⟩ := HV.out.at hlt
      have hs2 : lsum L (k + 1) = z + L[k].length := by
        show lsum L k + _ = _
        rw [List.getElem?_eq_getElem hlt, Hz.out]; rfl
      have hz2 := lsum_mono L (show k + 1 ≤ L.length by omega)
      rw [lsum_all] at hz2
      obtain ⟨m, hm⟩ : ∃ m, m = L[k].length := ⟨_, rfl⟩
      rw [← hm] at he hs2
      have hm2 : (z : Int) + m ≤ 100000 := by omega
      have Hs2 := Lib.hid hs2
      have g1 : (k : Int) < L.length := by omega
      clear hm hs2 hbe hz2
      go_wp2_with fail
      go_round
      case rel => exact ⟨k + 1, by omega, by go_num, by rw [Hs2.out]; go_num⟩
      case measure => simp [intOf]; omega
    · have e : k = L.length := by omega
      subst e
      have hgrow : Calls Try.prog 88 #[.slice none 0 0, .int .i64 (z : Int)] w fun e w' => ∃ v, e = .returned v ∧ OwnB w' w.heap.size v [] ∧ Below w.heap.size w w' := by
        rcases Nat.eq_zero_or_pos z with h0 | h0
        · subst h0
          exact (growW_none w).mono fun e w' ⟨h1, h2⟩ => by subst h2; exact ⟨_, h1, OwnB.nil _ _, Below.refl _ _⟩
        · exact growW_some z w h0 (by have := HZ1.out; omega)
      have hz2 : (z : Int) ≤ 100000 := by have := HZ1.out; omega
      go_wp2_with fail
      refine hgrow.mono ?_
      rintro e w1 ⟨v1, rfl, ho1, hb1⟩
      have HO := Lib.hid ho1
      have HB1 := Lib.hid hb1
      clear ho1 hb1 hgrow hz2
      go_wp2_with fail
      go_loopw [6, 27] (fun v i wr => ∃ k : Nat, k ≤ L.length ∧ i = .int .i64 k ∧ Hid (OwnB wr w.heap.size v (L.take k).flatten) ∧ Hid (Below w.heap.size w wr)) (fun _ i _ => L.length - (intOf i).toNat)
      case atStart => exact ⟨0, Nat.zero_le _, rfl, HO.out, HB1.out⟩
      case round =>
        obtain ⟨k, hk, rfl, HW, HB⟩ := hrel
        rcases Nat.lt_or_ge k L.length with hlt | hge2
        · have g1 : (k : Int) < L.length := by omega
          obtain ⟨bl, bo, rfl, hbl, x, d, he, hbe⟩ := HV.out.at hlt
          have he' := cell_later' HB.out hbl he
          have b1 : bl < wr.heap.size := Nat.lt_of_lt_of_le hbl HB.out.size
          have hbw := hbe.later HB.out
          have hsz := lsum_take L (k + 1) (by omega)
          have hsz2 := lsum_mono L (i := k + 1) (k := L.length) (by omega)
          rw [lsum_all, hsz] at hsz2
          have hfl : (L.take (k + 1)).flatten = (L.take k).flatten ++ L[k] := by rw [List.take_succ_eq_append_getElem hlt, List.flatten_append, List.flatten_singleton]
          have hfn : (L.take k).flatten.length + L[k].length ≤ 100000 := by rw [← List.length_append, ← hfl]; omega
          have Hfl := Lib.hid hfl
          have Hbw := Lib.hid hbw
          have Hfn := Lib.hid hfn
          clear hfn hfl hsz hsz2 hbe he hbw
          go_wp2_with (at_builtin; refine wpList_app rfl _ _ rfl w.heap.size _ _ _ L[k] rfl rfl HW.out Hbw.out (by have := Hfn.out; omega) HB.out.size ?_)
          intro v' w2 ho2 hb2 hg2
          have HO2 := Lib.hid ho2
          rw [← Hfl.out] at HO2
          have HB2 := Lib.hid (HB.out.trans hb2)
          clear ho2 hb2 hg2
          go_wp2_with fail
          go_roundw
          case rel => exact ⟨k + 1, by omega, by go_num, HO2, HB2⟩
          case measure => simp [intOf]; omega
        · have e : k = L.length := by omega
          subst e
          rw [List.take_length] at HW
          go_wp2_with fail
          go_ret
          exact ⟨_, rfl, HW.out, HB.out⟩
theorem joinW_own (v : Value) (L : List (List UInt8)) (w : World) (hv : Lists w v L) (hL : L.length ≤ 10000) (hS : L.flatten.length ≤ 100000) :
    Calls Try.prog 60 #[v] w fun e w' => ∃ v, e = .returned v ∧ OwnB w' w.heap.size v L.flatten ∧ Below w.heap.size w w' := by
  obtain ⟨b, c, rfl⟩ := hv.form
  have HV := Lib.hid hv
  clear hv
  go_enter Try.func60, Try.ntmps60
  go_wp2_with fail
  refine (concatW_some b c L w HV.out hL hS).mono ?_
  rintro e w1 ⟨v1, rfl, h1, hb1⟩
  have H1 := Lib.hid h1
  clear h1
  go_wp2_with fail
  go_ret
  exact ⟨_, rfl, H1.out, hb1⟩
theorem joinW_any (v : Value) (L : List (List UInt8)) (w : World) (hv : Lists w v L) (hL : L.length ≤ 10000) (hS : L.flatten.length ≤ 100000) :
    Calls Try.prog 60 #[v] w fun e w' => ∃ v, e = .returned v ∧ Bytes w' v L.flatten ∧ Below w.heap.size w w' :=
  (joinW_own v L w hv hL hS).mono fun _ _ ⟨v, h1, h2, h3⟩ => ⟨v, h1, h2.bytes, h3⟩
end Go.Proofs.Ytnhkkpcepppgoaa

namespace Go.Proofs.Ytnhkkpcepppgoaa
open Go.RowKit
theorem wpAnyH_cut {P : Program} {md : Region.Mode} {ops : Array Oper} {Q : Exit → Act → World → Prop} {S : World → Prop} {fuel : Nat} {listed : Array Bool} {a : Act} {w : World}
    (m : Array Bool) (fm : Nat) (I : Act → World → Prop)
    (tail : ∀ (l : Array Bool) (A : Act) (w1 : World), l = m → I A w1 → S w1 → wpAnyH P md ops Q S fm l A w1)
    (main : (∀ (l : Array Bool) (A : Act) (w1 : World), l = m → I A w1 → S w1 → wpAnyH P md ops Q S fm l A w1) → wpAnyH P md ops Q S fuel listed a w) : wpAnyH P md ops Q S fuel listed a w := main tail
/-- A region, cut behind it: what its walk leaves is said once. -/
theorem wp_region_fin {P : Program} {Q : Exit → Act → World → Prop} {S : World → Prop} {id : Nat} {ops : Array Oper} {a : Act} {w : World} (I : Act → World → Prop) (hm : P.follows .mixedOrders = true) (hS : S w.drew) (h1 : ∀ A w3, I A w3 → Q .normal A w3)
    (h : (∀ A w3, I A w3 → Q .normal A w3) → S w.drew → wpAnyH P .any ops Q S ops.size (Array.replicate ops.size false) a w.drew) : (Code.region id ops true).wp P Q a w :=
  wp_region_held_drew hm hS (h h1)
end Go.Proofs.Ytnhkkpcepppgoaa

namespace Go.Proofs.Ytnhkkpcepppgoaa
open Go.RowKit
attribute [local go_sem ↓] Go.wp_at_zero Go.wp_at_succ

/-- While a header is written: the header's box, the closures' box, the bytes that are owned. -/
structure BS (wm : World) (N g cap n base : Nat) (cs : List Value) (l : List UInt8) (w : World) : Prop where
  hd : HdAt wm.heap.size cs w
  bx : w.heap[N]? = some (.cells #[.slice (some ⟨g, 0, none⟩) n cap] 22 (0, 0))
  ow : OwnB w base (.slice (some ⟨g, 0, none⟩) n cap) l
  len : l.length = n
  bel : Below wm.heap.size wm w
  ne1 : wm.heap.size ≠ g
  ne2 : N ≠ g
  b0 : wm.heap.size ≤ base
  bs : base ≤ w.heap.size
theorem BS.later {wm : World} {N g cap n base : Nat} {cs : List Value} {l : List UInt8} {w w' : World} (h : BS wm N g cap n base cs l w) (hb : Below w.heap.size w w') : BS wm N g cap n base cs l w' :=
  ⟨h.hd.later hb, (hb.block N (Array.getElem?_eq_some_iff.1 h.bx).1).trans h.bx, OwnB.later h.ow hb, h.len, h.bel.trans (hb.mono h.bel.size), h.ne1, h.ne2, h.b0, Nat.le_trans h.bs hb.size⟩
theorem BS.put {wm : World} {N g cap n base : Nat} {cs : List Value} {l : List UInt8} {w : World} (h : BS wm N g cap n base cs l w) (at_ size x : Nat) (h1 : 1 ≤ size) (h8 : size ≤ 8) (hx : x < 256 ^ size) (hat : at_ + size ≤ n) (hl : n ≤ 1000000) :
    Calls Try.prog 79 #[.int .i64 (at_ : Int), .int .i64 (size : Int), .int .u64 (x : Nat), .pointer (some ⟨N, 0, none⟩)] w fun e w' => (∃ v, e = .returned v) ∧ BS wm N g cap n base cs (spl l at_ (putL x size)) w' := by
  obtain ⟨hd, bx, ow, rfl, bel, ne1, ne2, b0, bs⟩ := h
  refine (putC_any at_ size x N g cap base l w (by simp [World.cell?, bx]) ow h1 h8 hx hat hl bs ne2).mono ?_
  rintro e w' ⟨hv, ho, hb, hk⟩
  refine ⟨hv, (hk _ hd.lt ne1).trans hd, (hk _ (Array.getElem?_eq_some_iff.1 bx).1 ne2).trans bx, ho, spl_length (by rw [putL_length]; exact hat), bel.trans (hb.mono b0), ne1, ne2, b0, Nat.le_trans bs hb.size⟩

theorem lists_three3 {W : World} {u v x : Value} {k l m : List UInt8} {n : Nat} (g : Bytes W u k) (h : Bytes W v l) (i : Bytes W x m) (hu : W.cell? ⟨n, 0, none⟩ = some u) (hv : W.cell? ⟨n, 1, none⟩ = some v) (hx : W.cell? ⟨n, 2, none⟩ = some x) (hn : n < W.heap.size) : Lists W (.slice (some ⟨n, 0, none⟩) 3 3) [k, l, m] :=
  .inr ⟨n, 0, 3, rfl, hn, Nat.le_refl _, fun j x hx => by
    match j, hx with
    | 0, hx => simp at hx; subst hx; exact ⟨u, by simpa using hu, g⟩
    | 1, hx => simp at hx; subst hx; exact ⟨v, by simpa using hv, h⟩
    | 2, hx => simp at hx; subst hx; exact ⟨_, by simpa using ‹W.cell? ⟨n, 2, none⟩ = _›, i⟩⟩
theorem zeros_bv (n : Nat) : (madeCells (Value.int IntKind.u8 0).cells (n * 1)).toList = bv (List.replicate n 0) := by
  rw [Nat.mul_one]; show (madeCells #[.int .u8 0] n).toList = _
  rw [toList_madeCells_one]; simp [bv]
theorem make_zeros (n : Nat) (w : World) (hn : n ≤ 1000000) :
    ∃ w1, (Instr.makeSlice 22 (.int .i64 (n : Int)) (.int .i64 (n : Int))).run Try.prog w = .ok (.slice (some ⟨w.heap.size, 0, none⟩) n n) w1 ∧ OwnB w1 w.heap.size (.slice (some ⟨w.heap.size, 0, none⟩) n n) (List.replicate n 0) ∧ Below w.heap.size w w1 := by
  obtain ⟨i0, hi, hz0, hz1, hz2⟩ := info8
  obtain ⟨w1, hmk, hown0, hg0⟩ := run_make_full (P := Try.prog) (w := w) w.heap.size 22 5 i0 (.int .u8 0) 1 Try.underlying22 hi hz0 hz1 .i64 .i64 n (by rw [hz2]; omega) (by unfold maxLen; omega) (Nat.le_refl _)
  refine ⟨w1, hmk, ?_, (Below.refl _ _).grown hg0 (Nat.le_refl _) (by simp)⟩
  rw [zeros_bv] at hown0
  show World.ownsRow _ _ _ _ _ _ _
  rw [List.length_replicate]; exact hown0

/-- The answer of Bytes: the bytes, and no error. -/
def BytesYes (wm : World) (h : Hd) (O P : List UInt8) (e : Ending) (w' : World) : Prop := ∃ v, e = .returned (.tuple #[v, .int .i64 0]) ∧ OwnB w' wm.heap.size v (pktL h O P) ∧ Below wm.heap.size wm w'

set_option maxRecDepth 100000 in
set_option maxHeartbeats 40000000 in
theorem bytes_yes (h : Hd) (hh : h.Ok) (oa : Option Addr) (oc : Nat) (O : List UInt8) (pa : Option Addr) (pc : Nat) (P : List UInt8) (wm : World) (hO : Bytes wm (.slice oa O.length oc) O) (hP : Bytes wm (.slice pa P.length pc) P)
    (hm : mayB h.off O = true) (hfit : P.length ≤ 65535 - 20 - O.length) :
    Calls Try.prog 22 #[.agg #[.int .u8 (h.tos : Nat), .int .u16 (h.id : Nat), .bool h.ev, .bool h.df, .bool h.mf, .int .i64 h.off, .int .u8 (h.ttl : Nat), .int .u8 (h.pr : Nat), .int .u32 (h.src : Nat), .int .u32 (h.dst : Nat), .slice oa O.length oc], .slice pa P.length pc] wm (BytesYes wm h O P) := by
  obtain ⟨hl40, hl4, ho0, ho1, _⟩ := mayB_len hm
  obtain ⟨S, hS⟩ : ∃ S, S = 20 + O.length := ⟨_, rfl⟩
  obtain ⟨Pn, hPn⟩ : ∃ S, S = P.length := ⟨_, rfl⟩
  have hA : Below wm.heap.size wm (wm.alloc (.cells #[.int .u8 (h.tos : Nat), .int .u16 (h.id : Nat), .bool h.ev, .bool h.df, .bool h.mf, .int .i64 h.off, .int .u8 (h.ttl : Nat), .int .u8 (h.pr : Nat), .int .u32 (h.src : Nat), .int .u32 (h.dst : Nat), .slice oa O.length oc] 28)) := (Below.refl _ _).alloc (Nat.le_refl _) _
  have hsz := size_any h oa oc O _ (hO.later hA) (by omega)
  rw [show sizeN h.off O = S from by unfold sizeN; rw [hm, hS]; rfl] at hsz
  have HSZ := Lib.hid hsz
  have HR0 : Hid (HdAt wm.heap.size [.int .u8 (h.tos : Nat), .int .u16 (h.id : Nat), .bool h.ev, .bool h.df, .bool h.mf, .int .i64 h.off, .int .u8 (h.ttl : Nat), .int .u8 (h.pr : Nat), .int .u32 (h.src : Nat), .int .u32 (h.dst : Nat), .slice oa O.length oc] (wm.alloc (.cells #[.int .u8 (h.tos : Nat), .int .u16 (h.id : Nat), .bool h.ev, .bool h.df, .bool h.mf, .int .i64 h.off, .int .u8 (h.ttl : Nat), .int .u8 (h.pr : Nat), .int .u32 (h.src : Nat), .int .u32 (h.dst : Nat), .slice oa O.length oc] 28))) := HdAt.new wm [.int .u8 (h.tos : Nat), .int .u16 (h.id : Nat), .bool h.ev, .bool h.df, .bool h.mf, .int .i64 h.off, .int .u8 (h.ttl : Nat), .int .u8 (h.pr : Nat), .int .u32 (h.src : Nat), .int .u32 (h.dst : Nat), .slice oa O.length oc]
  have HN : Hid (64 + S / 4 < 256 ^ 1 ∧ h.tos < 256 ^ 1 ∧ S + Pn < 256 ^ 2 ∧ h.id < 256 ^ 2 ∧ flagsN h < 256 ^ 2 ∧ h.ttl < 256 ^ 1 ∧ h.pr < 256 ^ 1 ∧ h.src < 256 ^ 4 ∧ h.dst < 256 ^ 4) := by
    obtain ⟨a1, a2, a3, a4, a5, a6⟩ := hh
    refine ⟨by omega, by omega, by omega, by omega, ?_, by omega, by omega, by omega, by omega⟩
    unfold flagsN
    have e1 : h.ev.toNat ≤ 1 := Bool.toNat_le _
    have e2 : h.df.toNat ≤ 1 := Bool.toNat_le _
    have e3 : h.mf.toNat ≤ 1 := Bool.toNat_le _
    omega
  have HTL : Hid (20 ≤ S + Pn ∧ S + Pn ≤ 1000000) := ⟨by omega, by omega⟩
  have HO : Hid (0 ≤ h.off ∧ h.off ≤ 8191) := ⟨ho0, ho1⟩
  have h64 := or64 (S / 4) (by omega)
  have hdiv : ((S : Int) / 4) = ((S / 4 : Nat) : Int) := by omega
  have k1 : (S : Int) ≤ 60 := by omega
  have k2 : (20 : Int) ≤ S := by omega
  have k3 : (Pn : Int) ≤ 65535 - S := by omega
  have k4 : (0 : Int) ≤ Pn := by omega
  have k5 : ((S : Int) == 0) = false := by rw [beq_eq_false_iff_ne]; omega
  have k6 : decide (65535 - (S : Int) < Pn) = false := by simp; omega
  have HBO := Lib.hid hO
  have HBP : Hid (Bytes wm (.slice pa Pn pc) P) := by rw [hPn]; exact hP
  have HS := Lib.hid hS
  have HPN := Lib.hid hPn
  have HL40 := Lib.hid hl40
  have H64 := Lib.hid h64
  have HA := Lib.hid hA
  rw [← hPn]
  clear hsz hO hP hm hfit hl4 ho0 ho1 hS hPn hh hl40 h64 hdiv hA
  go_enter Try.func22, Try.ntmps22
  go_wp2_with fail
  refine HSZ.out.mono ?_
  rintro e w1 ⟨rfl, hb1⟩
  have hB1 := HA.out.trans (hb1.mono HA.out.size)
  have HB1 := Lib.hid hB1
  have hr1 : HdAt wm.heap.size [.int .u8 (h.tos : Nat), .int .u16 (h.id : Nat), .bool h.ev, .bool h.df, .bool h.mf, .int .i64 h.off, .int .u8 (h.ttl : Nat), .int .u8 (h.pr : Nat), .int .u32 (h.src : Nat), .int .u32 (h.dst : Nat), .slice oa O.length oc] w1 := HdAt.later HR0.out hb1
  have HR1 := Lib.hid hr1
  have hc10 := HdAt.cell hr1 (j := 10) rfl
  clear hb1 hB1 hr1
  go_wp2_with fail
  obtain ⟨wz, hmk, hoz, hbz⟩ := make_zeros 20 w1.drew (by omega)
  have hmk' : (Instr.makeSlice 22 (.int .i64 20) (.int .i64 20)).run Try.prog w1.drew = .ok (.slice (some ⟨w1.heap.size, 0, none⟩) 20 20) wz := hmk
  have HOZ : Hid (OwnB wz w1.heap.size (.slice (some ⟨w1.heap.size, 0, none⟩) 20 20) (List.replicate 20 0)) := hoz
  have hbz2 : Below w1.heap.size w1 wz := (Below.refl _ _).drew.trans hbz
  have HBZ := Lib.hid hbz2
  clear hmk hoz hbz hbz2
  (refine wp_region_held_drew (S := (fun w' => Below w1.heap.size w1 w')) (by kernel_rfl) ?_ (fun hHeld => ?_); (focus ((try dsimp only); (exact (Below.refl _ _).drew))))
  change wpAnyH _ _ _ _ _ 7 _ _ _
  (refine wpAnyH_take (i := 1) (v := ?_) rfl (by kernel_rfl) (by kernel_rfl) (by kernel_rfl) (fun _ _ _ h => h) (Or.inl ⟨by rfl, ?_⟩) hHeld ?_; rotate_left; (focus (intro w hSw; (try dsimp only at hSw); go_simp; try with_reducible rfl)); (try simp only [Act.put, List.setIfInBounds_toArray, List.set_cons_zero, List.set_cons_succ, List.getElem_toArray, List.getElem_cons_zero, List.getElem_cons_succ]))
  (refine wpAnyH_take (i := 2) (v := ?_) rfl (by kernel_rfl) (by kernel_rfl) (by kernel_rfl) (fun _ _ _ h => h) (Or.inl ⟨by rfl, ?_⟩) hHeld ?_; rotate_left; (focus (intro w hSw; (try dsimp only at hSw); go_simp; (have hcc := cell_later hSw hc10; go_simp; try with_reducible rfl))); (try simp only [Act.put, List.setIfInBounds_toArray, List.set_cons_zero, List.set_cons_succ, List.getElem_toArray, List.getElem_cons_zero, List.getElem_cons_succ]))
  (refine wpAnyH_take (i := 3) (v := ?_) rfl (by kernel_rfl) (by kernel_rfl) (by kernel_rfl) (fun _ _ _ h => h) (Or.inl ⟨by rfl, ?_⟩) hHeld ?_; rotate_left; (focus (intro w hSw; (try dsimp only at hSw); go_simp; try with_reducible rfl)); (try simp only [Act.put, List.setIfInBounds_toArray, List.set_cons_zero, List.set_cons_succ, List.getElem_toArray, List.getElem_cons_zero, List.getElem_cons_succ]))
  (refine wpAnyH_ready (rs := [0]) (by kernel_rfl) (by simp) ?_; refine AllReadyH.cons rfl (fun K hK => ?_) AllReadyH.nil; go_simp; skip; refine hK.out _ _ ?_ (fun hHeldN => ?_); (focus ((try dsimp only); (exact HBZ.out))); clear hK K hHeld; have hHeld := hHeldN; clear hHeldN; (try simp only [Act.put, List.setIfInBounds_toArray, List.set_cons_zero, List.set_cons_succ, List.getElem_toArray, List.getElem_cons_zero]))
  (refine wpAnyH_ready (rs := [4]) (by kernel_rfl) (by simp) ?_; refine AllReadyH.cons rfl (fun K hK => ?_) AllReadyH.nil; go_simp; skip; refine hK.out _ _ ?_ (fun hHeldN => ?_); (focus ((try dsimp only); (exact HBZ.out.alloc HBZ.out.size _))); clear hK K hHeld; have hHeld := hHeldN; clear hHeldN; (try simp only [Act.put, List.setIfInBounds_toArray, List.set_cons_zero, List.set_cons_succ, List.getElem_toArray, List.getElem_cons_zero, List.getElem_cons_succ]))
  (refine wpAnyH_ready (rs := [5]) (by kernel_rfl) (by simp) ?_; refine AllReadyH.cons rfl (fun K hK => ?_) AllReadyH.nil; go_simp; refine (joinW_own _ [List.replicate 20 0, O, P] _ (lists_three3 ((HOZ.out.bytes).later ((Below.refl _ _).alloc (Nat.le_refl _) _)) ((show Bytes wm _ O from HBO.out).later (HB1.out.trans ((HBZ.out.alloc HBZ.out.size _).mono HB1.out.size))) ((show Bytes wm (.slice pa Pn pc) P from HBP.out).later (HB1.out.trans ((HBZ.out.alloc HBZ.out.size _).mono HB1.out.size))) (by simp) (by simp) (by simp) (by simp)) (by simp) (by have a1 := HS.out; have a2 := HTL.out; have a3 := HPN.out; have a4 := k3; have a5 := HL40.out; simp; omega)).mono ?_; rintro e w2 ⟨v2, rfl, ho2, hb2⟩; refine hK.out _ _ ?_ (fun hHeldN => ?_); (focus ((try dsimp only); (exact (HBZ.out.alloc HBZ.out.size _).trans (hb2.mono (HBZ.out.alloc HBZ.out.size _).size)))); clear hK K hHeld; have hHeld := hHeldN; clear hHeldN; (try simp only [Act.put, List.setIfInBounds_toArray, List.set_cons_zero, List.set_cons_succ, List.getElem_toArray, List.getElem_cons_zero, List.getElem_cons_succ]))
  (refine wpAnyH_take (i := 6) (v := ?_) rfl (by kernel_rfl) (by kernel_rfl) (by kernel_rfl) (fun _ _ _ h => h) (Or.inl ⟨by rfl, ?_⟩) hHeld ?_; rotate_left; (focus (intro w hSw; (try dsimp only at hSw); go_simp; try with_reducible rfl)); (try simp only [Act.put, List.setIfInBounds_toArray, List.set_cons_zero, List.set_cons_succ, List.getElem_toArray, List.getElem_cons_zero, List.getElem_cons_succ]))
  refine wpAnyH_done (by kernel_rfl) ?_ _
  have hfl : [List.replicate 20 0, O, P].flatten = List.replicate 20 0 ++ (O ++ P) := by simp
  rw [hfl] at ho2
  have hln : (List.replicate 20 (0 : UInt8) ++ (O ++ P)).length = S + Pn := by rw [List.length_append, List.length_replicate, List.length_append, HS.out, HPN.out]; omega
  obtain ⟨L0, hL0⟩ : ∃ L0, L0 = List.replicate 20 (0 : UInt8) ++ (O ++ P) := ⟨_, rfl⟩
  rw [← hL0] at ho2 hln
  obtain ⟨g, cap, cur, rfl, hbg, hgc, hnc, hcs⟩ := ho2.row (by omega)
  obtain ⟨n, hn⟩ : ∃ n, n = L0.length := ⟨_, rfl⟩
  rw [← hn] at ho2 ⊢
  have hgl : g < w2.heap.size := by
    rcases Nat.lt_or_ge g w2.heap.size with h | h
    · exact h
    · rw [Array.getElem?_eq_none h] at hgc; cases hgc
  have hwz : w1.heap.size ≤ wz.heap.size := HBZ.out.size
  have hbase : w1.heap.size ≤ (wz.alloc (.cells #[.slice (some ⟨w1.heap.size, 0, none⟩) 20 20, .slice oa O.length oc, .slice pa Pn pc] 22)).heap.size := by rw [World.size_alloc]; omega
  have hsz2 := hb2.size
  obtain ⟨base, hba⟩ : ∃ b, b = (wz.alloc (.cells #[.slice (some ⟨w1.heap.size, 0, none⟩) 20 20, .slice oa O.length oc, .slice pa Pn pc] 22)).heap.size := ⟨_, rfl⟩
  rw [← hba] at ho2 hbase hsz2 hbg
  have hr2 : HdAt wm.heap.size [.int .u8 (h.tos : Nat), .int .u16 (h.id : Nat), .bool h.ev, .bool h.df, .bool h.mf, .int .i64 h.off, .int .u8 (h.ttl : Nat), .int .u8 (h.pr : Nat), .int .u32 (h.src : Nat), .int .u32 (h.dst : Nat), .slice oa O.length oc] w2 := HdAt.later HR1.out hHeld
  have hwm1 : wm.heap.size < w1.heap.size := HdAt.lt HR1.out
  have hbs0 : BS wm w2.heap.size g cap n base [.int .u8 (h.tos : Nat), .int .u16 (h.id : Nat), .bool h.ev, .bool h.df, .bool h.mf, .int .i64 h.off, .int .u8 (h.ttl : Nat), .int .u8 (h.pr : Nat), .int .u32 (h.src : Nat), .int .u32 (h.dst : Nat), .slice oa O.length oc] L0 (w2.alloc (.cells #[.slice (some ⟨g, 0, none⟩) n cap] 22)) := by
    refine ⟨hr2.later ((Below.refl _ _).alloc (Nat.le_refl _) _), World.alloc_heap_new _ _, OwnB.alloc (by rw [hn] at ho2 ⊢; exact ho2) _, hn.symm, (HB1.out.trans (hHeld.mono HB1.out.size)).alloc ?_ _, ?_, ?_, ?_, ?_⟩
    · have := (HB1.out.trans (hHeld.mono HB1.out.size)).size; exact this
    · omega
    · omega
    · omega
    · rw [World.size_alloc]; omega
  have HS0 := Lib.hid hbs0
  have HLN : Hid (n = S + Pn) := by show n = _; rw [hn, hln]
  have HL0 := Lib.hid hL0
  have hn6 : n ≤ 1000000 := by have := HTL.out; omega
  have hgw : w2.heap.size ≠ g := by omega
  obtain ⟨N, hN⟩ : ∃ N, N = w2.heap.size := ⟨_, rfl⟩
  rw [← hN] at HS0
  obtain ⟨q, hq⟩ : ∃ q, q = 64 + S / 4 := ⟨_, rfl⟩
  have hor := H64.out
  rw [← hq, show ((S / 4 : Nat) : Int) = (S : Int) / 4 by omega] at hor
  have HQ := Lib.hid hq
  have hNN := HN.out
  have c1 : IntKind.u64.wrap (q : Int) = q := IntWalk.u64_in _ ⟨by omega, by omega⟩
  have c2 : IntKind.u64.wrap (h.tos : Int) = h.tos := IntWalk.u64_in _ ⟨by omega, by omega⟩
  have c3 : IntKind.u64.wrap (n : Int) = n := IntWalk.u64_in _ ⟨by omega, by omega⟩
  have c4 : IntKind.u64.wrap (h.id : Int) = h.id := IntWalk.u64_in _ ⟨by omega, by omega⟩
  have c6 : IntKind.u64.wrap (h.ttl : Int) = h.ttl := IntWalk.u64_in _ ⟨by omega, by omega⟩
  have c7 : IntKind.u64.wrap (h.pr : Int) = h.pr := IntWalk.u64_in _ ⟨by omega, by omega⟩
  have c8 : IntKind.u64.wrap (h.src : Int) = h.src := IntWalk.u64_in _ ⟨by omega, by omega⟩
  have c9 : IntKind.u64.wrap (h.dst : Int) = h.dst := IntWalk.u64_in _ ⟨by omega, by omega⟩
  have HNQ : Hid (q < 256 ^ 1 ∧ h.tos < 256 ^ 1 ∧ n < 256 ^ 2 ∧ h.id < 256 ^ 2 ∧ flagsN h < 256 ^ 2 ∧ h.ttl < 256 ^ 1 ∧ h.pr < 256 ^ 1 ∧ h.src < 256 ^ 4 ∧ h.dst < 256 ^ 4) := by
    rw [hq, hn, hln]; exact HN.out
  have HNL : Hid (20 ≤ n ∧ n ≤ 1000000) := by rw [hn, hln]; exact HTL.out
  clear hfl hln hL0 hn ho2 hbg hgc hnc hcs hgl hwz hbase hsz2 hba hr2 hwm1 hbs0 hgw hb2 hHeld hmk' hc10 hn6 hq hNN
  go_wp2_with fail
  refine (numbersW_any _ _ _ _).mono ?_
  rintro e w3 ⟨rfl, hw3⟩
  rw [← hN] 
  rw [← hw3] at HS0
  clear hw3 hN
  go_wp2_with fail
  refine (BS.put HS0.out 0 1 (q) (by omega) (by omega) (by have := HNQ.out; omega) (by have := HNL.out; omega) HNL.out.2).mono ?_
  rintro e w1' ⟨⟨vv1, rfl⟩, hs1⟩
  have HS1 := Lib.hid hs1
  clear hs1
  have hcc1 := HdAt.cell HS1.out.hd (j := 0) rfl
  go_wp2_with fail
  refine (BS.put HS1.out 1 1 (h.tos) (by omega) (by omega) (by have := HNQ.out; omega) (by have := HNL.out; omega) HNL.out.2).mono ?_
  rintro e w2' ⟨⟨vv2, rfl⟩, hs2⟩
  have HS2 := Lib.hid hs2
  clear hs2 hcc1
  go_wp2_with fail
  refine (BS.put HS2.out 2 2 (n) (by omega) (by omega) (by have := HNQ.out; omega) (by have := HNL.out; omega) HNL.out.2).mono ?_
  rintro e w3' ⟨⟨vv3, rfl⟩, hs3⟩
  have HS3 := Lib.hid hs3
  clear hs3
  have hcc3 := HdAt.cell HS3.out.hd (j := 1) rfl
  go_wp2_with fail
  refine (BS.put HS3.out 4 2 (h.id) (by omega) (by omega) (by have := HNQ.out; omega) (by have := HNL.out; omega) HNL.out.2).mono ?_
  rintro e w4' ⟨⟨vv4, rfl⟩, hs4⟩
  have HS4 := Lib.hid hs4
  clear hs4 hcc3
  have hcx4 : ∀ j x, [.int .u8 (h.tos : Nat), .int .u16 (h.id : Nat), .bool h.ev, .bool h.df, .bool h.mf, .int .i64 h.off, .int .u8 (h.ttl : Nat), .int .u8 (h.pr : Nat), .int .u32 (h.src : Nat), .int .u32 (h.dst : Nat), .slice oa O.length oc][j]? = some x → w4'.cell? ⟨wm.heap.size, j, none⟩ = some x := fun j x hx => HdAt.cell HS4.out.hd hx
  have hd0 := hcx4 0 _ rfl
  have hd1 := hcx4 1 _ rfl
  have hd2 := hcx4 2 _ rfl
  have hd3 := hcx4 3 _ rfl
  have hd4 := hcx4 4 _ rfl
  have hd5 := hcx4 5 _ rfl
  have hd6 := hcx4 6 _ rfl
  have hd7 := hcx4 7 _ rfl
  have hd8 := hcx4 8 _ rfl
  have hd9 := hcx4 9 _ rfl
  have hd10 := hcx4 10 _ rfl
  clear hcx4
  go_wp2_with fail
  refine (flagsW_any h _ _ _ w4' HO.out.1 HO.out.2).mono ?_
  rintro e w4b ⟨rfl, hbf⟩
  have HS4b := Lib.hid (HS4.out.later hbf)
  clear hbf hd0 hd1 hd2 hd3 hd4 hd5 hd6 hd7 hd8 hd9 hd10
  go_wp2_with fail
  refine (BS.put HS4b.out 6 2 (flagsN h) (by omega) (by omega) (by have := HNQ.out; omega) (by have := HNL.out; omega) HNL.out.2).mono ?_
  rintro e w5' ⟨⟨vv5, rfl⟩, hs5⟩
  have HS5 := Lib.hid hs5
  clear hs5
  have hcc5 := HdAt.cell HS5.out.hd (j := 6) rfl
  go_wp2_with fail
  refine (BS.put HS5.out 8 1 (h.ttl) (by omega) (by omega) (by have := HNQ.out; omega) (by have := HNL.out; omega) HNL.out.2).mono ?_
  rintro e w6' ⟨⟨vv6, rfl⟩, hs6⟩
  have HS6 := Lib.hid hs6
  clear hs6 hcc5
  have hcc6 := HdAt.cell HS6.out.hd (j := 7) rfl
  go_wp2_with fail
  refine (BS.put HS6.out 9 1 (h.pr) (by omega) (by omega) (by have := HNQ.out; omega) (by have := HNL.out; omega) HNL.out.2).mono ?_
  rintro e w7' ⟨⟨vv7, rfl⟩, hs7⟩
  have HS7 := Lib.hid hs7
  clear hs7 hcc6
  have hcc7 := HdAt.cell HS7.out.hd (j := 8) rfl
  go_wp2_with fail
  refine (BS.put HS7.out 12 4 (h.src) (by omega) (by omega) (by have := HNQ.out; omega) (by have := HNL.out; omega) HNL.out.2).mono ?_
  rintro e w8' ⟨⟨vv8, rfl⟩, hs8⟩
  have HS8 := Lib.hid hs8
  clear hs8 hcc7
  have hcc8 := HdAt.cell HS8.out.hd (j := 9) rfl
  go_wp2_with fail
  refine (BS.put HS8.out 16 4 (h.dst) (by omega) (by omega) (by have := HNQ.out; omega) (by have := HNL.out; omega) HNL.out.2).mono ?_
  rintro e w9' ⟨⟨vv9, rfl⟩, hs9⟩
  have HS9 := Lib.hid hs9
  clear hs9 hcc8
  have hx9 : BS wm N g cap n base [.int .u8 (h.tos : Nat), .int .u16 (h.id : Nat), .bool h.ev, .bool h.df, .bool h.mf, .int .i64 h.off, .int .u8 (h.ttl : Nat), .int .u8 (h.pr : Nat), .int .u32 (h.src : Nat), .int .u32 (h.dst : Nat), .slice oa O.length oc] (hd20 h S n 0 ++ (O ++ P)) w9' := by
    have := HS9.out; rw [HL0.out, HQ.out] at this; exact this
  have hxl : (hd20 h S n 0 ++ (O ++ P)).length = n := hx9.len
  have htk : (hd20 h S n 0 ++ (O ++ P)).take S = hdrS h O P 0 := by
    unfold hdrS
    rw [← HPN.out, ← HS.out, ← HLN.out, ← List.append_assoc, List.take_append_of_le_length (by rw [List.length_append, hd20_length, HS.out]; omega), List.take_of_length_le (by rw [List.length_append, hd20_length, HS.out]; omega)]
  have hSn : S ≤ n := by rw [HLN.out]; omega
  have hby := hx9.ow.bytes
  obtain ⟨hcr, hcb⟩ := hby.cut_h (S : Int) S rfl (by rw [hxl]; exact hSn)
  rw [htk] at hcb
  have hchk := check_one w9' _ _ hcb (by unfold hdrS; rw [List.length_append, hd20_length]; have := HL40.out; omega)
  have hck : 65535 - Sm.tot (hdrS h O P 0) < 65536 := by omega
  obtain ⟨ck, hcke⟩ : ∃ ck, ck = 65535 - Sm.tot (hdrS h O P 0) := ⟨_, rfl⟩
  rw [← hcke] at hchk hck
  have c10 : IntKind.u64.wrap (ck : Int) = ck := IntWalk.u64_in _ ⟨by omega, by omega⟩
  have HCK := Lib.hid hchk
  have HCE := Lib.hid hcke
  have HC6 : Hid (ck < 256 ^ 2) := by show ck < _; omega
  have HX9 := Lib.hid hx9
  have g7 : (S : Int) ≤ n := by omega
  clear hx9 hxl htk hSn hby hcb hchk hck hcke c1 c2 c3 c4 c6 c7 c8 c9
  go_wp2_with fail
  refine HCK.out.mono ?_
  rintro e w10 ⟨rfl, hb10⟩
  have HS10 := Lib.hid (HX9.out.later hb10)
  clear hb10
  go_wp2_with fail
  refine (BS.put HS10.out 10 2 ck (by omega) (by omega) HC6.out (by have := HNL.out; omega) HNL.out.2).mono ?_
  rintro e w11 ⟨⟨vv11, rfl⟩, hs11⟩
  have HS11 := Lib.hid hs11
  clear hs11
  go_wp2_with fail
  go_ret2
  refine ⟨_, rfl, ?_, HS11.out.bel⟩
  have ho := HS11.out.ow
  have hlen := HS11.out.len
  rw [spl_chk] at ho hlen
  have hp : pktL h O P = hd20 h S n ck ++ (O ++ P) := by
    unfold pktL chkN
    rw [← HCE.out]
    unfold hdrS
    rw [← HPN.out, ← HS.out, ← HLN.out, List.append_assoc]
  rw [hp]
  exact OwnB.weak ho HS11.out.b0
end Go.Proofs.Ytnhkkpcepppgoaa

namespace Go.Proofs.Ytnhkkpcepppgoaa
open Sm

theorem ok_nil : Om.ok [] = true := by unfold Om.ok; rw [Om.seq_nil]; rfl
theorem ok_end {l : List UInt8} (h : at0 l 0 = 0) : Om.ok l = true := by unfold Om.ok; rw [Om.seq_end h]; rfl
theorem ok_nop {l : List UInt8} (h0 : 0 < l.length) (h : at0 l 0 = 1) : Om.ok l = Om.ok (l.drop 1) := by unfold Om.ok; rw [Om.seq_nop h0 h]
theorem ok_bad {l : List UInt8} (h0 : 0 < l.length) (h1 : 2 ≤ at0 l 0) (h : l.length < 2 ∨ at0 l 1 < 2 ∨ l.length < at0 l 1) : Om.ok l = false := by unfold Om.ok; rw [Om.seq_bad h0 h1 h]; rfl
theorem ok_opt {l : List UInt8} (h1 : 2 ≤ at0 l 0) (h2 : 2 ≤ at0 l 1) (h3 : at0 l 1 ≤ l.length) : Om.ok l = Om.ok (l.drop (at0 l 1)) := by unfold Om.ok; rw [Om.seq_opt h1 h2 h3, List.contains_cons]; simp
theorem fm_nil : (Om.seq []).filterMap id = [] := by rw [Om.seq_nil]; rfl
theorem fm_end {l : List UInt8} (h : at0 l 0 = 0) : (Om.seq l).filterMap id = [] := by rw [Om.seq_end h]; rfl
theorem fm_nop {l : List UInt8} (h0 : 0 < l.length) (h : at0 l 0 = 1) : (Om.seq l).filterMap id = (Om.seq (l.drop 1)).filterMap id := by rw [Om.seq_nop h0 h]
theorem fm_opt {l : List UInt8} (h1 : 2 ≤ at0 l 0) (h2 : 2 ≤ at0 l 1) (h3 : at0 l 1 ≤ l.length) : (Om.seq l).filterMap id = l.take (at0 l 1) :: (Om.seq (l.drop (at0 l 1))).filterMap id := by rw [Om.seq_opt h1 h2 h3]; simp
/-- The bytes of a part. -/
def cutP (L : List UInt8) (p : Nat × Nat) : List UInt8 := (L.drop p.1).take p.2
/-- What of the parts is an option. -/
def rawsP (L : List UInt8) (A : List (Nat × Nat)) : List (List UInt8) := (A.filter fun p => at0 L p.1 != 1).map (cutP L)
theorem rawsP_snoc (L : List UInt8) (A : List (Nat × Nat)) (p : Nat × Nat) : rawsP L (A ++ [p]) = rawsP L A ++ (if at0 L p.1 = 1 then [] else [cutP L p]) := by
  unfold rawsP
  rw [List.filter_append, List.map_append]
  by_cases h : at0 L p.1 = 1 <;> simp [h]
/-- A part that lies in the bytes. -/
def PtOk (L : List UInt8) (p : Nat × Nat) : Prop := 1 ≤ p.2 ∧ p.1 + p.2 ≤ L.length ∧ (at0 L p.1 ≠ 1 → 2 ≤ p.2 ∧ 2 ≤ at0 L p.1)
/-- While the parts are gathered: those up to i. -/
structure PtInv (L : List UInt8) (A : List (Nat × Nat)) (i : Nat) : Prop where
  le : i ≤ L.length
  al : A.length ≤ i
  pts : ∀ p ∈ A, PtOk L p
  ok : Om.ok L = Om.ok (L.drop i)
  raws : (Om.seq L).filterMap id = rawsP L A ++ (Om.seq (L.drop i)).filterMap id
theorem PtInv.start (L : List UInt8) : PtInv L [] 0 := ⟨Nat.zero_le _, Nat.le_refl _, by simp, rfl, rfl⟩
theorem at0_dr (L : List UInt8) (i j : Nat) : at0 (L.drop i) j = at0 L (i + j) := by unfold at0; rw [List.getElem?_drop]
theorem PtInv.nop {L : List UInt8} {A : List (Nat × Nat)} {i : Nat} (h : PtInv L A i) (hi : i < L.length) (h1 : at0 L i = 1) : PtInv L (A ++ [(i, 1)]) (i + 1) := by
  obtain ⟨a, b, c, d, e⟩ := h
  have h0 : 0 < (L.drop i).length := by rw [List.length_drop]; omega
  have h2 : at0 (L.drop i) 0 = 1 := by rw [at0_dr]; exact h1
  refine ⟨hi, by simp; omega, fun p hp => ?_, ?_, ?_⟩
  · rcases List.mem_append.1 hp with h | h
    · exact c p h
    · rw [List.mem_singleton.1 h]; exact ⟨Nat.le_refl _, hi, fun h => absurd h1 h⟩
  · rw [d, ok_nop h0 h2, List.drop_drop]
  · rw [e, fm_nop h0 h2, List.drop_drop, rawsP_snoc, if_pos h1, List.append_nil]
theorem PtInv.opt {L : List UInt8} {A : List (Nat × Nat)} {i n : Nat} (h : PtInv L A i) (h0 : 2 ≤ at0 L i) (hn : n = at0 L (i + 1)) (h2 : 2 ≤ n) (h3 : i + n ≤ L.length) : PtInv L (A ++ [(i, n)]) (i + n) := by
  obtain ⟨a, b, c, d, e⟩ := h
  have k0 : 2 ≤ at0 (L.drop i) 0 := by rw [at0_dr]; exact h0
  have k1 : at0 (L.drop i) 1 = n := by rw [at0_dr]; exact hn.symm
  refine ⟨h3, by simp; omega, fun p hp => ?_, ?_, ?_⟩
  · rcases List.mem_append.1 hp with h | h
    · exact c p h
    · rw [List.mem_singleton.1 h]; exact ⟨by omega, h3, fun _ => ⟨h2, h0⟩⟩
  · rw [d, ok_opt k0 (by omega) (by rw [k1, List.length_drop]; omega), k1, List.drop_drop]
  · rw [e, fm_opt k0 (by omega) (by rw [k1, List.length_drop]; omega), k1, List.drop_drop, rawsP_snoc, if_neg (show ¬ at0 L i = 1 by omega), List.append_assoc]; rfl
theorem PtInv.bad {L : List UInt8} {A : List (Nat × Nat)} {i : Nat} (h : PtInv L A i) (hi : i < L.length) (h0 : 2 ≤ at0 L i) (hb : L.length ≤ i + 1 ∨ at0 L (i + 1) < 2 ∨ L.length < i + at0 L (i + 1)) : Om.ok L = false := by
  rw [h.ok, ok_bad (by rw [List.length_drop]; omega) (by rw [at0_dr]; exact h0)]
  rw [at0_dr, List.length_drop]; omega
/-- All parts. -/
structure PtsOf (L : List UInt8) (A : List (Nat × Nat)) : Prop where
  al : A.length ≤ L.length
  pts : ∀ p ∈ A, PtOk L p
  ok : Om.ok L = true
  raws : Om.raws L = rawsP L A
theorem PtInv.stop {L : List UInt8} {A : List (Nat × Nat)} {i : Nat} (h : PtInv L A i) (hs : L.length ≤ i ∨ at0 L i = 0) : PtsOf L A := by
  obtain ⟨a, b, c, d, e⟩ := h
  have k : Om.ok (L.drop i) = true ∧ (Om.seq (L.drop i)).filterMap id = [] := by
    rcases hs with h | h
    · rw [List.drop_eq_nil_of_le h]; exact ⟨ok_nil, fm_nil⟩
    · have : at0 (L.drop i) 0 = 0 := by rw [at0_dr]; exact h
      exact ⟨ok_end this, fm_end this⟩
  have hok : Om.ok L = true := by rw [d]; exact k.1
  exact ⟨by omega, c, hok, by unfold Om.raws; rw [hok, if_pos rfl, e, k.2, List.append_nil]⟩
theorem at0_tk {l : List UInt8} {n i : Nat} (h : i < n) : at0 (l.take n) i = at0 l i := by unfold at0; rw [List.getElem?_take, if_pos h]
theorem at0_cut {L : List UInt8} {p : Nat × Nat} (h : PtOk L p) : at0 (cutP L p) 0 = at0 L p.1 := by
  have := h.1
  unfold cutP; rw [at0_tk (by omega), at0_dr]; rfl
theorem cut_len {L : List UInt8} {p : Nat × Nat} (h : PtOk L p) : (cutP L p).length = p.2 := by
  have := h.2.1
  unfold cutP; rw [List.length_take, List.length_drop]; omega
theorem any_raws {L : List UInt8} (f : Nat → Bool) (hf : f 1 = false) : ∀ A : List (Nat × Nat), (∀ p ∈ A, PtOk L p) → ((rawsP L A).any fun r => f (at0 r 0)) = A.any fun p => f (at0 L p.1)
  | [], _ => rfl
  | p :: A, h => by
    have ih := any_raws f hf A (fun q hq => h q (List.mem_cons_of_mem _ hq))
    have hp := at0_cut (h p (List.mem_cons_self ..))
    unfold rawsP at ih ⊢
    by_cases h1 : at0 L p.1 = 1
    · rw [List.filter_cons_of_neg (by simp [h1]), ih, List.any_cons, h1, hf, Bool.false_or]
    · rw [List.filter_cons_of_pos (by simp [h1]), List.map_cons, List.any_cons, ih, List.any_cons, hp]
theorem flat_raws {L : List UInt8} : ∀ A : List (Nat × Nat), (∀ p ∈ A, PtOk L p) → ((rawsP L A).flatMap fun r => if 128 ≤ at0 r 0 then r else []) = A.flatMap fun p => if 128 ≤ at0 L p.1 then cutP L p else []
  | [], _ => rfl
  | p :: A, h => by
    have ih := flat_raws A (fun q hq => h q (List.mem_cons_of_mem _ hq))
    have hp := at0_cut (h p (List.mem_cons_self ..))
    unfold rawsP at ih ⊢
    by_cases h1 : at0 L p.1 = 1
    · rw [List.filter_cons_of_neg (by simp [h1]), ih, List.flatMap_cons, if_neg (by omega), List.nil_append]
    · rw [List.filter_cons_of_pos (by simp [h1]), List.map_cons, List.flatMap_cons, ih, List.flatMap_cons, hp]
end Go.Proofs.Ytnhkkpcepppgoaa

namespace Go.Proofs.Ytnhkkpcepppgoaa
open Go.RowKit

def Row (w : World) (v : Value) (xs : List Value) : Prop :=
  (xs = [] ∧ ∃ a c, v = .slice a 0 c ∧ (a = none → c = 0)) ∨
  ∃ b o c, v = .slice (some ⟨b, o, none⟩) xs.length c ∧ b < w.heap.size ∧ xs.length ≤ c ∧ ∀ j x, xs[j]? = some x → w.cell? ⟨b, o + j, none⟩ = some x
theorem Row.later {w w' : World} {v : Value} {l : List Value} (h : Row w v l) (hb : Below w.heap.size w w') : Row w' v l := by
  rcases h with h | ⟨b, o, c, h1, h2, hp, h3⟩
  · exact .inl h
  · exact .inr ⟨b, o, c, h1, Nat.lt_of_lt_of_le h2 hb.size, hp, fun j x hx => cell_later hb (h3 j x hx)⟩
theorem Row.form {w : World} {v : Value} {l : List Value} (h : Row w v l) : ∃ a c, v = .slice a l.length c := by
  rcases h with ⟨rfl, a, c, rfl, _⟩ | ⟨b, o, c, rfl, _, _⟩
  · exact ⟨a, c, rfl⟩
  · exact ⟨_, c, rfl⟩
theorem Row.at {w : World} {a : Option Addr} {n c : Nat} {l : List Value} (h : Row w (.slice a n c) l) {i : Nat} {x : Value} (hi : l[i]? = some x) :
    ∃ b o, a = some ⟨b, o, none⟩ ∧ b < w.heap.size ∧ w.cell? ⟨b, o + i, none⟩ = some x := by
  rcases h with ⟨rfl, _⟩ | ⟨b, o, c', h1, h2, _, h3⟩
  · simp at hi
  · simp only [Value.slice.injEq] at h1
    exact ⟨b, o, h1.1, h2, h3 i _ hi⟩
theorem Row.of_own {w : World} {base : Nat} {e : TypeId} {v : Value} {n : Nat} {l : List Value} (h : w.ownsRow base e 1 v n l) : Row w v l := by
  obtain ⟨hl, h0 | ⟨g, cap, cur, rfl, hb, hg, hn, hm, hc, ht⟩⟩ := h
  · obtain ⟨rfl, rfl⟩ := h0
    simp at hl
    subst hl
    exact .inl ⟨rfl, _, _, rfl, fun _ => rfl⟩
  · have hln : l.length = n := by simpa using hl
    subst hln
    refine .inr ⟨g, 0, cap, rfl, ?_, hn, fun j x hx => ?_⟩
    · rcases Nat.lt_or_ge g w.heap.size with h1 | h1
      · exact h1
      · rw [Array.getElem?_eq_none h1] at hg; cases hg
    · rw [Nat.zero_add, cell_of_row w g j cur e (0, 0) hg]
      have hj : j < l.length := (List.getElem?_eq_some_iff.1 hx).1
      have : l[j]? = some x := hx
      rw [← ht, List.getElem?_take, if_pos (by omega)] at this
      simpa using this
theorem Row.of_bytes {w : World} {v : Value} {l : List UInt8} (h : Bytes w v l) : Row w v (bv l) := by
  rcases h with ⟨rfl, a, c, rfl, h1⟩ | ⟨b, o, c, rfl, h2, hp, h3⟩
  · exact .inl ⟨rfl, a, c, rfl, h1⟩
  · refine .inr ⟨b, o, c, by simp [bv], h2, by simpa [bv] using hp, fun j x hx => ?_⟩
    simp only [bv, List.getElem?_map, Option.map_eq_some_iff] at hx
    obtain ⟨y, hy, rfl⟩ := hx
    exact h3 j y hy
theorem ownsRow_later {w w' : World} {B : Nat} {e : TypeId} {s n : Nat} {v : Value} {xs : List Value} (h : w.ownsRow B e s v n xs) (hb : Below w.heap.size w w') : w'.ownsRow B e s v n xs := by
  obtain ⟨hl, h0 | ⟨g, cap, cur, rfl, hb1, hg, hn, hm, hc, ht⟩⟩ := h
  · exact ⟨hl, .inl h0⟩
  · refine ⟨hl, .inr ⟨g, cap, cur, rfl, hb1, ?_, hn, hm, hc, ht⟩⟩
    rw [hb.block g ?_]
    · exact hg
    · rcases Nat.lt_or_ge g w.heap.size with h1 | h1
      · exact h1
      · rw [Array.getElem?_eq_none h1] at hg; cases hg
def iv (l : List Int) : List Value := l.map fun z => .int .i64 z
theorem iv_at {zs : List Int} {k : Nat} (h : k < zs.length) : (iv zs)[k]? = some (.int .i64 zs[k]) := by simp [iv, h]
end Go.Proofs.Ytnhkkpcepppgoaa
