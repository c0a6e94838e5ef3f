/- The walk of ip.Bytes.
   The walks of slices.Grow of nothing, slices.Concat, wire.Join.
   The walks of the first reference's Much and Join.
   The walk of ref03.Less.
   A packet's bytes, plain: they parse to what they were made of; with its ninth byte one less.
   The walk of ip.flags; the bytes of a header, plain. -/
import Derived.Deep.AppendLies
import Derived.Laws.AppendOwnNone
import Derived.Lib.SliceRun
import Derived.Lib.AppendZerosOnto
import Derived.Test.YtnhkkpcepppgoaaZ01
import Derived.Test.YtnhkkpcepppgoaaZ02
import Derived.Test.YtnhkkpcepppgoaaZ03
import Derived.Test.YtnhkkpcepppgoaaZ04
import Derived.Test.YtnhkkpcepppgoaaZ07
import Derived.Test.YtnhkkpcepppgoaaZ08

namespace Go.Proofs.Ytnhkkpcepppgoaa
open Go.RowKit
attribute [local go_sem ↓] Go.wp_at_zero Go.wp_at_succ

theorem or_bit (x k : Nat) (h : x / 2 ^ k % 2 = 0) : x ||| 2 ^ k = x + 2 ^ k := by
  have hp : 0 < 2 ^ k := Nat.pow_pos (by decide)
  have hlt : x % 2 ^ (k + 1) < 2 ^ k := by
    rw [Nat.pow_succ, Nat.mod_mul, h, Nat.mul_zero, Nat.add_zero]
    exact Nat.mod_lt _ hp
  have e : x = x / 2 ^ (k + 1) * 2 ^ (k + 1) + x % 2 ^ (k + 1) := by rw [Nat.mul_comm]; exact (Nat.div_add_mod _ _).symm
  obtain ⟨hi, hhi⟩ : ∃ y, y = x / 2 ^ (k + 1) * 2 ^ (k + 1) := ⟨_, rfl⟩
  obtain ⟨lo, hlo⟩ : ∃ y, y = x % 2 ^ (k + 1) := ⟨_, rfl⟩
  rw [← hlo] at hlt
  rw [← hhi, ← hlo] at e
  have hm : hi % 2 ^ (k + 1) = 0 := by rw [hhi]; exact Nat.mul_mod_left _ _
  have hk1 : 2 ^ (k + 1) = 2 * 2 ^ k := by rw [Nat.pow_succ, Nat.mul_comm]
  rw [e, ← nat_join (k + 1) hi lo hm (by omega), Nat.or_assoc, Nat.or_comm lo, nat_join k (2 ^ k) lo (Nat.mod_self _) hlt, nat_join (k + 1) hi _ hm (by omega), nat_join (k + 1) hi lo hm (by omega)]
  omega
theorem or_u64 (x m k : Nat) (hm : m = 2 ^ k) (hk : m < 65536) (hx : x < 65536) (h : x / 2 ^ k % 2 = 0) : bits .or .u64 (x : Int) (m : Int) = ((x + m : Nat) : Int) := by
  rw [u64_or_nat _ _ (by omega) (by omega), hm, or_bit _ _ h]
theorem or64 (k : Nat) (h : k < 16) : bits .or .i64 64 (k : Int) = ((64 + k : Nat) : Int) := by
  have hall : ∀ k : Fin 16, bits .or .i64 64 ((k.val : Nat) : Int) = ((64 + k.val : Nat) : Int) := by decide +kernel
  exact hall ⟨k, h⟩

set_option maxHeartbeats 8000000 in
set_option maxRecDepth 100000 in
theorem flagsW_any (h : Hd) (a : Option Addr) (n c : Nat) (w : World) (h1 : 0 ≤ h.off) (h2 : h.off ≤ 8191) :
    Calls Try.prog 61 #[.agg #[.int .u8 (h.tos : Nat), .int .u16 (h.id : Nat), .bool h.ev, .bool h.df, .bool h.mf, .int .i64 h.off, .int .u8 (h.ttl : Nat), .int .u8 (h.pr : Nat), .int .u32 (h.src : Nat), .int .u32 (h.dst : Nat), .slice a n c]] w fun e w' => e = .returned (.int .u64 (flagsN h : Nat)) ∧ Below w.heap.size w w' := by
  obtain ⟨tos, id, ev, df, mf, off, ttl, pr, src, dst⟩ := h
  obtain ⟨o, rfl⟩ := Int.eq_ofNat_of_zero_le h1
  simp only at h1 h2 ⊢
  have ho : o < 8192 := by omega
  have hw : IntKind.u64.wrap (o : Int) = o := IntWalk.u64_in _ ⟨by omega, by omega⟩
  have HW := Lib.hid hw
  have g1 : (o : Int) ≤ 8191 := h2
  clear hw h1 h2
  cases ev <;> cases df <;> cases mf
  · have HF : Hid (flagsN ⟨tos, id, false, false, false, o, ttl, pr, src, dst⟩ = o) := by show _ = _; simp [flagsN]
    clear ho
    go_enter Try.func61, Try.ntmps61
    go_wp2_with fail
    go_ret
    exact ⟨ret_i (by rw [HF.out]), by go_grown⟩
  · have HF : Hid (flagsN ⟨tos, id, false, false, true, o, ttl, pr, src, dst⟩ = o + 8192) := by show _ = _; simp [flagsN]; omega
    have HO := Lib.hid (or_u64 o 8192 13 rfl (by omega) (by omega) (by omega))
    clear ho
    go_enter Try.func61, Try.ntmps61
    go_wp2_with fail
    go_ret
    exact ⟨ret_i (by rw [HF.out, ← HO.out]; rfl), by go_grown⟩
  · have HF : Hid (flagsN ⟨tos, id, false, true, false, o, ttl, pr, src, dst⟩ = o + 16384) := by show _ = _; simp [flagsN]; omega
    have HO := Lib.hid (or_u64 o 16384 14 rfl (by omega) (by omega) (by omega))
    clear ho
    go_enter Try.func61, Try.ntmps61
    go_wp2_with fail
    go_ret
    exact ⟨ret_i (by rw [HF.out, ← HO.out]; rfl), by go_grown⟩
  · have HF : Hid (flagsN ⟨tos, id, false, true, true, o, ttl, pr, src, dst⟩ = o + 16384 + 8192) := by show _ = _; simp [flagsN]; omega
    have HO := Lib.hid (or_u64 o 16384 14 rfl (by omega) (by omega) (by omega))
    have HO2 := Lib.hid (or_u64 (o + 16384) 8192 13 rfl (by omega) (by omega) (by omega))
    clear ho
    go_enter Try.func61, Try.ntmps61
    go_wp2_with fail
    go_ret
    exact ⟨ret_i (by rw [HF.out, ← HO2.out, ← HO.out]; rfl), by go_grown⟩
  · have HF : Hid (flagsN ⟨tos, id, true, false, false, o, ttl, pr, src, dst⟩ = o + 32768) := by show _ = _; simp [flagsN]; omega
    have HO := Lib.hid (or_u64 o 32768 15 rfl (by omega) (by omega) (by omega))
    clear ho
    go_enter Try.func61, Try.ntmps61
    go_wp2_with fail
    go_ret
    exact ⟨ret_i (by rw [HF.out, ← HO.out]; rfl), by go_grown⟩
  · have HF : Hid (flagsN ⟨tos, id, true, false, true, o, ttl, pr, src, dst⟩ = o + 32768 + 8192) := by show _ = _; simp [flagsN]; omega
    have HO := Lib.hid (or_u64 o 32768 15 rfl (by omega) (by omega) (by omega))
    have HO2 := Lib.hid (or_u64 (o + 32768) 8192 13 rfl (by omega) (by omega) (by omega))
    clear ho
    go_enter Try.func61, Try.ntmps61
    go_wp2_with fail
    go_ret
    exact ⟨ret_i (by rw [HF.out, ← HO2.out, ← HO.out]; rfl), by go_grown⟩
  · have HF : Hid (flagsN ⟨tos, id, true, true, false, o, ttl, pr, src, dst⟩ = o + 32768 + 16384) := by show _ = _; simp [flagsN]; omega
    have HO := Lib.hid (or_u64 o 32768 15 rfl (by omega) (by omega) (by omega))
    have HO2 := Lib.hid (or_u64 (o + 32768) 16384 14 rfl (by omega) (by omega) (by omega))
    clear ho
    go_enter Try.func61, Try.ntmps61
    go_wp2_with fail
    go_ret
    exact ⟨ret_i (by rw [HF.out, ← HO2.out, ← HO.out]; rfl), by go_grown⟩
  · have HF : Hid (flagsN ⟨tos, id, true, true, true, o, ttl, pr, src, dst⟩ = o + 32768 + 16384 + 8192) := by show _ = _; simp [flagsN]; omega
    have HO := Lib.hid (or_u64 o 32768 15 rfl (by omega) (by omega) (by omega))
    have HO2 := Lib.hid (or_u64 (o + 32768) 16384 14 rfl (by omega) (by omega) (by omega))
    have HO3 := Lib.hid (or_u64 (o + 32768 + 16384) 8192 13 rfl (by omega) (by omega) (by omega))
    clear ho
    go_enter Try.func61, Try.ntmps61
    go_wp2_with fail
    go_ret
    exact ⟨ret_i (by rw [HF.out, ← HO3.out, ← HO2.out, ← HO.out]; rfl), by go_grown⟩

/-- The first twenty bytes of a header. -/
def hd20 (h : Hd) (size total chk : Nat) : List UInt8 :=
  putL (64 + size / 4) 1 ++ (putL h.tos 1 ++ (putL total 2 ++ (putL h.id 2 ++ (putL (flagsN h) 2 ++ (putL h.ttl 1 ++ (putL h.pr 1 ++ (putL chk 2 ++ (putL h.src 4 ++ putL h.dst 4))))))))
theorem hd20_length (h : Hd) (size total chk : Nat) : (hd20 h size total chk).length = 20 := rfl
/-- A header's bytes, with a checksum. -/
def hdrS (h : Hd) (O P : List UInt8) (chk : Nat) : List UInt8 := hd20 h (20 + O.length) (20 + O.length + P.length) chk ++ O
def chkN (h : Hd) (O P : List UInt8) : Nat := 65535 - Sm.tot (hdrS h O P 0)
/-- A packet's bytes. -/
def pktL (h : Hd) (O P : List UInt8) : List UInt8 := hdrS h O P (chkN h O P) ++ P
theorem spl_hd (h : Hd) (size total chk : Nat) (R : List UInt8) :
    spl (spl (spl (spl (spl (spl (spl (spl (spl (List.replicate 20 0 ++ R) 0 (putL (64 + size / 4) 1)) 1 (putL h.tos 1)) 2 (putL total 2)) 4 (putL h.id 2)) 6 (putL (flagsN h) 2)) 8 (putL h.ttl 1)) 9 (putL h.pr 1)) 12 (putL h.src 4)) 16 (putL h.dst 4) = hd20 h size total 0 ++ R := rfl
theorem spl_chk (h : Hd) (size total chk : Nat) (R : List UInt8) : spl (hd20 h size total 0 ++ R) 10 (putL chk 2) = hd20 h size total chk ++ R := rfl
end Go.Proofs.Ytnhkkpcepppgoaa

namespace Go.Proofs.Ytnhkkpcepppgoaa
open Go.RowKit
theorem getL_fr (l : List UInt8) : ∀ x : Nat, l.foldl (fun n b => n * 256 + b.toNat) x = x * 256 ^ l.length + getL l := by
  induction l with
  | nil => intro x; simp [getL]
  | cons b l ih =>
    intro x
    simp only [List.foldl_cons, getL, List.length_cons]
    rw [ih, ih (0 * 256 + b.toNat), Nat.pow_succ]
    rw [Nat.zero_mul, Nat.zero_add, Nat.add_mul, Nat.mul_comm (256 ^ l.length) 256, Nat.mul_assoc]
    omega
theorem get_putL (n : Nat) : ∀ k : Nat, getL (putL n k) = n % 256 ^ k
  | 0 => by simp [getL, putL, Nat.mod_one]
  | k + 1 => by
    show (UInt8.ofNat (n / 256 ^ k) :: putL n k).foldl (fun n b => n * 256 + b.toNat) 0 = _
    rw [List.foldl_cons, getL_fr, putL_length, get_putL n k, Nat.mod_pow_succ, UInt8.toNat_ofNat', Nat.zero_mul, Nat.zero_add]
    rw [show (2 : Nat) ^ 8 = 256 from rfl, Nat.mul_comm]
    omega
theorem putL_1 (n : Nat) : putL n 1 = [UInt8.ofNat n] := by simp [putL]
theorem putL_2 (n : Nat) : putL n 2 = [UInt8.ofNat (n / 256), UInt8.ofNat n] := by simp [putL]
theorem getL_put {n k : Nat} (h : n < 256 ^ k) : getL (putL n k) = n := by rw [get_putL]; exact Nat.mod_eq_of_lt h
theorem hd_0 (h : Hd) (s t c : Nat) (R : List UInt8) (hs : 64 + s / 4 < 256) : Sm.at0 (hd20 h s t c ++ R) 0 = 64 + s / 4 := by
  show (UInt8.ofNat ((64 + s / 4) / 256 ^ 0)).toNat = _
  rw [UInt8.toNat_ofNat']; simp; omega
theorem hd_1 (h : Hd) (s t c : Nat) (R : List UInt8) (hs : h.tos < 256) : Sm.at0 (hd20 h s t c ++ R) 1 = h.tos := by
  show (UInt8.ofNat (h.tos / 256 ^ 0)).toNat = _
  rw [UInt8.toNat_ofNat']; simp; omega
theorem hd_8 (h : Hd) (s t c : Nat) (R : List UInt8) (hs : h.ttl < 256) : Sm.at0 (hd20 h s t c ++ R) 8 = h.ttl := by
  show (UInt8.ofNat (h.ttl / 256 ^ 0)).toNat = _
  rw [UInt8.toNat_ofNat']; simp; omega
theorem hd_9 (h : Hd) (s t c : Nat) (R : List UInt8) (hs : h.pr < 256) : Sm.at0 (hd20 h s t c ++ R) 9 = h.pr := by
  show (UInt8.ofNat (h.pr / 256 ^ 0)).toNat = _
  rw [UInt8.toNat_ofNat']; simp; omega
theorem hd_2 (h : Hd) (s t c : Nat) (R : List UInt8) (ht : t < 65536) : numAt (hd20 h s t c ++ R) 2 2 = t := by
  show getL (putL t 2) = t
  exact getL_put ht
theorem hd_4 (h : Hd) (s t c : Nat) (R : List UInt8) (ht : h.id < 65536) : numAt (hd20 h s t c ++ R) 4 2 = h.id := by
  show getL (putL h.id 2) = _
  exact getL_put ht
theorem hd_6 (h : Hd) (s t c : Nat) (R : List UInt8) (ht : flagsN h < 65536) : numAt (hd20 h s t c ++ R) 6 2 = flagsN h := by
  show getL (putL (flagsN h) 2) = _
  exact getL_put ht
theorem hd_10 (h : Hd) (s t c : Nat) (R : List UInt8) (ht : c < 65536) : numAt (hd20 h s t c ++ R) 10 2 = c := by
  show getL (putL c 2) = _
  exact getL_put ht
theorem hd_12 (h : Hd) (s t c : Nat) (R : List UInt8) (ht : h.src < 4294967296) : numAt (hd20 h s t c ++ R) 12 4 = h.src := by
  show getL (putL h.src 4) = _
  exact getL_put ht
theorem hd_16 (h : Hd) (s t c : Nat) (R : List UInt8) (ht : h.dst < 4294967296) : numAt (hd20 h s t c ++ R) 16 4 = h.dst := by
  show getL (putL h.dst 4) = _
  exact getL_put ht
theorem flagsN_lt (h : Hd) (h2 : h.off ≤ 8191) : flagsN h < 65536 := by
  unfold flagsN
  have e1 : h.ev.toNat ≤ 1 := Bool.toNat_le _
  have e2 : h.df.toNat ≤ 1 := Bool.toNat_le _
  have e3 : h.mf.toNat ≤ 1 := Bool.toNat_le _
  omega
theorem flags_back (h : Hd) (h1 : 0 ≤ h.off) (h2 : h.off ≤ 8191) : evB (flagsN h) = h.ev ∧ dfB (flagsN h) = h.df ∧ mfB (flagsN h) = h.mf ∧ ((flagsN h % 8192 : Nat) : Int) = h.off := by
  obtain ⟨tos, id, ev, df, mf, off, ttl, pr, src, dst⟩ := h
  obtain ⟨o, rfl⟩ := Int.eq_ofNat_of_zero_le h1
  simp only at h1 h2 ⊢
  have ho : o < 8192 := by omega
  have e : flagsN ⟨tos, id, ev, df, mf, o, ttl, pr, src, dst⟩ = ev.toNat * 32768 + df.toNat * 16384 + mf.toNat * 8192 + o := by simp [flagsN]
  rw [e]
  unfold evB dfB mfB
  cases ev <;> cases df <;> cases mf <;> simp <;> omega
/-- The sum of a header's bytes goes along with its checksum. -/
theorem all_chk (h : Hd) (s t c : Nat) (R : List UInt8) (hc : c < 65536) : Sm.all (hd20 h s t c ++ R) = Sm.all (hd20 h s t 0 ++ R) + c := by
  have h1 : hd20 h s t c ++ R = (hd20 h s t c).take 10 ++ putL c 2 ++ ((hd20 h s t c).drop 12 ++ R) := rfl
  have h2 : hd20 h s t 0 ++ R = (hd20 h s t c).take 10 ++ [0, 0] ++ ((hd20 h s t c).drop 12 ++ R) := rfl
  have := Sm.all_change (a := (hd20 h s t c).take 10) (b := (hd20 h s t c).drop 12 ++ R) (n := 5) rfl 0 0 (UInt8.ofNat (c / 256)) (UInt8.ofNat c)
  rw [← putL_2, ← h1, ← h2] at this
  rw [UInt8.toNat_ofNat', UInt8.toNat_ofNat'] at this
  simp at this
  omega
theorem chkN_lt (h : Hd) (O P : List UInt8) : chkN h O P < 65536 := by unfold chkN; omega
theorem tot_hdr (h : Hd) (O P : List UInt8) : Sm.tot (hdrS h O P (chkN h O P)) = 65535 := by
  unfold hdrS
  rw [Sm.tot_all, all_chk _ _ _ _ _ (chkN_lt h O P), ← Sm.addC_canon _ _ (chkN_lt h O P)]
  unfold chkN hdrS
  rw [Sm.tot_all]
  exact Sm.addC_rest (Sm.canon_lt _)
/-- A header with another time to live. -/
def Hd.set (h : Hd) (t : Nat) : Hd := { h with ttl := t }
theorem all_ttl (h : Hd) (s t c x : Nat) (R : List UInt8) (h1 : h.ttl < 256) (h2 : h.pr < 256) (hx : x < 256) : Sm.all (hd20 (h.set x) s t c ++ R) + (256 * h.ttl + h.pr) = Sm.all (hd20 h s t c ++ R) + (256 * x + h.pr) := by
  have e1 : hd20 h s t c ++ R = (hd20 h s t c).take 8 ++ (putL h.ttl 1 ++ putL h.pr 1) ++ ((hd20 h s t c).drop 10 ++ R) := rfl
  have e2 : hd20 (h.set x) s t c ++ R = (hd20 h s t c).take 8 ++ (putL x 1 ++ putL h.pr 1) ++ ((hd20 h s t c).drop 10 ++ R) := rfl
  rw [putL_1, putL_1] at e1 e2
  have := Sm.all_change (a := (hd20 h s t c).take 8) (b := (hd20 h s t c).drop 10 ++ R) (n := 4) rfl (UInt8.ofNat h.ttl) (UInt8.ofNat h.pr) (UInt8.ofNat x) (UInt8.ofNat h.pr)
  rw [show [UInt8.ofNat x, UInt8.ofNat h.pr] = [UInt8.ofNat x] ++ [UInt8.ofNat h.pr] from rfl, show [UInt8.ofNat h.ttl, UInt8.ofNat h.pr] = [UInt8.ofNat h.ttl] ++ [UInt8.ofNat h.pr] from rfl, ← e1, ← e2] at this
  rw [UInt8.toNat_ofNat', UInt8.toNat_ofNat', UInt8.toNat_ofNat'] at this
  rw [Nat.mod_eq_of_lt (by simpa using h1), Nat.mod_eq_of_lt (by simpa using h2), Nat.mod_eq_of_lt (by simpa using hx)] at this
  exact this
theorem dec_hd (h : Hd) (s t c : Nat) (R : List UInt8) (h1 : h.ttl < 256) : decL (hd20 h s t c ++ R) = hd20 (h.set (h.ttl - 1)) s t c ++ R := by
  unfold decL
  rw [hd_8 h s t c R h1]
  have e : hd20 (h.set (h.ttl - 1)) s t c ++ R = (hd20 h s t c ++ R).set 8 (UInt8.ofNat ((h.ttl - 1) / 256 ^ 0)) := rfl
  rw [e]; simp
theorem all0_0 (h : Hd) (s t c : Nat) (R : List UInt8) (k : s / 4 < 16) : (Sm.at0 (hd20 h s t c ++ R) 0 = 0) = False := by rw [hd_0 h s t c R (by omega)]; simp
theorem pkt_eq (h : Hd) (O P : List UInt8) : pktL h O P = hd20 h (20 + O.length) (20 + O.length + P.length) (chkN h O P) ++ (O ++ P) := by unfold pktL hdrS; rw [List.append_assoc]
theorem less_pkt (h : Hd) (O P : List UInt8) (hh : h.Ok) (hO : O.length ≤ 40) : lessL (pktL h O P) = pktL (h.set (h.ttl - 1)) O P := by
  have hc := chkN_lt h O P
  have ht := hh.ttl
  have hp := hh.pr
  have hd := dec_hd h (20 + O.length) (20 + O.length + P.length) (chkN h O P) (O ++ P) ht
  have e1 : numAt (pktL h O P) 10 2 = chkN h O P := by rw [pkt_eq]; exact hd_10 _ _ _ _ _ hc
  have e2 : numAt (pktL h O P) 8 2 = 256 * h.ttl + h.pr := by
    rw [pkt_eq, numAt_2 (by rw [List.length_append, hd20_length]; omega), hd_8 _ _ _ _ _ ht, hd_9 _ _ _ _ _ hp]
  have e3 : numAt (decL (pktL h O P)) 8 2 = 256 * (h.ttl - 1) + h.pr := by
    rw [pkt_eq, hd, numAt_2 (by rw [List.length_append, hd20_length]; omega), hd_8 _ _ _ _ _ (show (h.set (h.ttl - 1)).ttl < 256 by show h.ttl - 1 < 256; omega), hd_9 (h.set (h.ttl - 1)) _ _ _ _ hp]
    rfl
  have hS := all_ttl h (20 + O.length) (20 + O.length + P.length) 0 (h.ttl - 1) O ht hp (by omega)
  have hcg := Sm.changed_of (S := Sm.all (hd20 h (20 + O.length) (20 + O.length + P.length) 0 ++ O)) (m := 256 * h.ttl + h.pr) (n := 256 * (h.ttl - 1) + h.pr) (by omega) (by omega) hS
  have e4 : lessC (pktL h O P) = chkN (h.set (h.ttl - 1)) O P := by
    unfold lessC
    rw [e1, e2, e3]
    show Sm.changed (65535 - Sm.canon (Sm.all (hd20 h _ _ 0 ++ O))) _ _ = 65535 - Sm.canon (Sm.all (hd20 _ _ _ 0 ++ O))
    rcases hcg with e | ⟨e, _⟩
    · exact e.symm
    · exfalso
      have := (Sm.all_zero_iff _).1 e 0 (by rw [List.length_append, hd20_length]; omega)
      rw [all0_0 _ _ _ _ _ (by omega)] at this
      exact this
  unfold lessL
  rw [e4, pkt_eq, hd]
  show hd20 _ _ _ _ ++ _ = _
  rw [pkt_eq]
theorem pkt_facts (h : Hd) (O P X : List UInt8) (hh : h.Ok) (hm : mayB h.off O = true) (hP : P.length ≤ 65535 - 20 - O.length) :
    hsz (pktL h O P ++ X) = 20 + O.length ∧ numAt (pktL h O P ++ X) 2 2 = 20 + O.length + P.length ∧ Sm.at0 (pktL h O P ++ X) 0 / 16 = 4 ∧ (pktL h O P ++ X).take (20 + O.length) = hdrS h O P (chkN h O P) ∧ ((pktL h O P ++ X).take (20 + O.length)).drop 20 = O ∧
    ((pktL h O P ++ X).take (20 + O.length + P.length)).drop (20 + O.length) = P ∧ (pktL h O P ++ X).length = 20 + O.length + P.length + X.length := by
  obtain ⟨hl40, hl4, ho0, ho1, _⟩ := mayB_len hm
  have e : pktL h O P ++ X = hd20 h (20 + O.length) (20 + O.length + P.length) (chkN h O P) ++ (O ++ P ++ X) := by rw [pkt_eq, List.append_assoc]
  have e2 : pktL h O P ++ X = hdrS h O P (chkN h O P) ++ (P ++ X) := by unfold pktL; rw [List.append_assoc]
  have hl : (hdrS h O P (chkN h O P)).length = 20 + O.length := by unfold hdrS; rw [List.length_append, hd20_length]
  have a0 := hd_0 h (20 + O.length) (20 + O.length + P.length) (chkN h O P) (O ++ P ++ X) (by omega)
  have ht : (pktL h O P ++ X).take (20 + O.length) = hdrS h O P (chkN h O P) := by rw [e2, ← hl, List.take_left]
  refine ⟨?_, ?_, ?_, ht, ?_, ?_, ?_⟩
  · unfold hsz; rw [e, a0]; omega
  · rw [e]; exact hd_2 _ _ _ _ _ (by omega)
  · rw [e, a0]; omega
  · rw [ht]; rfl
  · rw [e2, ← hl, ← List.length_append, ← List.append_assoc, List.take_left, List.drop_left]
  · rw [e2, List.length_append, hl, List.length_append]; omega
theorem pkt_len (h : Hd) (O P : List UInt8) : (pktL h O P).length = 20 + O.length + P.length := by rw [pkt_eq, List.length_append, hd20_length, List.length_append]; omega
theorem flt_pkt (h : Hd) (O P X : List UInt8) (hh : h.Ok) (hm : mayB h.off O = true) (hP : P.length ≤ 65535 - 20 - O.length) : flt (pktL h O P ++ X) = 0 := by
  obtain ⟨f1, f2, f3, f4, f5, f6, f7⟩ := pkt_facts h O P X hh hm hP
  obtain ⟨hl40, hl4, ho0, ho1, hok⟩ := mayB_len hm
  refine flt0 (by omega) f3 (by omega) (by omega) ?_ ?_
  · rw [f1, f4]; exact tot_hdr h O P
  · rw [f1, f5]; exact hok
theorem pkt_fields (h : Hd) (O P X : List UInt8) (hh : h.Ok) (hm : mayB h.off O = true) :
    Sm.at0 (pktL h O P ++ X) 1 = h.tos ∧ numAt (pktL h O P ++ X) 4 2 = h.id ∧ numAt (pktL h O P ++ X) 6 2 = flagsN h ∧ Sm.at0 (pktL h O P ++ X) 8 = h.ttl ∧ Sm.at0 (pktL h O P ++ X) 9 = h.pr ∧ numAt (pktL h O P ++ X) 12 4 = h.src ∧ numAt (pktL h O P ++ X) 16 4 = h.dst := by
  obtain ⟨hl40, hl4, ho0, ho1, hok⟩ := mayB_len hm
  have e : pktL h O P ++ X = hd20 h (20 + O.length) (20 + O.length + P.length) (chkN h O P) ++ (O ++ P ++ X) := by rw [pkt_eq, List.append_assoc]
  rw [e]
  exact ⟨hd_1 _ _ _ _ _ hh.tos, hd_4 _ _ _ _ _ hh.id, hd_6 _ _ _ _ _ (flagsN_lt h ho1), hd_8 _ _ _ _ _ hh.ttl, hd_9 _ _ _ _ _ hh.pr, hd_12 _ _ _ _ _ hh.src, hd_16 _ _ _ _ _ hh.dst⟩
/-- A header parsed back. -/
def ParsedH (wm : World) (h : Hd) (O P : List UInt8) (e : Ending) (w' : World) : Prop :=
  ∃ (u v : Value) (B : Nat), e = .returned (.tuple #[.agg #[.int .u8 (h.tos : Nat), .int .u16 (h.id : Nat), .bool h.ev, .bool h.df, .bool h.mf, .int .i64 h.off, .int .u8 (h.ttl : Nat), .int .u8 (h.pr : Nat), .int .u32 (h.src : Nat), .int .u32 (h.dst : Nat), u], v, .int .i64 0]) ∧ OwnB w' wm.heap.size u O ∧ OwnB w' B v P ∧ wm.heap.size ≤ B ∧ (∀ g, u.ownBlock = some g → g < B) ∧ Below wm.heap.size wm w'
theorem parse_pkt (a : Option Addr) (c : Nat) (h : Hd) (O P X : List UInt8) (hh : h.Ok) (hm : mayB h.off O = true) (hP : P.length ≤ 65535 - 20 - O.length) (hX : X.length ≤ 900000) (wm : World) (hv : Bytes wm (.slice a (pktL h O P ++ X).length c) (pktL h O P ++ X)) :
    Calls Try.prog 11 #[.slice a (pktL h O P ++ X).length c] wm (ParsedH wm h O P) := by
  obtain ⟨f1, f2, f3, f4, f5, f6, f7⟩ := pkt_facts h O P X hh hm hP
  obtain ⟨g1, g2, g3, g4, g5, g6, g7⟩ := pkt_fields h O P X hh hm
  obtain ⟨hl40, hl4, ho0, ho1, hok⟩ := mayB_len hm
  obtain ⟨b1, b2, b3, b4⟩ := flags_back h ho0 ho1
  have := parse_yes a c (pktL h O P ++ X) (by omega) wm hv (flt_pkt h O P X hh hm hP)
  refine this.mono ?_
  rintro e w' ⟨u, v, B, rfl, hu, hv', hB, hg, hb⟩
  rw [f1] at hu hv'
  rw [f2] at hv'
  rw [f5] at hu
  rw [f6] at hv'
  rw [g1, g2, g3, g4, g5, g6, g7, b1, b2, b3, b4]
  exact ⟨u, v, B, rfl, hu, hv', hB, hg, hb⟩
end Go.Proofs.Ytnhkkpcepppgoaa

namespace Go.Proofs.Ytnhkkpcepppgoaa
open Go.RowKit
theorem set_two (a b : UInt8) : ∀ (l : List UInt8) (i : Nat), i + 1 < l.length → (l.set i a).set (i + 1) b = spl l i [a, b]
  | x :: y :: t, 0, _ => by simp [spl]
  | x :: t, i + 1, h => by
    have := set_two a b t i (by simpa using h)
    show x :: (t.set i a).set (i + 1) b = _
    rw [this]
    simp [spl, Nat.add_assoc, Nat.add_comm, Nat.add_left_comm]
  | [_], 0, h => by simp at h
  | [], _, h => by simp at h
theorem at0_set_same (l : List UInt8) (i : Nat) (v : UInt8) (h : i < l.length) : Sm.at0 (l.set i v) i = v.toNat := by unfold Sm.at0; rw [List.getElem?_set_self h]; rfl
theorem at0_set_ne (l : List UInt8) (i j : Nat) (v : UInt8) (h : i ≠ j) : Sm.at0 (l.set i v) j = Sm.at0 l j := by unfold Sm.at0; rw [List.getElem?_set_ne h]
theorem less_sets (l : List UInt8) (h20 : 20 ≤ l.length) (h0 : Sm.at0 l 8 ≠ 0) :
    lessC l = Sm.changed (256 * Sm.at0 l 10 + Sm.at0 l 11) (256 * Sm.at0 l 8 + Sm.at0 l 9) (256 * Sm.at0 l 8 + Sm.at0 l 9 - 256) ∧ ((l.set 8 (UInt8.ofNat (Sm.at0 l 8 - 1))).set 10 (UInt8.ofNat (lessC l / 256))).set 11 (UInt8.ofNat (lessC l % 256)) = lessL l := by
  have h8 := Sm.at0_lt l 8
  have hd : (decL l).length = l.length := by unfold decL; simp
  have e1 : numAt (decL l) 8 2 = 256 * Sm.at0 l 8 + Sm.at0 l 9 - 256 := by
    rw [numAt_2 (by omega)]
    have a : Sm.at0 (decL l) 8 = Sm.at0 l 8 - 1 := by
      unfold decL
      rw [at0_set_same _ _ _ (by omega), UInt8.toNat_ofNat']
      simp; omega
    have b : Sm.at0 (decL l) (8 + 1) = Sm.at0 l 9 := at0_set_ne _ _ _ _ (by omega)
    rw [a, b]; omega
  refine ⟨?_, ?_⟩
  · unfold lessC
    rw [numAt_2 (by omega), numAt_2 (by omega), e1]
  · unfold lessL
    rw [putL_2, ← set_two _ _ _ _ (by omega)]
    have e : UInt8.ofNat (lessC l % 256) = UInt8.ofNat (lessC l) := by apply UInt8.toNat_inj.1; simp
    rw [e]; rfl
theorem OwnB.setL {w : World} {B g cap : Nat} {l : List UInt8} (h : OwnB w B (.slice (some ⟨g, 0, none⟩) l.length cap) l) (i x : Nat) (hx : x < 256) (hi : i < l.length) :
    OwnB (w.setCell ⟨g, i, none⟩ (.int .u8 (x : Nat))) B (.slice (some ⟨g, 0, none⟩) (l.set i (UInt8.ofNat x)).length cap) (l.set i (UInt8.ofNat x)) := by rw [List.length_set]; exact OwnB.set h i x hx hi
end Go.Proofs.Ytnhkkpcepppgoaa

namespace Go.Proofs.Ytnhkkpcepppgoaa
open Go.RowKit
attribute [local go_sem ↓] Go.wp_at_zero Go.wp_at_succ

/-- What the count of the first lists comes to. -/
def msum (L : List (List UInt8)) : Nat → Nat
  | 0 => 0
  | k + 1 => msum L k + min (L[k]?.getD []).length 9001
def lsum (L : List (List UInt8)) : Nat → Nat
  | 0 => 0
  | k + 1 => lsum L k + (L[k]?.getD []).length
theorem msum_le (L : List (List UInt8)) : ∀ k, msum L k ≤ lsum L k
  | 0 => Nat.le_refl _
  | k + 1 => by have := msum_le L k; unfold msum lsum; omega
theorem msum_eq (L : List (List UInt8)) : ∀ k, msum L k ≤ 9000 → msum L k = lsum L k
  | 0, _ => rfl
  | k + 1, h => by
    unfold msum at h ⊢
    unfold lsum
    have e := msum_eq L k (by omega)
    omega
theorem lsum_take (L : List (List UInt8)) : ∀ k, k ≤ L.length → lsum L k = (L.take k).flatten.length
  | 0, _ => by simp [lsum]
  | k + 1, h => by
    unfold lsum
    rw [lsum_take L k (by omega), List.take_succ_eq_append_getElem (by omega), List.flatten_append, List.length_append, List.flatten_singleton, List.getElem?_eq_getElem (by omega)]
    rfl
theorem lsum_all (L : List (List UInt8)) : lsum L L.length = L.flatten.length := by rw [lsum_take L _ (Nat.le_refl _), List.take_length]
theorem lsum_mono (L : List (List UInt8)) {i k : Nat} (h : i ≤ k) : lsum L i ≤ lsum L k := by
  induction k with
  | zero => have : i = 0 := by omega
            subst this; exact Nat.le_refl _
  | succ k ih =>
    rcases Nat.eq_or_lt_of_le h with rfl | h
    · exact Nat.le_refl _
    · have := ih (by omega)
      show _ ≤ lsum L k + _
      omega
/-- More than so many bytes and parts. -/
def muchB (L : List (List UInt8)) : Bool := decide (9000 < L.length + L.flatten.length)

set_option maxHeartbeats 2000000 in
set_option maxRecDepth 100000 in
theorem joinR_some (b : Option Addr) (c : Nat) (L : List (List UInt8)) (w : World) (hv : Lists w (.slice b L.length c) L) (hL : L.length ≤ 10000) (hS : L.flatten.length ≤ 10000) :
    Calls Try.prog 63 #[.slice b L.length c] w fun e w' => ∃ v, e = .returned v ∧ Bytes w' v L.flatten ∧ Below w.heap.size w w' := by
  have hi5 : (Try.prog.info? 5).map (fun i => (i.zero, i.size, i.bytes)) = some (some (.int .u8 0), 1, 1) := by kernel_rfl
  obtain ⟨i0, hi, hx⟩ := Option.map_eq_some_iff.1 hi5
  simp only [Prod.mk.injEq] at hx
  obtain ⟨hz0, hz1, hz2⟩ := hx
  have HV := Lib.hid hv
  clear hi5 hv
  go_enter Try.func63, Try.ntmps63
  go_wp2_with fail
  go_loopw [3, 4] (fun v i wr => ∃ k : Nat, k ≤ L.length ∧ i = .int .i64 k ∧ Hid (wr.ownsRow w.heap.size 5 1 v (L.take k).flatten.length (bv (L.take k).flatten)) ∧ Hid (Below w.heap.size w wr)) (fun _ i _ => L.length - (intOf i).toNat)
  case atStart => exact ⟨0, Nat.zero_le _, rfl, World.ownsRow_nil w _ _ _, Below.refl _ _⟩
  case round =>
    obtain ⟨k, hk, rfl, HW, HB⟩ := hrel
    rcases Nat.lt_or_ge k L.length with hlt | hge
    · have g1 : (k : Int) < L.length := by omega
      obtain ⟨bl, bo, rfl, hbl, x, d, he, hbe⟩ := HV.out.at hlt
      have he' := cell_later' HB.out hbl he
      have b1 : bl < wr.heap.size := Nat.lt_of_lt_of_le hbl HB.out.size
      have hbw := hbe.later HB.out
      have hsz := lsum_take L (k + 1) (by omega)
      have hsz2 := lsum_mono L (i := k + 1) (k := L.length) (by omega)
      rw [lsum_all, hsz] at hsz2
      have hfl : (L.take (k + 1)).flatten = (L.take k).flatten ++ L[k] := by rw [List.take_succ_eq_append_getElem hlt, List.flatten_append, List.flatten_singleton]
      have hfn : (L.take (k + 1)).flatten.length = (L.take k).flatten.length + L[k].length := by rw [hfl, List.length_append]
      have Hfl := Lib.hid hfl
      obtain ⟨F, hF⟩ : ∃ F, F = (L.take k).flatten := ⟨_, rfl⟩
      rw [← hF] at HW hfn Hfl
      obtain ⟨l, hl⟩ : ∃ l, l = L[k] := ⟨_, rfl⟩
      rw [← hl] at he he' hbe hbw hfn Hfl
      have hb2 : F.length + l.length ≤ 10000 := by omega
      have Hbw := Lib.hid hbw
      have Hfn := Lib.hid hfn
      clear hl hF hfn hfl hsz hsz2 hbe he hbw
      cases x with
      | none =>
        obtain ⟨e1, e2, e3⟩ := Hbw.out.noaddr
        subst e2 e3
        have Hl : Hid (F = (L.take (k + 1)).flatten) := by show _ = _; rw [Hfl.out]; simp
        clear e1
        go_wp2_with (at_builtin; refine wpList_append_own_none rfl _ _ 22 rfl w.heap.size 5 i0 1 Try.underlying22 hi _ _ _ rfl HW.out rfl ?_)
        go_wp2_with fail
        go_roundw
        case rel => exact ⟨k + 1, by omega, by go_num, by rw [← Hl.out]; exact HW, HB⟩
        case measure => simp [intOf]; omega
      | some x =>
        go_wp2_with (at_builtin; refine wpList_append_own _ rfl _ _ 22 rfl w.heap.size 5 i0 (.int .u8 0) 1 1 Try.underlying22 hi hz0 hz1 hz2 rfl (by decide) _ _ _ rfl HW.out x l.length d (bv l) rfl (by simp [bv]) (Hbw.out.news) (bv_one l) (by unfold maxLen; omega) (by omega) HB.out.size ?_)
        intro v' w1 hown' hgrow _
        have hown2 : Hid (w1.ownsRow w.heap.size 5 1 v' (L.take (k + 1)).flatten.length (bv (L.take (k + 1)).flatten)) := by
          show World.ownsRow _ _ _ _ _ _ _
          rw [Hfn.out, Hfl.out, bv_append]; exact hown'
        have hB2 : Hid (Below w.heap.size w w1) := HB.out.grown hgrow HB.out.size (fun j hj => own_base HW.out hj)
        clear hown' hgrow
        go_wp2_with fail
        go_roundw
        case rel => exact ⟨k + 1, by omega, by go_num, hown2, hB2⟩
        case measure => simp [intOf]; omega
    · have e : k = L.length := by omega
      subst e
      rw [List.take_length] at HW
      go_wp2_with fail
      go_ret
      exact ⟨_, rfl, Bytes.of_own HW.out, HB.out⟩
theorem joinR_any (v : Value) (L : List (List UInt8)) (w : World) (hv : Lists w v L) (hL : L.length ≤ 10000) (hS : L.flatten.length ≤ 10000) :
    Calls Try.prog 63 #[v] w fun e w' => ∃ v, e = .returned v ∧ Bytes w' v L.flatten ∧ Below w.heap.size w w' := by
  obtain ⟨b, c, rfl⟩ := hv.form
  exact joinR_some b c L w hv hL hS
end Go.Proofs.Ytnhkkpcepppgoaa

namespace Go.Proofs.Ytnhkkpcepppgoaa
open Go.RowKit
attribute [local go_sem ↓] Go.wp_at_zero Go.wp_at_succ

set_option maxRecDepth 100000 in
theorem growW_some (n : Nat) (w : World) (h0 : 0 < n) (hn : n ≤ 100000) :
    Calls Try.prog 88 #[.slice none 0 0, .int .i64 (n : Int)] w fun e w' => ∃ v, e = .returned v ∧ OwnB w' w.heap.size v [] ∧ Below w.heap.size w w' := by
  obtain ⟨i0, hi, hz0, hz1, hz2⟩ := info8
  have hold : (Builtin.firstCells i0.size 0 (.slice none 0 0)).run Try.prog w.drew = .ok #[] w.drew := run_firstCells_none w.drew i0.size 0 0 0
  have hrz : ∀ ty, (Builtin.append_ #[22, 3] ty #[.slice none 0 0, .int .i64 (n : Int)]).run Try.prog w =
      .ok (.slice (some ⟨w.heap.size, 0, none⟩) n (grownCap w n 0 5)) (w.drew.alloc (.cells (([] : List Value).toArray ++ Builtin.zeroCells (Value.int .u8 0).cells n ++ Builtin.zeroCells (Value.int .u8 0).cells (grownCap w n 0 5 - n)) 5)) := fun ty => by
    have h := Lib.run_append_grow_zeros w 22 3 ty 5 i0 (.int .u8 0) .i64 .i64 Try.underlying22 Try.underlying3 hi hz0 none 0 0 [] hold n (by omega) (by omega) (by omega) (by omega)
      (by rw [hz2]; omega) (by rw [Nat.zero_add]; exact growslice_fits h0 (by rw [hz2]; omega))
    rw [Nat.zero_add] at h
    exact h
  have hGn : n ≤ grownCap w n 0 5 := grownCap_ge w _ _ _
  have hG63 := grownCap_le_maxLen w n 0 5 (by unfold maxLen; omega)
  obtain ⟨G, hG⟩ : ∃ G, G = grownCap w n 0 5 := ⟨_, rfl⟩
  rw [← hG] at hrz hGn hG63
  have hsz : (([] : List Value).toArray ++ Builtin.zeroCells (Value.int .u8 0).cells n ++ Builtin.zeroCells (Value.int .u8 0).cells (G - n)).size = G * 1 := by
    have e : ∀ k, (Builtin.zeroCells (Value.int .u8 0).cells k).size = k := fun k => by simp [Builtin.zeroCells, Value.cells]
    simp [e]; omega
  obtain ⟨cur, hcur⟩ : ∃ cur, cur = (([] : List Value).toArray ++ Builtin.zeroCells (Value.int .u8 0).cells n ++ Builtin.zeroCells (Value.int .u8 0).cells (G - n)) := ⟨_, rfl⟩
  rw [← hcur] at hrz hsz
  have hown : OwnB (w.drew.alloc (.cells cur 5)) w.heap.size (.slice (some ⟨w.heap.size, 0, none⟩) 0 G) [] :=
    World.ownsRow_made (w := w.drew) cur G (Nat.le_refl _) hG63 hsz
  have HO := Lib.hid hown
  have HB := Lib.hid (show Below w.heap.size w (w.drew.alloc (.cells cur 5)) from ((Below.refl _ _).drew).alloc (Nat.le_refl _) _)
  have g1 : (0 : Int) < n := by omega
  have g2 : (n : Int) ≤ 100000 := by omega
  clear hold hG hcur hsz hown hG63 hGn hn h0
  go_enter Try.func88, Try.ntmps88
  go_wp2_with (at_builtin; refine Lib.wpList_append_run _ rfl _ _ _ _ rfl _ _ rfl rfl _ _ (hrz _) ?_)
  all_goals
    go_ret
    exact ⟨_, rfl, HO.out, HB.out⟩
theorem growW_none (w : World) :
    Calls Try.prog 88 #[.slice none 0 0, .int .i64 0] w fun e w' => e = .returned (.slice none 0 0) ∧ w = w' := by
  go_enter Try.func88, Try.ntmps88
  go_wp2_with fail
  go_ret
  exact ⟨rfl, rfl⟩

set_option maxHeartbeats 2000000 in
set_option maxRecDepth 100000 in
theorem concatW_some (b : Option Addr) (c : Nat) (L : List (List UInt8)) (w : World) (hv : Lists w (.slice b L.length c) L) (hL : L.length ≤ 10000) (hS : L.flatten.length ≤ 100000) :
    Calls Try.prog 83 #[.slice b L.length c] w fun e w' => ∃ v, e = .returned v ∧ OwnB w' w.heap.size v L.flatten ∧ Below w.heap.size w w' := by
  have HV := Lib.hid hv
  clear hv
  go_enter Try.func83, Try.ntmps83
  go_wp2_with fail
  go_loop [3, 11] (fun s i => ∃ k : Nat, k ≤ L.length ∧ i = .int .i64 k ∧ s = .int .i64 (lsum L k)) (fun _ i => L.length - (intOf i).toNat)
  case atStart => exact ⟨0, Nat.zero_le _, rfl, rfl⟩
  case round =>
    obtain ⟨k, hk, rfl, rfl⟩ := hrel
    have hz1 := lsum_mono L hk
    rw [lsum_all] at hz1
    obtain ⟨z, hz⟩ : ∃ z, z = lsum L k := ⟨_, rfl⟩
    rw [← hz] at hz1 ⊢
    have Hz := Lib.hid hz
    have HZ1 := Lib.hid (show z ≤ 100000 by omega)
    clear hz hz1
    rcases Nat.lt_or_ge k L.length with hlt | hge
    · obtain ⟨bl, bo, rfl, hbl, x, d, he, hbe⟩ := HV.out.at hlt
      have hs2 : lsum L (k + 1) = z + L[k].length := by
        show lsum L k + _ = _
        rw [List.getElem?_eq_getElem hlt, Hz.out]; rfl
      have hz2 := lsum_mono L (show k + 1 ≤ L.length by omega)
      rw [lsum_all] at hz2
      obtain ⟨m, hm⟩ : ∃ m, m = L[k].length := ⟨_, rfl⟩
      rw [← hm] at he hs2
      have hm2 : (z : Int) + m ≤ 100000 := by omega
      have Hs2 := Lib.hid hs2
      have g1 : (k : Int) < L.length := by omega
      clear hm hs2 hbe hz2
      go_wp2_with fail
      go_round
      case rel => exact ⟨k + 1, by omega, by go_num, by rw [Hs2.out]; go_num⟩
      case measure => simp [intOf]; omega
    · have e : k = L.length := by omega
      subst e
      have hgrow : Calls Try.prog 88 #[.slice none 0 0, .int .i64 (z : Int)] w fun e w' => ∃ v, e = .returned v ∧ OwnB w' w.heap.size v [] ∧ Below w.heap.size w w' := by
        rcases Nat.eq_zero_or_pos z with h0 | h0
        · subst h0
          exact (growW_none w).mono fun e w' ⟨h1, h2⟩ => by subst h2; exact ⟨_, h1, OwnB.nil _ _, Below.refl _ _⟩
        · exact growW_some z w h0 (by have := HZ1.out; omega)
      have hz2 : (z : Int) ≤ 100000 := by have := HZ1.out; omega
      go_wp2_with fail
      refine hgrow.mono ?_
      rintro e w1 ⟨v1, rfl, ho1, hb1⟩
      have HO := Lib.hid ho1
      have HB1 := Lib.hid hb1
      clear ho1 hb1 hgrow hz2
      go_wp2_with fail
      go_loopw [6, 27] (fun v i wr => ∃ k : Nat, k ≤ L.length ∧ i = .int .i64 k ∧ Hid (OwnB wr w.heap.size v (L.take k).flatten) ∧ Hid (Below w.heap.size w wr)) (fun _ i _ => L.length - (intOf i).toNat)
      case atStart => exact ⟨0, Nat.zero_le _, rfl, HO.out, HB1.out⟩
      case round =>
        obtain ⟨k, hk, rfl, HW, HB⟩ := hrel
        rcases Nat.lt_or_ge k L.length with hlt | hge2
        · have g1 : (k : Int) < L.length := by omega
          obtain ⟨bl, bo, rfl, hbl, x, d, he, hbe⟩ := HV.out.at hlt
          have he' := cell_later' HB.out hbl he
          have b1 : bl < wr.heap.size := Nat.lt_of_lt_of_le hbl HB.out.size
          have hbw := hbe.later HB.out
          have hsz := lsum_take L (k + 1) (by omega)
          have hsz2 := lsum_mono L (i := k + 1) (k := L.length) (by omega)
          rw [lsum_all, hsz] at hsz2
          have hfl : (L.take (k + 1)).flatten = (L.take k).flatten ++ L[k] := by rw [List.take_succ_eq_append_getElem hlt, List.flatten_append, List.flatten_singleton]
          have hfn : (L.take k).flatten.length + L[k].length ≤ 100000 := by rw [← List.length_append, ← hfl]; omega
          have Hfl := Lib.hid hfl
          have Hbw := Lib.hid hbw
          have Hfn := Lib.hid hfn
          clear hfn hfl hsz hsz2 hbe he hbw
          go_wp2_with (at_builtin; refine wpList_app rfl _ _ rfl w.heap.size _ _ _ L[k] rfl rfl HW.out Hbw.out (by have := Hfn.out; omega) HB.out.size ?_)
          intro v' w2 ho2 hb2 hg2
          have HO2 := Lib.hid ho2
          rw [← Hfl.out] at HO2
          have HB2 := Lib.hid (HB.out.trans hb2)
          clear ho2 hb2 hg2
          go_wp2_with fail
          go_roundw
          case rel => exact ⟨k + 1, by omega, by go_num, HO2, HB2⟩
          case measure => simp [intOf]; omega
        · have e : k = L.length := by omega
          subst e
          rw [List.take_length] at HW
          go_wp2_with fail
          go_ret
          exact ⟨_, rfl, HW.out, HB.out⟩
theorem joinW_own (v : Value) (L : List (List UInt8)) (w : World) (hv : Lists w v L) (hL : L.length ≤ 10000) (hS : L.flatten.length ≤ 100000) :
    Calls Try.prog 60 #[v] w fun e w' => ∃ v, e = .returned v ∧ OwnB w' w.heap.size v L.flatten ∧ Below w.heap.size w w' := by
  obtain ⟨b, c, rfl⟩ := hv.form
  have HV := Lib.hid hv
  clear hv
  go_enter Try.func60, Try.ntmps60
  go_wp2_with fail
  refine (concatW_some b c L w HV.out hL hS).mono ?_
  rintro e w1 ⟨v1, rfl, h1, hb1⟩
  have H1 := Lib.hid h1
  clear h1
  go_wp2_with fail
  go_ret
  exact ⟨_, rfl, H1.out, hb1⟩
theorem joinW_any (v : Value) (L : List (List UInt8)) (w : World) (hv : Lists w v L) (hL : L.length ≤ 10000) (hS : L.flatten.length ≤ 100000) :
    Calls Try.prog 60 #[v] w fun e w' => ∃ v, e = .returned v ∧ Bytes w' v L.flatten ∧ Below w.heap.size w w' :=
  (joinW_own v L w hv hL hS).mono fun _ _ ⟨v, h1, h2, h3⟩ => ⟨v, h1, h2.bytes, h3⟩
end Go.Proofs.Ytnhkkpcepppgoaa

namespace Go.Proofs.Ytnhkkpcepppgoaa
open Go.RowKit
attribute [local go_sem ↓] Go.wp_at_zero Go.wp_at_succ

/-- While a header is written: the header's box, the closures' box, the bytes that are owned. -/
structure BS (wm : World) (N g cap n base : Nat) (cs : List Value) (l : List UInt8) (w : World) : Prop where
  hd : HdAt wm.heap.size cs w
  bx : w.heap[N]? = some (.cells #[.slice (some ⟨g, 0, none⟩) n cap] 22 (0, 0))
  ow : OwnB w base (.slice (some ⟨g, 0, none⟩) n cap) l
  len : l.length = n
  bel : Below wm.heap.size wm w
  ne1 : wm.heap.size ≠ g
  ne2 : N ≠ g
  b0 : wm.heap.size ≤ base
  bs : base ≤ w.heap.size
theorem BS.later {wm : World} {N g cap n base : Nat} {cs : List Value} {l : List UInt8} {w w' : World} (h : BS wm N g cap n base cs l w) (hb : Below w.heap.size w w') : BS wm N g cap n base cs l w' :=
  ⟨h.hd.later hb, (hb.block N (Array.getElem?_eq_some_iff.1 h.bx).1).trans h.bx, OwnB.later h.ow hb, h.len, h.bel.trans (hb.mono h.bel.size), h.ne1, h.ne2, h.b0, Nat.le_trans h.bs hb.size⟩
theorem BS.put {wm : World} {N g cap n base : Nat} {cs : List Value} {l : List UInt8} {w : World} (h : BS wm N g cap n base cs l w) (at_ size x : Nat) (h1 : 1 ≤ size) (h8 : size ≤ 8) (hx : x < 256 ^ size) (hat : at_ + size ≤ n) (hl : n ≤ 1000000) :
    Calls Try.prog 79 #[.int .i64 (at_ : Int), .int .i64 (size : Int), .int .u64 (x : Nat), .pointer (some ⟨N, 0, none⟩)] w fun e w' => (∃ v, e = .returned v) ∧ BS wm N g cap n base cs (spl l at_ (putL x size)) w' := by
  obtain ⟨hd, bx, ow, rfl, bel, ne1, ne2, b0, bs⟩ := h
  refine (putC_any at_ size x N g cap base l w (by simp [World.cell?, bx]) ow h1 h8 hx hat hl bs ne2).mono ?_
  rintro e w' ⟨hv, ho, hb, hk⟩
  refine ⟨hv, (hk _ hd.lt ne1).trans hd, (hk _ (Array.getElem?_eq_some_iff.1 bx).1 ne2).trans bx, ho, spl_length (by rw [putL_length]; exact hat), bel.trans (hb.mono b0), ne1, ne2, b0, Nat.le_trans bs hb.size⟩

theorem lists_three3 {W : World} {u v x : Value} {k l m : List UInt8} {n : Nat} (g : Bytes W u k) (h : Bytes W v l) (i : Bytes W x m) (hu : W.cell? ⟨n, 0, none⟩ = some u) (hv : W.cell? ⟨n, 1, none⟩ = some v) (hx : W.cell? ⟨n, 2, none⟩ = some x) (hn : n < W.heap.size) : Lists W (.slice (some ⟨n, 0, none⟩) 3 3) [k, l, m] :=
  .inr ⟨n, 0, 3, rfl, hn, Nat.le_refl _, fun j x hx => by
    match j, hx with
    | 0, hx => simp at hx; subst hx; exact ⟨u, by simpa using hu, g⟩
    | 1, hx => simp at hx; subst hx; exact ⟨v, by simpa using hv, h⟩
    | 2, hx => simp at hx; subst hx; exact ⟨_, by simpa using ‹W.cell? ⟨n, 2, none⟩ = _›, i⟩⟩
theorem zeros_bv (n : Nat) : (madeCells (Value.int IntKind.u8 0).cells (n * 1)).toList = bv (List.replicate n 0) := by
  rw [Nat.mul_one]; show (madeCells #[.int .u8 0] n).toList = _
  rw [toList_madeCells_one]; simp [bv]
theorem make_zeros (n : Nat) (w : World) (hn : n ≤ 1000000) :
    ∃ w1, (Instr.makeSlice 22 (.int .i64 (n : Int)) (.int .i64 (n : Int))).run Try.prog w = .ok (.slice (some ⟨w.heap.size, 0, none⟩) n n) w1 ∧ OwnB w1 w.heap.size (.slice (some ⟨w.heap.size, 0, none⟩) n n) (List.replicate n 0) ∧ Below w.heap.size w w1 := by
  obtain ⟨i0, hi, hz0, hz1, hz2⟩ := info8
  obtain ⟨w1, hmk, hown0, hg0⟩ := run_make_full (P := Try.prog) (w := w) w.heap.size 22 5 i0 (.int .u8 0) 1 Try.underlying22 hi hz0 hz1 .i64 .i64 n (by rw [hz2]; omega) (by unfold maxLen; omega) (Nat.le_refl _)
  refine ⟨w1, hmk, ?_, (Below.refl _ _).grown hg0 (Nat.le_refl _) (by simp)⟩
  rw [zeros_bv] at hown0
  show World.ownsRow _ _ _ _ _ _ _
  rw [List.length_replicate]; exact hown0

/-- The answer of Bytes: the bytes, and no error. -/
def BytesYes (wm : World) (h : Hd) (O P : List UInt8) (e : Ending) (w' : World) : Prop := ∃ v, e = .returned (.tuple #[v, .int .i64 0]) ∧ OwnB w' wm.heap.size v (pktL h O P) ∧ Below wm.heap.size wm w'

set_option maxRecDepth 100000 in
set_option maxHeartbeats 40000000 in
theorem bytes_yes (h : Hd) (hh : h.Ok) (oa : Option Addr) (oc : Nat) (O : List UInt8) (pa : Option Addr) (pc : Nat) (P : List UInt8) (wm : World) (hO : Bytes wm (.slice oa O.length oc) O) (hP : Bytes wm (.slice pa P.length pc) P)
    (hm : mayB h.off O = true) (hfit : P.length ≤ 65535 - 20 - O.length) :
    Calls Try.prog 22 #[.agg #[.int .u8 (h.tos : Nat), .int .u16 (h.id : Nat), .bool h.ev, .bool h.df, .bool h.mf, .int .i64 h.off, .int .u8 (h.ttl : Nat), .int .u8 (h.pr : Nat), .int .u32 (h.src : Nat), .int .u32 (h.dst : Nat), .slice oa O.length oc], .slice pa P.length pc] wm (BytesYes wm h O P) := by
  obtain ⟨hl40, hl4, ho0, ho1, _⟩ := mayB_len hm
  obtain ⟨S, hS⟩ : ∃ S, S = 20 + O.length := ⟨_, rfl⟩
  obtain ⟨Pn, hPn⟩ : ∃ S, S = P.length := ⟨_, rfl⟩
  have hA : Below wm.heap.size wm (wm.alloc (.cells #[.int .u8 (h.tos : Nat), .int .u16 (h.id : Nat), .bool h.ev, .bool h.df, .bool h.mf, .int .i64 h.off, .int .u8 (h.ttl : Nat), .int .u8 (h.pr : Nat), .int .u32 (h.src : Nat), .int .u32 (h.dst : Nat), .slice oa O.length oc] 28)) := (Below.refl _ _).alloc (Nat.le_refl _) _
  have hsz := size_any h oa oc O _ (hO.later hA) (by omega)
  rw [show sizeN h.off O = S from by unfold sizeN; rw [hm, hS]; rfl] at hsz
  have HSZ := Lib.hid hsz
  have HR0 : Hid (HdAt wm.heap.size [.int .u8 (h.tos : Nat), .int .u16 (h.id : Nat), .bool h.ev, .bool h.df, .bool h.mf, .int .i64 h.off, .int .u8 (h.ttl : Nat), .int .u8 (h.pr : Nat), .int .u32 (h.src : Nat), .int .u32 (h.dst : Nat), .slice oa O.length oc] (wm.alloc (.cells #[.int .u8 (h.tos : Nat), .int .u16 (h.id : Nat), .bool h.ev, .bool h.df, .bool h.mf, .int .i64 h.off, .int .u8 (h.ttl : Nat), .int .u8 (h.pr : Nat), .int .u32 (h.src : Nat), .int .u32 (h.dst : Nat), .slice oa O.length oc] 28))) := HdAt.new wm [.int .u8 (h.tos : Nat), .int .u16 (h.id : Nat), .bool h.ev, .bool h.df, .bool h.mf, .int .i64 h.off, .int .u8 (h.ttl : Nat), .int .u8 (h.pr : Nat), .int .u32 (h.src : Nat), .int .u32 (h.dst : Nat), .slice oa O.length oc]
  have HN : Hid (64 + S / 4 < 256 ^ 1 ∧ h.tos < 256 ^ 1 ∧ S + Pn < 256 ^ 2 ∧ h.id < 256 ^ 2 ∧ flagsN h < 256 ^ 2 ∧ h.ttl < 256 ^ 1 ∧ h.pr < 256 ^ 1 ∧ h.src < 256 ^ 4 ∧ h.dst < 256 ^ 4) := by
    obtain ⟨a1, a2, a3, a4, a5, a6⟩ := hh
    refine ⟨by omega, by omega, by omega, by omega, ?_, by omega, by omega, by omega, by omega⟩
    unfold flagsN
    have e1 : h.ev.toNat ≤ 1 := Bool.toNat_le _
    have e2 : h.df.toNat ≤ 1 := Bool.toNat_le _
    have e3 : h.mf.toNat ≤ 1 := Bool.toNat_le _
    omega
  have HTL : Hid (20 ≤ S + Pn ∧ S + Pn ≤ 1000000) := ⟨by omega, by omega⟩
  have HO : Hid (0 ≤ h.off ∧ h.off ≤ 8191) := ⟨ho0, ho1⟩
  have h64 := or64 (S / 4) (by omega)
  have hdiv : ((S : Int) / 4) = ((S / 4 : Nat) : Int) := by omega
  have k1 : (S : Int) ≤ 60 := by omega
  have k2 : (20 : Int) ≤ S := by omega
  have k3 : (Pn : Int) ≤ 65535 - S := by omega
  have k4 : (0 : Int) ≤ Pn := by omega
  have k5 : ((S : Int) == 0) = false := by rw [beq_eq_false_iff_ne]; omega
  have k6 : decide (65535 - (S : Int) < Pn) = false := by simp; omega
  have HBO := Lib.hid hO
  have HBP : Hid (Bytes wm (.slice pa Pn pc) P) := by rw [hPn]; exact hP
  have HS := Lib.hid hS
  have HPN := Lib.hid hPn
  have HL40 := Lib.hid hl40
  have H64 := Lib.hid h64
  have HA := Lib.hid hA
  rw [← hPn]
  clear hsz hO hP hm hfit hl4 ho0 ho1 hS hPn hh hl40 h64 hdiv hA
  go_enter Try.func22, Try.ntmps22
  go_wp2_with fail
  refine HSZ.out.mono ?_
  rintro e w1 ⟨rfl, hb1⟩
  have hB1 := HA.out.trans (hb1.mono HA.out.size)
  have HB1 := Lib.hid hB1
  have hr1 : HdAt wm.heap.size [.int .u8 (h.tos : Nat), .int .u16 (h.id : Nat), .bool h.ev, .bool h.df, .bool h.mf, .int .i64 h.off, .int .u8 (h.ttl : Nat), .int .u8 (h.pr : Nat), .int .u32 (h.src : Nat), .int .u32 (h.dst : Nat), .slice oa O.length oc] w1 := HdAt.later HR0.out hb1
  have HR1 := Lib.hid hr1
  have hc10 := HdAt.cell hr1 (j := 10) rfl
  clear hb1 hB1 hr1
  go_wp2_with fail
  obtain ⟨wz, hmk, hoz, hbz⟩ := make_zeros 20 w1.drew (by omega)
  have hmk' : (Instr.makeSlice 22 (.int .i64 20) (.int .i64 20)).run Try.prog w1.drew = .ok (.slice (some ⟨w1.heap.size, 0, none⟩) 20 20) wz := hmk
  have HOZ : Hid (OwnB wz w1.heap.size (.slice (some ⟨w1.heap.size, 0, none⟩) 20 20) (List.replicate 20 0)) := hoz
  have hbz2 : Below w1.heap.size w1 wz := (Below.refl _ _).drew.trans hbz
  have HBZ := Lib.hid hbz2
  clear hmk hoz hbz hbz2
  (refine wp_region_held_drew (S := (fun w' => Below w1.heap.size w1 w')) (by kernel_rfl) ?_ (fun hHeld => ?_); (focus ((try dsimp only); (exact (Below.refl _ _).drew))))
  change wpAnyH _ _ _ _ _ 7 _ _ _
  (refine wpAnyH_take (i := 1) (v := ?_) rfl (by kernel_rfl) (by kernel_rfl) (by kernel_rfl) (fun _ _ _ h => h) (Or.inl ⟨by rfl, ?_⟩) hHeld ?_; rotate_left; (focus (intro w hSw; (try dsimp only at hSw); go_simp; try with_reducible rfl)); (try simp only [Act.put, List.setIfInBounds_toArray, List.set_cons_zero, List.set_cons_succ, List.getElem_toArray, List.getElem_cons_zero, List.getElem_cons_succ]))
  (refine wpAnyH_take (i := 2) (v := ?_) rfl (by kernel_rfl) (by kernel_rfl) (by kernel_rfl) (fun _ _ _ h => h) (Or.inl ⟨by rfl, ?_⟩) hHeld ?_; rotate_left; (focus (intro w hSw; (try dsimp only at hSw); go_simp; (have hcc := cell_later hSw hc10; go_simp; try with_reducible rfl))); (try simp only [Act.put, List.setIfInBounds_toArray, List.set_cons_zero, List.set_cons_succ, List.getElem_toArray, List.getElem_cons_zero, List.getElem_cons_succ]))
  (refine wpAnyH_take (i := 3) (v := ?_) rfl (by kernel_rfl) (by kernel_rfl) (by kernel_rfl) (fun _ _ _ h => h) (Or.inl ⟨by rfl, ?_⟩) hHeld ?_; rotate_left; (focus (intro w hSw; (try dsimp only at hSw); go_simp; try with_reducible rfl)); (try simp only [Act.put, List.setIfInBounds_toArray, List.set_cons_zero, List.set_cons_succ, List.getElem_toArray, List.getElem_cons_zero, List.getElem_cons_succ]))
  (refine wpAnyH_ready (rs := [0]) (by kernel_rfl) (by simp) ?_; refine AllReadyH.cons rfl (fun K hK => ?_) AllReadyH.nil; go_simp; skip; refine hK.out _ _ ?_ (fun hHeldN => ?_); (focus ((try dsimp only); (exact HBZ.out))); clear hK K hHeld; have hHeld := hHeldN; clear hHeldN; (try simp only [Act.put, List.setIfInBounds_toArray, List.set_cons_zero, List.set_cons_succ, List.getElem_toArray, List.getElem_cons_zero]))
  (refine wpAnyH_ready (rs := [4]) (by kernel_rfl) (by simp) ?_; refine AllReadyH.cons rfl (fun K hK => ?_) AllReadyH.nil; go_simp; skip; refine hK.out _ _ ?_ (fun hHeldN => ?_); (focus ((try dsimp only); (exact HBZ.out.alloc HBZ.out.size _))); clear hK K hHeld; have hHeld := hHeldN; clear hHeldN; (try simp only [Act.put, List.setIfInBounds_toArray, List.set_cons_zero, List.set_cons_succ, List.getElem_toArray, List.getElem_cons_zero, List.getElem_cons_succ]))
  (refine wpAnyH_ready (rs := [5]) (by kernel_rfl) (by simp) ?_; refine AllReadyH.cons rfl (fun K hK => ?_) AllReadyH.nil; go_simp; refine (joinW_own _ [List.replicate 20 0, O, P] _ (lists_three3 ((HOZ.out.bytes).later ((Below.refl _ _).alloc (Nat.le_refl _) _)) ((show Bytes wm _ O from HBO.out).later (HB1.out.trans ((HBZ.out.alloc HBZ.out.size _).mono HB1.out.size))) ((show Bytes wm (.slice pa Pn pc) P from HBP.out).later (HB1.out.trans ((HBZ.out.alloc HBZ.out.size _).mono HB1.out.size))) (by simp) (by simp) (by simp) (by simp)) (by simp) (by have a1 := HS.out; have a2 := HTL.out; have a3 := HPN.out; have a4 := k3; have a5 := HL40.out; simp; omega)).mono ?_; rintro e w2 ⟨v2, rfl, ho2, hb2⟩; refine hK.out _ _ ?_ (fun hHeldN => ?_); (focus ((try dsimp only); (exact (HBZ.out.alloc HBZ.out.size _).trans (hb2.mono (HBZ.out.alloc HBZ.out.size _).size)))); clear hK K hHeld; have hHeld := hHeldN; clear hHeldN; (try simp only [Act.put, List.setIfInBounds_toArray, List.set_cons_zero, List.set_cons_succ, List.getElem_toArray, List.getElem_cons_zero, List.getElem_cons_succ]))
  (refine wpAnyH_take (i := 6) (v := ?_) rfl (by kernel_rfl) (by kernel_rfl) (by kernel_rfl) (fun _ _ _ h => h) (Or.inl ⟨by rfl, ?_⟩) hHeld ?_; rotate_left; (focus (intro w hSw; (try dsimp only at hSw); go_simp; try with_reducible rfl)); (try simp only [Act.put, List.setIfInBounds_toArray, List.set_cons_zero, List.set_cons_succ, List.getElem_toArray, List.getElem_cons_zero, List.getElem_cons_succ]))
  refine wpAnyH_done (by kernel_rfl) ?_ _
  have hfl : [List.replicate 20 0, O, P].flatten = List.replicate 20 0 ++ (O ++ P) := by simp
  rw [hfl] at ho2
  have hln : (List.replicate 20 (0 : UInt8) ++ (O ++ P)).length = S + Pn := by rw [List.length_append, List.length_replicate, List.length_append, HS.out, HPN.out]; omega
  obtain ⟨L0, hL0⟩ : ∃ L0, L0 = List.replicate 20 (0 : UInt8) ++ (O ++ P) := ⟨_, rfl⟩
  rw [← hL0] at ho2 hln
  obtain ⟨g, cap, cur, rfl, hbg, hgc, hnc, hcs⟩ := ho2.row (by omega)
  obtain ⟨n, hn⟩ : ∃ n, n = L0.length := ⟨_, rfl⟩
  rw [← hn] at ho2 ⊢
  have hgl : g < w2.heap.size := by
    rcases Nat.lt_or_ge g w2.heap.size with h | h
    · exact h
    · rw [Array.getElem?_eq_none h] at hgc; cases hgc
  have hwz : w1.heap.size ≤ wz.heap.size := HBZ.out.size
  have hbase : w1.heap.size ≤ (wz.alloc (.cells #[.slice (some ⟨w1.heap.size, 0, none⟩) 20 20, .slice oa O.length oc, .slice pa Pn pc] 22)).heap.size := by rw [World.size_alloc]; omega
  have hsz2 := hb2.size
  obtain ⟨base, hba⟩ : ∃ b, b = (wz.alloc (.cells #[.slice (some ⟨w1.heap.size, 0, none⟩) 20 20, .slice oa O.length oc, .slice pa Pn pc] 22)).heap.size := ⟨_, rfl⟩
  rw [← hba] at ho2 hbase hsz2 hbg
  have hr2 : HdAt wm.heap.size [.int .u8 (h.tos : Nat), .int .u16 (h.id : Nat), .bool h.ev, .bool h.df, .bool h.mf, .int .i64 h.off, .int .u8 (h.ttl : Nat), .int .u8 (h.pr : Nat), .int .u32 (h.src : Nat), .int .u32 (h.dst : Nat), .slice oa O.length oc] w2 := HdAt.later HR1.out hHeld
  have hwm1 : wm.heap.size < w1.heap.size := HdAt.lt HR1.out
  have hbs0 : BS wm w2.heap.size g cap n base [.int .u8 (h.tos : Nat), .int .u16 (h.id : Nat), .bool h.ev, .bool h.df, .bool h.mf, .int .i64 h.off, .int .u8 (h.ttl : Nat), .int .u8 (h.pr : Nat), .int .u32 (h.src : Nat), .int .u32 (h.dst : Nat), .slice oa O.length oc] L0 (w2.alloc (.cells #[.slice (some ⟨g, 0, none⟩) n cap] 22)) := by
    refine ⟨hr2.later ((Below.refl _ _).alloc (Nat.le_refl _) _), World.alloc_heap_new _ _, OwnB.alloc (by rw [hn] at ho2 ⊢; exact ho2) _, hn.symm, (HB1.out.trans (hHeld.mono HB1.out.size)).alloc ?_ _, ?_, ?_, ?_, ?_⟩
    · have := (HB1.out.trans (hHeld.mono HB1.out.size)).size; exact this
    · omega
    · omega
    · omega
    · rw [World.size_alloc]; omega
  have HS0 := Lib.hid hbs0
  have HLN : Hid (n = S + Pn) := by show n = _; rw [hn, hln]
  have HL0 := Lib.hid hL0
  have hn6 : n ≤ 1000000 := by have := HTL.out; omega
  have hgw : w2.heap.size ≠ g := by omega
  obtain ⟨N, hN⟩ : ∃ N, N = w2.heap.size := ⟨_, rfl⟩
  rw [← hN] at HS0
  obtain ⟨q, hq⟩ : ∃ q, q = 64 + S / 4 := ⟨_, rfl⟩
  have hor := H64.out
  rw [← hq, show ((S / 4 : Nat) : Int) = (S : Int) / 4 by omega] at hor
  have HQ := Lib.hid hq
  have hNN := HN.out
  have c1 : IntKind.u64.wrap (q : Int) = q := IntWalk.u64_in _ ⟨by omega, by omega⟩
  have c2 : IntKind.u64.wrap (h.tos : Int) = h.tos := IntWalk.u64_in _ ⟨by omega, by omega⟩
  have c3 : IntKind.u64.wrap (n : Int) = n := IntWalk.u64_in _ ⟨by omega, by omega⟩
  have c4 : IntKind.u64.wrap (h.id : Int) = h.id := IntWalk.u64_in _ ⟨by omega, by omega⟩
  have c6 : IntKind.u64.wrap (h.ttl : Int) = h.ttl := IntWalk.u64_in _ ⟨by omega, by omega⟩
  have c7 : IntKind.u64.wrap (h.pr : Int) = h.pr := IntWalk.u64_in _ ⟨by omega, by omega⟩
  have c8 : IntKind.u64.wrap (h.src : Int) = h.src := IntWalk.u64_in _ ⟨by omega, by omega⟩
  have c9 : IntKind.u64.wrap (h.dst : Int) = h.dst := IntWalk.u64_in _ ⟨by omega, by omega⟩
  have HNQ : Hid (q < 256 ^ 1 ∧ h.tos < 256 ^ 1 ∧ n < 256 ^ 2 ∧ h.id < 256 ^ 2 ∧ flagsN h < 256 ^ 2 ∧ h.ttl < 256 ^ 1 ∧ h.pr < 256 ^ 1 ∧ h.src < 256 ^ 4 ∧ h.dst < 256 ^ 4) := by
    rw [hq, hn, hln]; exact HN.out
  have HNL : Hid (20 ≤ n ∧ n ≤ 1000000) := by rw [hn, hln]; exact HTL.out
  clear hfl hln hL0 hn ho2 hbg hgc hnc hcs hgl hwz hbase hsz2 hba hr2 hwm1 hbs0 hgw hb2 hHeld hmk' hc10 hn6 hq hNN
  go_wp2_with fail
  refine (numbersW_any _ _ _ _).mono ?_
  rintro e w3 ⟨rfl, hw3⟩
  rw [← hN] 
  rw [← hw3] at HS0
  clear hw3 hN
  go_wp2_with fail
  refine (BS.put HS0.out 0 1 (q) (by omega) (by omega) (by have := HNQ.out; omega) (by have := HNL.out; omega) HNL.out.2).mono ?_
  rintro e w1' ⟨⟨vv1, rfl⟩, hs1⟩
  have HS1 := Lib.hid hs1
  clear hs1
  have hcc1 := HdAt.cell HS1.out.hd (j := 0) rfl
  go_wp2_with fail
  refine (BS.put HS1.out 1 1 (h.tos) (by omega) (by omega) (by have := HNQ.out; omega) (by have := HNL.out; omega) HNL.out.2).mono ?_
  rintro e w2' ⟨⟨vv2, rfl⟩, hs2⟩
  have HS2 := Lib.hid hs2
  clear hs2 hcc1
  go_wp2_with fail
  refine (BS.put HS2.out 2 2 (n) (by omega) (by omega) (by have := HNQ.out; omega) (by have := HNL.out; omega) HNL.out.2).mono ?_
  rintro e w3' ⟨⟨vv3, rfl⟩, hs3⟩
  have HS3 := Lib.hid hs3
  clear hs3
  have hcc3 := HdAt.cell HS3.out.hd (j := 1) rfl
  go_wp2_with fail
  refine (BS.put HS3.out 4 2 (h.id) (by omega) (by omega) (by have := HNQ.out; omega) (by have := HNL.out; omega) HNL.out.2).mono ?_
  rintro e w4' ⟨⟨vv4, rfl⟩, hs4⟩
  have HS4 := Lib.hid hs4
  clear hs4 hcc3
  have hcx4 : ∀ j x, [.int .u8 (h.tos : Nat), .int .u16 (h.id : Nat), .bool h.ev, .bool h.df, .bool h.mf, .int .i64 h.off, .int .u8 (h.ttl : Nat), .int .u8 (h.pr : Nat), .int .u32 (h.src : Nat), .int .u32 (h.dst : Nat), .slice oa O.length oc][j]? = some x → w4'.cell? ⟨wm.heap.size, j, none⟩ = some x := fun j x hx => HdAt.cell HS4.out.hd hx
  have hd0 := hcx4 0 _ rfl
  have hd1 := hcx4 1 _ rfl
  have hd2 := hcx4 2 _ rfl
  have hd3 := hcx4 3 _ rfl
  have hd4 := hcx4 4 _ rfl
  have hd5 := hcx4 5 _ rfl
  have hd6 := hcx4 6 _ rfl
  have hd7 := hcx4 7 _ rfl
  have hd8 := hcx4 8 _ rfl
  have hd9 := hcx4 9 _ rfl
  have hd10 := hcx4 10 _ rfl
  clear hcx4
  go_wp2_with fail
  refine (flagsW_any h _ _ _ w4' HO.out.1 HO.out.2).mono ?_
  rintro e w4b ⟨rfl, hbf⟩
  have HS4b := Lib.hid (HS4.out.later hbf)
  clear hbf hd0 hd1 hd2 hd3 hd4 hd5 hd6 hd7 hd8 hd9 hd10
  go_wp2_with fail
  refine (BS.put HS4b.out 6 2 (flagsN h) (by omega) (by omega) (by have := HNQ.out; omega) (by have := HNL.out; omega) HNL.out.2).mono ?_
  rintro e w5' ⟨⟨vv5, rfl⟩, hs5⟩
  have HS5 := Lib.hid hs5
  clear hs5
  have hcc5 := HdAt.cell HS5.out.hd (j := 6) rfl
  go_wp2_with fail
  refine (BS.put HS5.out 8 1 (h.ttl) (by omega) (by omega) (by have := HNQ.out; omega) (by have := HNL.out; omega) HNL.out.2).mono ?_
  rintro e w6' ⟨⟨vv6, rfl⟩, hs6⟩
  have HS6 := Lib.hid hs6
  clear hs6 hcc5
  have hcc6 := HdAt.cell HS6.out.hd (j := 7) rfl
  go_wp2_with fail
  refine (BS.put HS6.out 9 1 (h.pr) (by omega) (by omega) (by have := HNQ.out; omega) (by have := HNL.out; omega) HNL.out.2).mono ?_
  rintro e w7' ⟨⟨vv7, rfl⟩, hs7⟩
  have HS7 := Lib.hid hs7
  clear hs7 hcc6
  have hcc7 := HdAt.cell HS7.out.hd (j := 8) rfl
  go_wp2_with fail
  refine (BS.put HS7.out 12 4 (h.src) (by omega) (by omega) (by have := HNQ.out; omega) (by have := HNL.out; omega) HNL.out.2).mono ?_
  rintro e w8' ⟨⟨vv8, rfl⟩, hs8⟩
  have HS8 := Lib.hid hs8
  clear hs8 hcc7
  have hcc8 := HdAt.cell HS8.out.hd (j := 9) rfl
  go_wp2_with fail
  refine (BS.put HS8.out 16 4 (h.dst) (by omega) (by omega) (by have := HNQ.out; omega) (by have := HNL.out; omega) HNL.out.2).mono ?_
  rintro e w9' ⟨⟨vv9, rfl⟩, hs9⟩
  have HS9 := Lib.hid hs9
  clear hs9 hcc8
  have hx9 : BS wm N g cap n base [.int .u8 (h.tos : Nat), .int .u16 (h.id : Nat), .bool h.ev, .bool h.df, .bool h.mf, .int .i64 h.off, .int .u8 (h.ttl : Nat), .int .u8 (h.pr : Nat), .int .u32 (h.src : Nat), .int .u32 (h.dst : Nat), .slice oa O.length oc] (hd20 h S n 0 ++ (O ++ P)) w9' := by
    have := HS9.out; rw [HL0.out, HQ.out] at this; exact this
  have hxl : (hd20 h S n 0 ++ (O ++ P)).length = n := hx9.len
  have htk : (hd20 h S n 0 ++ (O ++ P)).take S = hdrS h O P 0 := by
    unfold hdrS
    rw [← HPN.out, ← HS.out, ← HLN.out, ← List.append_assoc, List.take_append_of_le_length (by rw [List.length_append, hd20_length, HS.out]; omega), List.take_of_length_le (by rw [List.length_append, hd20_length, HS.out]; omega)]
  have hSn : S ≤ n := by rw [HLN.out]; omega
  have hby := hx9.ow.bytes
  obtain ⟨hcr, hcb⟩ := hby.cut_h (S : Int) S rfl (by rw [hxl]; exact hSn)
  rw [htk] at hcb
  have hchk := check_one w9' _ _ hcb (by unfold hdrS; rw [List.length_append, hd20_length]; have := HL40.out; omega)
  have hck : 65535 - Sm.tot (hdrS h O P 0) < 65536 := by omega
  obtain ⟨ck, hcke⟩ : ∃ ck, ck = 65535 - Sm.tot (hdrS h O P 0) := ⟨_, rfl⟩
  rw [← hcke] at hchk hck
  have c10 : IntKind.u64.wrap (ck : Int) = ck := IntWalk.u64_in _ ⟨by omega, by omega⟩
  have HCK := Lib.hid hchk
  have HCE := Lib.hid hcke
  have HC6 : Hid (ck < 256 ^ 2) := by show ck < _; omega
  have HX9 := Lib.hid hx9
  have g7 : (S : Int) ≤ n := by omega
  clear hx9 hxl htk hSn hby hcb hchk hck hcke c1 c2 c3 c4 c6 c7 c8 c9
  go_wp2_with fail
  refine HCK.out.mono ?_
  rintro e w10 ⟨rfl, hb10⟩
  have HS10 := Lib.hid (HX9.out.later hb10)
  clear hb10
  go_wp2_with fail
  refine (BS.put HS10.out 10 2 ck (by omega) (by omega) HC6.out (by have := HNL.out; omega) HNL.out.2).mono ?_
  rintro e w11 ⟨⟨vv11, rfl⟩, hs11⟩
  have HS11 := Lib.hid hs11
  clear hs11
  go_wp2_with fail
  go_ret2
  refine ⟨_, rfl, ?_, HS11.out.bel⟩
  have ho := HS11.out.ow
  have hlen := HS11.out.len
  rw [spl_chk] at ho hlen
  have hp : pktL h O P = hd20 h S n ck ++ (O ++ P) := by
    unfold pktL chkN
    rw [← HCE.out]
    unfold hdrS
    rw [← HPN.out, ← HS.out, ← HLN.out, List.append_assoc]
  rw [hp]
  exact OwnB.weak ho HS11.out.b0
end Go.Proofs.Ytnhkkpcepppgoaa
