/- The walk of ip.flags; the bytes of a header, plain. -/
import Derived.Test.YtccfebaifgnodaaIv
import Derived.Test.YtccfebaifgnodaaIw
namespace Go.Proofs.Ytccfebaifgnodaa
open Go.RowKit
attribute [local go_sem ↓] Go.wp_at_zero Go.wp_at_succ

theorem or_bit (x k : Nat) (h : x / 2 ^ k % 2 = 0) : x ||| 2 ^ k = x + 2 ^ k := by
  have hp : 0 < 2 ^ k := Nat.pow_pos (by decide)
  have hlt : x % 2 ^ (k + 1) < 2 ^ k := by
    rw [Nat.pow_succ, Nat.mod_mul, h, Nat.mul_zero, Nat.add_zero]
    exact Nat.mod_lt _ hp
  have e : x = x / 2 ^ (k + 1) * 2 ^ (k + 1) + x % 2 ^ (k + 1) := by rw [Nat.mul_comm]; exact (Nat.div_add_mod _ _).symm
  obtain ⟨hi, hhi⟩ : ∃ y, y = x / 2 ^ (k + 1) * 2 ^ (k + 1) := ⟨_, rfl⟩
  obtain ⟨lo, hlo⟩ : ∃ y, y = x % 2 ^ (k + 1) := ⟨_, rfl⟩
  rw [← hlo] at hlt
  rw [← hhi, ← hlo] at e
  have hm : hi % 2 ^ (k + 1) = 0 := by rw [hhi]; exact Nat.mul_mod_left _ _
  have hk1 : 2 ^ (k + 1) = 2 * 2 ^ k := by rw [Nat.pow_succ, Nat.mul_comm]
  rw [e, ← nat_join (k + 1) hi lo hm (by omega), Nat.or_assoc, Nat.or_comm lo, nat_join k (2 ^ k) lo (Nat.mod_self _) hlt, nat_join (k + 1) hi _ hm (by omega), nat_join (k + 1) hi lo hm (by omega)]
  omega
theorem or_u64 (x m k : Nat) (hm : m = 2 ^ k) (hk : m < 65536) (hx : x < 65536) (h : x / 2 ^ k % 2 = 0) : bits .or .u64 (x : Int) (m : Int) = ((x + m : Nat) : Int) := by
  rw [u64_or_nat _ _ (by omega) (by omega), hm, or_bit _ _ h]
theorem or64 (k : Nat) (h : k < 16) : bits .or .i64 64 (k : Int) = ((64 + k : Nat) : Int) := by
  have hall : ∀ k : Fin 16, bits .or .i64 64 ((k.val : Nat) : Int) = ((64 + k.val : Nat) : Int) := by decide +kernel
  exact hall ⟨k, h⟩

set_option maxHeartbeats 8000000 in
set_option maxRecDepth 100000 in
theorem flagsW_any (h : Hd) (a : Option Addr) (n c : Nat) (w : World) (h1 : 0 ≤ h.off) (h2 : h.off ≤ 8191) :
    Calls Try.prog 44 #[.agg #[.int .u8 (h.tos : Nat), .int .u16 (h.id : Nat), .bool h.ev, .bool h.df, .bool h.mf, .int .i64 h.off, .int .u8 (h.ttl : Nat), .int .u8 (h.pr : Nat), .int .u32 (h.src : Nat), .int .u32 (h.dst : Nat), .slice a n c]] w fun e w' => e = .returned (.int .u64 (flagsN h : Nat)) ∧ Below w.heap.size w w' := by
  obtain ⟨tos, id, ev, df, mf, off, ttl, pr, src, dst⟩ := h
  obtain ⟨o, rfl⟩ := Int.eq_ofNat_of_zero_le h1
  simp only at h1 h2 ⊢
  have ho : o < 8192 := by omega
  have hw : IntKind.u64.wrap (o : Int) = o := IntWalk.u64_in _ ⟨by omega, by omega⟩
  have HW := Lib.hid hw
  have g1 : (o : Int) ≤ 8191 := h2
  clear hw h1 h2
  cases ev <;> cases df <;> cases mf
  · have HF : Hid (flagsN ⟨tos, id, false, false, false, o, ttl, pr, src, dst⟩ = o) := by show _ = _; simp [flagsN]
    clear ho
    go_enter Try.func44, Try.ntmps44
    go_wp2_with fail
    go_ret
    exact ⟨ret_i (by rw [HF.out]), by go_grown⟩
  · have HF : Hid (flagsN ⟨tos, id, false, false, true, o, ttl, pr, src, dst⟩ = o + 8192) := by show _ = _; simp [flagsN]; omega
    have HO := Lib.hid (or_u64 o 8192 13 rfl (by omega) (by omega) (by omega))
    clear ho
    go_enter Try.func44, Try.ntmps44
    go_wp2_with fail
    go_ret
    exact ⟨ret_i (by rw [HF.out, ← HO.out]; rfl), by go_grown⟩
  · have HF : Hid (flagsN ⟨tos, id, false, true, false, o, ttl, pr, src, dst⟩ = o + 16384) := by show _ = _; simp [flagsN]; omega
    have HO := Lib.hid (or_u64 o 16384 14 rfl (by omega) (by omega) (by omega))
    clear ho
    go_enter Try.func44, Try.ntmps44
    go_wp2_with fail
    go_ret
    exact ⟨ret_i (by rw [HF.out, ← HO.out]; rfl), by go_grown⟩
  · have HF : Hid (flagsN ⟨tos, id, false, true, true, o, ttl, pr, src, dst⟩ = o + 16384 + 8192) := by show _ = _; simp [flagsN]; omega
    have HO := Lib.hid (or_u64 o 16384 14 rfl (by omega) (by omega) (by omega))
    have HO2 := Lib.hid (or_u64 (o + 16384) 8192 13 rfl (by omega) (by omega) (by omega))
    clear ho
    go_enter Try.func44, Try.ntmps44
    go_wp2_with fail
    go_ret
    exact ⟨ret_i (by rw [HF.out, ← HO2.out, ← HO.out]; rfl), by go_grown⟩
  · have HF : Hid (flagsN ⟨tos, id, true, false, false, o, ttl, pr, src, dst⟩ = o + 32768) := by show _ = _; simp [flagsN]; omega
    have HO := Lib.hid (or_u64 o 32768 15 rfl (by omega) (by omega) (by omega))
    clear ho
    go_enter Try.func44, Try.ntmps44
    go_wp2_with fail
    go_ret
    exact ⟨ret_i (by rw [HF.out, ← HO.out]; rfl), by go_grown⟩
  · have HF : Hid (flagsN ⟨tos, id, true, false, true, o, ttl, pr, src, dst⟩ = o + 32768 + 8192) := by show _ = _; simp [flagsN]; omega
    have HO := Lib.hid (or_u64 o 32768 15 rfl (by omega) (by omega) (by omega))
    have HO2 := Lib.hid (or_u64 (o + 32768) 8192 13 rfl (by omega) (by omega) (by omega))
    clear ho
    go_enter Try.func44, Try.ntmps44
    go_wp2_with fail
    go_ret
    exact ⟨ret_i (by rw [HF.out, ← HO2.out, ← HO.out]; rfl), by go_grown⟩
  · have HF : Hid (flagsN ⟨tos, id, true, true, false, o, ttl, pr, src, dst⟩ = o + 32768 + 16384) := by show _ = _; simp [flagsN]; omega
    have HO := Lib.hid (or_u64 o 32768 15 rfl (by omega) (by omega) (by omega))
    have HO2 := Lib.hid (or_u64 (o + 32768) 16384 14 rfl (by omega) (by omega) (by omega))
    clear ho
    go_enter Try.func44, Try.ntmps44
    go_wp2_with fail
    go_ret
    exact ⟨ret_i (by rw [HF.out, ← HO2.out, ← HO.out]; rfl), by go_grown⟩
  · have HF : Hid (flagsN ⟨tos, id, true, true, true, o, ttl, pr, src, dst⟩ = o + 32768 + 16384 + 8192) := by show _ = _; simp [flagsN]; omega
    have HO := Lib.hid (or_u64 o 32768 15 rfl (by omega) (by omega) (by omega))
    have HO2 := Lib.hid (or_u64 (o + 32768) 16384 14 rfl (by omega) (by omega) (by omega))
    have HO3 := Lib.hid (or_u64 (o + 32768 + 16384) 8192 13 rfl (by omega) (by omega) (by omega))
    clear ho
    go_enter Try.func44, Try.ntmps44
    go_wp2_with fail
    go_ret
    exact ⟨ret_i (by rw [HF.out, ← HO3.out, ← HO2.out, ← HO.out]; rfl), by go_grown⟩

/-- The first twenty bytes of a header. -/
def hd20 (h : Hd) (size total chk : Nat) : List UInt8 :=
  putL (64 + size / 4) 1 ++ (putL h.tos 1 ++ (putL total 2 ++ (putL h.id 2 ++ (putL (flagsN h) 2 ++ (putL h.ttl 1 ++ (putL h.pr 1 ++ (putL chk 2 ++ (putL h.src 4 ++ putL h.dst 4))))))))
theorem hd20_length (h : Hd) (size total chk : Nat) : (hd20 h size total chk).length = 20 := rfl
/-- A header's bytes, with a checksum. -/
def hdrS (h : Hd) (O P : List UInt8) (chk : Nat) : List UInt8 := hd20 h (20 + O.length) (20 + O.length + P.length) chk ++ O
def chkN (h : Hd) (O P : List UInt8) : Nat := 65535 - Sm.tot (hdrS h O P 0)
/-- A packet's bytes. -/
def pktL (h : Hd) (O P : List UInt8) : List UInt8 := hdrS h O P (chkN h O P) ++ P
theorem spl_hd (h : Hd) (size total chk : Nat) (R : List UInt8) :
    spl (spl (spl (spl (spl (spl (spl (spl (spl (List.replicate 20 0 ++ R) 0 (putL (64 + size / 4) 1)) 1 (putL h.tos 1)) 2 (putL total 2)) 4 (putL h.id 2)) 6 (putL (flagsN h) 2)) 8 (putL h.ttl 1)) 9 (putL h.pr 1)) 12 (putL h.src 4)) 16 (putL h.dst 4) = hd20 h size total 0 ++ R := rfl
theorem spl_chk (h : Hd) (size total chk : Nat) (R : List UInt8) : spl (hd20 h size total 0 ++ R) 10 (putL chk 2) = hd20 h size total chk ++ R := rfl
end Go.Proofs.Ytccfebaifgnodaa
