/- The walks of ip's closures that read and write numbers. -/
import Derived.Test.YtccfebaifgnodaaWh
import Derived.Test.YtccfebaifgnodaaLs0
namespace Go.Proofs.Ytccfebaifgnodaa
open Go.RowKit
attribute [local go_sem ↓] Go.wp_at_zero Go.wp_at_succ

/-- b[i:j]. -/
theorem Bytes.cut_lh {w : World} {a : Option Addr} {n c : Nat} {l : List UInt8} (h : Bytes w (.slice a n c) l) (i j : Int) (lo hi : Nat) (ei : i = lo) (ej : j = hi) (h1 : lo ≤ hi) (h2 : hi ≤ l.length) :
    ∃ a', (∀ w, (Instr.slice 22 (.slice a n c) (some (.int .i64 i)) (some (.int .i64 j)) none).run Try.prog w = .ok (.slice a' (hi - lo) (c - lo)) w) ∧ Bytes w (.slice a' (hi - lo) (c - lo)) ((l.take hi).drop lo) := by
  have hc := h.cap
  subst ei ej
  have hb := h.sliced h1 h2 (by omega) (Nat.le_refl _)
  refine ⟨_, fun w => ?_, hb⟩
  rw [run_slice_lh w _ a _ _ cells1 _ _ _ _ (by omega) (by omega) (by omega), size1]
  rfl

/-- b[:i], i of whatever kind. -/
theorem Bytes.cut_hk {w : World} {a : Option Addr} {n c : Nat} {l : List UInt8} (kh : IntKind) (h : Bytes w (.slice a n c) l) (i : Int) (hi : Nat) (he : i = hi) (hlo : hi ≤ l.length) :
    (∀ w, (Instr.slice 22 (.slice a n c) none (some (.int kh i)) none).run Try.prog w = .ok (.slice a hi c) w) ∧ Bytes w (.slice a hi c) (l.take hi) := by
  have hc := h.cap
  subst he
  have e : Go.sliced a 0 hi c 1 = .slice a hi c := by
    unfold Go.sliced
    congr 1
    split
    · rfl
    · cases a <;> simp [Addr.add]
  refine ⟨fun w => ?_, bytes_take h hlo⟩
  rw [run_slice_h w _ a _ _ cells1 _ _ (by omega) (by omega), size1]
  show Result.ok (Go.sliced a 0 _ c 1) w = _
  rw [Int.toNat_natCast, e]
theorem quiet_left {P : Program} {f : FuncId} {args : Array Value} {w : World} {n : Nat} {v : Value}
    (h : Calls P f args (w.drewN n) fun e w' => e = .returned v ∧ w.drewN n = w') : Calls P f args (w.drewN n) fun e w'' => e = .returned v ∧ ∃ m, w'' = w.drewN m :=
  h.mono fun _ _ ⟨he, hm⟩ => ⟨he, n, hm.symm⟩
theorem get_part {l : List UInt8} (h : 1 ≤ l.length) (h2 : l.length ≤ 8) : getN l = getL l ∧ getE l = 0 := get_yes h h2

set_option maxHeartbeats 1000000 in
theorem numG_any (at_ size : Nat) (B : Nat) (v : Value) (l : List UInt8) (w : World) (hc : w.cell? ⟨B, 0, none⟩ = some v) (hv : Bytes w v l) (h1 : 1 ≤ size) (h8 : size ≤ 8) (h2 : at_ + size ≤ l.length) (hl : l.length ≤ 1000000) :
    Calls Try.prog 58 #[.int .i64 (at_ : Int), .int .i64 (size : Int), .pointer (some ⟨B, 0, none⟩)] w fun e w' => e = .returned (.int .u64 (getL ((l.take (at_ + size)).drop at_) : Nat)) ∧ w = w' := by
  obtain ⟨a, c, rfl⟩ := hv.form
  obtain ⟨a', hs, hb⟩ := hv.cut_lh (at_ : Int) ((at_ : Int) + size) at_ (at_ + size) rfl (by omega) (by omega) h2
  have hlen : ((l.take (at_ + size)).drop at_).length = size := by simp; omega
  obtain ⟨hg1, hg2⟩ := get_yes (l := (l.take (at_ + size)).drop at_) (by omega) (by omega)
  rw [Nat.add_sub_cancel_left] at hs hb
  have hget := getW_any _ _ w hb (by omega)
  rw [hg1, hg2] at hget
  have HG := Lib.hid hget
  have hs' := hs w
  clear hget hg1 hg2 hlen hb hs hv h1 h8
  have g1 : (at_ : Int) + size ≤ 1000000 := by omega
  clear h2 hl
  go_enter Try.func58, Try.ntmps58
  go_wp2_with fail
  refine HG.out.mono ?_
  rintro e w1 ⟨rfl, rfl⟩
  go_wp2_with fail
  go_ret
  exact ⟨rfl, rfl⟩
end Go.Proofs.Ytccfebaifgnodaa
