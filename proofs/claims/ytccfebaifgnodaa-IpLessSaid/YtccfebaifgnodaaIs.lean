/- The walks of ip.numbers, ip.sizes, ip.first. -/
import Derived.Test.YtccfebaifgnodaaIn
import Derived.Test.YtccfebaifgnodaaOm
namespace Go.Proofs.Ytccfebaifgnodaa
open Go.RowKit
attribute [local go_sem ↓] Go.wp_at_zero Go.wp_at_succ

/-- The number that stands at a place, of so many bytes. -/
def numAt (l : List UInt8) (i k : Nat) : Nat := getL ((l.take (i + k)).drop i)
/-- How many bytes a header says that it has. -/
def hsz (l : List UInt8) : Nat := Sm.at0 l 0 % 16 * 4
theorem numAt_lt {l : List UInt8} {i k : Nat} (h : i + k ≤ l.length) : numAt l i k < 256 ^ k := getL_lt _ _ (by simp; omega)
theorem at0_get {l : List UInt8} {i : Nat} (h : i < l.length) : Sm.at0 l i = l[i].toNat := by unfold Sm.at0; rw [List.getElem?_eq_getElem h]; rfl
theorem Bytes.at1 {w : World} {a : Option Addr} {n c : Nat} {l : List UInt8} (h : Bytes w (.slice a n c) l) {i : Nat} (hi : i < l.length) :
    ∃ b o, a = some ⟨b, o, none⟩ ∧ b < w.heap.size ∧ w.cell? ⟨b, o + i, none⟩ = some (.int .u8 (Sm.at0 l i : Nat)) := by
  rw [at0_get hi]; exact h.at hi

theorem numbersW_any (a : Option Addr) (n c : Nat) (w : World) :
    Calls Try.prog 37 #[.slice a n c] w fun e w' => e = .returned (.tuple #[.func (.func 58) #[] #[.pointer (some ⟨w.heap.size, 0, none⟩)], .func (.func 60) #[] #[.pointer (some ⟨w.heap.size, 0, none⟩)]]) ∧ w' = w.alloc (.cells #[.slice a n c] 22) := by
  go_enter Try.func37, Try.ntmps37
  go_wp2_with fail
  go_ret2
  exact ⟨rfl, rfl⟩
theorem and15 {x : Nat} (h : x < 256) : bits .and .u8 (x : Int) 15 = ((x % 16 : Nat) : Int) := by
  rw [u8_and _ 15 (by omega) (by omega) (by omega) (by omega), Int.toNat_natCast]
  have : (15 : Int).toNat = 15 := rfl
  rw [this, Nat.and_two_pow_sub_one_eq_mod x 4]

theorem numG_in (at_ size : Nat) (B : Nat) (v : Value) (l : List UInt8) (w w1 : World) (hb : Below w.heap.size w w1) (hB : B < w.heap.size) (hc : w.cell? ⟨B, 0, none⟩ = some v) (hv : Bytes w v l) (h1 : 1 ≤ size) (h8 : size ≤ 8) (h2 : at_ + size ≤ l.length) (hl : l.length ≤ 1000000) :
    Calls Try.prog 58 #[.int .i64 (at_ : Int), .int .i64 (size : Int), .pointer (some ⟨B, 0, none⟩)] w1 fun e w' => e = .returned (.int .u64 (numAt l at_ size : Nat)) ∧ w1 = w' :=
  numG_any at_ size B v l w1 ((hb.cell (p := ⟨B, 0, none⟩) hB).trans hc) (hv.later hb) h1 h8 h2 hl

set_option maxHeartbeats 1000000 in
theorem sizes_any (v : Value) (l : List UInt8) (w : World) (hv : Bytes w v l) (h20 : 20 ≤ l.length) (hl : l.length ≤ 1000000) :
    Calls Try.prog 36 #[v] w fun e w' => e = .returned (.tuple #[.int .i64 (hsz l : Nat), .int .i64 (numAt l 2 2 : Nat)]) ∧ Below w.heap.size w w' := by
  obtain ⟨a, c, rfl⟩ := hv.form
  obtain ⟨bl, bo, rfl, hbl, hcell⟩ := hv.at1 (i := 0) (by omega)
  have hx := Sm.at0_lt l 0
  obtain ⟨x, hxe⟩ : ∃ x, x = Sm.at0 l 0 := ⟨_, rfl⟩
  rw [← hxe] at hx hcell
  have hA : Below w.heap.size w (w.alloc (.cells #[.slice (some ⟨bl, bo, none⟩) l.length c] 22)) := (Below.refl _ _).alloc (Nat.le_refl _) _
  have hget := fun n => quiet_left (numG_in 2 2 w.heap.size _ l _ ((w.alloc (.cells #[.slice (some ⟨bl, bo, none⟩) l.length c] 22)).drewN n) (below_dr0 _ _ n) (by simp) (by simp) (hv.later hA) (by omega) (by omega) (by omega) hl)
  have hnl := numAt_lt (l := l) (i := 2) (k := 2) (by omega)
  obtain ⟨n, hn⟩ : ∃ n, n = numAt l 2 2 := ⟨_, rfl⟩
  have hn2 : n < 65536 := by rw [hn]; exact hnl
  have hcell0 : w.cell? ⟨bl, bo, none⟩ = some (.int .u8 (x : Int)) := hcell
  have h15 := and15 hx
  have g0 : (0 : Int) < l.length := by omega
  obtain ⟨y, hy⟩ : ∃ y, y = x % 16 := ⟨_, rfl⟩
  have hy2 : y < 16 := by omega
  rw [← hy] at h15
  have H15 := Lib.hid h15
  have HY := Lib.hid hy
  rw [← hn] at hget
  have HG := Lib.hid hget
  have HN := Lib.hid hn
  have HX := Lib.hid hxe
  have HA := Lib.hid hA
  clear hget hv hcell hA h15 hy hn hnl hxe hx
  go_enter Try.func36, Try.ntmps36
  go_wp2_with fail
  refine (numbersW_any _ _ _ _).mono ?_
  rintro e w1 ⟨rfl, rfl⟩
  go_wp2_with fail
  go_quiet ((go_at_call 58; exact HG.out _))
  go_wp2_with fail
  go_ret2
  have e1 : wrap64 (y : Int) = y := IntWalk.wrap64_in _ ⟨by omega, by omega⟩
  have e2 : wrap64 ((y : Int) * 4) = ((y * 4 : Nat) : Int) := by rw [IntWalk.wrap64_in _ ⟨by omega, by omega⟩]; omega
  refine ⟨ret_ii ?_ (by rw [← HN.out]), below_drewN HA.out _⟩
  rw [H15.out, e1, e2, HY.out, HX.out]; rfl
theorem first_no (v : Value) (l : List UInt8) (w : World) (hv : Bytes w v l) (h : l.length < 2 ∨ Sm.at0 l 1 < 2 ∨ l.length < Sm.at0 l 1) (hl : l.length ≤ 1000000) :
    Calls Try.prog 65 #[v] w fun e w' => e = .returned (.slice none 0 0) ∧ w = w' := by
  obtain ⟨a, c, rfl⟩ := hv.form
  rcases Nat.lt_or_ge l.length 2 with h1 | h1
  · have g1 : (l.length : Int) < 2 := by omega
    clear hv h
    go_enter Try.func65, Try.ntmps65
    go_wp2
    go_ret
    exact ⟨rfl, rfl⟩
  · obtain ⟨bl, bo, rfl, hbl, hcell⟩ := hv.at1 (i := 1) (by omega)
    obtain ⟨x, hxe⟩ : ∃ x, x = Sm.at0 l 1 := ⟨_, rfl⟩
    have hx : x < 256 := by rw [hxe]; exact Sm.at0_lt l 1
    rw [← hxe] at hcell h
    have g1 : (2 : Int) ≤ l.length := by omega
    clear hv hxe
    rcases Nat.lt_or_ge x 2 with h2 | h2
    · have g2 : (x : Int) < 2 := by omega
      clear h
      go_enter Try.func65, Try.ntmps65
      go_wp2
      go_ret
      exact ⟨rfl, rfl⟩
    · have g2 : (2 : Int) ≤ x := by omega
      have g3 : (l.length : Int) < x := by omega
      clear h
      go_enter Try.func65, Try.ntmps65
      go_wp2
      go_ret
      exact ⟨rfl, rfl⟩
theorem first_yes (bl bo c : Nat) (l : List UInt8) (w : World) (hv : Bytes w (.slice (some ⟨bl, bo, none⟩) l.length c) l) (h : 2 ≤ Sm.at0 l 1) (h2 : Sm.at0 l 1 ≤ l.length) (hl : l.length ≤ 1000000) :
    Calls Try.prog 65 #[.slice (some ⟨bl, bo, none⟩) l.length c] w fun e w' => e = .returned (.slice (some ⟨bl, bo, none⟩) (Sm.at0 l 1) c) ∧ w = w' := by
  obtain ⟨b2, o2, e1, hbl, hcell⟩ := hv.at1 (i := 1) (by omega)
  simp only [Option.some.injEq, Addr.mk.injEq, and_true] at e1
  obtain ⟨rfl, rfl⟩ := e1
  obtain ⟨x, hxe⟩ : ∃ x, x = Sm.at0 l 1 := ⟨_, rfl⟩
  have hx : x < 256 := by rw [hxe]; exact Sm.at0_lt l 1
  obtain ⟨hs, _⟩ := hv.cut_hk .u8 (x : Int) x rfl (by omega)
  rw [← hxe] at hcell h h2 ⊢
  have hs' := hs w
  have g1 : (2 : Int) ≤ l.length := by omega
  have g2 : (2 : Int) ≤ x := by omega
  have g3 : (x : Int) ≤ l.length := by omega
  clear hv hxe hs h h2
  go_enter Try.func65, Try.ntmps65
  go_wp2_with fail
  go_ret
  exact ⟨rfl, rfl⟩
end Go.Proofs.Ytccfebaifgnodaa
