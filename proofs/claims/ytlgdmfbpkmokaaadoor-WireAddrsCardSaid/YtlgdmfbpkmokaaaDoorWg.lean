/- The walk of wire.AddrText. -/
import Derived.Test.YtlgdmfbpkmokaaaDoorWd
namespace Go.Proofs.YtlgdmfbpkmokaaaDoor
open Go.RowKit
attribute [local go_sem ↓] Go.wp_at_zero Go.wp_at_succ

/-- The byte of an address behind which there are j. -/
def bt (a : Int) (j : Nat) : Int := a / 2 ^ (8 * j) % 256
def btS (a : Int) (j : Nat) : ByteArray := ⟨(Lib.itoa (bt a j)).toArray⟩
def addrT (a : Int) : List UInt8 := Lib.join [Lib.itoa (bt a 3), Lib.itoa (bt a 2), Lib.itoa (bt a 1), Lib.itoa (bt a 0)] [46]

theorem bt_bd (a : Int) (j : Nat) : 0 ≤ bt a j ∧ bt a j ≤ 255 := by unfold bt; omega

theorem itoa_len {n : Int} (h : 0 ≤ n) (h2 : n ≤ 255) : (Lib.itoa n).length ≤ 3 := by
  obtain ⟨m, rfl⟩ := Int.eq_ofNat_of_zero_le h
  unfold Lib.itoa
  rw [if_neg (by omega), Int.toNat_natCast]
  by_cases h1 : m < 10
  · rw [Lib.decDigits_one h1]; simp
  · by_cases h3 : m < 100
    · rw [Lib.decDigits_two h1 h3]; simp
    · rw [Lib.decDigits, dif_neg h1]
      by_cases h4 : m / 10 < 10
      · omega
      · rw [Lib.decDigits_two h4 (by omega)]; simp

theorem addrT_len (a : Int) : (addrT a).length ≤ 15 := by
  have h3 := itoa_len (bt_bd a 3).1 (bt_bd a 3).2
  have h2 := itoa_len (bt_bd a 2).1 (bt_bd a 2).2
  have h1 := itoa_len (bt_bd a 1).1 (bt_bd a 1).2
  have h0 := itoa_len (bt_bd a 0).1 (bt_bd a 0).2
  unfold addrT
  rw [Lib.join_cons]
  simp [Lib.joinTail]
  omega

theorem and255 {a : Int} (h : 0 ≤ a) (h2 : a < 4294967296) : bits .and .u32 a 255 = a % 256 := by
  rw [u32_and a 255 h h2 (by omega) (by omega)]
  have : (255 : Int).toNat = 255 := rfl
  rw [this, Nat.and_two_pow_sub_one_eq_mod a.toNat 8]
  omega

theorem byte_val {x : Int} (h : 0 ≤ x) (h2 : x < 4294967296) : wrap64 (bits .and .u32 x 255) = x % 256 := by
  rw [and255 h h2]; exact IntWalk.wrap64_in _ ⟨by omega, by omega⟩

theorem join4 (x0 x1 x2 x3 : ByteArray) (bk : Nat) (w : World) (hbk : bk < w.heap.size) (c0 : w.cell? ⟨bk, 0, none⟩ = some (.string x0)) (c1 : w.cell? ⟨bk, 1, none⟩ = some (.string x1))
    (c2 : w.cell? ⟨bk, 2, none⟩ = some (.string x2)) (c3 : w.cell? ⟨bk, 3, none⟩ = some (.string x3)) (hl : (Lib.join [x0.data.toList, x1.data.toList, x2.data.toList, x3.data.toList] [46]).length ≤ 1000) :
    Calls Tryd.prog 36 #[.slice (some ⟨bk, 0, none⟩) 4 4, .string ⟨#[46]⟩] w fun e w' => e = .returned (.string ⟨(Lib.join [x0.data.toList, x1.data.toList, x2.data.toList, x3.data.toList] [46]).toArray⟩) ∧ Below w.heap.size w w' := by
  refine Tryd.strings_Join bk 0 4 [x0, x1, x2, x3] ⟨#[46]⟩ w ?_ hbk (by simp) (by simp) (by simp only [List.map_cons, List.map_nil]; omega)
  intro j x hx
  match j, hx with
  | 0, hx => simp at hx; subst hx; exact c0
  | 1, hx => simp at hx; subst hx; exact c1
  | 2, hx => simp at hx; subst hx; exact c2
  | 3, hx => simp at hx; subst hx; exact c3

set_option maxHeartbeats 1000000 in
theorem addrText_any (a : Int) (ha : 0 ≤ a) (ha2 : a < 4294967296) (w : World) (g : Gl w) :
    Calls Tryd.prog 19 #[.int .u32 a] w fun e w' => e = .returned (.string ⟨(addrT a).toArray⟩) ∧ Below w.heap.size w w' := by
  go_enter Tryd.func19, Tryd.ntmps19
  go_wp2
  go_loopw [5] (fun i wr => ∃ (k : Nat) (x0 x1 x2 x3 : ByteArray), k ≤ 4 ∧ i = .int .i64 k ∧
    wr.cell? ⟨w.heap.size, 0, none⟩ = some (.string x0) ∧ wr.cell? ⟨w.heap.size, 1, none⟩ = some (.string x1) ∧ wr.cell? ⟨w.heap.size, 2, none⟩ = some (.string x2) ∧ wr.cell? ⟨w.heap.size, 3, none⟩ = some (.string x3) ∧
    wr.frozen? ⟨w.heap.size, 0, none⟩ = false ∧ wr.frozen? ⟨w.heap.size, 1, none⟩ = false ∧ wr.frozen? ⟨w.heap.size, 2, none⟩ = false ∧ wr.frozen? ⟨w.heap.size, 3, none⟩ = false ∧
    Hid ((0 < k → x3 = btS a 0) ∧ (1 < k → x2 = btS a 1) ∧ (2 < k → x1 = btS a 2) ∧ (3 < k → x0 = btS a 3)) ∧ w.heap.size < wr.heap.size ∧ Below w.heap.size w wr) (fun i _ => 4 - (intOf i).toNat)
  case atStart =>
    refine ⟨0, ⟨#[]⟩, ⟨#[]⟩, ⟨#[]⟩, ⟨#[]⟩, by omega, rfl, ?_, ?_, ?_, ?_, ?_, ?_, ?_, ?_, ?_, ?_, ?_⟩
    all_goals first | (simp; done) | (go_grown; done) | skip
    all_goals exact ⟨fun h => absurd h (by omega), fun h => absurd h (by omega), fun h => absurd h (by omega), fun h => absurd h (by omega)⟩
  case round =>
    obtain ⟨k, x0, x1, x2, x3, hk, rfl, c0, c1, c2, c3, f0, f1, f2, f3, HX, hz, hB⟩ := hrel
    have hg := g.below hB
    by_cases hk0 : k = 0
    · subst hk0
      go_wp2_with (go_at_call 35; refine (itoa_at _ (btS a 0) ?_ ?_ ?_ _ hg).mono ?_; (focus (rw [byte_val (by omega) (by omega)]; simp [btS, bt])); (focus (rw [byte_val (by omega) (by omega)]; omega)); (focus (rw [byte_val (by omega) (by omega)]; omega)); rintro e w1 ⟨rfl, hb1⟩; have d0 := cell_later hb1 c0; have d1 := cell_later hb1 c1; have d2 := cell_later hb1 c2; have d3 := cell_later hb1 c3; have e0 := (hb1.frozen (p := ⟨w.heap.size, 0, none⟩) hz).trans f0; have e1 := (hb1.frozen (p := ⟨w.heap.size, 1, none⟩) hz).trans f1; have e2 := (hb1.frozen (p := ⟨w.heap.size, 2, none⟩) hz).trans f2; have e3 := (hb1.frozen (p := ⟨w.heap.size, 3, none⟩) hz).trans f3; have hz1 := Nat.lt_of_lt_of_le hz hb1.size)
      go_roundw
      case rel =>
        refine ⟨1, x0, x1, x2, (btS a 0), by omega, by go_num, ?_, ?_, ?_, ?_, ?_, ?_, ?_, ?_, ⟨fun _ => rfl, fun h => absurd h (by omega), fun h => absurd h (by omega), fun h => absurd h (by omega)⟩, ?_, (hB.trans (hb1.mono hB.size)).setCell (Nat.le_refl _) _⟩
        all_goals simp [go_sem, d0, d1, d2, d3, e0, e1, e2, e3, hz1]
      case measure => simp [intOf]
    by_cases hk1 : k = 1
    · subst hk1
      go_wp2_with (go_at_call 35; refine (itoa_at _ (btS a 1) ?_ ?_ ?_ _ hg).mono ?_; (focus (rw [byte_val (by omega) (by omega)]; simp [btS, bt])); (focus (rw [byte_val (by omega) (by omega)]; omega)); (focus (rw [byte_val (by omega) (by omega)]; omega)); rintro e w1 ⟨rfl, hb1⟩; have d0 := cell_later hb1 c0; have d1 := cell_later hb1 c1; have d2 := cell_later hb1 c2; have d3 := cell_later hb1 c3; have e0 := (hb1.frozen (p := ⟨w.heap.size, 0, none⟩) hz).trans f0; have e1 := (hb1.frozen (p := ⟨w.heap.size, 1, none⟩) hz).trans f1; have e2 := (hb1.frozen (p := ⟨w.heap.size, 2, none⟩) hz).trans f2; have e3 := (hb1.frozen (p := ⟨w.heap.size, 3, none⟩) hz).trans f3; have hz1 := Nat.lt_of_lt_of_le hz hb1.size)
      go_roundw
      case rel =>
        refine ⟨2, x0, x1, (btS a 1), x3, by omega, by go_num, ?_, ?_, ?_, ?_, ?_, ?_, ?_, ?_, ⟨fun _ => HX.out.1 (by omega), fun _ => rfl, fun h => absurd h (by omega), fun h => absurd h (by omega)⟩, ?_, (hB.trans (hb1.mono hB.size)).setCell (Nat.le_refl _) _⟩
        all_goals simp [go_sem, d0, d1, d2, d3, e0, e1, e2, e3, hz1]
      case measure => simp [intOf]
    by_cases hk2 : k = 2
    · subst hk2
      go_wp2_with (go_at_call 35; refine (itoa_at _ (btS a 2) ?_ ?_ ?_ _ hg).mono ?_; (focus (rw [byte_val (by omega) (by omega)]; simp [btS, bt])); (focus (rw [byte_val (by omega) (by omega)]; omega)); (focus (rw [byte_val (by omega) (by omega)]; omega)); rintro e w1 ⟨rfl, hb1⟩; have d0 := cell_later hb1 c0; have d1 := cell_later hb1 c1; have d2 := cell_later hb1 c2; have d3 := cell_later hb1 c3; have e0 := (hb1.frozen (p := ⟨w.heap.size, 0, none⟩) hz).trans f0; have e1 := (hb1.frozen (p := ⟨w.heap.size, 1, none⟩) hz).trans f1; have e2 := (hb1.frozen (p := ⟨w.heap.size, 2, none⟩) hz).trans f2; have e3 := (hb1.frozen (p := ⟨w.heap.size, 3, none⟩) hz).trans f3; have hz1 := Nat.lt_of_lt_of_le hz hb1.size)
      go_roundw
      case rel =>
        refine ⟨3, x0, (btS a 2), x2, x3, by omega, by go_num, ?_, ?_, ?_, ?_, ?_, ?_, ?_, ?_, ⟨fun _ => HX.out.1 (by omega), fun _ => HX.out.2.1 (by omega), fun _ => rfl, fun h => absurd h (by omega)⟩, ?_, (hB.trans (hb1.mono hB.size)).setCell (Nat.le_refl _) _⟩
        all_goals simp [go_sem, d0, d1, d2, d3, e0, e1, e2, e3, hz1]
      case measure => simp [intOf]
    by_cases hk3 : k = 3
    · subst hk3
      go_wp2_with (go_at_call 35; refine (itoa_at _ (btS a 3) ?_ ?_ ?_ _ hg).mono ?_; (focus (rw [byte_val (by omega) (by omega)]; simp [btS, bt])); (focus (rw [byte_val (by omega) (by omega)]; omega)); (focus (rw [byte_val (by omega) (by omega)]; omega)); rintro e w1 ⟨rfl, hb1⟩; have d0 := cell_later hb1 c0; have d1 := cell_later hb1 c1; have d2 := cell_later hb1 c2; have d3 := cell_later hb1 c3; have e0 := (hb1.frozen (p := ⟨w.heap.size, 0, none⟩) hz).trans f0; have e1 := (hb1.frozen (p := ⟨w.heap.size, 1, none⟩) hz).trans f1; have e2 := (hb1.frozen (p := ⟨w.heap.size, 2, none⟩) hz).trans f2; have e3 := (hb1.frozen (p := ⟨w.heap.size, 3, none⟩) hz).trans f3; have hz1 := Nat.lt_of_lt_of_le hz hb1.size)
      go_roundw
      case rel =>
        refine ⟨4, (btS a 3), x1, x2, x3, by omega, by go_num, ?_, ?_, ?_, ?_, ?_, ?_, ?_, ?_, ⟨fun _ => HX.out.1 (by omega), fun _ => HX.out.2.1 (by omega), fun _ => HX.out.2.2.1 (by omega), fun _ => rfl⟩, ?_, (hB.trans (hb1.mono hB.size)).setCell (Nat.le_refl _) _⟩
        all_goals simp [go_sem, d0, d1, d2, d3, e0, e1, e2, e3, hz1]
      case measure => simp [intOf]
    have hk4 : k = 4 := by omega
    subst hk4
    have hj := join4 x0 x1 x2 x3 w.heap.size wr hz c0 c1 c2 c3 (by rw [HX.out.1 (by omega), HX.out.2.1 (by omega), HX.out.2.2.1 (by omega), HX.out.2.2.2 (by omega)]; have := addrT_len a; show (addrT a).length ≤ _; omega)
    have he : Lib.join [x0.data.toList, x1.data.toList, x2.data.toList, x3.data.toList] [46] = addrT a := by
      rw [HX.out.1 (by omega), HX.out.2.1 (by omega), HX.out.2.2.1 (by omega), HX.out.2.2.2 (by omega)]; rfl
    rw [he] at hj
    have Hj := Lib.hid hj
    clear hj he
    go_wp2_with (go_at_call 36; refine Hj.out.mono ?_; rintro e w1 ⟨rfl, hb1⟩)
    go_ret
    exact ⟨rfl, hB.trans (hb1.mono hB.size)⟩
end Go.Proofs.YtlgdmfbpkmokaaaDoor
