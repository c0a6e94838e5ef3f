/- Bytes in memory: a slice value that reads as a list of bytes; no function of the program in it.
   The walk of wire.AddrText.
   The walk of wire.PrefixOf.
   The walk of wire.AddrOf.
   The walk of the reference's Number.
   The library's variables that the layer's texts read, and the walk of wire.number. -/
import Derived.Test.YtijkahamgnpobaaDoorRows
import Derived.WalkKit
import Derived.WalkSpells
import Derived.WalkLawsBesides
import Derived.Handy
import Derived.Test.YtijkahamgnpobaaDoorZ01
import Derived.Test.YtijkahamgnpobaaDoorZ02

set_option linter.unusedSimpArgs false
set_option linter.unusedVariables false
namespace Go.Proofs.YtijkahamgnpobaaDoor
open Go.RowKit
attribute [local go_sem ↓] Go.wp_at_zero Go.wp_at_succ

/-- What the library's variables hold. -/
structure Gl (w : World) : Prop where
  m : ∃ m, w.cell? ⟨0, 0, none⟩ = some (.int .i64 m)
  es : ∃ te pe, w.cell? ⟨1, 0, none⟩ = some (.iface te pe)
  er : ∃ te pe, w.cell? ⟨2, 0, none⟩ = some (.iface te pe)
  tab : Lib.TabIs Tryd.prog w "internal/strconv.uint64pow10" .u64 Lib.pow10Tab
  size : 5 < w.heap.size

theorem Gl.below {w w' : World} (h : Gl w) (hb : Below w.heap.size w w') : Gl w' := by
  obtain ⟨⟨m, hm⟩, ⟨te, pe, hs⟩, ⟨tr, pr, hr⟩, ht, hz⟩ := h
  refine ⟨⟨m, cell_later hb hm⟩, ⟨te, pe, cell_later hb hs⟩, ⟨tr, pr, cell_later hb hr⟩, ?_, Nat.lt_of_lt_of_le hz hb.size⟩
  exact var?_below hb (g := 3) (by kernel_rfl) (by omega) ht

theorem Gl.drewN {w : World} (h : Gl w) (n : Nat) : Gl (w.drewN n) := h.below (below_drewN (Below.refl _ _) n)
theorem Gl.alloc {w : World} (h : Gl w) (o : Obj) : Gl (w.alloc o) := h.below ((Below.refl _ _).alloc (Nat.le_refl _) _)
theorem Gl.drew {w : World} (h : Gl w) : Gl w.drew := h.below (Below.refl _ _).drew

/-- The number of which the text is one, if it is at most so great. -/
def num? (l : List UInt8) (most : Int) : Option Int :=
  match Lib.atoiAll l with
  | .ok v => if 0 ≤ v ∧ v ≤ most ∧ Lib.itoa v = l then some v else none
  | _ => none
def numI (l : List UInt8) (most : Int) : Int := (num? l most).getD 0
def numB (l : List UInt8) (most : Int) : Bool := (num? l most).isSome

theorem below_grow' (w : World) (k : Nat) (os : Array Obj) : Below w.heap.size w (Sort.grow (w.drewN k) os) :=
  ⟨rfl, rfl, rfl, by show w.heap.size ≤ (w.heap ++ os).size; rw [Array.size_append]; omega, fun j hj => by show (w.heap ++ os)[j]? = w.heap[j]?; rw [Array.getElem?_append_left hj]⟩
theorem bytes_ne {x s : ByteArray} (h : x ≠ s) : (x.toList == s.toList) = false := by
  rw [beq_eq_false_iff_ne, ByteArray.toList_eq, ByteArray.toList_eq]
  intro e; apply h
  have : x.data = s.data := Array.toList_inj.1 e
  cases x; cases s; simp at this; rw [this]
theorem ret_ib {k : IntKind} {a a' : Int} {b b' : Bool} (h : a = a') (h2 : b = b') : Ending.returned (.tuple #[.int k a, .bool b]) = .returned (.tuple #[.int k a', .bool b']) := by rw [h, h2]

theorem itoa_any (n : Int) (h0 : -9223372036854775808 ≤ n) (h1 : n ≤ 9223372036854775807) (w : World) (g : Gl w) :
    Calls Tryd.prog 38 #[.int .i64 n] w fun e w' => e = .returned (.string ⟨(Lib.itoa n).toArray⟩) ∧ Below w.heap.size w w' :=
  (Tryd.strconv_Itoa n h0 h1 w g.tab).mono fun _ _ ⟨he, _, _, hw⟩ => ⟨he, hw ▸ below_grow' _ _ _⟩

/-- The same, the text under a name. -/
theorem itoa_at (n : Int) (x : ByteArray) (hx : x.data.toList = Lib.itoa n) (h0 : -9223372036854775808 ≤ n) (h1 : n ≤ 9223372036854775807) (w : World) (g : Gl w) :
    Calls Tryd.prog 38 #[.int .i64 n] w fun e w' => e = .returned (.string x) ∧ Below w.heap.size w w' :=
  (itoa_any n h0 h1 w g).mono fun _ _ ⟨he, hw⟩ => ⟨by rw [he, ← hx], hw⟩
theorem atoi_ok_any (s : ByteArray) (hs : s.size ≤ 1000000) (v : Int) (h : Lib.atoiAll s.data.toList = .ok v) (w : World) :
    Calls Tryd.prog 41 #[.string s] w fun e w' => e = .returned (.tuple #[.int .i64 v, .nilIface]) ∧ Below w.heap.size w w' :=
  (Tryd.strconv_Atoi_ok s (by omega) v h w).mono fun _ _ ⟨he, hw⟩ => ⟨he, by rcases hw with rfl | ⟨t, rfl⟩ <;> first | exact Below.refl _ _ | exact Lib.bytesWorld_below _ _ _⟩

set_option maxHeartbeats 400000 in
theorem number_any (s : ByteArray) (most : Int) (hs : s.size ≤ 1000000) (w : World) (g : Gl w) :
    Calls Tryd.prog 55 #[.string s, .int .i64 most] w fun e w' => e = .returned (.tuple #[.int .i64 (numI s.data.toList most), .bool (numB s.data.toList most)]) ∧ Below w.heap.size w w' := by
  obtain ⟨te, pe, hes⟩ := g.es
  obtain ⟨tr, pr, her⟩ := g.er
  rcases hh : Lib.atoiAll s.data.toList with v | _ | _
  · by_cases hlo : 0 ≤ v
    · by_cases hhi : v ≤ most
      · have hv := Wp.atoi_range hh
        by_cases hsame : s.data.toList = Lib.itoa v
        · have hf : numI s.data.toList most = v ∧ numB s.data.toList most = true := by simp [numI, numB, num?, hh, hlo, hhi, hsame.symm]
          have H := Lib.hid hh
          have Hf := Lib.hid hf
          have Hs := Lib.hid hsame
          obtain ⟨hv1, hv2⟩ := hv
          clear hh hf hsame
          go_enter Tryd.func55, Tryd.ntmps55
          go_wp2_with (first | (go_at_call 41; refine (atoi_ok_any s hs v H.out _).mono ?_; rintro e w1 ⟨rfl, hb1⟩) | (go_at_call 38; refine (itoa_at v s Hs.out hv1 hv2 _ (g.below hb1)).mono ?_; rintro e w2 ⟨rfl, hb2⟩))
          go_ret2
          exact ⟨ret_ib Hf.out.1.symm Hf.out.2.symm, hb1.trans (hb2.mono hb1.size)⟩
        · have hf : numI s.data.toList most = 0 ∧ numB s.data.toList most = false := by
            have : ¬ (Lib.itoa v = s.data.toList) := fun h => hsame h.symm
            simp [numI, numB, num?, hh, this]
          have hne : ((⟨(Lib.itoa v).toArray⟩ : ByteArray).toList == s.toList) = false := by
            apply bytes_ne; intro h; apply hsame; rw [← h]
          obtain ⟨x, hx⟩ : ∃ x : ByteArray, x = ⟨(Lib.itoa v).toArray⟩ := ⟨_, rfl⟩
          have hx2 : x.data.toList = Lib.itoa v := by rw [hx]
          rw [← hx] at hne
          have H := Lib.hid hh
          have Hf := Lib.hid hf
          have Hx := Lib.hid hx2
          obtain ⟨hv1, hv2⟩ := hv
          clear hh hf hsame hx hx2
          go_enter Tryd.func55, Tryd.ntmps55
          go_wp2_with (first | (go_at_call 41; refine (atoi_ok_any s hs v H.out _).mono ?_; rintro e w1 ⟨rfl, hb1⟩) | (go_at_call 38; refine (itoa_at v x Hx.out hv1 hv2 _ (g.below hb1)).mono ?_; rintro e w2 ⟨rfl, hb2⟩))
          go_ret2
          exact ⟨ret_ib Hf.out.1.symm Hf.out.2.symm, hb1.trans (hb2.mono hb1.size)⟩
      · have hf : numI s.data.toList most = 0 ∧ numB s.data.toList most = false := by simp [numI, numB, num?, hh, hhi]
        have H := Lib.hid hh
        have Hf := Lib.hid hf
        clear hh hf
        go_enter Tryd.func55, Tryd.ntmps55
        go_wp2_with (first | (go_at_call 41; refine (atoi_ok_any s hs v H.out _).mono ?_; rintro e w1 ⟨rfl, hb1⟩))
        go_ret2
        exact ⟨ret_ib Hf.out.1.symm Hf.out.2.symm, hb1⟩
    · have hf : numI s.data.toList most = 0 ∧ numB s.data.toList most = false := by simp [numI, numB, num?, hh, hlo]
      have H := Lib.hid hh
      have Hf := Lib.hid hf
      clear hh hf
      go_enter Tryd.func55, Tryd.ntmps55
      go_wp2_with (first | (go_at_call 41; refine (atoi_ok_any s hs v H.out _).mono ?_; rintro e w1 ⟨rfl, hb1⟩))
      go_ret2
      exact ⟨ret_ib Hf.out.1.symm Hf.out.2.symm, hb1⟩
  · have hf : numI s.data.toList most = 0 ∧ numB s.data.toList most = false := by simp [numI, numB, num?, hh]
    have H := Lib.hid hh
    have Hf := Lib.hid hf
    clear hh hf
    go_enter Tryd.func55, Tryd.ntmps55
    go_wp2_with (go_at_call 41; refine (Tryd.strconv_Atoi_syntax s (by omega) (by intro v; rw [H.out]; exact fun h => by cases h) (by rw [H.out]; exact fun h => by cases h) _ w hes (.inr ⟨te, pe, rfl⟩)).mono ?_; rintro e w1 ⟨N, rfl, hN, hblk, hb1⟩)
    go_ret2
    exact ⟨ret_ib Hf.out.1.symm Hf.out.2.symm, hb1⟩
  · have hf : numI s.data.toList most = 0 ∧ numB s.data.toList most = false := by simp [numI, numB, num?, hh]
    have H := Lib.hid hh
    have Hf := Lib.hid hf
    clear hh hf
    go_enter Tryd.func55, Tryd.ntmps55
    go_wp2_with (go_at_call 41; refine (Tryd.strconv_Atoi_range s (by omega) H.out _ w her (.inr ⟨tr, pr, rfl⟩)).mono ?_; rintro e w1 ⟨N, rfl, hN, hblk, hb1⟩)
    go_ret2
    exact ⟨ret_ib Hf.out.1.symm Hf.out.2.symm, hb1⟩
end Go.Proofs.YtijkahamgnpobaaDoor

namespace Go.Proofs.YtijkahamgnpobaaDoor
open Go.RowKit
attribute [local go_sem ↓] Go.wp_at_zero Go.wp_at_succ

/-- Is a byte a digit of ten? -/
def dig (b : UInt8) : Bool := decide (48 ≤ b.toNat) && decide (b.toNat ≤ 57)
/-- The number of digits. -/
def decN (l : List UInt8) : Nat := l.foldl (fun n b => 10 * n + (b.toNat - 48)) 0
theorem decN_take (l : List UInt8) (k : Nat) (h : k < l.length) : decN (l.take (k + 1)) = 10 * decN (l.take k) + (l[k].toNat - 48) := by
  unfold decN
  rw [List.take_succ_eq_append_getElem h, List.foldl_append]
  rfl
theorem decN_lt : ∀ (k : Nat) (l : List UInt8), l.length = k → (∀ b ∈ l, b.toNat ≤ 57) → decN l < 10 ^ k := by
  intro k
  induction k with
  | zero => intro l h _; have := List.eq_nil_of_length_eq_zero h; subst this; decide
  | succ k ih =>
    intro l h hb
    obtain ⟨r, b, rfl⟩ : ∃ r b, l = r ++ [b] := ⟨l.dropLast, l.getLast (by intro e; subst e; simp at h), (List.dropLast_concat_getLast _).symm⟩
    have hr := ih r (by simp at h; omega) (fun x hx => hb x (by simp [hx]))
    have h57 := hb b (by simp)
    have e : decN (r ++ [b]) = 10 * decN r + (b.toNat - 48) := by simp [decN]
    rw [e, Nat.pow_succ]
    omega
/-- May the text be read at all: one to nine digits, no nought ahead of others? -/
def refOk (l : List UInt8) : Bool := decide (1 ≤ l.length) && (decide (l.length ≤ 9) && (!(decide (1 < l.length) && decide (l.head? = some 48)) && l.all dig))
def refN (l : List UInt8) : Int := if refOk l = true then (decN l : Int) else 0
def refB (l : List UInt8) (most : Int) : Bool := refOk l && decide ((decN l : Int) ≤ most)
theorem ref_no {l : List UInt8} {most : Int} (h : refOk l = false) : refN l = 0 ∧ refB l most = false := by simp [refN, refB, h]
theorem ref_yes {l : List UInt8} {most : Int} (h : refOk l = true) : refN l = decN l ∧ refB l most = decide ((decN l : Int) ≤ most) := by simp [refN, refB, h]
theorem at_byte (s : ByteArray) (j : Nat) (_h : j < s.size) (h2 : j < s.data.toList.length) : s.data.toList[j] = s[j] := by
  rw [Array.getElem_toList]; rfl

set_option maxHeartbeats 1000000 in
set_option maxRecDepth 100000 in
theorem numberR_any (s : ByteArray) (most : Int) (w : World) (hs : s.size ≤ 1000000) :
    Calls Tryd.prog 44 #[.string s, .int .i64 most] w fun e w' => e = .returned (.tuple #[.int .i64 (refN s.data.toList), .bool (refB s.data.toList most)]) ∧ w = w' := by
  have hsl : s.data.toList.length = s.size := by rw [Array.length_toList]; rfl
  by_cases h1 : 1 ≤ s.size
  · by_cases h9 : s.size ≤ 9
    · by_cases hz : 1 < s.size ∧ s[0].toNat = 48
      · have hno : refOk s.data.toList = false := by
          have e0 : s.data.toList.head? = some s[0] := by
            rw [List.head?_eq_getElem?, List.getElem?_eq_getElem (by omega), at_byte s 0 (by omega)]
          have e1 : s[0] = 48 := UInt8.toNat_inj.1 (by rw [hz.2]; rfl)
          rw [e1] at e0
          have e2 : 1 < s.data.toList.length := by omega
          have d2 : decide (1 < s.data.toList.length) = true := by simpa using e2
          have d3 : decide (s.data.toList.head? = some 48) = true := by simpa using e0
          unfold refOk
          rw [d2, d3]
          simp
        have HN := Lib.hid (ref_no (most := most) hno)
        obtain ⟨z1, z2⟩ := hz
        have c1 : (1 : Int) ≤ s.size := by omega
        have c2 : (s.size : Int) ≤ 9 := by omega
        have c3 : (1 : Int) < s.size := by omega
        clear hno hsl
        go_enter Tryd.func44, Tryd.ntmps44
        go_wp2
        go_ret2
        rw [HN.out.1, HN.out.2]
        exact ⟨rfl, rfl⟩
      · have hgood : s.data.toList.all dig = true → refOk s.data.toList = true := by
          intro ha
          have d1 : decide (1 ≤ s.data.toList.length) = true := decide_eq_true (by omega)
          have d2 : decide (s.data.toList.length ≤ 9) = true := decide_eq_true (by omega)
          have d3 : (decide (1 < s.data.toList.length) && decide (s.data.toList.head? = some 48)) = false := by
            rw [Bool.eq_false_iff]
            intro h
            simp only [Bool.and_eq_true, decide_eq_true_eq] at h
            apply hz
            refine ⟨by omega, ?_⟩
            have e0 : s.data.toList.head? = some s[0] := by
              rw [List.head?_eq_getElem?, List.getElem?_eq_getElem (by omega), at_byte s 0 (by omega)]
            rw [e0] at h
            rw [Option.some.inj h.2]; rfl
          unfold refOk
          rw [d1, d2, d3, ha]; rfl
        have Hgood := Lib.hid hgood
        have HSL := Lib.hid hsl
        have c1 : (1 : Int) ≤ s.size := by omega
        have c2 : (s.size : Int) ≤ 9 := by omega
        clear hgood hsl
        by_cases hone : s.size = 1
        · have c3 : ¬ (1 : Int) < s.size := by omega
          clear hz hone
          go_enter Tryd.func44, Tryd.ntmps44
          go_wp2
          go_loop [4, 5, 6, 7] (fun _ _ n i => ∃ k : Nat, k ≤ s.size ∧ i = .int .i64 k ∧ n = .int .i64 ((decN (s.data.toList.take k) : Nat) : Int) ∧ Hid ((s.data.toList.take k).all dig = true)) (fun _ _ _ i => s.size - (intOf i).toNat)
          case atStart => exact ⟨0, Nat.zero_le _, rfl, rfl, rfl⟩
          case round =>
            obtain ⟨k, hk, rfl, rfl, HA⟩ := hrel
            obtain ⟨y, hy⟩ : ∃ y : Nat, y = decN (s.data.toList.take k) := ⟨_, rfl⟩
            have hyb : y < 1000000000 := by
              have h := decN_lt (s.data.toList.take k).length _ rfl (fun b hb => by have := List.all_eq_true.1 HA.out b hb; simp [dig] at this; omega)
              have hl : (s.data.toList.take k).length ≤ 9 := by have := HSL.out; simp; omega
              have := Nat.pow_le_pow_right (show 0 < 10 by decide) hl
              omega
            rw [← hy]
            have Hy := Lib.hid hy
            clear hy
            by_cases hlt : k < s.size
            · have ht := HSL.out
              have hkl : k < s.data.toList.length := by omega
              have hdn := decN_take s.data.toList k hkl
              rw [at_byte s k hlt, ← Hy.out] at hdn
              have hal : (s.data.toList.take (k + 1)).all dig = ((s.data.toList.take k).all dig && dig s[k]) := by
                rw [List.take_succ_eq_append_getElem hkl, List.all_append, at_byte s k hlt]; simp
              have Hdn := Lib.hid hdn
              have Hal := Lib.hid hal
              have hmem : s[k] ∈ s.data.toList := by rw [← at_byte s k hlt hkl]; exact List.getElem_mem hkl
              obtain ⟨c, hc⟩ : ∃ c : Nat, s[k].toNat = c := ⟨_, rfl⟩
              have hcb : c < 256 := by rw [← hc]; exact s[k].toNat_lt
              clear ht hdn hal
              by_cases hd : 48 ≤ c ∧ c ≤ 57
              · obtain ⟨d1, d2⟩ := hd
                clear hmem
                go_wp2
                go_round
                case rel =>
                  refine ⟨k + 1, by omega, by go_num, congrArg (Value.int .i64) ?_, ?_⟩
                  · rw [Hdn.out, hc]; omega
                  · show _ = true
                    rw [Hal.out, HA.out]; simp [dig, hc, d1, d2]
                case measure => simp [intOf]; omega
              · have hno : refOk s.data.toList = false := by
                  have e : s.data.toList.all dig = false := by
                    rw [Bool.eq_false_iff]
                    intro h
                    have := List.all_eq_true.1 h _ hmem
                    simp [dig, hc] at this
                    omega
                  unfold refOk; rw [e]; simp
                have HN := Lib.hid (ref_no (most := most) hno)
                have c9 : (c : Int) < 48 ∨ 57 < (c : Int) := by omega
                clear hno hmem hd
                rcases c9 with c9 | c9
                · go_wp2
                  go_ret2
                  rw [HN.out.1, HN.out.2]
                  exact ⟨rfl, rfl⟩
                · have c8 : ¬ (c : Int) < 48 := by omega
                  go_wp2
                  go_ret2
                  rw [HN.out.1, HN.out.2]
                  exact ⟨rfl, rfl⟩
            · have hk2 : k = s.size := by omega
              subst hk2
              have hfull : s.data.toList.take s.size = s.data.toList := List.take_of_length_le (by have := HSL.out; omega)
              have ha := HA.out
              rw [hfull] at ha
              have hy2 := Hy.out
              rw [hfull] at hy2
              have HOK := Lib.hid (ref_yes (most := most) (Hgood.out ha))
              have Hy2 := Lib.hid hy2
              clear hfull ha hy2
              go_wp2
              go_ret2
              rw [HOK.out.1, HOK.out.2, ← Hy2.out]
              exact ⟨rfl, rfl⟩
        · have c3 : (1 : Int) < s.size := by omega
          obtain ⟨z0, hz0⟩ : ∃ z : Nat, s[0].toNat = z := ⟨_, rfl⟩
          have c4 : ((z0 : Int) == 48) = false := by
            rw [beq_eq_false_iff_ne]; intro h; apply hz; exact ⟨by omega, by omega⟩
          clear hz hone
          go_enter Tryd.func44, Tryd.ntmps44
          go_wp2
          go_loop [4, 5, 6, 7] (fun _ _ n i => ∃ k : Nat, k ≤ s.size ∧ i = .int .i64 k ∧ n = .int .i64 ((decN (s.data.toList.take k) : Nat) : Int) ∧ Hid ((s.data.toList.take k).all dig = true)) (fun _ _ _ i => s.size - (intOf i).toNat)
          case atStart => exact ⟨0, Nat.zero_le _, rfl, rfl, rfl⟩
          case round =>
            obtain ⟨k, hk, rfl, rfl, HA⟩ := hrel
            obtain ⟨y, hy⟩ : ∃ y : Nat, y = decN (s.data.toList.take k) := ⟨_, rfl⟩
            have hyb : y < 1000000000 := by
              have h := decN_lt (s.data.toList.take k).length _ rfl (fun b hb => by have := List.all_eq_true.1 HA.out b hb; simp [dig] at this; omega)
              have hl : (s.data.toList.take k).length ≤ 9 := by have := HSL.out; simp; omega
              have := Nat.pow_le_pow_right (show 0 < 10 by decide) hl
              omega
            rw [← hy]
            have Hy := Lib.hid hy
            clear hy
            by_cases hlt : k < s.size
            · have ht := HSL.out
              have hkl : k < s.data.toList.length := by omega
              have hdn := decN_take s.data.toList k hkl
              rw [at_byte s k hlt, ← Hy.out] at hdn
              have hal : (s.data.toList.take (k + 1)).all dig = ((s.data.toList.take k).all dig && dig s[k]) := by
                rw [List.take_succ_eq_append_getElem hkl, List.all_append, at_byte s k hlt]; simp
              have Hdn := Lib.hid hdn
              have Hal := Lib.hid hal
              have hmem : s[k] ∈ s.data.toList := by rw [← at_byte s k hlt hkl]; exact List.getElem_mem hkl
              obtain ⟨c, hc⟩ : ∃ c : Nat, s[k].toNat = c := ⟨_, rfl⟩
              have hcb : c < 256 := by rw [← hc]; exact s[k].toNat_lt
              clear ht hdn hal
              by_cases hd : 48 ≤ c ∧ c ≤ 57
              · obtain ⟨d1, d2⟩ := hd
                clear hmem
                go_wp2
                go_round
                case rel =>
                  refine ⟨k + 1, by omega, by go_num, congrArg (Value.int .i64) ?_, ?_⟩
                  · rw [Hdn.out, hc]; omega
                  · show _ = true
                    rw [Hal.out, HA.out]; simp [dig, hc, d1, d2]
                case measure => simp [intOf]; omega
              · have hno : refOk s.data.toList = false := by
                  have e : s.data.toList.all dig = false := by
                    rw [Bool.eq_false_iff]
                    intro h
                    have := List.all_eq_true.1 h _ hmem
                    simp [dig, hc] at this
                    omega
                  unfold refOk; rw [e]; simp
                have HN := Lib.hid (ref_no (most := most) hno)
                have c9 : (c : Int) < 48 ∨ 57 < (c : Int) := by omega
                clear hno hmem hd
                rcases c9 with c9 | c9
                · go_wp2
                  go_ret2
                  rw [HN.out.1, HN.out.2]
                  exact ⟨rfl, rfl⟩
                · have c8 : ¬ (c : Int) < 48 := by omega
                  go_wp2
                  go_ret2
                  rw [HN.out.1, HN.out.2]
                  exact ⟨rfl, rfl⟩
            · have hk2 : k = s.size := by omega
              subst hk2
              have hfull : s.data.toList.take s.size = s.data.toList := List.take_of_length_le (by have := HSL.out; omega)
              have ha := HA.out
              rw [hfull] at ha
              have hy2 := Hy.out
              rw [hfull] at hy2
              have HOK := Lib.hid (ref_yes (most := most) (Hgood.out ha))
              have Hy2 := Lib.hid hy2
              clear hfull ha hy2
              go_wp2
              go_ret2
              rw [HOK.out.1, HOK.out.2, ← Hy2.out]
              exact ⟨rfl, rfl⟩
    · have hno : refOk s.data.toList = false := by
        have d : decide (s.data.toList.length ≤ 9) = false := decide_eq_false (by omega)
        unfold refOk; rw [d]; simp
      have HN := Lib.hid (ref_no (most := most) hno)
      have c1 : (1 : Int) ≤ s.size := by omega
      have c2 : (9 : Int) < s.size := by omega
      clear hno hsl
      go_enter Tryd.func44, Tryd.ntmps44
      go_wp2
      go_ret2
      rw [HN.out.1, HN.out.2]
      exact ⟨rfl, rfl⟩
  · have hno : refOk s.data.toList = false := by
      have d : decide (1 ≤ s.data.toList.length) = false := decide_eq_false (by omega)
      unfold refOk; rw [d]; simp
    have HN := Lib.hid (ref_no (most := most) hno)
    have c1 : (s.size : Int) < 1 := by omega
    clear hno hsl
    go_enter Tryd.func44, Tryd.ntmps44
    go_wp2
    go_ret2
    rw [HN.out.1, HN.out.2]
    exact ⟨rfl, rfl⟩
end Go.Proofs.YtijkahamgnpobaaDoor

namespace Go.Proofs.YtijkahamgnpobaaDoor
open Go.RowKit
attribute [local go_sem ↓] Go.wp_at_zero Go.wp_at_succ

/-- What is read of so many parts that are to come, behind those that came to a. -/
def addrF : Nat → Int → List UInt8 → Option Int
  | 0, _, _ => none
  | k + 1, a, l =>
    if numB (Lib.cut l [46]).1 255 = false then none
    else if (Lib.cut l [46]).2.2 = decide (k = 0) then none
    else if k = 0 then some (a * 256 + numI (Lib.cut l [46]).1 255)
    else addrF k (a * 256 + numI (Lib.cut l [46]).1 255) (Lib.cut l [46]).2.1
def addrI (l : List UInt8) : Int := (addrF 4 0 l).getD 0
def addrE (l : List UInt8) : Int := if (addrF 4 0 l).isSome then 0 else 4


theorem numI_bd (l : List UInt8) : 0 ≤ numI l 255 ∧ numI l 255 ≤ 255 := by
  unfold numI num?
  split
  · split <;> simp <;> omega
  · simp

theorem addrF_step (k : Nat) (a : Int) (l : List UInt8) : addrF (k + 1) a l =
    (if numB (Lib.cut l [46]).1 255 = false then none
    else if (Lib.cut l [46]).2.2 = decide (k = 0) then none
    else if k = 0 then some (a * 256 + numI (Lib.cut l [46]).1 255)
    else addrF k (a * 256 + numI (Lib.cut l [46]).1 255) (Lib.cut l [46]).2.1) := rfl
theorem addr_none {l : List UInt8} (h : addrF 4 0 l = none) : addrI l = 0 ∧ addrE l = 4 := by simp [addrI, addrE, h]
theorem addr_some {l : List UInt8} {v : Int} (h : addrF 4 0 l = some v) : addrI l = v ∧ addrE l = 0 := by simp [addrI, addrE, h]

/-- strings.Cut, what it hands back under names. -/
theorem cut_at (s sep p b : ByteArray) (f : Bool) (hp : p.data.toList = (Lib.cut s.data.toList sep.data.toList).1) (hb : b.data.toList = (Lib.cut s.data.toList sep.data.toList).2.1) (hf : f = (Lib.cut s.data.toList sep.data.toList).2.2)
    (hs : s.size ≤ 1000000) (w : World) (g : Gl w) :
    Calls Tryd.prog 39 #[.string s, .string sep] w fun e w' => e = .returned (.tuple #[.string p, .string b, .bool f]) ∧ Below w.heap.size w w' := by
  obtain ⟨m, hm⟩ := g.m
  refine (Tryd.strings_Cut s sep m w (by omega) hm).mono ?_
  rintro e w' ⟨rfl, n, rfl⟩
  refine ⟨?_, below_drewN (Below.refl _ _) _⟩
  rw [← hp, ← hb, ← hf]

theorem shl_or {a n : Int} (h : 0 ≤ a) (h2 : a < 16777216) (h3 : 0 ≤ n) (h4 : n ≤ 255) : bits .or .u32 (a * 256) n = a * 256 + n := by
  rw [u32_or _ _ (by omega) (by omega) h3 (by omega)]
  rw [nat_join 8 _ _ (by omega) (by omega)]
  omega

set_option maxHeartbeats 1000000 in
theorem addrOf_any (s : ByteArray) (hs : s.size ≤ 1000000) (w : World) (g : Gl w) :
    Calls Tryd.prog 54 #[.string s] w fun e w' => e = .returned (.tuple #[.int .u32 (addrI s.data.toList), .int .i64 (addrE s.data.toList)]) ∧ Below w.heap.size w w' := by
  go_enter Tryd.func54, Tryd.ntmps54
  go_wp2
  go_step3
  go_wp2
  go_step3
  go_wp2
  go_loopw [4, 5, 14] (fun a r i wr => ∃ (k : Nat) (x : Int) (t : ByteArray), k ≤ 4 ∧ i = .int .i64 k ∧ a = .int .u32 x ∧ r = .string t ∧ 0 ≤ x ∧ x < 256 ^ k ∧ t.size ≤ 1000000 ∧ Hid (addrF (4 - k) x t.data.toList = addrF 4 0 s.data.toList) ∧ Below w.heap.size w wr) (fun _ _ i _ => 4 - (intOf i).toNat)
  case atStart => exact ⟨0, 0, s, by omega, rfl, rfl, rfl, by omega, by decide, hs, rfl, Below.refl _ _⟩
  case round =>
    obtain ⟨k, x, t, hk, rfl, rfl, rfl, hx1, hx2, ht, HF, hB⟩ := hrel
    have hg := g.below hB
    by_cases hk4 : k < 4
    · obtain ⟨p, hp⟩ : ∃ p : ByteArray, p.data.toList = (Lib.cut t.data.toList [46]).1 := ⟨⟨(Lib.cut t.data.toList [46]).1.toArray⟩, by simp⟩
      obtain ⟨b, hb⟩ : ∃ b : ByteArray, b.data.toList = (Lib.cut t.data.toList [46]).2.1 := ⟨⟨(Lib.cut t.data.toList [46]).2.1.toArray⟩, by simp⟩
      obtain ⟨f, hf⟩ : ∃ f : Bool, f = (Lib.cut t.data.toList [46]).2.2 := ⟨_, rfl⟩
      have hpl : p.size ≤ 1000000 := Wp.cut_left (by rw [hp]) ht
      have hbl : b.size ≤ 1000000 := Wp.cut_right (by rw [hb]) ht
      have hstep := addrF_step (3 - k) x t.data.toList
      have hk1 : 4 - k = (3 - k) + 1 := by omega
      have hdot : ([46] : List UInt8) = (⟨#[46]⟩ : ByteArray).data.toList := rfl
      rw [← hk1, ← hp, ← hb, ← hf] at hstep
      rw [hdot] at hp hb hf
      have hx3 : x < 16777216 := by
        have := Wp.pow256 (k := k) (by omega)
        omega
      have hn := numI_bd p.data.toList
      obtain ⟨hn1, hn2⟩ := hn
      rcases hnum : numB p.data.toList 255 with _ | _
      · have hfin : addrF (4 - k) x t.data.toList = none := by rw [hstep]; simp [hnum]
        have HE := Lib.hid (addr_none (HF.out.symm.trans hfin))
        have Hnum := Lib.hid hnum
        have HP := Lib.hid hp
        have HBb := Lib.hid hb
        have Hff := Lib.hid hf
        clear hstep hnum hp hb hf hfin hk1 hdot HF
        go_wp2_with (first | (go_at_call 39; refine (cut_at _ _ p b f HP.out HBb.out Hff.out ht _ hg).mono ?_; rintro e w1 ⟨rfl, hb1⟩) | (go_at_call 55; refine (number_any p 255 hpl _ (hg.below hb1)).mono ?_; rintro e w2 ⟨rfl, hb2⟩; rw [Hnum.out]))
        all_goals (try rw [Exit.noGoto_ret])
        all_goals go_ret2
        all_goals exact ⟨ret_ii HE.out.1.symm HE.out.2.symm, hB.trans ((hb1.trans (hb2.mono hb1.size)).mono hB.size)⟩
      · by_cases hk3 : k = 3
        · subst hk3
          rcases f with _ | _
          · have hfin : addrF (4 - 3) x t.data.toList = some (x * 256 + numI p.data.toList 255) := by rw [hstep]; simp [hnum]
            have HE := Lib.hid (addr_some (HF.out.symm.trans hfin))
            have Hnum := Lib.hid hnum
            have HP := Lib.hid hp
            have HBb := Lib.hid hb
            have Hff := Lib.hid hf
            clear hstep hnum hp hb hf hfin hk1 hdot HF
            go_wp2_with (first | (go_at_call 39; refine (cut_at _ _ p b false HP.out HBb.out Hff.out ht _ hg).mono ?_; rintro e w1 ⟨rfl, hb1⟩) | (go_at_call 55; refine (number_any p 255 hpl _ (hg.below hb1)).mono ?_; rintro e w2 ⟨rfl, hb2⟩; rw [Hnum.out]))
            all_goals (try rw [Exit.noGoto_ret])
            all_goals go_ret2
            all_goals exact ⟨ret_ii (Eq.trans (shl_or hx1 hx3 hn1 hn2) HE.out.1.symm) HE.out.2.symm, hB.trans ((hb1.trans (hb2.mono hb1.size)).mono hB.size)⟩
          · have hfin : addrF (4 - 3) x t.data.toList = none := by rw [hstep]; simp [hnum]
            have HE := Lib.hid (addr_none (HF.out.symm.trans hfin))
            have Hnum := Lib.hid hnum
            have HP := Lib.hid hp
            have HBb := Lib.hid hb
            have Hff := Lib.hid hf
            clear hstep hnum hp hb hf hfin hk1 hdot HF
            go_wp2_with (first | (go_at_call 39; refine (cut_at _ _ p b true HP.out HBb.out Hff.out ht _ hg).mono ?_; rintro e w1 ⟨rfl, hb1⟩) | (go_at_call 55; refine (number_any p 255 hpl _ (hg.below hb1)).mono ?_; rintro e w2 ⟨rfl, hb2⟩; rw [Hnum.out]))
            all_goals (try rw [Exit.noGoto_ret])
            all_goals go_ret2
            all_goals exact ⟨ret_ii HE.out.1.symm HE.out.2.symm, hB.trans ((hb1.trans (hb2.mono hb1.size)).mono hB.size)⟩
        · have hk3i : ((k : Int) == 3) = false := by rw [beq_eq_false_iff_ne]; omega
          have hk0 : ¬ (3 - k = 0) := by omega
          rcases f with _ | _
          · have hfin : addrF (4 - k) x t.data.toList = none := by rw [hstep]; simp [hnum, hk0]
            have HE := Lib.hid (addr_none (HF.out.symm.trans hfin))
            have Hnum := Lib.hid hnum
            have HP := Lib.hid hp
            have HBb := Lib.hid hb
            have Hff := Lib.hid hf
            clear hstep hnum hp hb hf hfin hk1 hdot HF
            go_wp2_with (first | (go_at_call 39; refine (cut_at _ _ p b false HP.out HBb.out Hff.out ht _ hg).mono ?_; rintro e w1 ⟨rfl, hb1⟩) | (go_at_call 55; refine (number_any p 255 hpl _ (hg.below hb1)).mono ?_; rintro e w2 ⟨rfl, hb2⟩; rw [Hnum.out]))
            all_goals (try rw [Exit.noGoto_ret])
            all_goals go_ret2
            all_goals exact ⟨ret_ii HE.out.1.symm HE.out.2.symm, hB.trans ((hb1.trans (hb2.mono hb1.size)).mono hB.size)⟩
          · have hfin : addrF (4 - (k + 1)) (x * 256 + numI p.data.toList 255) b.data.toList = addrF 4 0 s.data.toList := by
              rw [← HF.out, hstep, show 4 - (k + 1) = 3 - k from by omega]; simp [hnum, hk0]
            have HE := Lib.hid hfin
            have Hnum := Lib.hid hnum
            have HP := Lib.hid hp
            have HBb := Lib.hid hb
            have Hff := Lib.hid hf
            clear hstep hnum hp hb hf hfin hk1 hdot HF
            go_wp2_with (first | (go_at_call 39; refine (cut_at _ _ p b true HP.out HBb.out Hff.out ht _ hg).mono ?_; rintro e w1 ⟨rfl, hb1⟩) | (go_at_call 55; refine (number_any p 255 hpl _ (hg.below hb1)).mono ?_; rintro e w2 ⟨rfl, hb2⟩; rw [Hnum.out]))
            go_roundw
            case rel => exact ⟨k + 1, x * 256 + numI p.data.toList 255, b, by omega, by go_num, by rw [shl_or hx1 hx3 hn1 hn2], rfl, by omega, Wp.pow256_succ hx2 hn2, hbl, HE.out, hB.trans ((hb1.trans (hb2.mono hb1.size)).mono hB.size)⟩
            case measure => simp [intOf]; omega
    · have hk5 : k = 4 := by omega
      subst hk5
      have HE := Lib.hid (addr_none (l := s.data.toList) (HF.out.symm.trans rfl))
      clear HF
      go_wp2
      all_goals (try rw [Exit.noGoto_ret])
      go_ret2
      exact ⟨ret_ii HE.out.1.symm HE.out.2.symm, hB⟩
end Go.Proofs.YtijkahamgnpobaaDoor

namespace Go.Proofs.YtijkahamgnpobaaDoor
open Go.RowKit
attribute [local go_sem ↓] Go.wp_at_zero Go.wp_at_succ

def pfOk (l : List UInt8) : Bool :=
  decide (addrE (Lib.cut l [47]).1 = 0) && (numB (Lib.cut l [47]).2.1 32 && Wp.mayB (addrI (Lib.cut l [47]).1) (numI (Lib.cut l [47]).2.1 32))
def pfA (l : List UInt8) : Int := if pfOk l = true then addrI (Lib.cut l [47]).1 else 0
def pfN (l : List UInt8) : Int := if pfOk l = true then numI (Lib.cut l [47]).2.1 32 else 0
def pfE (l : List UInt8) : Int := if pfOk l = true then 0 else 4
theorem pf_no {l : List UInt8} (h : pfOk l = false) : pfA l = 0 ∧ pfN l = 0 ∧ pfE l = 4 := by simp [pfA, pfN, pfE, h]
theorem pf_yes {l : List UInt8} (h : pfOk l = true) : pfA l = addrI (Lib.cut l [47]).1 ∧ pfN l = numI (Lib.cut l [47]).2.1 32 ∧ pfE l = 0 := by simp [pfA, pfN, pfE, h]
theorem addrE_or (l : List UInt8) : addrE l = 0 ∨ addrE l = 4 := by unfold addrE; split <;> simp
theorem ret_pf {a a' n n' e e' : Int} (h : a = a') (h2 : n = n') (h3 : e = e') : Ending.returned (.tuple #[.agg #[.int .u32 a, .int .i64 n], .int .i64 e]) = .returned (.tuple #[.agg #[.int .u32 a', .int .i64 n'], .int .i64 e']) := by rw [h, h2, h3]

theorem below3 {a b c d : World} (h : Below a.heap.size a b) (h2 : Below b.heap.size b c) (h3 : Below c.heap.size c d) : Below a.heap.size a d :=
  h.trans ((h2.trans (h3.mono h2.size)).mono h.size)

/-- The result's own block, behind the calls and one block more. -/
theorem res_cells {w w3 : World} (h : Below (w.alloc (.cells #[.int .u32 0, .int .i64 0] 25)).heap.size (w.alloc (.cells #[.int .u32 0, .int .i64 0] 25)) w3) :
    (∀ o, (w3.alloc o).cell? ⟨w.heap.size, 0, none⟩ = some (.int .u32 0)) ∧ (∀ o, (w3.alloc o).cell? ⟨w.heap.size, 1, none⟩ = some (.int .i64 0)) ∧
    (∀ o, (w3.alloc o).frozen? ⟨w.heap.size, 0, none⟩ = false) ∧ (∀ o, (w3.alloc o).frozen? ⟨w.heap.size, 1, none⟩ = false) := by
  have hz := h.size
  simp only [World.size_alloc] at hz
  have hA := fun o => (Below.refl w3.heap.size w3).alloc (Nat.le_refl _) o
  refine ⟨fun o => ?_, fun o => ?_, fun o => ?_, fun o => ?_⟩
  · exact cell_later (hA o) (cell_later h (by simp))
  · exact cell_later (hA o) (cell_later h (by simp))
  · rw [(hA o).frozen (p := ⟨w.heap.size, 0, none⟩) (by show w.heap.size < _; omega), h.frozen (p := ⟨w.heap.size, 0, none⟩) (by simp)]; simp
  · rw [(hA o).frozen (p := ⟨w.heap.size, 1, none⟩) (by show w.heap.size < _; omega), h.frozen (p := ⟨w.heap.size, 1, none⟩) (by simp)]; simp

theorem res_cells4 {w w3 w4 : World} {a n : Int} (h : Below (w3.alloc (.cells #[.int .u32 a, .int .i64 n] 25)).heap.size (w3.alloc (.cells #[.int .u32 a, .int .i64 n] 25)) w4)
    (hz : w.heap.size + 1 ≤ w3.heap.size) (hc0 : ∀ o, (w3.alloc o).cell? ⟨w.heap.size, 0, none⟩ = some (.int .u32 0)) (hc1 : ∀ o, (w3.alloc o).cell? ⟨w.heap.size, 1, none⟩ = some (.int .i64 0))
    (hf0 : ∀ o, (w3.alloc o).frozen? ⟨w.heap.size, 0, none⟩ = false) (hf1 : ∀ o, (w3.alloc o).frozen? ⟨w.heap.size, 1, none⟩ = false) :
    w4.cell? ⟨w.heap.size, 0, none⟩ = some (.int .u32 0) ∧ w4.cell? ⟨w.heap.size, 1, none⟩ = some (.int .i64 0) ∧ w4.frozen? ⟨w.heap.size, 0, none⟩ = false ∧ w4.frozen? ⟨w.heap.size, 1, none⟩ = false ∧
    w4.cell? ⟨w3.heap.size, 0, none⟩ = some (.int .u32 a) ∧ w4.cell? ⟨w3.heap.size, 1, none⟩ = some (.int .i64 n) ∧ w3.heap.size + 1 ≤ w4.heap.size := by
  refine ⟨cell_later h (hc0 _), cell_later h (hc1 _), ?_, ?_, cell_later h (by simp), cell_later h (by simp), ?_⟩
  · rw [h.frozen (p := ⟨w.heap.size, 0, none⟩) (by show w.heap.size < _; simp; omega)]; exact hf0 _
  · rw [h.frozen (p := ⟨w.heap.size, 1, none⟩) (by show w.heap.size < _; simp; omega)]; exact hf1 _
  · have := h.size; simp only [World.size_alloc] at this; exact this
theorem below_end {w w3 w4 : World} {o o2 : Obj} (h : Below (w.alloc o).heap.size (w.alloc o) w3) (hz : w.heap.size + 1 ≤ w3.heap.size) (h4 : Below (w3.alloc o2).heap.size (w3.alloc o2) w4) : Below w.heap.size w w4 :=
  ((((Below.refl _ _).alloc (Nat.le_refl _) _).trans (h.mono (by simp))).alloc (by omega) _).trans (h4.mono (by simp; omega))

set_option maxHeartbeats 1000000 in
theorem prefixOf_any (s : ByteArray) (hs : s.size ≤ 1000000) (w : World) (g : Gl w) :
    Calls Tryd.prog 40 #[.string s] w fun e w' => e = .returned (.tuple #[.agg #[.int .u32 (pfA s.data.toList), .int .i64 (pfN s.data.toList)], .int .i64 (pfE s.data.toList)]) ∧ Below w.heap.size w w' := by
  obtain ⟨p, hp⟩ : ∃ p : ByteArray, p.data.toList = (Lib.cut s.data.toList [47]).1 := ⟨⟨(Lib.cut s.data.toList [47]).1.toArray⟩, by simp⟩
  obtain ⟨b, hb⟩ : ∃ b : ByteArray, b.data.toList = (Lib.cut s.data.toList [47]).2.1 := ⟨⟨(Lib.cut s.data.toList [47]).2.1.toArray⟩, by simp⟩
  obtain ⟨f, hf⟩ : ∃ f : Bool, f = (Lib.cut s.data.toList [47]).2.2 := ⟨_, rfl⟩
  have hpl : p.size ≤ 1000000 := Wp.cut_left (by rw [hp]) hs
  have hbl : b.size ≤ 1000000 := Wp.cut_right (by rw [hb]) hs
  have hdot : ([47] : List UInt8) = (⟨#[47]⟩ : ByteArray).data.toList := rfl
  have hok : pfOk s.data.toList = (decide (addrE p.data.toList = 0) && (numB b.data.toList 32 && Wp.mayB (addrI p.data.toList) (numI b.data.toList 32))) := by
    rw [hp, hb]; rfl
  have hy : pfOk s.data.toList = true → pfA s.data.toList = addrI p.data.toList ∧ pfN s.data.toList = numI b.data.toList 32 ∧ pfE s.data.toList = 0 := by
    intro h; rw [hp, hb]; exact pf_yes h
  rw [hdot] at hp hb hf
  have Hp := Lib.hid hp
  have Hb := Lib.hid hb
  have Hf := Lib.hid hf
  clear hp hb hf hdot
  have hE := addrE_or p.data.toList
  rcases hE with hE | hE
  · rcases hN : numB b.data.toList 32 with _ | _
    · have HY := Lib.hid (pf_no (by rw [hok, hE, hN]; rfl))
      have HE := Lib.hid hE
      have HN := Lib.hid hN
      clear hok hy hE hN
      go_enter Tryd.func40, Tryd.ntmps40
      go_wp2_with (first | (go_at_call 39; refine (cut_at _ _ p b f Hp.out Hb.out Hf.out hs _ (g.alloc _)).mono ?_; rintro e w1 ⟨rfl, hb1⟩) | (go_at_call 54; refine (addrOf_any p hpl _ ((g.alloc _).below hb1)).mono ?_; rintro e w2 ⟨rfl, hb2⟩; rw [HE.out]) | (go_at_call 55; refine (number_any b 32 hbl _ (((g.alloc _).below hb1).below hb2)).mono ?_; rintro e w3 ⟨rfl, hb3⟩; rw [HN.out]; have hB := Lib.hid (below3 hb1 hb2 hb3); have hz := hB.out.size; simp only [World.size_alloc] at hz; obtain ⟨hc0, hc1, hf0, hf1⟩ := res_cells hB.out))
      refine bodyPost_ret (v := .tuple #[.agg #[.int .u32 0, .int .i64 0], .int .i64 4]) (by simp [results, Tryd.results40, go_sem, hc0, hc1]) rfl ?_
      refine ⟨ret_pf HY.out.1.symm HY.out.2.1.symm HY.out.2.2.symm, ?_⟩
      exact ((((((Below.refl _ _).alloc (Nat.le_refl _) _).trans (hB.out.mono (by simp))).alloc (by omega) _).setCell (Nat.le_refl _) _).setCell (Nat.le_refl _) _)
    · rcases hM : Wp.mayB (addrI p.data.toList) (numI b.data.toList 32) with _ | _
      · have HY := Lib.hid (pf_no (by rw [hok, hE, hN, hM]; rfl))
        have HE := Lib.hid hE
        have HN := Lib.hid hN
        have HM := Lib.hid hM
        clear hok hy hE hN hM
        go_enter Tryd.func40, Tryd.ntmps40
        go_wp2_with (first | (go_at_call 39; refine (cut_at _ _ p b f Hp.out Hb.out Hf.out hs _ (g.alloc _)).mono ?_; rintro e w1 ⟨rfl, hb1⟩) | (go_at_call 54; refine (addrOf_any p hpl _ ((g.alloc _).below hb1)).mono ?_; rintro e w2 ⟨rfl, hb2⟩; rw [HE.out]) | (go_at_call 55; refine (number_any b 32 hbl _ (((g.alloc _).below hb1).below hb2)).mono ?_; rintro e w3 ⟨rfl, hb3⟩; rw [HN.out]; have hB := Lib.hid (below3 hb1 hb2 hb3); have hz := hB.out.size; simp only [World.size_alloc] at hz; obtain ⟨hc0, hc1, hf0, hf1⟩ := res_cells hB.out) | (go_at_call 30; refine (mayW_any _ _ _).mono ?_; rintro e w4 ⟨rfl, hb4⟩; rw [HM.out]; have HB4 := Lib.hid hb4; obtain ⟨h40, h41, h42, h43, h44, h45, hz4⟩ := res_cells4 hb4 hz hc0 hc1 hf0 hf1; clear hb4))
        refine bodyPost_ret (v := .tuple #[.agg #[.int .u32 0, .int .i64 0], .int .i64 4]) (by simp [results, Tryd.results40, go_sem, h40, h41]) rfl ?_
        refine ⟨ret_pf HY.out.1.symm HY.out.2.1.symm HY.out.2.2.symm, ?_⟩
        exact ((below_end hB.out hz HB4.out).setCell (Nat.le_refl _) _).setCell (Nat.le_refl _) _
      · have HY := Lib.hid (hy (by rw [hok, hE, hN, hM]; rfl))
        have HE := Lib.hid hE
        have HN := Lib.hid hN
        have HM := Lib.hid hM
        clear hok hy hE hN hM
        go_enter Tryd.func40, Tryd.ntmps40
        go_wp2_with (first | (go_at_call 39; refine (cut_at _ _ p b f Hp.out Hb.out Hf.out hs _ (g.alloc _)).mono ?_; rintro e w1 ⟨rfl, hb1⟩) | (go_at_call 54; refine (addrOf_any p hpl _ ((g.alloc _).below hb1)).mono ?_; rintro e w2 ⟨rfl, hb2⟩; rw [HE.out]) | (go_at_call 55; refine (number_any b 32 hbl _ (((g.alloc _).below hb1).below hb2)).mono ?_; rintro e w3 ⟨rfl, hb3⟩; rw [HN.out]; have hB := Lib.hid (below3 hb1 hb2 hb3); have hz := hB.out.size; simp only [World.size_alloc] at hz; obtain ⟨hc0, hc1, hf0, hf1⟩ := res_cells hB.out) | (go_at_call 30; refine (mayW_any _ _ _).mono ?_; rintro e w4 ⟨rfl, hb4⟩; rw [HM.out]; have HB4 := Lib.hid hb4; obtain ⟨h40, h41, h42, h43, h44, h45, hz4⟩ := res_cells4 hb4 hz hc0 hc1 hf0 hf1; clear hb4))
        refine bodyPost_ret (v := .tuple #[.agg #[.int .u32 (addrI p.data.toList), .int .i64 (numI b.data.toList 32)], .int .i64 0]) (by simp [results, Tryd.results40, go_sem, h40, h41]) rfl ?_
        refine ⟨ret_pf HY.out.1.symm HY.out.2.1.symm HY.out.2.2.symm, ?_⟩
        exact ((below_end hB.out hz HB4.out).setCell (Nat.le_refl _) _).setCell (Nat.le_refl _) _
  · have HY := Lib.hid (pf_no (by rw [hok, hE]; rfl))
    have HE := Lib.hid hE
    clear hok hy hE
    go_enter Tryd.func40, Tryd.ntmps40
    go_wp2_with (first | (go_at_call 39; refine (cut_at _ _ p b f Hp.out Hb.out Hf.out hs _ (g.alloc _)).mono ?_; rintro e w1 ⟨rfl, hb1⟩) | (go_at_call 54; refine (addrOf_any p hpl _ ((g.alloc _).below hb1)).mono ?_; rintro e w2 ⟨rfl, hb2⟩; rw [HE.out]) | (go_at_call 55; refine (number_any b 32 hbl _ (((g.alloc _).below hb1).below hb2)).mono ?_; rintro e w3 ⟨rfl, hb3⟩; have hB := Lib.hid (below3 hb1 hb2 hb3); have hz := hB.out.size; simp only [World.size_alloc] at hz; obtain ⟨hc0, hc1, hf0, hf1⟩ := res_cells hB.out))
    refine bodyPost_ret (v := .tuple #[.agg #[.int .u32 0, .int .i64 0], .int .i64 4]) (by simp [results, Tryd.results40, go_sem, hc0, hc1]) rfl ?_
    refine ⟨ret_pf HY.out.1.symm HY.out.2.1.symm HY.out.2.2.symm, ?_⟩
    exact ((((((Below.refl _ _).alloc (Nat.le_refl _) _).trans (hB.out.mono (by simp))).alloc (by omega) _).setCell (Nat.le_refl _) _).setCell (Nat.le_refl _) _)
end Go.Proofs.YtijkahamgnpobaaDoor

namespace Go.Proofs.YtijkahamgnpobaaDoor
open Go.RowKit
attribute [local go_sem ↓] Go.wp_at_zero Go.wp_at_succ

/-- The byte of an address behind which there are j. -/
def bt (a : Int) (j : Nat) : Int := a / 2 ^ (8 * j) % 256
def btS (a : Int) (j : Nat) : ByteArray := ⟨(Lib.itoa (bt a j)).toArray⟩
def addrT (a : Int) : List UInt8 := Lib.join [Lib.itoa (bt a 3), Lib.itoa (bt a 2), Lib.itoa (bt a 1), Lib.itoa (bt a 0)] [46]

theorem bt_bd (a : Int) (j : Nat) : 0 ≤ bt a j ∧ bt a j ≤ 255 := by unfold bt; omega

theorem itoa_len {n : Int} (h : 0 ≤ n) (h2 : n ≤ 255) : (Lib.itoa n).length ≤ 3 := by
  obtain ⟨m, rfl⟩ := Int.eq_ofNat_of_zero_le h
  unfold Lib.itoa
  rw [if_neg (by omega), Int.toNat_natCast]
  by_cases h1 : m < 10
  · rw [Lib.decDigits_one h1]; simp
  · by_cases h3 : m < 100
    · rw [Lib.decDigits_two h1 h3]; simp
    · rw [Lib.decDigits, dif_neg h1]
      by_cases h4 : m / 10 < 10
      · omega
      · rw [Lib.decDigits_two h4 (by omega)]; simp

theorem addrT_len (a : Int) : (addrT a).length ≤ 15 := by
  have h3 := itoa_len (bt_bd a 3).1 (bt_bd a 3).2
  have h2 := itoa_len (bt_bd a 2).1 (bt_bd a 2).2
  have h1 := itoa_len (bt_bd a 1).1 (bt_bd a 1).2
  have h0 := itoa_len (bt_bd a 0).1 (bt_bd a 0).2
  unfold addrT
  rw [Lib.join_cons]
  simp [Lib.joinTail]
  omega

theorem and255 {a : Int} (h : 0 ≤ a) (h2 : a < 4294967296) : bits .and .u32 a 255 = a % 256 := by
  rw [u32_and a 255 h h2 (by omega) (by omega)]
  have : (255 : Int).toNat = 255 := rfl
  rw [this, Nat.and_two_pow_sub_one_eq_mod a.toNat 8]
  omega

theorem byte_val {x : Int} (h : 0 ≤ x) (h2 : x < 4294967296) : wrap64 (bits .and .u32 x 255) = x % 256 := by
  rw [and255 h h2]; exact IntWalk.wrap64_in _ ⟨by omega, by omega⟩

theorem join4 (x0 x1 x2 x3 : ByteArray) (bk : Nat) (w : World) (hbk : bk < w.heap.size) (c0 : w.cell? ⟨bk, 0, none⟩ = some (.string x0)) (c1 : w.cell? ⟨bk, 1, none⟩ = some (.string x1))
    (c2 : w.cell? ⟨bk, 2, none⟩ = some (.string x2)) (c3 : w.cell? ⟨bk, 3, none⟩ = some (.string x3)) (hl : (Lib.join [x0.data.toList, x1.data.toList, x2.data.toList, x3.data.toList] [46]).length ≤ 1000) :
    Calls Tryd.prog 61 #[.slice (some ⟨bk, 0, none⟩) 4 4, .string ⟨#[46]⟩] w fun e w' => e = .returned (.string ⟨(Lib.join [x0.data.toList, x1.data.toList, x2.data.toList, x3.data.toList] [46]).toArray⟩) ∧ Below w.heap.size w w' := by
  refine Tryd.strings_Join bk 0 4 [x0, x1, x2, x3] ⟨#[46]⟩ w ?_ hbk (by simp) (by simp) (by simp only [List.map_cons, List.map_nil]; omega)
  intro j x hx
  match j, hx with
  | 0, hx => simp at hx; subst hx; exact c0
  | 1, hx => simp at hx; subst hx; exact c1
  | 2, hx => simp at hx; subst hx; exact c2
  | 3, hx => simp at hx; subst hx; exact c3

set_option maxHeartbeats 1000000 in
theorem addrText_any (a : Int) (ha : 0 ≤ a) (ha2 : a < 4294967296) (w : World) (g : Gl w) :
    Calls Tryd.prog 51 #[.int .u32 a] w fun e w' => e = .returned (.string ⟨(addrT a).toArray⟩) ∧ Below w.heap.size w w' := by
  go_enter Tryd.func51, Tryd.ntmps51
  go_wp2
  go_loopw [5] (fun i wr => ∃ (k : Nat) (x0 x1 x2 x3 : ByteArray), k ≤ 4 ∧ i = .int .i64 k ∧
    wr.cell? ⟨w.heap.size, 0, none⟩ = some (.string x0) ∧ wr.cell? ⟨w.heap.size, 1, none⟩ = some (.string x1) ∧ wr.cell? ⟨w.heap.size, 2, none⟩ = some (.string x2) ∧ wr.cell? ⟨w.heap.size, 3, none⟩ = some (.string x3) ∧
    wr.frozen? ⟨w.heap.size, 0, none⟩ = false ∧ wr.frozen? ⟨w.heap.size, 1, none⟩ = false ∧ wr.frozen? ⟨w.heap.size, 2, none⟩ = false ∧ wr.frozen? ⟨w.heap.size, 3, none⟩ = false ∧
    Hid ((0 < k → x3 = btS a 0) ∧ (1 < k → x2 = btS a 1) ∧ (2 < k → x1 = btS a 2) ∧ (3 < k → x0 = btS a 3)) ∧ w.heap.size < wr.heap.size ∧ Below w.heap.size w wr) (fun i _ => 4 - (intOf i).toNat)
  case atStart =>
    refine ⟨0, ⟨#[]⟩, ⟨#[]⟩, ⟨#[]⟩, ⟨#[]⟩, by omega, rfl, ?_, ?_, ?_, ?_, ?_, ?_, ?_, ?_, ?_, ?_, ?_⟩
    all_goals first | (simp; done) | (go_grown; done) | skip
    all_goals exact ⟨fun h => absurd h (by omega), fun h => absurd h (by omega), fun h => absurd h (by omega), fun h => absurd h (by omega)⟩
  case round =>
    obtain ⟨k, x0, x1, x2, x3, hk, rfl, c0, c1, c2, c3, f0, f1, f2, f3, HX, hz, hB⟩ := hrel
    have hg := g.below hB
    by_cases hk0 : k = 0
    · subst hk0
      go_wp2_with (go_at_call 38; refine (itoa_at _ (btS a 0) ?_ ?_ ?_ _ hg).mono ?_; (focus (rw [byte_val (by omega) (by omega)]; simp [btS, bt])); (focus (rw [byte_val (by omega) (by omega)]; omega)); (focus (rw [byte_val (by omega) (by omega)]; omega)); rintro e w1 ⟨rfl, hb1⟩; have d0 := cell_later hb1 c0; have d1 := cell_later hb1 c1; have d2 := cell_later hb1 c2; have d3 := cell_later hb1 c3; have e0 := (hb1.frozen (p := ⟨w.heap.size, 0, none⟩) hz).trans f0; have e1 := (hb1.frozen (p := ⟨w.heap.size, 1, none⟩) hz).trans f1; have e2 := (hb1.frozen (p := ⟨w.heap.size, 2, none⟩) hz).trans f2; have e3 := (hb1.frozen (p := ⟨w.heap.size, 3, none⟩) hz).trans f3; have hz1 := Nat.lt_of_lt_of_le hz hb1.size)
      go_roundw
      case rel =>
        refine ⟨1, x0, x1, x2, (btS a 0), by omega, by go_num, ?_, ?_, ?_, ?_, ?_, ?_, ?_, ?_, ⟨fun _ => rfl, fun h => absurd h (by omega), fun h => absurd h (by omega), fun h => absurd h (by omega)⟩, ?_, (hB.trans (hb1.mono hB.size)).setCell (Nat.le_refl _) _⟩
        all_goals simp [go_sem, d0, d1, d2, d3, e0, e1, e2, e3, hz1]
      case measure => simp [intOf]
    by_cases hk1 : k = 1
    · subst hk1
      go_wp2_with (go_at_call 38; refine (itoa_at _ (btS a 1) ?_ ?_ ?_ _ hg).mono ?_; (focus (rw [byte_val (by omega) (by omega)]; simp [btS, bt])); (focus (rw [byte_val (by omega) (by omega)]; omega)); (focus (rw [byte_val (by omega) (by omega)]; omega)); rintro e w1 ⟨rfl, hb1⟩; have d0 := cell_later hb1 c0; have d1 := cell_later hb1 c1; have d2 := cell_later hb1 c2; have d3 := cell_later hb1 c3; have e0 := (hb1.frozen (p := ⟨w.heap.size, 0, none⟩) hz).trans f0; have e1 := (hb1.frozen (p := ⟨w.heap.size, 1, none⟩) hz).trans f1; have e2 := (hb1.frozen (p := ⟨w.heap.size, 2, none⟩) hz).trans f2; have e3 := (hb1.frozen (p := ⟨w.heap.size, 3, none⟩) hz).trans f3; have hz1 := Nat.lt_of_lt_of_le hz hb1.size)
      go_roundw
      case rel =>
        refine ⟨2, x0, x1, (btS a 1), x3, by omega, by go_num, ?_, ?_, ?_, ?_, ?_, ?_, ?_, ?_, ⟨fun _ => HX.out.1 (by omega), fun _ => rfl, fun h => absurd h (by omega), fun h => absurd h (by omega)⟩, ?_, (hB.trans (hb1.mono hB.size)).setCell (Nat.le_refl _) _⟩
        all_goals simp [go_sem, d0, d1, d2, d3, e0, e1, e2, e3, hz1]
      case measure => simp [intOf]
    by_cases hk2 : k = 2
    · subst hk2
      go_wp2_with (go_at_call 38; refine (itoa_at _ (btS a 2) ?_ ?_ ?_ _ hg).mono ?_; (focus (rw [byte_val (by omega) (by omega)]; simp [btS, bt])); (focus (rw [byte_val (by omega) (by omega)]; omega)); (focus (rw [byte_val (by omega) (by omega)]; omega)); rintro e w1 ⟨rfl, hb1⟩; have d0 := cell_later hb1 c0; have d1 := cell_later hb1 c1; have d2 := cell_later hb1 c2; have d3 := cell_later hb1 c3; have e0 := (hb1.frozen (p := ⟨w.heap.size, 0, none⟩) hz).trans f0; have e1 := (hb1.frozen (p := ⟨w.heap.size, 1, none⟩) hz).trans f1; have e2 := (hb1.frozen (p := ⟨w.heap.size, 2, none⟩) hz).trans f2; have e3 := (hb1.frozen (p := ⟨w.heap.size, 3, none⟩) hz).trans f3; have hz1 := Nat.lt_of_lt_of_le hz hb1.size)
      go_roundw
      case rel =>
        refine ⟨3, x0, (btS a 2), x2, x3, by omega, by go_num, ?_, ?_, ?_, ?_, ?_, ?_, ?_, ?_, ⟨fun _ => HX.out.1 (by omega), fun _ => HX.out.2.1 (by omega), fun _ => rfl, fun h => absurd h (by omega)⟩, ?_, (hB.trans (hb1.mono hB.size)).setCell (Nat.le_refl _) _⟩
        all_goals simp [go_sem, d0, d1, d2, d3, e0, e1, e2, e3, hz1]
      case measure => simp [intOf]
    by_cases hk3 : k = 3
    · subst hk3
      go_wp2_with (go_at_call 38; refine (itoa_at _ (btS a 3) ?_ ?_ ?_ _ hg).mono ?_; (focus (rw [byte_val (by omega) (by omega)]; simp [btS, bt])); (focus (rw [byte_val (by omega) (by omega)]; omega)); (focus (rw [byte_val (by omega) (by omega)]; omega)); rintro e w1 ⟨rfl, hb1⟩; have d0 := cell_later hb1 c0; have d1 := cell_later hb1 c1; have d2 := cell_later hb1 c2; have d3 := cell_later hb1 c3; have e0 := (hb1.frozen (p := ⟨w.heap.size, 0, none⟩) hz).trans f0; have e1 := (hb1.frozen (p := ⟨w.heap.size, 1, none⟩) hz).trans f1; have e2 := (hb1.frozen (p := ⟨w.heap.size, 2, none⟩) hz).trans f2; have e3 := (hb1.frozen (p := ⟨w.heap.size, 3, none⟩) hz).trans f3; have hz1 := Nat.lt_of_lt_of_le hz hb1.size)
      go_roundw
      case rel =>
        refine ⟨4, (btS a 3), x1, x2, x3, by omega, by go_num, ?_, ?_, ?_, ?_, ?_, ?_, ?_, ?_, ⟨fun _ => HX.out.1 (by omega), fun _ => HX.out.2.1 (by omega), fun _ => HX.out.2.2.1 (by omega), fun _ => rfl⟩, ?_, (hB.trans (hb1.mono hB.size)).setCell (Nat.le_refl _) _⟩
        all_goals simp [go_sem, d0, d1, d2, d3, e0, e1, e2, e3, hz1]
      case measure => simp [intOf]
    have hk4 : k = 4 := by omega
    subst hk4
    have hj := join4 x0 x1 x2 x3 w.heap.size wr hz c0 c1 c2 c3 (by rw [HX.out.1 (by omega), HX.out.2.1 (by omega), HX.out.2.2.1 (by omega), HX.out.2.2.2 (by omega)]; have := addrT_len a; show (addrT a).length ≤ _; omega)
    have he : Lib.join [x0.data.toList, x1.data.toList, x2.data.toList, x3.data.toList] [46] = addrT a := by
      rw [HX.out.1 (by omega), HX.out.2.1 (by omega), HX.out.2.2.1 (by omega), HX.out.2.2.2 (by omega)]; rfl
    rw [he] at hj
    have Hj := Lib.hid hj
    clear hj he
    go_wp2_with (go_at_call 61; refine Hj.out.mono ?_; rintro e w1 ⟨rfl, hb1⟩)
    go_ret
    exact ⟨rfl, hB.trans (hb1.mono hB.size)⟩
end Go.Proofs.YtijkahamgnpobaaDoor

namespace Go.Proofs.YtijkahamgnpobaaDoor
open Go.RowKit

def bv (l : List UInt8) : List Value := l.map fun b => .int .u8 (b.toNat : Int)

/-- The value reads as these bytes. -/
def Bytes (w : World) (v : Value) (l : List UInt8) : Prop :=
  (l = [] ∧ ∃ a c, v = .slice a 0 c ∧ (a = none → c = 0)) ∨
  ∃ b o c, v = .slice (some ⟨b, o, none⟩) l.length c ∧ b < w.heap.size ∧ l.length ≤ c ∧ ∀ j x, l[j]? = some x → w.cell? ⟨b, o + j, none⟩ = some (.int .u8 (x.toNat : Int))

theorem Bytes.later {w w' : World} {v : Value} {l : List UInt8} (h : Bytes w v l) (hb : Below w.heap.size w w') : Bytes w' v l := by
  rcases h with h | ⟨b, o, c, h1, h2, hp, h3⟩
  · exact .inl h
  · exact .inr ⟨b, o, c, h1, Nat.lt_of_lt_of_le h2 hb.size, hp, fun j x hx => cell_later hb (h3 j x hx)⟩

theorem cell_later' {w wr : World} {B : Nat} {b o : Nat} {v : Value} (h : Below B w wr) (hb : b < B) (hc : w.cell? ⟨b, o, none⟩ = some v) : wr.cell? ⟨b, o, none⟩ = some v :=
  (h.cell (p := ⟨b, o, none⟩) hb).trans hc

theorem own_ne {w : World} {B : Nat} {e : TypeId} {size n : Nat} {v : Value} {xs : List Value} {b : Nat} (h : w.ownsRow B e size v n xs) (hb : b < B) : some b ≠ v.ownBlock := by
  rcases h.2 with ⟨rfl, _⟩ | ⟨g, cap, cur, rfl, hg, _⟩
  · simp [Value.ownBlock]
  · simp [Value.ownBlock]; omega

theorem Bytes.form {w : World} {v : Value} {l : List UInt8} (h : Bytes w v l) : ∃ a c, v = .slice a l.length c := by
  rcases h with ⟨rfl, a, c, rfl, _⟩ | ⟨b, o, c, rfl, _, _⟩
  · exact ⟨a, c, rfl⟩
  · exact ⟨_, c, rfl⟩

theorem Bytes.nil (w : World) (a : Option Addr) (c : Nat) (h : a = none → c = 0 := by intros; first | rfl | contradiction | simp_all) : Bytes w (.slice a 0 c) [] := .inl ⟨rfl, a, c, rfl, h⟩
/-- Without an address there is nothing. -/
theorem Bytes.noaddr {w : World} {n c : Nat} {l : List UInt8} (h : Bytes w (.slice none n c) l) : n = 0 ∧ c = 0 ∧ l = [] := by
  rcases h with ⟨rfl, a, c', h1, h2⟩ | ⟨b, o, c', h1, _, _⟩
  · simp only [Value.slice.injEq] at h1
    obtain ⟨rfl, rfl, rfl⟩ := h1
    exact ⟨rfl, h2 rfl, rfl⟩
  · simp at h1

theorem Bytes.of_own {w : World} {base : Nat} {e : TypeId} {v : Value} {n : Nat} {l : List UInt8} (h : w.ownsRow base e 1 v n (bv l)) : Bytes w v l := by
  obtain ⟨hl, h0 | ⟨g, cap, cur, rfl, hb, hg, hn, hm, hc, ht⟩⟩ := h
  · obtain ⟨rfl, rfl⟩ := h0
    simp [bv] at hl
    subst hl
    exact Bytes.nil _ _ _
  · have hln : l.length = n := by simpa [bv] using hl
    subst hln
    refine .inr ⟨g, 0, cap, rfl, ?_, hn, fun j x hx => ?_⟩
    · rcases Nat.lt_or_ge g w.heap.size with h1 | h1
      · exact h1
      · rw [Array.getElem?_eq_none h1] at hg; cases hg
    · rw [Nat.zero_add, cell_of_row w g j cur e (0, 0) hg]
      have hj : j < l.length := (List.getElem?_eq_some_iff.1 hx).1
      have : (bv l)[j]? = some (.int .u8 (x.toNat : Int)) := by simp [bv, hx]
      rw [← ht, List.getElem?_take, if_pos (by omega)] at this
      simpa using this

theorem push_fold : ∀ (l : List UInt8) (s : ByteArray), (l.map fun b => (b.toNat : Int)).foldl (fun r n => r.push (UInt8.ofNat n.toNat)) s = ⟨(s.data.toList ++ l).toArray⟩
  | [], s => by simp
  | b :: l, s => by
    simp only [List.map_cons, List.foldl_cons]
    rw [push_fold l]
    have : (s.push (UInt8.ofNat ((b.toNat : Int)).toNat)).data.toList = s.data.toList ++ [b] := by
      simp [ByteArray.push]
    rw [this]
    simp

/-- string(b). -/
theorem Bytes.str {P : Program} {w : World} {v : Value} {l : List UInt8} (h : Bytes w v l) {src dst e : TypeId}
    (hs : P.underlying src = some (.slice e)) (he : P.underlying e = some (.int .u8)) (hd : P.underlying dst = some .string) :
    (convert src dst v).run P w = .ok (.string ⟨l.toArray⟩) w := by
  rcases h with ⟨rfl, a, c, rfl, _⟩ | ⟨b, o, c, rfl, hb, _, hc⟩
  · rw [run_convert_bytes_string w src dst e a 0 c hs he hd]
    cases a with
    | none => simp [Conv.bytesToString]; rfl
    | some a =>
      have := run_bytesToString (P := P) w a 0 c [] (by have := run_loadCells_list (P := P) w a [] (by simp); simpa using this)
      rw [this]; rfl
  · rw [run_convert_bytes_string w src dst e _ _ c hs he hd]
    have hl : (loadCells ⟨b, o, none⟩ l.length).run P w = .ok ((l.map fun b => (b.toNat : Int)).map (Value.int .u8)).toArray w := by
      have := run_loadCells_list (P := P) w ⟨b, o, none⟩ (bv l) (fun j u hu => by
        simp only [bv, List.getElem?_map, Option.map_eq_some_iff] at hu
        obtain ⟨x, hx, rfl⟩ := hu
        have := hc j x hx
        cases j with
        | zero => simpa [Addr.add] using this
        | succ j => simpa [Addr.add] using this)
      simpa [bv, List.map_map, Function.comp_def] using this
    rw [run_bytesToString (P := P) w _ _ c _ hl, push_fold]
    rfl

theorem str_eq {a b : List UInt8} (h : a = b) : ((⟨a.toArray⟩ : ByteArray).toList == (⟨b.toArray⟩ : ByteArray).toList) = true := by rw [h]; simp

theorem news_one (w : World) (v : Value) (t : TypeId) : ∀ (j : Nat) (u : Value), [v][j]? = some u → (w.alloc (.cells #[v] t)).cell? ((⟨w.heap.size, 0, none⟩ : Addr).add j) = some u := by
  intro j u hj
  match j, hj with
  | 0, hj => simp at hj; subst hj; simp [Addr.add]
theorem one_int (k : IntKind) (x : Int) : ∀ u ∈ [Value.int k x], u.oneCell' = true := by intro u hu; simp at hu; subst hu; rfl
theorem one_slice (a : Option Addr) (n c : Nat) : ∀ u ∈ [Value.slice a n c], u.oneCell' = true := by intro u hu; simp at hu; subst hu; rfl

theorem own_base {w : World} {B : Nat} {e : TypeId} {size n : Nat} {v : Value} {xs : List Value} (h : w.ownsRow B e size v n xs) {j : Nat} (hj : v.ownBlock = some j) : B ≤ j := by
  rcases h.2 with ⟨rfl, _⟩ | ⟨g, cap, cur, rfl, hg, _⟩
  · simp [Value.ownBlock] at hj
  · simp [Value.ownBlock] at hj; omega

theorem bv_append (a b : List UInt8) : bv (a ++ b) = bv a ++ bv b := by simp [bv]
theorem bv_one (l : List UInt8) : ∀ u ∈ bv l, u.oneCell' = true := by
  intro u hu
  simp only [bv, List.mem_map] at hu
  obtain ⟨b, _, rfl⟩ := hu
  rfl
theorem Bytes.news {w : World} {x : Addr} {n c : Nat} {l : List UInt8} (h : Bytes w (.slice (some x) n c) l) : ∀ (j : Nat) (u : Value), (bv l)[j]? = some u → w.cell? (x.add j) = some u := by
  intro j u hu
  simp only [bv, List.getElem?_map, Option.map_eq_some_iff] at hu
  obtain ⟨y, hy, rfl⟩ := hu
  rcases h with ⟨rfl, _⟩ | ⟨b, o, c', h1, h2, _, h3⟩
  · simp at hy
  · simp only [Value.slice.injEq, Option.some.injEq] at h1
    obtain ⟨rfl, rfl, rfl⟩ := h1
    have := h3 j y hy
    cases j with
    | zero => simpa [Addr.add] using this
    | succ j => simpa [Addr.add] using this
end Go.Proofs.YtijkahamgnpobaaDoor
