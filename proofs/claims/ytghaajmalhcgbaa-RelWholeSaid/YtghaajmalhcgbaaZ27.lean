/- RelWhole: for every input the law's call returns true, and each argument reads behind it as before.
   RelWhole: the whole. -/
import Derived.Test.YtghaajmalhcgbaaZ08
import Derived.Test.YtghaajmalhcgbaaZ09
import Derived.Test.YtghaajmalhcgbaaZ24
import Derived.Test.YtghaajmalhcgbaaZ26

set_option linter.unusedSimpArgs false
set_option linter.unusedVariables false
namespace Go.Proofs.Ytghaajmalhcgbaa
open Go.RowKit
attribute [local go_sem ↓] Go.wp_at_zero Go.wp_at_succ

def P2 (a b : Nat) : Bool → Nat := fun d => if d then b else a
def wn0 : Wn := ⟨fun d => smN (if d then 3 else 2), fun _ => [], fun _ => [], fun _ => []⟩
theorem wn0_inv : WInv wn0 0 := by
  refine ⟨fun d => ⟨(by cases d <;> rfl), Nat.le_refl _, (by simp [wn0]), (by cases d <;> exact Nat.le_refl _), (by cases d <;> exact Nat.le_refl _)⟩, fun d g hg => (by cases hg), fun d => ?_, fun d => Nat.le_refl _⟩
  cases d
  · exact smN_ok 2 (by omega) (by omega)
  · exact smN_ok 3 (by omega) (by omega)
theorem wn0_ag : AgW wn0 := fun d => by cases d <;> simp [wn0, smN]
set_option maxHeartbeats 16000000 in
set_option maxRecDepth 1000000 in
theorem relWhole_walk (v0 : Value) (l : List Wy) (w : World) (hb : Rds 3 Wy.cs w v0 l) (hl : l.length ≤ 9223372036854775807) (hs : ∀ x ∈ l, x.Ok) :
    Calls Try.prog 10 #[v0] w fun e w' => e = .returned (.bool true) ∧ Below w.heap.size w w' := by
  obtain ⟨a0, c0, rfl⟩ := hb.form
  by_cases hbig : 200 < l.length
  · have k0 : decide ((200 : Int) < l.length) = true := by simp; omega
    obtain ⟨n, hn⟩ : ∃ n, n = l.length := ⟨_, rfl⟩
    rw [← hn] at k0 ⊢
    have HK := Lib.hid (knownR w)
    clear hb hl hs hbig hn
    go_enter Try.func10, Try.ntmps10
    go_wp2_with fail
    refine HK.out.mono ?_
    rintro e w2 ⟨rfl, hb⟩
    have HB2 := Lib.hid hb
    clear hb
    go_wp2_with fail
    go_ret
    exact ⟨rfl, HB2.out⟩
  · have k0 : decide ((200 : Int) < l.length) = false := by simp; omega
    have HN := Lib.hid (newM 2 w (by omega) (by omega))
    have HN3 := Lib.hid (fun W => newM 3 W (by omega) (by omega))
    have HL : Hid (l.length ≤ 200) := by show _ ≤ _; omega
    have HV := Lib.hid hb
    have HS := Lib.hid hs
    clear hb hl hs hbig
    obtain ⟨n, hn⟩ : ∃ n, n = l.length := ⟨_, rfl⟩
    rw [← hn] at k0 HV ⊢
    have HNN := Lib.hid hn
    have g0 : (n : Int) ≤ 200 := by have := HL.out; omega
    clear hn
    go_enter Try.func10, Try.ntmps10
    go_wp2_with fail
    refine HN.out.mono ?_
    rintro e w1 ⟨rfl, hP, hb1⟩
    have HP1 := Lib.hid (hP [])
    have HB1 := Lib.hid hb1
    clear hP hb1 HN
    go_wp2_with fail
    refine (HN3.out w1).mono ?_
    rintro e w2 ⟨rfl, hP, hb2⟩
    have HP2 := Lib.hid (hP [])
    have HB2 := Lib.hid hb2
    clear hP hb2 HN3
    obtain ⟨p, hp⟩ : ∃ p, p = w.heap.size := ⟨_, rfl⟩
    obtain ⟨q, hq⟩ : ∃ q, q = w1.heap.size := ⟨_, rfl⟩
    rw [← hp, ← hq]
    have HPQ : Hid (p = w.heap.size ∧ q = w1.heap.size) := ⟨hp, hq⟩
    clear hp hq
    obtain ⟨z, hz⟩ : ∃ z, z = w2.heap.size := ⟨_, rfl⟩
    have HZ0 := Lib.hid hz
    go_wp2_with fail
    rw [← HZ0.out]
    obtain ⟨x1, hx1⟩ : ∃ x1, x1 = w2.alloc (.cells #[.pointer (some ⟨p, 0, none⟩), .pointer (some ⟨q, 0, none⟩)] 87) := ⟨_, rfl⟩
    obtain ⟨x2, hx2⟩ : ∃ x2, x2 = x1.alloc (.cells #[.slice none 0 0, .slice none 0 0] 89) := ⟨_, rfl⟩
    obtain ⟨x3, hx3⟩ : ∃ x3, x3 = x2.alloc (.cells #[.slice none 0 0, .slice none 0 0] 91) := ⟨_, rfl⟩
    obtain ⟨x4, hx4⟩ : ∃ x4, x4 = x3.alloc (.cells #[.slice none 0 0, .slice none 0 0] 91) := ⟨_, rfl⟩
    rw [← hx1, ← hx2, ← hx3, ← hx4]
    have y1 : x1.heap.size = z + 1 := by rw [hx1, hz]; simp
    have y2 : x2.heap.size = z + 2 := by rw [hx2]; simp [y1]
    have y3 : x3.heap.size = z + 3 := by rw [hx3]; simp [y2]
    have b1 : Below w2.heap.size w2 x1 := by rw [hx1]; exact ba1 _ _
    have b2 : Below x1.heap.size x1 x2 := by rw [hx2]; exact ba1 _ _
    have b3 : Below x2.heap.size x2 x3 := by rw [hx3]; exact ba1 _ _
    have b4 : Below x3.heap.size x3 x4 := by rw [hx4]; exact ba1 _ _
    have c1 : BlkAt 87 z [.pointer (some ⟨p, 0, none⟩), .pointer (some ⟨q, 0, none⟩)] x4 := by
      have h : BlkAt 87 w2.heap.size [.pointer (some ⟨p, 0, none⟩), .pointer (some ⟨q, 0, none⟩)] x1 := by rw [hx1]; exact BlkAt.new _ _
      rw [← hz] at h
      exact ((h.later b2).later b3).later b4
    have c2 : BlkAt 89 (z + 1) [.slice none 0 0, .slice none 0 0] x4 := by
      have h : BlkAt 89 x1.heap.size [.slice none 0 0, .slice none 0 0] x2 := by rw [hx2]; exact BlkAt.new _ _
      rw [y1] at h
      exact (h.later b3).later b4
    have c3 : BlkAt 91 (z + 2) [.slice none 0 0, .slice none 0 0] x4 := by
      have h : BlkAt 91 x2.heap.size [.slice none 0 0, .slice none 0 0] x3 := by rw [hx3]; exact BlkAt.new _ _
      rw [y2] at h
      exact h.later b4
    have c4 : BlkAt 91 (z + 3) [.slice none 0 0, .slice none 0 0] x4 := by
      have h : BlkAt 91 x3.heap.size [.slice none 0 0, .slice none 0 0] x4 := by rw [hx4]; exact BlkAt.new _ _
      rw [y3] at h
      exact h
    have hB : Below w2.heap.size w2 x4 := below_of (below_of (below_of b1 b2) b3) b4
    have hP1 : PSm p p [] (smN 2) x4 := by rw [HPQ.out.1]; exact (HP1.out.later HB2.out).later hB
    have hP2 : PSm q q [] (smN 3) x4 := by rw [HPQ.out.2]; exact HP2.out.later hB
    have hpq : p < q := by rw [HPQ.out.1, HPQ.out.2]; exact HP1.out.lt.1
    have hqz : w.heap.size ≤ p ∧ q ≤ z := by
      have := HB2.out.size
      rw [HPQ.out.1, HPQ.out.2, hz]; exact ⟨Nat.le_refl _, this⟩
    have HM : Hid (WM w (P2 p q) z (z + 1) (P2 (z + 2) (z + 3)) (P2 p q) [] (fun _ => .slice none 0 0) (fun _ _ => .slice none 0 0) wn0 x4) := by
      have : WM w (P2 p q) z (z + 1) (P2 (z + 2) (z + 3)) (P2 p q) [] (fun _ => .slice none 0 0) (fun _ _ => .slice none 0 0) wn0 x4 := by
        refine ⟨c1, fun d => ?_, c2, fun d => ⟨[], rfl, OwnS.nil _ _, fun x hx => by cases hx⟩, fun k => ?_, fun k d => ?_, fun k d g h => (by simp [Value.ownBlock] at h), fun g h => (by cases h), fun d => ?_, fun d => ?_, fun d => ?_, fun d g h => (by simp [Value.ownBlock] at h), fun k d k' d' g h => (by simp [Value.ownBlock] at h), ?_, fun d => ?_, ?_, ?_⟩
        · cases d
          · exact hP1
          · exact hP2
        · cases k
          · exact c3
          · exact c4
        · have e : cont wn0 k d = [] := by cases k <;> rfl
          rw [e]; exact World.ownsRow_nil _ _ _ _
        · cases d <;> simp [P2] <;> omega
        · cases d <;> simp [P2] <;> omega
        · cases d <;> simp [P2] <;> omega
        · simp [P2]
        · cases d <;> simp [P2] <;> omega
        · omega
        · exact below_of (below_of HB1.out HB2.out) hB
      exact this
    have HI0 : Hid (WInv wn0 0) := wn0_inv
    have HA0 : Hid (AcT wn0 0 (20 * 0)) := ⟨wn0_inv, wn0_ag, fun _ => Nat.le_refl _⟩
    clear hx1 hx2 hx3 hx4 y1 y2 y3 b1 b2 b3 b4 c1 c2 c3 c4 hB hP1 hP2 hpq hqz hz HP1 HP2 HB1 HB2 HZ0
    have HF0 : Hid (P2 (z + 2) (z + 3) false = z + 2 ∧ P2 (z + 2) (z + 3) true = z + 3) := ⟨rfl, rfl⟩
    obtain ⟨A, hA⟩ : ∃ A, A = P2 (z + 2) (z + 3) := ⟨_, rfl⟩
    rw [← hA] at HM HF0
    rw [show z + 1 + 1 = z + 2 from rfl, show z + 2 + 1 = z + 3 from rfl, ← HF0.out.1, ← HF0.out.2]
    obtain ⟨fb, hfb⟩ : ∃ fb, fb = z + 1 := ⟨_, rfl⟩
    rw [← hfb] at HM ⊢
    clear hA hfb HF0
    refine acLoop (w := w) (P := P2 p q) (eb := z) (fb := fb) (A := A) (nl := n) (l := l) _ _ _ _ _ _ _ _ _ _ _ _ _ _ _ _ _ _ _ _ _ _ _ _ _ _ _ _ _ _ _ _ _ _ _ _ _ _ _ _ _ _ _ _ _ _ _ _ _ _ _ _ _ _ _ _ _ _ _ _ _ _ _ _ _ _ _ _ _ _ _ _ _ _ _ _ _ _ _ _ _ _ _ _ _ _ _ _ _ _ _ _ _ _ _ _ _ _ HV HS HNN g0 (fun _ _ d _ _ h => by cases d <;> exact h) _ _ _ _ _ _ _ _ _ _ _ _ _ _ _ _ _ _ _ _ _ _ _ _ _ _ _ _ _ _ _ _ _ _ _ _ _ _ _ _ _ _ _ _ _ _ _ _ _ _ _ _ _ _ _ _ _ _ _ _ _ _ _ _ _ _ _ _ _ _ _ _ _ _ _ _ _ _ _ _ _ _ _ _ _ _ _ _ _ _ _ _ _ _ _ _ _ _ _ _ _ _ _ _ _ _ _ _ _ _ _ _ _ _ _ _ _ _ _ _ _ _ _ _ _ _ _ _ _ _ _ _ _ _ _ _ _ _ _ _ _ _ _ _ _ _ _ _ _ _ _ _ _ _ _ _ _ _ _ _ _ _ _ _ _ _ _ _ _ _ _ _ _ _ _ _ _ _ _ _ _ _ _ _ _ _ _ _ _ _ _ _ _ _ _ _ _ _ _ _ _ _ ⟨0, _, _, _, _, _, Nat.zero_le _, rfl, HM, HA0⟩ (fun a' w' hI hmu => ?_)
    unfold acI at hI
    obtain ⟨z12, hI⟩ := hI
    obtain ⟨z13, hI⟩ := hI
    obtain ⟨z14, hI⟩ := hI
    obtain ⟨z15, hI⟩ := hI
    obtain ⟨z16, hI⟩ := hI
    obtain ⟨z17, hI⟩ := hI
    obtain ⟨z44, hI⟩ := hI
    obtain ⟨z45, hI⟩ := hI
    obtain ⟨z46, hI⟩ := hI
    obtain ⟨z47, hI⟩ := hI
    obtain ⟨z48, hI⟩ := hI
    obtain ⟨z49, hI⟩ := hI
    obtain ⟨z50, hI⟩ := hI
    obtain ⟨z51, hI⟩ := hI
    obtain ⟨z52, hI⟩ := hI
    obtain ⟨z53, hI⟩ := hI
    obtain ⟨z54, hI⟩ := hI
    obtain ⟨z55, hI⟩ := hI
    obtain ⟨z56, hI⟩ := hI
    obtain ⟨z57, hI⟩ := hI
    obtain ⟨z58, hI⟩ := hI
    obtain ⟨z59, hI⟩ := hI
    obtain ⟨z60, hI⟩ := hI
    obtain ⟨z61, hI⟩ := hI
    obtain ⟨z62, hI⟩ := hI
    obtain ⟨z63, hI⟩ := hI
    obtain ⟨z64, hI⟩ := hI
    obtain ⟨z65, hI⟩ := hI
    obtain ⟨z66, hI⟩ := hI
    obtain ⟨z67, hI⟩ := hI
    obtain ⟨z68, hI⟩ := hI
    obtain ⟨z69, hI⟩ := hI
    obtain ⟨z70, hI⟩ := hI
    obtain ⟨z71, hI⟩ := hI
    obtain ⟨z72, hI⟩ := hI
    obtain ⟨z73, hI⟩ := hI
    obtain ⟨z74, hI⟩ := hI
    obtain ⟨z75, hI⟩ := hI
    obtain ⟨z76, hI⟩ := hI
    obtain ⟨z77, hI⟩ := hI
    obtain ⟨z78, hI⟩ := hI
    obtain ⟨z79, hI⟩ := hI
    obtain ⟨z80, hI⟩ := hI
    obtain ⟨z81, hI⟩ := hI
    obtain ⟨z82, hI⟩ := hI
    obtain ⟨z83, hI⟩ := hI
    obtain ⟨z84, hI⟩ := hI
    obtain ⟨z85, hI⟩ := hI
    obtain ⟨z86, hI⟩ := hI
    obtain ⟨z87, hI⟩ := hI
    obtain ⟨z88, hI⟩ := hI
    obtain ⟨z89, hI⟩ := hI
    obtain ⟨z90, hI⟩ := hI
    obtain ⟨z91, hI⟩ := hI
    obtain ⟨z92, hI⟩ := hI
    obtain ⟨z93, hI⟩ := hI
    obtain ⟨z94, hI⟩ := hI
    obtain ⟨z95, hI⟩ := hI
    obtain ⟨z96, hI⟩ := hI
    obtain ⟨z97, hI⟩ := hI
    obtain ⟨z98, hI⟩ := hI
    obtain ⟨z99, hI⟩ := hI
    obtain ⟨z100, hI⟩ := hI
    obtain ⟨z101, hI⟩ := hI
    obtain ⟨z102, hI⟩ := hI
    obtain ⟨z103, hI⟩ := hI
    obtain ⟨z104, hI⟩ := hI
    obtain ⟨z105, hI⟩ := hI
    obtain ⟨z106, hI⟩ := hI
    obtain ⟨z107, hI⟩ := hI
    obtain ⟨z108, hI⟩ := hI
    obtain ⟨z109, hI⟩ := hI
    obtain ⟨z110, hI⟩ := hI
    obtain ⟨z111, hI⟩ := hI
    obtain ⟨z112, hI⟩ := hI
    obtain ⟨z113, hI⟩ := hI
    obtain ⟨z114, hI⟩ := hI
    obtain ⟨z115, hI⟩ := hI
    obtain ⟨z116, hI⟩ := hI
    obtain ⟨z117, hI⟩ := hI
    obtain ⟨z118, hI⟩ := hI
    obtain ⟨z119, hI⟩ := hI
    obtain ⟨z120, hI⟩ := hI
    obtain ⟨z121, hI⟩ := hI
    obtain ⟨z122, hI⟩ := hI
    obtain ⟨z123, hI⟩ := hI
    obtain ⟨z124, hI⟩ := hI
    obtain ⟨z125, hI⟩ := hI
    obtain ⟨z126, hI⟩ := hI
    obtain ⟨z127, hI⟩ := hI
    obtain ⟨z128, hI⟩ := hI
    obtain ⟨z129, hI⟩ := hI
    obtain ⟨z130, hI⟩ := hI
    obtain ⟨z131, hI⟩ := hI
    obtain ⟨z132, hI⟩ := hI
    obtain ⟨z133, hI⟩ := hI
    obtain ⟨z134, hI⟩ := hI
    obtain ⟨z135, hI⟩ := hI
    obtain ⟨z136, hI⟩ := hI
    obtain ⟨z137, hI⟩ := hI
    obtain ⟨z138, hI⟩ := hI
    obtain ⟨z139, hI⟩ := hI
    obtain ⟨z140, hI⟩ := hI
    obtain ⟨z141, hI⟩ := hI
    obtain ⟨z142, hI⟩ := hI
    obtain ⟨z143, hI⟩ := hI
    obtain ⟨z144, hI⟩ := hI
    obtain ⟨z145, hI⟩ := hI
    obtain ⟨z146, hI⟩ := hI
    obtain ⟨z147, hI⟩ := hI
    obtain ⟨z148, hI⟩ := hI
    obtain ⟨z149, hI⟩ := hI
    obtain ⟨z150, hI⟩ := hI
    obtain ⟨z151, hI⟩ := hI
    obtain ⟨z152, hI⟩ := hI
    obtain ⟨z153, hI⟩ := hI
    obtain ⟨z154, hI⟩ := hI
    obtain ⟨z155, hI⟩ := hI
    obtain ⟨z156, hI⟩ := hI
    obtain ⟨z157, hI⟩ := hI
    obtain ⟨z158, hI⟩ := hI
    obtain ⟨z159, hI⟩ := hI
    obtain ⟨z160, hI⟩ := hI
    obtain ⟨z161, hI⟩ := hI
    obtain ⟨z162, hI⟩ := hI
    obtain ⟨z163, hI⟩ := hI
    obtain ⟨z164, hI⟩ := hI
    obtain ⟨z165, hI⟩ := hI
    obtain ⟨z166, hI⟩ := hI
    obtain ⟨z167, hI⟩ := hI
    obtain ⟨z168, hI⟩ := hI
    obtain ⟨z169, hI⟩ := hI
    obtain ⟨z170, hI⟩ := hI
    obtain ⟨z171, hI⟩ := hI
    obtain ⟨z172, hI⟩ := hI
    obtain ⟨z173, hI⟩ := hI
    obtain ⟨z174, hI⟩ := hI
    obtain ⟨z175, hI⟩ := hI
    obtain ⟨z176, hI⟩ := hI
    obtain ⟨z177, hI⟩ := hI
    obtain ⟨z178, hI⟩ := hI
    obtain ⟨z179, hI⟩ := hI
    obtain ⟨z180, hI⟩ := hI
    obtain ⟨z181, hI⟩ := hI
    obtain ⟨z182, hI⟩ := hI
    obtain ⟨z183, hI⟩ := hI
    obtain ⟨z184, hI⟩ := hI
    obtain ⟨z185, hI⟩ := hI
    obtain ⟨z186, hI⟩ := hI
    obtain ⟨z187, hI⟩ := hI
    obtain ⟨z188, hI⟩ := hI
    obtain ⟨z189, hI⟩ := hI
    obtain ⟨z190, hI⟩ := hI
    obtain ⟨z191, hI⟩ := hI
    obtain ⟨z192, hI⟩ := hI
    obtain ⟨z193, hI⟩ := hI
    obtain ⟨z194, hI⟩ := hI
    obtain ⟨z195, hI⟩ := hI
    obtain ⟨z196, hI⟩ := hI
    obtain ⟨z197, hI⟩ := hI
    obtain ⟨z198, hI⟩ := hI
    obtain ⟨z199, hI⟩ := hI
    obtain ⟨z200, hI⟩ := hI
    obtain ⟨z201, hI⟩ := hI
    obtain ⟨z202, hI⟩ := hI
    obtain ⟨z203, hI⟩ := hI
    obtain ⟨z204, hI⟩ := hI
    obtain ⟨z205, hI⟩ := hI
    obtain ⟨z206, hI⟩ := hI
    obtain ⟨z207, hI⟩ := hI
    obtain ⟨z208, hI⟩ := hI
    obtain ⟨z209, hI⟩ := hI
    obtain ⟨z210, hI⟩ := hI
    obtain ⟨z211, hI⟩ := hI
    obtain ⟨z212, hI⟩ := hI
    obtain ⟨z213, hI⟩ := hI
    obtain ⟨z214, hI⟩ := hI
    obtain ⟨z215, hI⟩ := hI
    obtain ⟨z216, hI⟩ := hI
    obtain ⟨z217, hI⟩ := hI
    obtain ⟨z218, hI⟩ := hI
    obtain ⟨z219, hI⟩ := hI
    obtain ⟨z220, hI⟩ := hI
    obtain ⟨z221, hI⟩ := hI
    obtain ⟨z222, hI⟩ := hI
    obtain ⟨z223, hI⟩ := hI
    obtain ⟨z224, hI⟩ := hI
    obtain ⟨z225, hI⟩ := hI
    obtain ⟨z226, hI⟩ := hI
    obtain ⟨z227, hI⟩ := hI
    obtain ⟨z228, hI⟩ := hI
    obtain ⟨z229, hI⟩ := hI
    obtain ⟨z230, hI⟩ := hI
    obtain ⟨z231, hI⟩ := hI
    obtain ⟨z232, hI⟩ := hI
    obtain ⟨z233, hI⟩ := hI
    obtain ⟨z234, hI⟩ := hI
    obtain ⟨z235, hI⟩ := hI
    obtain ⟨z236, hI⟩ := hI
    obtain ⟨z237, hI⟩ := hI
    obtain ⟨z238, hI⟩ := hI
    obtain ⟨hrel, ha⟩ := hI
    subst ha
    obtain ⟨i, G, X, V, R, σ, hi, rfl, HM1, HA1⟩ := hrel
    obtain rfl : i = n := by simp [acMu, intOf] at hmu; omega
    clear hmu HM HA0 HI0 HV HS HNN
    have HI1 : Hid (WInv σ i) := HA1.out.i
    have HN1 : Hid (i ≤ 1000) := by show _ ≤ _; omega
    have HF1 : Hid (∀ d, (σ.f d).length ≤ 10000) := by
      have : ∀ d, (σ.f d).length ≤ 10000 := fun d => by have := HA1.out.f d; omega
      exact this
    go_wp2_with fail
    refine rrLoop (σ := σ) (N := i) _ _ _ _ _ _ _ _ _ _ _ _ _ _ _ _ _ _ _ _ _ _ _ _ _ _ _ _ _ _ _ _ _ _ _ _ _ _ _ _ _ _ _ _ _ _ _ _ _ _ _ _ _ _ _ _ _ _ _ _ _ _ _ _ _ _ _ _ _ _ _ _ _ _ _ _ _ _ _ _ _ _ _ _ _ _ _ _ _ _ _ _ _ _ _ _ _ _ _ _ _ _ _ _ _ _ _ _ _ _ _ _ _ _ _ _ _ _ _ _ _ _ _ _ _ _ _ _ _ _ _ _ _ _ _ _ _ _ _ _ _ _ _ _ _ _ _ _ _ _ _ _ _ _ _ _ _ _ _ _ _ _ _ _ _ _ _ _ _ _ _ _ _ _ _ _ _ _ _ _ _ _ _ _ _ _ _ _ _ _ _ _ _ _ _ _ _ _ _ _ _ _ _ _ _ _ _ _ _ _ _ _ _ _ _ _ _ _ _ _ _ _ _ _ _ _ _ _ _ _ _ _ _ _ _ _ _ _ _ _ _ _ _ _ _ _ _ _ _ _ _ _ _ _ _ _ _ _ _ _ _ HI1 HN1 HF1 (fun _ _ d _ _ h => by cases d <;> exact h) _ _ _ _ _ _ _ _ _ _ _ _ _ _ _ _ _ _ _ _ _ _ _ _ _ _ _ _ _ _ _ _ _ _ _ _ _ _ _ _ _ _ ⟨0, G, X, V, R, Nat.zero_le _, rfl, HM1⟩ (fun a' w' hI hmu => ?_)
    unfold rrI at hI
    obtain ⟨y18, hI⟩ := hI
    obtain ⟨y19, hI⟩ := hI
    obtain ⟨y20, hI⟩ := hI
    obtain ⟨y21, hI⟩ := hI
    obtain ⟨y239, hI⟩ := hI
    obtain ⟨y240, hI⟩ := hI
    obtain ⟨y241, hI⟩ := hI
    obtain ⟨y242, hI⟩ := hI
    obtain ⟨y243, hI⟩ := hI
    obtain ⟨y244, hI⟩ := hI
    obtain ⟨y245, hI⟩ := hI
    obtain ⟨y246, hI⟩ := hI
    obtain ⟨y247, hI⟩ := hI
    obtain ⟨y248, hI⟩ := hI
    obtain ⟨y249, hI⟩ := hI
    obtain ⟨y250, hI⟩ := hI
    obtain ⟨y251, hI⟩ := hI
    obtain ⟨y252, hI⟩ := hI
    obtain ⟨y253, hI⟩ := hI
    obtain ⟨y254, hI⟩ := hI
    obtain ⟨y255, hI⟩ := hI
    obtain ⟨y256, hI⟩ := hI
    obtain ⟨y257, hI⟩ := hI
    obtain ⟨y258, hI⟩ := hI
    obtain ⟨y259, hI⟩ := hI
    obtain ⟨y260, hI⟩ := hI
    obtain ⟨y261, hI⟩ := hI
    obtain ⟨y262, hI⟩ := hI
    obtain ⟨y263, hI⟩ := hI
    obtain ⟨y264, hI⟩ := hI
    obtain ⟨y265, hI⟩ := hI
    obtain ⟨y266, hI⟩ := hI
    obtain ⟨y267, hI⟩ := hI
    obtain ⟨y268, hI⟩ := hI
    obtain ⟨y269, hI⟩ := hI
    obtain ⟨y270, hI⟩ := hI
    obtain ⟨y271, hI⟩ := hI
    obtain ⟨y272, hI⟩ := hI
    obtain ⟨y273, hI⟩ := hI
    obtain ⟨y274, hI⟩ := hI
    obtain ⟨y275, hI⟩ := hI
    obtain ⟨hrel, ha⟩ := hI
    subst ha
    obtain ⟨k, G4, X4, V4, R4, hk, rfl, HM4⟩ := hrel
    obtain rfl : k = 400 := by simp [rrMu, intOf] at hmu; omega
    have hline := whole HI1.out HA1.out.a (by omega) 398 (by omega)
    have hinv := itr_inv false 400 σ HI1.out
    obtain ⟨τ, hτ⟩ : ∃ τ, τ = itr false 400 σ := ⟨_, rfl⟩
    rw [show (398 + 2 : Nat) = 400 from rfl, ← hτ] at hline
    rw [← hτ] at hinv
    have hM4 := HM4.out
    rw [← hτ] at hM4
    have hy := fun d => whole_y hinv hline d
    have hR : ∀ d, OwnB w' w.heap.size (R4 true (!d)) (τ.x d) ∧ OwnB w' w.heap.size (R4 false d) (τ.x d) := fun d => ⟨by have := hM4.r true (!d); rwa [show cont τ true (!d) = τ.y (!d) from rfl, hy d] at this, hM4.r false d⟩
    have hlen : ∀ d, (τ.x d).length ≤ 1000 := fun d => Nat.le_trans (hinv.xl d) HN1.out
    obtain ⟨ta, tc, htf⟩ := (hR false).1.form
    obtain ⟨sa, sc', hsf⟩ := (hR false).2.form
    obtain ⟨ua, uc, huf⟩ := (hR true).1.form
    obtain ⟨va, vc, hvf⟩ := (hR true).2.form
    simp only [Bool.not_false, Bool.not_true] at htf huf
    have t0 := (hM4.a true).cell (j := 0) rfl
    have t1 := (hM4.a true).cell (j := 1) rfl
    have s0 := (hM4.a false).cell (j := 0) rfl
    have s1 := (hM4.a false).cell (j := 1) rfl
    rw [huf] at t0
    rw [htf] at t1
    rw [hsf] at s0
    rw [hvf] at s1
    obtain ⟨xf, hxf⟩ : ∃ x, x = τ.x false := ⟨_, rfl⟩
    obtain ⟨xt, hxt⟩ : ∃ x, x = τ.x true := ⟨_, rfl⟩
    rw [← hxf] at t1 s0
    rw [← hxt] at t0 s1
    obtain ⟨nf, hnf⟩ : ∃ n, n = xf.length := ⟨_, rfl⟩
    obtain ⟨nt, hnt⟩ : ∃ n, n = xt.length := ⟨_, rfl⟩
    rw [← hnf] at t1 s0
    rw [← hnt] at t0 s1
    have B1 : Bytes w' (.slice ta nf tc) xf := by have := (hR false).1.bytes; rw [Bool.not_false, htf, ← hxf, ← hnf] at this; exact this
    have B2 : Bytes w' (.slice sa nf sc') xf := by have := (hR false).2.bytes; rw [hsf, ← hxf, ← hnf] at this; exact this
    have B3 : Bytes w' (.slice ua nt uc) xt := by have := (hR true).1.bytes; rw [Bool.not_true, huf, ← hxt, ← hnt] at this; exact this
    have B4 : Bytes w' (.slice va nt vc) xt := by have := (hR true).2.bytes; rw [hvf, ← hxt, ← hnt] at this; exact this
    have HS1 := Lib.hid (B1.str (P := Try.prog) (src := 90) (dst := 9) Try.underlying90 Try.underlying5 Try.underlying9)
    have HS2 := Lib.hid (B2.str (P := Try.prog) (src := 90) (dst := 9) Try.underlying90 Try.underlying5 Try.underlying9)
    have HS3 := Lib.hid (B3.str (P := Try.prog) (src := 90) (dst := 9) Try.underlying90 Try.underlying5 Try.underlying9)
    have HS4 := Lib.hid (B4.str (P := Try.prog) (src := 90) (dst := 9) Try.underlying90 Try.underlying5 Try.underlying9)
    have HLF := Lib.hid (leftM ((hM4.s false).smB (hinv.o false).ag1))
    have HLT := Lib.hid (leftM ((hM4.s true).smB (hinv.o true).ag1))
    rw [hline] at HLF HLT
    have HBW : Hid (Below w.heap.size w w') := hM4.bel
    have HK := Lib.hid (knownR w')
    clear hline hinv hτ hM4 hy hR hlen htf hsf huf hvf hxf hxt hnf hnt B1 B2 B3 B4 hmu HM4 HM1 HA1 HI1 HF1
    have z1 := HS1.out
    have z2 := HS2.out
    have z3 := HS3.out
    have z4 := HS4.out
    go_wp2_with fail
    refine HLF.out.mono ?_
    rintro e w3 ⟨rfl, rfl⟩
    go_wp2_with fail
    refine HLT.out.mono ?_
    rintro e w3 ⟨rfl, rfl⟩
    go_wp2_with fail
    refine HK.out.mono ?_
    rintro e w3 ⟨rfl, hb3⟩
    have HB3 := Lib.hid (below_of HBW.out hb3)
    clear hb3 z1 z2 z3 z4
    go_wp2_with fail
    go_ret
    exact ⟨rfl, HB3.out⟩
end Go.Proofs.Ytghaajmalhcgbaa

namespace Go.Proofs.Ytghaajmalhcgbaa.relWhole
open Go.ChangeShapes Go.WideShapes Go.ChangeAt Go.RowKit

set_option maxRecDepth 100000 in
theorem lifted (os : Os) (started : os.Started) (H : Type) (enc : TypeId × Value → H) :
    ReturnsInHanded {} Try.checked os 10 .any (Rows.relWholeSpec.pre6 enc Try.prog Try.f10 Rows.relWholeRow.domain false) (Rows.relWholeSpec.post enc Try.prog Try.f10 false true false false) := by
  refine returnsInHanded_of_change (C := Try.checked) own started (by kernel_rfl) Try.func10
    (ChangeSpec.witness6 (enc := enc) (C := Try.checked) false ⟨#[], #[.slice none 0 0], []⟩ 8 (by kernel_rfl) (by kernel_rfl) (by kernel_rfl) (by kernel_rfl)) ?_
  intro W base args ds gs before hval0 hW hcnd _
  have hval : ∀ (j : Nat) t v, Try.f10.params[j]? = some t → args[j]? = some v → Value.okWide Try.prog W .any base t v := hval0
  have hW' := hW
  obtain ⟨p, q, hA0, hV, rfl, hfz, hnd⟩ := hW
  have hA : DataW.TrodAll enc Try.prog W 0 (fun _ => true) true Try.f10.params.toList args.toList ds p := hA0
  rw [Try.params10] at hA hval
  obtain ⟨v0, vs0, d0, ds0, p0, q0, hargs, rfl, rfl, h0, r0⟩ := trodAll_cons hA
  obtain ⟨rfl, rfl, rfl⟩ := trodAll_nil r0
  obtain rfl : args = #[v0] := by cases args; simp_all
  obtain ⟨rfl, rfl⟩ := trodVars_none hV
  have k0 := h0
  have lt0 : ∀ x ∈ p0, x.block < W.heap.size := by obtain ⟨m, hm⟩ := k0; exact DataW.trod_lt m _ _ _ hm
  obtain ⟨l0, hb0, hl0, hs0⟩ := open_ways (hval 0 83 v0 rfl rfl) h0
  refine (relWhole_walk v0 l0 W hb0 hl0 hs0).mono fun e W' ⟨he, bel⟩ => ?_
  subst he
  exact ⟨_, rfl, _, _, _, [], _, [], hW', trodAll_mk1 (shut_bool Try.underlying4 _), (trodAll_cons_mk (Below.trod laidOut (by kernel_rfl) (of_decide_eq_true (by kernel_rfl)) k0 bel lt0) trodAll_mk0), rfl, bel.frame _, fun h => by cases h⟩

/-- The statement. -/
theorem said : Rows.RelWholeSaid :=
  OpenClaim.holds_of_wide 10 Try.f10 rfl rfl rfl rfl rfl rfl rfl ⟨rfl, rfl, rfl, rfl, rfl⟩ rfl rfl rfl rfl rfl (by kernel_rfl) Try.func10 (by kernel_rfl)
    (of_decide_eq_true (by kernel_rfl)) (by unfold Func.isWrapper; first | (rw [if_pos (by decide +kernel)]; kernel_rfl) | (rw [if_neg (by decide +kernel)]; exact ⟨rfl, rfl⟩))
    (fun os started H enc _ => lifted os started H enc)
#print axioms said
end Go.Proofs.Ytghaajmalhcgbaa.relWhole
