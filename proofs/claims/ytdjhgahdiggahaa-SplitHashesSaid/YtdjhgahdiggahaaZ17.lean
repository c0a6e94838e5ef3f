/- SplitHashes: for every input the law's call returns true, and each argument reads behind it as before.
   SplitHashes: the law's walk. -/
import Derived.Test.YtdjhgahdiggahaaZ11
import Derived.Test.YtdjhgahdiggahaaZ16

set_option linter.unusedSimpArgs false
set_option linter.unusedVariables false
namespace Go.Proofs.Ytdjhgahdiggahaa
open Go.RowKit
attribute [local go_sem ↓] Go.wp_at_zero Go.wp_at_succ
open Sp

set_option maxHeartbeats 8000000 in
set_option maxRecDepth 100000 in
theorem splitHashes_walk (v : Value) (l : List UInt8) (w : World) (hv : Bytes w v l) (_ : l.length ≤ 9223372036854775807) :
    Calls Try.prog 11 #[v] w fun e w' => e = .returned (.bool true) ∧ Below w.heap.size w w' := by
  have HK := Lib.hid (fun W => knownL W)
  by_cases h3 : 70000 < l.length
  · obtain ⟨a, c, rfl⟩ := hv.form
    have g1 : (70000 : Int) < (l.length : Int) := by omega
    obtain ⟨n, hn⟩ : ∃ n, n = l.length := ⟨_, rfl⟩
    rw [← hn] at g1 ⊢
    clear hv h3 hn
    go_enter Try.func11, Try.ntmps11
    go_wp2_with fail
    refine (HK.out _).mono ?_
    rintro e w1 ⟨rfl, hb⟩
    have HB := Lib.hid hb
    clear hb
    go_wp2_with fail
    go_ret
    exact ⟨rfl, HB.out⟩
  · have g1 : ¬ (70000 : Int) < (l.length : Int) := by omega
    by_cases hf : flt l = 0
    · have HA := Lib.hid (hash_yes hv (by omega) hf)
      have HR : Hid (∀ W, Below w.heap.size w W → Calls Try.prog 43 #[v] W fun e w' => e = .returned (.tuple #[.int .u32 (hashH (hdP l) (plP l) : Nat), .bool true]) ∧ Below W.heap.size W w') := by
        have : ∀ W, Below w.heap.size w W → Calls Try.prog 43 #[v] W fun e w' => e = .returned (.tuple #[.int .u32 (hashH (hdP l) (plP l) : Nat), .bool true]) ∧ Below W.heap.size W w' := fun W hW => hashR_yes (hv.later hW) (by omega) hf
        exact this
      obtain ⟨a, c, rfl⟩ := hv.form
      obtain ⟨n, hn⟩ : ∃ n, n = l.length := ⟨_, rfl⟩
      obtain ⟨z, hz⟩ : ∃ z, z = hashH (hdP l) (plP l) := ⟨_, rfl⟩
      rw [← hn, ← hz] at HA HR
      rw [← hn] at g1 ⊢
      have t0 : ((z : Int) == z) = true := by simp
      have t1 : (z == z) = true := by simp
      clear hv h3 hn hz hf
      go_enter Try.func11, Try.ntmps11
      go_wp2_with fail
      refine HA.out.mono ?_
      rintro e w1 ⟨rfl, hb1⟩
      have HB1 := Lib.hid hb1
      clear hb1
      go_wp2_with fail
      refine (HR.out _ HB1.out).mono ?_
      rintro e w2 ⟨rfl, hb2⟩
      have HB2 := Lib.hid (below_of HB1.out hb2)
      clear hb2
      go_wp2_with fail
      refine (numL 0 w2).mono ?_
      rintro e w3 ⟨rfl, rfl⟩
      go_wp2_with fail
      refine (HK.out _).mono ?_
      rintro e w3 ⟨rfl, hb⟩
      have HB3 := Lib.hid (below_of HB2.out hb)
      clear hb
      go_wp2_with fail
      go_ret
      exact ⟨rfl, HB3.out⟩
    · have HA := Lib.hid (hash_no hv (by omega) hf)
      have HR : Hid (∀ W, Below w.heap.size w W → Calls Try.prog 43 #[v] W fun e w' => e = .returned (.tuple #[.int .u32 0, .bool false]) ∧ Below W.heap.size W w') := by
        have : ∀ W, Below w.heap.size w W → Calls Try.prog 43 #[v] W fun e w' => e = .returned (.tuple #[.int .u32 0, .bool false]) ∧ Below W.heap.size W w' := fun W hW => hashR_no (hv.later hW) (by omega) hf
        exact this
      obtain ⟨a, c, rfl⟩ := hv.form
      obtain ⟨n, hn⟩ : ∃ n, n = l.length := ⟨_, rfl⟩
      rw [← hn] at HA HR
      rw [← hn] at g1 ⊢
      clear hv h3 hn hf
      go_enter Try.func11, Try.ntmps11
      go_wp2_with fail
      refine HA.out.mono ?_
      rintro e w1 ⟨rfl, hb1⟩
      have HB1 := Lib.hid hb1
      clear hb1
      go_wp2_with fail
      refine (HR.out _ HB1.out).mono ?_
      rintro e w2 ⟨rfl, hb2⟩
      have HB2 := Lib.hid (below_of HB1.out hb2)
      clear hb2
      go_wp2_with fail
      refine (numL 4 w2).mono ?_
      rintro e w3 ⟨rfl, rfl⟩
      go_wp2_with fail
      refine (numL 4 w2).mono ?_
      rintro e w3 ⟨rfl, rfl⟩
      go_wp2_with fail
      refine (HK.out _).mono ?_
      rintro e w3 ⟨rfl, hb⟩
      have HB3 := Lib.hid (below_of HB2.out hb)
      clear hb
      go_wp2_with fail
      go_ret
      exact ⟨rfl, HB3.out⟩
end Go.Proofs.Ytdjhgahdiggahaa

namespace Go.Proofs.Ytdjhgahdiggahaa.splitHashes
open Go.ChangeShapes Go.WideShapes Go.ChangeAt Go.RowKit

set_option maxRecDepth 100000 in
theorem lifted (os : Os) (started : os.Started) (H : Type) (enc : TypeId × Value → H) :
    ReturnsInHanded {} Try.checked os 11 .any (Rows.splitHashesSpec.pre6 enc Try.prog Try.f11 Rows.splitHashesRow.domain false) (Rows.splitHashesSpec.post enc Try.prog Try.f11 false true false false) := by
  refine returnsInHanded_of_change (C := Try.checked) own started (by kernel_rfl) Try.func11
    (ChangeSpec.witness6 (enc := enc) (C := Try.checked) false ⟨#[], #[.slice none 0 0], []⟩ 8 (by kernel_rfl) (by kernel_rfl) (by kernel_rfl) (by kernel_rfl)) ?_
  intro W bseS args ds gs before hval0 hW hcnd _
  have hval : ∀ (j : Nat) t v, Try.f11.params[j]? = some t → args[j]? = some v → Value.okWide Try.prog W .any bseS t v := hval0
  have hW' := hW
  obtain ⟨p, q, hA0, hV, rfl, hfz, hnd⟩ := hW
  have hA : DataW.TrodAll enc Try.prog W 0 (fun _ => true) true Try.f11.params.toList args.toList ds p := hA0
  rw [Try.params11] at hA hval
  obtain ⟨v0, vs0, d0, ds0, p0, q0, hargs, rfl, rfl, h0, r0⟩ := trodAll_cons hA
  obtain ⟨rfl, rfl, rfl⟩ := trodAll_nil r0
  obtain rfl : args = #[v0] := by cases args; simp_all
  obtain ⟨rfl, rfl⟩ := trodVars_none hV
  have k0 := h0
  have lt0 : ∀ x ∈ p0, x.block < W.heap.size := by obtain ⟨m, hm⟩ := k0; exact DataW.trod_lt m _ _ _ hm
  obtain ⟨l0, hb0, hl0⟩ := open_bytes (hval 0 97 v0 rfl rfl) h0
  refine (splitHashes_walk v0 l0 W hb0 hl0).mono fun e W' ⟨he, bel⟩ => ?_
  subst he
  exact ⟨_, rfl, _, _, _, [], _, [], hW', trodAll_mk1 (shut_bool Try.underlying4 _), (trodAll_cons_mk (Below.trod laidOut (by kernel_rfl) (of_decide_eq_true (by kernel_rfl)) k0 bel lt0) trodAll_mk0), rfl, bel.frame _, fun h => by cases h⟩

/-- The statement. -/
theorem said : Rows.SplitHashesSaid :=
  OpenClaim.holds_of_wide 11 Try.f11 rfl rfl rfl rfl rfl rfl rfl ⟨rfl, rfl, rfl, rfl, rfl⟩ rfl rfl rfl rfl rfl (by kernel_rfl) Try.func11 (by kernel_rfl)
    (of_decide_eq_true (by kernel_rfl)) (by unfold Func.isWrapper; first | (rw [if_pos (by decide +kernel)]; kernel_rfl) | (rw [if_neg (by decide +kernel)]; exact ⟨rfl, rfl⟩))
    (fun os started H enc _ => lifted os started H enc)
#print axioms said
end Go.Proofs.Ytdjhgahdiggahaa.splitHashes
