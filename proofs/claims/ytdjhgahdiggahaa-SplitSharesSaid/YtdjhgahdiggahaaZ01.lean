/- A slice that reads as a list of things of k cells each.
   Arguments that are bytes, and lists of bytes, opened.
   A row of one-cell elements in memory: a slice value that reads as a list of values.
   Lists of bytes in memory: a slice value that reads as a list of lists of bytes.
   Bytes in memory: a slice value that reads as a list of bytes; no function of the program in it.
   Ways, buckets, hashes, plainly.
   Shares of weights, plainly.
   What all walks import; small lemmas on endings and on what a call leaves as it was. -/
import Derived.Test.YtdjhgahdiggahaaRows
import Derived.WalkKit
import Derived.WalkSpells
import Derived.WalkLawsBesides
import Derived.Lib.Hide
import Derived.Deep.QuietTactic
import Derived.BigQuiet
import Derived.Handy
import Derived.Deep.RegionWith
import Derived.Deep.RegionHeld3
import Derived.StillTailTactics
import Derived.Deep.DrawnRows
import Derived.Laws.BitsAllLaws
import Derived.ProofKit
import Derived.OpenShut
import Derived.Deep.Matrix
import Derived.Deep.Slices
import Derived.Lib.SmallJoins

set_option linter.unusedSimpArgs false
set_option linter.unusedVariables false
namespace Go.Proofs.Ytdjhgahdiggahaa
open Go.RowKit
attribute [local go_sem ↓] Go.wp_at_zero Go.wp_at_succ

theorem ret_b {a b : Bool} (h : a = b) : Ending.returned (.bool a) = .returned (.bool b) := by rw [h]
theorem ret_i {k : IntKind} {a b : Int} (h : a = b) : Ending.returned (.int k a) = .returned (.int k b) := by rw [h]
theorem ret_ii {k k2 : IntKind} {a a' b b' : Int} (h : a = a') (h2 : b = b') : Ending.returned (.tuple #[.int k a, .int k2 b]) = .returned (.tuple #[.int k a', .int k2 b']) := by rw [h, h2]
theorem bcell {W w1 : World} (hb : Below W.heap.size W w1) : (∀ b o, b < W.heap.size → w1.cell? ⟨b, o, none⟩ = W.cell? ⟨b, o, none⟩) ∧ (∀ b o, b < W.heap.size → w1.frozen? ⟨b, o, none⟩ = W.frozen? ⟨b, o, none⟩) :=
  ⟨fun b o h => hb.cell (p := ⟨b, o, none⟩) h, fun b o h => hb.frozen (p := ⟨b, o, none⟩) h⟩
theorem below_of {w w1 w2 : World} (h : Below w.heap.size w w1) (h2 : Below w1.heap.size w1 w2) : Below w.heap.size w w2 := h.trans (h2.mono h.size)
theorem ba1 (w : World) (o : Obj) : Below w.heap.size w (w.alloc o) := (Below.refl _ _).alloc (Nat.le_refl _) _
theorem below_dr0 (B : Nat) (w : World) (n : Nat) : Below B w (w.drewN n) := ⟨rfl, rfl, rfl, Nat.le_refl _, fun _ _ => rfl⟩
theorem wrap8 (n : Int) : IntKind.u8.wrap n = n % 256 := rfl
theorem wrap16 (n : Int) : IntKind.u16.wrap n = n % 65536 := rfl
theorem wrap32 (n : Int) : IntKind.u32.wrap n = n % 4294967296 := rfl

end Go.Proofs.Ytdjhgahdiggahaa

namespace Go.Proofs.Ytdjhgahdiggahaa
namespace Sp

/-- A way's weight. -/
def wt (d : Int) : Nat := if 0 ≤ d ∧ d < 255 then 65536 / (d.toNat + 1) else 0
theorem wt_le (d : Int) : wt d ≤ 65536 := by
  unfold wt
  split
  · exact Nat.div_le_self _ _
  · omega
theorem wt_pos {d : Int} (h : 0 ≤ d ∧ d < 255) : 257 ≤ wt d := by
  unfold wt
  rw [if_pos h]
  exact (Nat.le_div_iff_mul_le (by omega)).2 (by omega)
theorem wt_zero {d : Int} : wt d = 0 ↔ ¬ (0 ≤ d ∧ d < 255) := by
  constructor
  · intro h hd
    have := wt_pos hd
    omega
  · intro h
    unfold wt
    rw [if_neg h]
theorem wt_lt {d e : Int} (h0 : 0 ≤ d) (h : d < e) (h1 : e < 255) : wt e < wt d := by
  unfold wt
  rw [if_pos ⟨by omega, h1⟩, if_pos ⟨h0, by omega⟩]
  obtain ⟨a, ha⟩ : ∃ a, a = d.toNat + 1 := ⟨_, rfl⟩
  obtain ⟨b, hb⟩ : ∃ b, b = e.toNat + 1 := ⟨_, rfl⟩
  rw [← ha, ← hb]
  have hab : a + 1 ≤ b := by omega
  have hb5 : b ≤ 255 := by omega
  obtain ⟨q, hq⟩ : ∃ q, q = 65536 / b := ⟨_, rfl⟩
  rw [← hq]
  have hq1 : 257 ≤ q := by rw [hq]; exact (Nat.le_div_iff_mul_le (by omega)).2 (by omega)
  have hq2 : q * b ≤ 65536 := by rw [hq]; exact Nat.div_mul_le_self _ _
  refine (Nat.le_div_iff_mul_le (by omega)).2 ?_
  have h3 : q * (a + 1) ≤ q * b := Nat.mul_le_mul_left q hab
  have h4 : (q + 1) * a = q * a + a := by rw [Nat.add_mul, Nat.one_mul]
  have h5 : q * (a + 1) = q * a + q := by rw [Nat.mul_add, Nat.mul_one]
  show (q + 1) * a ≤ 65536
  omega
/-- Does one of these numbers' places stand ahead of another one? -/
def lt (rs : List Nat) (i j : Nat) : Bool := decide (rs.getD j 0 < rs.getD i 0) || (decide (rs.getD i 0 = rs.getD j 0) && decide (i < j))
theorem lt_iff {rs : List Nat} {i j : Nat} : lt rs i j = true ↔ rs.getD j 0 < rs.getD i 0 ∨ (rs.getD i 0 = rs.getD j 0 ∧ i < j) := by
  unfold lt
  simp
theorem lt_irrefl (rs : List Nat) (i : Nat) : lt rs i i = false := by
  rw [← Bool.not_eq_true, lt_iff]
  omega
theorem lt_trans {rs : List Nat} {i j k : Nat} (h : lt rs i j = true) (h' : lt rs j k = true) : lt rs i k = true := by
  rw [lt_iff] at *
  omega
theorem lt_asymm {rs : List Nat} {i j : Nat} (h : lt rs i j = true) : lt rs j i = false := by
  rw [← Bool.not_eq_true, lt_iff]
  rw [lt_iff] at h
  omega
theorem lt_tri (rs : List Nat) (i j : Nat) : lt rs i j = true ∨ i = j ∨ lt rs j i = true := by
  rw [lt_iff, lt_iff]
  omega
/-- How many stand ahead. -/
def rk (rs : List Nat) (i : Nat) : Nat := (List.range rs.length).countP fun j => lt rs j i
theorem rk_at {rs : List Nat} {P : List Nat} (hp : P.Perm (List.range rs.length)) (hs : P.Pairwise fun i j => lt rs i j = true) {k i : Nat} (hk : P[k]? = some i) : rk rs i = k := by
  unfold rk
  rw [← hp.countP_eq]
  obtain ⟨hlt, hi⟩ := List.getElem?_eq_some_iff.1 hk
  have e : P = P.take k ++ i :: P.drop (k + 1) := by
    rw [← hi, List.getElem_cons_drop, List.take_append_drop]
  rw [e] at hs ⊢
  obtain ⟨_, h2, h3⟩ := List.pairwise_append.1 hs
  rw [List.countP_append, List.countP_cons, lt_irrefl]
  have h4 : (P.take k).countP (fun j => lt rs j i) = (P.take k).length := List.countP_eq_length.2 (fun a ha => h3 a ha i (by simp))
  have h5 : (P.drop (k + 1)).countP (fun j => lt rs j i) = 0 := List.countP_eq_zero.2 (fun a ha => by
    rw [lt_asymm ((List.pairwise_cons.1 h2).1 a ha)]; decide)
  rw [h4, h5, List.length_take]
  simp
  omega
/-- The places in order. -/
def srt (rs : List Nat) : List Nat := (List.range rs.length).mergeSort fun i j => !lt rs j i
theorem srt_perm (rs : List Nat) : (srt rs).Perm (List.range rs.length) := List.mergeSort_perm _ _
theorem srt_len (rs : List Nat) : (srt rs).length = rs.length := by rw [(srt_perm rs).length_eq, List.length_range]
theorem srt_sorted (rs : List Nat) : (srt rs).Pairwise fun i j => lt rs i j = true := by
  have h1 : (srt rs).Pairwise fun i j => (!lt rs j i) = true := List.pairwise_mergeSort (fun a b c h h' => by
    simp only [Bool.not_eq_true'] at *
    rcases lt_tri rs c a with h2 | h2 | h2
    · rcases lt_tri rs a b with h3 | h3 | h3
      · have := lt_trans h2 h3
        rw [h'] at this; cases this
      · subst h3
        rw [h'] at h2; cases h2
      · rw [h] at h3; cases h3
    · subst h2; exact lt_irrefl _ _
    · exact lt_asymm h2) (fun a b => by
    rcases lt_tri rs a b with h2 | h2 | h2
    · simp [lt_asymm h2]
    · subst h2; simp [lt_irrefl]
    · simp [lt_asymm h2]) _
  have h2 : (srt rs).Nodup := (srt_perm rs).nodup_iff.2 List.nodup_range
  refine (List.pairwise_and_iff.2 ⟨h1, h2⟩).imp (fun {a b} h => ?_)
  rcases lt_tri rs a b with h3 | h3 | h3
  · exact h3
  · exact absurd h3 h.2
  · have := h.1
    rw [h3] at this; cases this
theorem rk_ex {rs : List Nat} {t : Nat} (h : t < rs.length) : ∃ i, i < rs.length ∧ rk rs i = t := by
  have hl : t < (srt rs).length := by rw [srt_len]; exact h
  refine ⟨(srt rs)[t], ?_, rk_at (srt_perm rs) (srt_sorted rs) (List.getElem?_eq_getElem hl)⟩
  have := (srt_perm rs).mem_iff.1 (List.getElem_mem hl)
  exact List.mem_range.1 this
theorem rk_lt {rs : List Nat} {i j : Nat} (hi : i < rs.length) (h : lt rs i j = true) : rk rs i < rk rs j := by
  unfold rk
  have h1 : (List.range rs.length).countP (fun k => lt rs k i) + 1 ≤ (List.range rs.length).countP (fun k => lt rs k j) := by
    have h2 : i ∈ List.range rs.length := List.mem_range.2 hi
    obtain ⟨A, B, hAB⟩ := List.append_of_mem h2
    rw [hAB, List.countP_append, List.countP_append, List.countP_cons, List.countP_cons, lt_irrefl, h]
    have h3 : A.countP (fun k => lt rs k i) ≤ A.countP (fun k => lt rs k j) := List.countP_mono_left (fun k _ hk => lt_trans hk h)
    have h4 : B.countP (fun k => lt rs k i) ≤ B.countP (fun k => lt rs k j) := List.countP_mono_left (fun k _ hk => lt_trans hk h)
    simp
    omega
  omega
theorem rk_inj {rs : List Nat} {i j : Nat} (hi : i < rs.length) (hj : j < rs.length) (h : rk rs i = rk rs j) : i = j := by
  rcases lt_tri rs i j with h1 | h1 | h1
  · have := rk_lt hi h1; omega
  · exact h1
  · have := rk_lt hj h1; omega
theorem srt_mem {rs : List Nat} {P : List Nat} (hp : P.Perm (List.range rs.length)) (hs : P.Pairwise fun i j => lt rs i j = true) {i : Nat} (hi : i < rs.length) (t : Nat) : i ∈ P.take t ↔ rk rs i < t := by
  constructor
  · intro h
    obtain ⟨k, hk⟩ := List.getElem?_of_mem h
    rw [List.getElem?_take] at hk
    split at hk
    · rw [rk_at hp hs hk]; assumption
    · cases hk
  · intro h
    obtain ⟨k, hk⟩ := List.getElem?_of_mem (hp.mem_iff.2 (List.mem_range.2 hi))
    have := rk_at hp hs hk
    refine List.mem_of_getElem? (i := k) ?_
    rw [List.getElem?_take, if_pos (by omega)]
    exact hk
/-- How many have a rank below. -/
theorem rk_count {rs : List Nat} {t : Nat} (h : t ≤ rs.length) : ((List.range rs.length).countP fun i => decide (rk rs i < t)) = t := by
  have h1 := (srt_perm rs).countP_eq (fun i => decide (rk rs i < t))
  rw [← h1]
  have e : srt rs = (srt rs).take t ++ (srt rs).drop t := (List.take_append_drop _ _).symm
  rw [e, List.countP_append]
  have h2 : ((srt rs).take t).countP (fun i => decide (rk rs i < t)) = ((srt rs).take t).length := List.countP_eq_length.2 (fun i hi => by
    have hi2 : i < rs.length := List.mem_range.1 ((srt_perm rs).mem_iff.1 (List.mem_of_mem_take hi))
    simpa using (srt_mem (srt_perm rs) (srt_sorted rs) hi2 t).1 hi)
  have h3 : ((srt rs).drop t).countP (fun i => decide (rk rs i < t)) = 0 := List.countP_eq_zero.2 (fun i hi => by
    have hi2 : i < rs.length := List.mem_range.1 ((srt_perm rs).mem_iff.1 (List.mem_of_mem_drop hi))
    intro h4
    have h5 := (srt_mem (srt_perm rs) (srt_sorted rs) hi2 t).2 (of_decide_eq_true h4)
    have h6 : (srt rs).Nodup := (srt_perm rs).nodup_iff.2 List.nodup_range
    rw [e] at h6
    exact (List.nodup_append.1 h6).2.2 i h5 i hi rfl)
  rw [h2, h3, List.length_take, srt_len]
  omega
/-- Shares of weights: what divides, what is left. -/
def bseS (W : List Nat) : List Nat := W.map fun w => 256 * w / W.sum
def rstS (W : List Nat) : List Nat := W.map fun w => 256 * w % W.sum
def left (W : List Nat) : Nat := 256 - (bseS W).sum
def shares (W : List Nat) : List Nat := (List.range W.length).map fun i => (bseS W).getD i 0 + if rk (rstS W) i < left W then 1 else 0
theorem base_len (W : List Nat) : (bseS W).length = W.length := by simp [bseS]
theorem rest_len (W : List Nat) : (rstS W).length = W.length := by simp [rstS]
theorem shares_len (W : List Nat) : (shares W).length = W.length := by simp [shares]
theorem sums (S : Nat) : ∀ V : List Nat, S * (V.map fun w => 256 * w / S).sum + (V.map fun w => 256 * w % S).sum = 256 * V.sum
  | [] => by simp
  | w :: V => by
    have ih := sums S V
    have h := Nat.div_add_mod (256 * w) S
    simp only [List.map_cons, List.sum_cons, Nat.mul_add]
    omega
theorem rests (S : Nat) (hS : 0 < S) : ∀ V : List Nat, V ≠ [] → (V.map fun w => 256 * w % S).sum < V.length * S
  | [], h => absurd rfl h
  | w :: V, _ => by
    have h1 := Nat.mod_lt (256 * w) hS
    have h2 : (V.map fun w => 256 * w % S).sum ≤ V.length * S := by
      by_cases hV : V = []
      · subst hV; simp
      · exact Nat.le_of_lt (rests S hS V hV)
    simp only [List.map_cons, List.sum_cons, List.length_cons, Nat.add_mul]
    omega
theorem base_sum {W : List Nat} (h : 0 < W.sum) : (bseS W).sum ≤ 256 ∧ left W < W.length := by
  have h1 := sums W.sum W
  have hne : W ≠ [] := by rintro rfl; simp at h
  have h2 := rests W.sum h W hne
  unfold left bseS
  obtain ⟨b, hb⟩ : ∃ b, b = (W.map fun w => 256 * w / W.sum).sum := ⟨_, rfl⟩
  obtain ⟨r, hr⟩ : ∃ r, r = (W.map fun w => 256 * w % W.sum).sum := ⟨_, rfl⟩
  obtain ⟨S, hS⟩ : ∃ S, S = W.sum := ⟨_, rfl⟩
  rw [← hb]
  rw [← hr, ← hS] at h2
  rw [← hb, ← hr, ← hS] at h1
  rw [← hS] at h
  have h3 : b ≤ 256 := by
    rcases Nat.lt_or_ge 256 b with h4 | h4
    · have : S * 257 ≤ S * b := Nat.mul_le_mul_left S h4
      omega
    · exact h4
  refine ⟨h3, ?_⟩
  rcases Nat.lt_or_ge (256 - b) W.length with h4 | h4
  · exact h4
  · have h5 : W.length * S ≤ (256 - b) * S := Nat.mul_le_mul_right S h4
    have h6 : (256 - b) * S = 256 * S - S * b := by rw [Nat.sub_mul, Nat.mul_comm b S]
    omega
theorem sum_add (f g : Nat → Nat) : ∀ l : List Nat, (l.map fun i => f i + g i).sum = (l.map f).sum + (l.map g).sum
  | [] => rfl
  | x :: l => by
    have := sum_add f g l
    simp only [List.map_cons, List.sum_cons]
    omega
theorem sum_ind (p : Nat → Prop) [DecidablePred p] : ∀ l : List Nat, (l.map fun i => if p i then 1 else 0).sum = l.countP fun i => decide (p i)
  | [] => rfl
  | x :: l => by
    have := sum_ind p l
    rw [List.map_cons, List.sum_cons, List.countP_cons, this]
    by_cases h : p x <;> simp [h] <;> omega
theorem map_getD (V : List Nat) : ((List.range V.length).map fun i => V.getD i 0) = V := by
  apply List.ext_getElem
  · simp
  · intro i h1 h2
    simp at h1
    simp [h1]
theorem shares_sum {W : List Nat} (h : 0 < W.sum) : (shares W).sum = 256 := by
  obtain ⟨h1, h2⟩ := base_sum h
  unfold shares
  rw [sum_add (fun i => (bseS W).getD i 0) (fun i => if rk (rstS W) i < left W then 1 else 0), sum_ind (fun i => rk (rstS W) i < left W)]
  have h3 := map_getD (bseS W)
  rw [base_len] at h3
  rw [h3]
  have h4 := rk_count (rs := rstS W) (t := left W) (by rw [rest_len]; omega)
  rw [rest_len] at h4
  rw [h4]
  unfold left
  omega
theorem shares_at {W : List Nat} {i : Nat} (hi : i < W.length) : (shares W).getD i 0 = 256 * W.getD i 0 / W.sum + if rk (rstS W) i < left W then 1 else 0 := by
  unfold shares
  simp [hi, bseS]
theorem rest_at {W : List Nat} {i : Nat} (hi : i < W.length) : (rstS W).getD i 0 = 256 * W.getD i 0 % W.sum := by
  unfold rstS
  simp [hi]
/-- A greater weight's share is not less; of one weight they differ by one at most, and the first is not less. -/
theorem shares_mono {W : List Nat} {i k : Nat} (hi : i < W.length) (hk : k < W.length) (h : W.getD k 0 < W.getD i 0 ∨ (W.getD i 0 = W.getD k 0 ∧ i < k)) : (shares W).getD k 0 ≤ (shares W).getD i 0 := by
  rw [shares_at hi, shares_at hk]
  have hle : 256 * W.getD k 0 ≤ 256 * W.getD i 0 := by omega
  have hd := Nat.div_le_div_right (c := W.sum) hle
  rcases Nat.lt_or_ge (256 * W.getD k 0 / W.sum) (256 * W.getD i 0 / W.sum) with h1 | h1
  · split <;> split <;> omega
  · have he : 256 * W.getD k 0 / W.sum = 256 * W.getD i 0 / W.sum := by omega
    have m1 := Nat.div_add_mod (256 * W.getD k 0) W.sum
    have m2 := Nat.div_add_mod (256 * W.getD i 0) W.sum
    rw [he] at m1
    have hl : lt (rstS W) i k = true := by
      rw [lt_iff, rest_at hi, rest_at hk]
      rcases h with h | ⟨h, h'⟩
      · exact .inl (by omega)
      · exact .inr ⟨by rw [h], h'⟩
    have := rk_lt (rs := rstS W) (by rw [rest_len]; exact hi) hl
    rw [he]
    split <;> split <;> omega
theorem shares_near {W : List Nat} {i k : Nat} (hi : i < W.length) (hk : k < W.length) (h : W.getD i 0 = W.getD k 0) : (shares W).getD i 0 ≤ (shares W).getD k 0 + 1 := by
  rw [shares_at hi, shares_at hk, h]
  split <;> split <;> omega
theorem sum_le {V : List Nat} {i : Nat} (hi : i < V.length) : V.getD i 0 ≤ V.sum := by
  induction V generalizing i with
  | nil => simp at hi
  | cons x V ih =>
    cases i with
    | zero => simp
    | succ i =>
      have := ih (i := i) (by simpa using hi)
      simp at this ⊢
      omega
end Sp
end Go.Proofs.Ytdjhgahdiggahaa

namespace Go.Proofs.Ytdjhgahdiggahaa
namespace Sp

abbrev WyN := Int × Int
def wyAt (l : List WyN) (i : Nat) : WyN := l.getD i (0, 0)
def lst (l : List WyN) (i : Nat) : Int := if i = 0 then -1 else (wyAt l (i - 1)).1
/-- Is a way good, behind the one ahead? -/
def okAt (l : List WyN) (i : Nat) : Prop := lst l i < (wyAt l i).1 ∧ (wyAt l i).1 < 8 ∧ 0 ≤ (wyAt l i).2 ∧ (wyAt l i).2 < 255
instance (l : List WyN) (i : Nat) : Decidable (okAt l i) := by unfold okAt; exact inferInstance
def okTo (l : List WyN) (k : Nat) : Prop := ∀ j, j < k → okAt l j
/-- May ways be? -/
def mayP (l : List WyN) : Prop := l ≠ [] ∧ okTo l l.length
instance (l : List WyN) (k : Nat) : Decidable (okTo l k) := by unfold okTo; exact inferInstance
instance (l : List WyN) : Decidable (mayP l) := by unfold mayP; exact inferInstance
theorem okTo_succ {l : List WyN} {k : Nat} (h : okTo l k) (h' : okAt l k) : okTo l (k + 1) := fun j hj => by
  rcases Nat.lt_or_ge j k with h1 | h1
  · exact h j h1
  · rw [show j = k by omega]; exact h'
theorem lst_succ (l : List WyN) (k : Nat) : lst l (k + 1) = (wyAt l k).1 := by
  unfold lst
  rw [if_neg (by omega)]
  rfl
theorem okTo_ge {l : List WyN} {k : Nat} (h : okTo l k) : ∀ j, j < k → (j : Int) ≤ (wyAt l j).1 ∧ (wyAt l j).1 < 8
  | 0, hj => by
    have h1 := h 0 hj
    unfold okAt lst at h1
    rw [if_pos rfl] at h1
    exact ⟨by omega, h1.2.1⟩
  | j + 1, hj => by
    have ih := okTo_ge h j (by omega)
    have h1 := h (j + 1) hj
    unfold okAt at h1
    rw [lst_succ] at h1
    exact ⟨by omega, h1.2.1⟩
theorem okTo_few {l : List WyN} {k : Nat} (h : okTo l k) : k ≤ 8 := by
  rcases Nat.eq_zero_or_pos k with h0 | h0
  · omega
  · have := okTo_ge h (k - 1) (by omega)
    omega
theorem lst_ge {l : List WyN} {k : Nat} (h : okTo l k) : -1 ≤ lst l k := by
  cases k with
  | zero => exact Int.le_refl _
  | succ k =>
    rw [lst_succ]
    have := okTo_ge h k (by omega)
    omega
theorem mayP_len {l : List WyN} (h : mayP l) : 1 ≤ l.length ∧ l.length ≤ 8 := ⟨by
  rcases Nat.eq_zero_or_pos l.length with h0 | h0
  · exact absurd (List.length_eq_zero_iff.1 h0) h.1
  · exact h0, okTo_few h.2⟩
theorem not_may {l : List WyN} {i : Nat} (hi : i < l.length) (h : ¬ okAt l i) : ¬ mayP l := fun hm => h (hm.2 i hi)
/-- The weights. -/
def ws (l : List WyN) : List Nat := l.map fun n => wt n.2
theorem ws_len (l : List WyN) : (ws l).length = l.length := by simp [ws]
theorem ws_at {l : List WyN} {i : Nat} (hi : i < l.length) : (ws l).getD i 0 = wt (wyAt l i).2 := by
  unfold ws wyAt
  simp [hi]
theorem wyAt_get {l : List WyN} {i : Nat} {n : WyN} (h : l[i]? = some n) : wyAt l i = n := by
  unfold wyAt
  rw [List.getD_eq_getElem?_getD, h]
  rfl
theorem sum_take (W : List Nat) (i : Nat) (hi : i < W.length) : (W.take (i + 1)).sum = (W.take i).sum + W.getD i 0 := by
  have : W[i]? = some W[i] := List.getElem?_eq_getElem hi
  rw [List.take_add_one, this, List.sum_append]
  simp [hi]
theorem sum_le_of {m : Nat} : ∀ {W : List Nat}, (∀ x ∈ W, x ≤ m) → W.sum ≤ W.length * m
  | [], _ => by simp
  | x :: W, h => by
    have h1 := sum_le_of (W := W) (fun y hy => h y (by simp [hy]))
    have h2 := h x (by simp)
    simp only [List.sum_cons, List.length_cons, Nat.add_mul]
    omega
theorem ws_sum_le (l : List WyN) : (ws l).sum ≤ l.length * 65536 := by
  have h := sum_le_of (W := ws l) (m := 65536) (fun x hx => by
    unfold ws at hx
    obtain ⟨n, _, rfl⟩ := List.mem_map.1 hx
    exact wt_le _)
  rw [ws_len] at h
  exact h
theorem ws_pos {l : List WyN} (h : mayP l) : 0 < (ws l).sum := by
  have h1 := (mayP_len h).1
  have h2 := h.2 0 (by omega)
  have h3 := sum_le (V := ws l) (i := 0) (by rw [ws_len]; omega)
  rw [ws_at (by omega)] at h3
  have h4 := wt_pos h2.2.2
  omega
/-- The buckets ahead of a way's. -/
def pre (l : List WyN) (S : List Nat) (i : Nat) : List Int := (List.range i).flatMap fun j => List.replicate (S.getD j 0) (wyAt l j).1
theorem pre_succ (l : List WyN) (S : List Nat) (i : Nat) : pre l S (i + 1) = pre l S i ++ List.replicate (S.getD i 0) (wyAt l i).1 := by
  unfold pre
  rw [List.range_succ, List.flatMap_append, List.flatMap_singleton]
theorem pre_len (l : List WyN) (S : List Nat) : ∀ i, i ≤ S.length → (pre l S i).length = (S.take i).sum
  | 0, _ => by simp [pre]
  | i + 1, h => by
    rw [pre_succ, List.length_append, List.length_replicate, pre_len l S i (by omega), sum_take S i (by omega)]
theorem take_sum_le (S : List Nat) (i : Nat) : (S.take i).sum ≤ S.sum := by
  have h : S.sum = (S.take i).sum + (S.drop i).sum := by rw [← List.sum_append, List.take_append_drop]
  omega
/-- What stands in the buckets so far: the rstS are noughts. -/
def fill (A : List Int) : List Int := A ++ List.replicate (256 - A.length) 0
theorem fill_len {A : List Int} (h : A.length ≤ 256) : (fill A).length = 256 := by
  unfold fill
  rw [List.length_append, List.length_replicate]
  omega
theorem fill_snoc {A : List Int} (h : A.length < 256) (v : Int) : (fill A).set A.length v = fill (A ++ [v]) := by
  unfold fill
  rw [List.set_append_right _ _ (Nat.le_refl _), Nat.sub_self, List.append_assoc, List.length_append, List.length_singleton]
  congr 1
  obtain ⟨m, hm⟩ : ∃ m, 256 - A.length = m + 1 := ⟨255 - A.length, by omega⟩
  rw [hm, show 256 - (A.length + 1) = m by omega, List.replicate_succ, List.set_cons_zero]
  rfl
theorem fill_full {A : List Int} (h : A.length = 256) : fill A = A := by
  unfold fill
  rw [h]
  simp
theorem rep_succ (k : Nat) (v : Int) : List.replicate (k + 1) v = List.replicate k v ++ [v] := List.replicate_succ'
/-- All buckets. -/
def tab (l : List WyN) : List Int := pre l (shares (ws l)) l.length
theorem tab_len {l : List WyN} (h : mayP l) : (tab l).length = 256 := by
  unfold tab
  rw [pre_len _ _ _ (by rw [shares_len, ws_len]; omega)]
  have h1 := shares_sum (ws_pos h)
  have h2 : (shares (ws l)).take l.length = shares (ws l) := List.take_of_length_le (by rw [shares_len, ws_len]; omega)
  rw [h2, h1]
theorem pre_room {l : List WyN} (h : mayP l) {i k : Nat} (hi : i < l.length) (hk : k ≤ (shares (ws l)).getD i 0) : (pre l (shares (ws l)) i).length + k ≤ 256 := by
  have hl : (shares (ws l)).length = l.length := by rw [shares_len, ws_len]
  rw [pre_len _ _ _ (by omega)]
  have h1 := shares_sum (ws_pos h)
  have h2 := take_sum_le (shares (ws l)) (i + 1)
  rw [sum_take _ i (by omega)] at h2
  omega
/-- The hash of bytes. -/
def st1 (h : Nat) (x : UInt8) : Nat := (h ^^^ x.toNat) * 16777619 % 4294967296
theorem st1_lt (h : Nat) (x : UInt8) : st1 h x < 4294967296 := by
  unfold st1
  exact Nat.mod_lt _ (by decide)
def fnv (h : Nat) (l : List UInt8) : Nat := l.foldl st1 h
theorem fnv_nil (h : Nat) : fnv h [] = h := rfl
theorem fnv_cons (h : Nat) (x : UInt8) (l : List UInt8) : fnv h (x :: l) = fnv (st1 h x) l := by
  unfold fnv
  rw [List.foldl_cons]
theorem fnv_append (h : Nat) (l m : List UInt8) : fnv h (l ++ m) = fnv (fnv h l) m := by
  unfold fnv
  rw [List.foldl_append]
theorem fnv_step {l : List UInt8} {j : Nat} {x : UInt8} (h : l[j]? = some x) (a : Nat) : fnv a (l.take (j + 1)) = st1 (fnv a (l.take j)) x := by
  rw [List.take_add_one, h, fnv_append, Option.toList_some, fnv_cons, fnv_nil]
theorem fnv_lt {h : Nat} (hh : h < 4294967296) (l : List UInt8) : fnv h l < 4294967296 := by
  induction l generalizing h with
  | nil => rw [fnv_nil]; exact hh
  | cons x l ih =>
    rw [fnv_cons]
    exact ih (st1_lt _ _)
/-- The hash of lists, one behind the other, so far. -/
def fnvs (L : List (List UInt8)) : Nat := L.foldl fnv 2166136261
theorem fnvs_snoc (L : List (List UInt8)) (l : List UInt8) : fnvs (L ++ [l]) = fnv (fnvs L) l := by
  unfold fnvs
  rw [List.foldl_append, List.foldl_cons, List.foldl_nil]
theorem fnvs_step {L : List (List UInt8)} {i : Nat} {l : List UInt8} (h : L[i]? = some l) : fnvs (L.take (i + 1)) = fnv (fnvs (L.take i)) l := by
  rw [List.take_add_one, h, ← fnvs_snoc, Option.toList_some]
theorem fnvs_lt (L : List (List UInt8)) : fnvs L < 4294967296 := by
  unfold fnvs
  have : ∀ (h : Nat), h < 4294967296 → L.foldl fnv h < 4294967296 := by
    induction L with
    | nil => exact fun h hh => hh
    | cons l L ih => exact fun h hh => ih _ (fnv_lt hh l)
  exact this _ (by decide)
theorem fnvs_flat (L : List (List UInt8)) : fnvs L = fnv 2166136261 L.flatten := by
  unfold fnvs
  generalize 2166136261 = h
  induction L generalizing h with
  | nil => rfl
  | cons l L ih => rw [List.foldl_cons, ih, List.flatten_cons, fnv_append]
end Sp
end Go.Proofs.Ytdjhgahdiggahaa

namespace Go.Proofs.Ytdjhgahdiggahaa
open Go.RowKit

def bv (l : List UInt8) : List Value := l.map fun b => .int .u8 (b.toNat : Int)

/-- The value reads as these bytes. -/
def Bytes (w : World) (v : Value) (l : List UInt8) : Prop :=
  (l = [] ∧ ∃ a c, v = .slice a 0 c ∧ (a = none → c = 0)) ∨
  ∃ b o c, v = .slice (some ⟨b, o, none⟩) l.length c ∧ b < w.heap.size ∧ l.length ≤ c ∧ ∀ j x, l[j]? = some x → w.cell? ⟨b, o + j, none⟩ = some (.int .u8 (x.toNat : Int))

theorem Bytes.later {w w' : World} {v : Value} {l : List UInt8} (h : Bytes w v l) (hb : Below w.heap.size w w') : Bytes w' v l := by
  rcases h with h | ⟨b, o, c, h1, h2, hp, h3⟩
  · exact .inl h
  · exact .inr ⟨b, o, c, h1, Nat.lt_of_lt_of_le h2 hb.size, hp, fun j x hx => cell_later hb (h3 j x hx)⟩

theorem cell_later' {w wr : World} {B : Nat} {b o : Nat} {v : Value} (h : Below B w wr) (hb : b < B) (hc : w.cell? ⟨b, o, none⟩ = some v) : wr.cell? ⟨b, o, none⟩ = some v :=
  (h.cell (p := ⟨b, o, none⟩) hb).trans hc

theorem own_ne {w : World} {B : Nat} {e : TypeId} {size n : Nat} {v : Value} {xs : List Value} {b : Nat} (h : w.ownsRow B e size v n xs) (hb : b < B) : some b ≠ v.ownBlock := by
  rcases h.2 with ⟨rfl, _⟩ | ⟨g, cap, cur, rfl, hg, _⟩
  · simp [Value.ownBlock]
  · simp [Value.ownBlock]; omega

theorem Bytes.form {w : World} {v : Value} {l : List UInt8} (h : Bytes w v l) : ∃ a c, v = .slice a l.length c := by
  rcases h with ⟨rfl, a, c, rfl, _⟩ | ⟨b, o, c, rfl, _, _⟩
  · exact ⟨a, c, rfl⟩
  · exact ⟨_, c, rfl⟩

theorem Bytes.nil (w : World) (a : Option Addr) (c : Nat) (h : a = none → c = 0 := by intros; first | rfl | contradiction | simp_all) : Bytes w (.slice a 0 c) [] := .inl ⟨rfl, a, c, rfl, h⟩
/-- Without an address there is nothing. -/
theorem Bytes.noaddr {w : World} {n c : Nat} {l : List UInt8} (h : Bytes w (.slice none n c) l) : n = 0 ∧ c = 0 ∧ l = [] := by
  rcases h with ⟨rfl, a, c', h1, h2⟩ | ⟨b, o, c', h1, _, _⟩
  · simp only [Value.slice.injEq] at h1
    obtain ⟨rfl, rfl, rfl⟩ := h1
    exact ⟨rfl, h2 rfl, rfl⟩
  · simp at h1

theorem Bytes.of_own {w : World} {base : Nat} {e : TypeId} {v : Value} {n : Nat} {l : List UInt8} (h : w.ownsRow base e 1 v n (bv l)) : Bytes w v l := by
  obtain ⟨hl, h0 | ⟨g, cap, cur, rfl, hb, hg, hn, hm, hc, ht⟩⟩ := h
  · obtain ⟨rfl, rfl⟩ := h0
    simp [bv] at hl
    subst hl
    exact Bytes.nil _ _ _
  · have hln : l.length = n := by simpa [bv] using hl
    subst hln
    refine .inr ⟨g, 0, cap, rfl, ?_, hn, fun j x hx => ?_⟩
    · rcases Nat.lt_or_ge g w.heap.size with h1 | h1
      · exact h1
      · rw [Array.getElem?_eq_none h1] at hg; cases hg
    · rw [Nat.zero_add, cell_of_row w g j cur e (0, 0) hg]
      have hj : j < l.length := (List.getElem?_eq_some_iff.1 hx).1
      have : (bv l)[j]? = some (.int .u8 (x.toNat : Int)) := by simp [bv, hx]
      rw [← ht, List.getElem?_take, if_pos (by omega)] at this
      simpa using this

theorem push_fold : ∀ (l : List UInt8) (s : ByteArray), (l.map fun b => (b.toNat : Int)).foldl (fun r n => r.push (UInt8.ofNat n.toNat)) s = ⟨(s.data.toList ++ l).toArray⟩
  | [], s => by simp
  | b :: l, s => by
    simp only [List.map_cons, List.foldl_cons]
    rw [push_fold l]
    have : (s.push (UInt8.ofNat ((b.toNat : Int)).toNat)).data.toList = s.data.toList ++ [b] := by
      simp [ByteArray.push]
    rw [this]
    simp

/-- string(b). -/
theorem Bytes.str {P : Program} {w : World} {v : Value} {l : List UInt8} (h : Bytes w v l) {src dst e : TypeId}
    (hs : P.underlying src = some (.slice e)) (he : P.underlying e = some (.int .u8)) (hd : P.underlying dst = some .string) :
    (convert src dst v).run P w = .ok (.string ⟨l.toArray⟩) w := by
  rcases h with ⟨rfl, a, c, rfl, _⟩ | ⟨b, o, c, rfl, hb, _, hc⟩
  · rw [run_convert_bytes_string w src dst e a 0 c hs he hd]
    cases a with
    | none => simp [Conv.bytesToString]; rfl
    | some a =>
      have := run_bytesToString (P := P) w a 0 c [] (by have := run_loadCells_list (P := P) w a [] (by simp); simpa using this)
      rw [this]; rfl
  · rw [run_convert_bytes_string w src dst e _ _ c hs he hd]
    have hl : (loadCells ⟨b, o, none⟩ l.length).run P w = .ok ((l.map fun b => (b.toNat : Int)).map (Value.int .u8)).toArray w := by
      have := run_loadCells_list (P := P) w ⟨b, o, none⟩ (bv l) (fun j u hu => by
        simp only [bv, List.getElem?_map, Option.map_eq_some_iff] at hu
        obtain ⟨x, hx, rfl⟩ := hu
        have := hc j x hx
        cases j with
        | zero => simpa [Addr.add] using this
        | succ j => simpa [Addr.add] using this)
      simpa [bv, List.map_map, Function.comp_def] using this
    rw [run_bytesToString (P := P) w _ _ c _ hl, push_fold]
    rfl

theorem str_eq {a b : List UInt8} (h : a = b) : ((⟨a.toArray⟩ : ByteArray).toList == (⟨b.toArray⟩ : ByteArray).toList) = true := by rw [h]; simp

theorem news_one (w : World) (v : Value) (t : TypeId) : ∀ (j : Nat) (u : Value), [v][j]? = some u → (w.alloc (.cells #[v] t)).cell? ((⟨w.heap.size, 0, none⟩ : Addr).add j) = some u := by
  intro j u hj
  match j, hj with
  | 0, hj => simp at hj; subst hj; simp [Addr.add]
theorem one_int (k : IntKind) (x : Int) : ∀ u ∈ [Value.int k x], u.oneCell' = true := by intro u hu; simp at hu; subst hu; rfl
theorem one_slice (a : Option Addr) (n c : Nat) : ∀ u ∈ [Value.slice a n c], u.oneCell' = true := by intro u hu; simp at hu; subst hu; rfl

theorem own_base {w : World} {B : Nat} {e : TypeId} {size n : Nat} {v : Value} {xs : List Value} (h : w.ownsRow B e size v n xs) {j : Nat} (hj : v.ownBlock = some j) : B ≤ j := by
  rcases h.2 with ⟨rfl, _⟩ | ⟨g, cap, cur, rfl, hg, _⟩
  · simp [Value.ownBlock] at hj
  · simp [Value.ownBlock] at hj; omega

theorem bv_append (a b : List UInt8) : bv (a ++ b) = bv a ++ bv b := by simp [bv]
theorem bv_one (l : List UInt8) : ∀ u ∈ bv l, u.oneCell' = true := by
  intro u hu
  simp only [bv, List.mem_map] at hu
  obtain ⟨b, _, rfl⟩ := hu
  rfl
theorem Bytes.news {w : World} {x : Addr} {n c : Nat} {l : List UInt8} (h : Bytes w (.slice (some x) n c) l) : ∀ (j : Nat) (u : Value), (bv l)[j]? = some u → w.cell? (x.add j) = some u := by
  intro j u hu
  simp only [bv, List.getElem?_map, Option.map_eq_some_iff] at hu
  obtain ⟨y, hy, rfl⟩ := hu
  rcases h with ⟨rfl, _⟩ | ⟨b, o, c', h1, h2, _, h3⟩
  · simp at hy
  · simp only [Value.slice.injEq, Option.some.injEq] at h1
    obtain ⟨rfl, rfl, rfl⟩ := h1
    have := h3 j y hy
    cases j with
    | zero => simpa [Addr.add] using this
    | succ j => simpa [Addr.add] using this
end Go.Proofs.Ytdjhgahdiggahaa

namespace Go.Proofs.Ytdjhgahdiggahaa
open Go.RowKit

/-- The value reads as these lists of bytes. -/
def Lists (w : World) (v : Value) (L : List (List UInt8)) : Prop :=
  (L = [] ∧ ∃ a c, v = .slice a 0 c ∧ (a = none → c = 0)) ∨
  ∃ b o c, v = .slice (some ⟨b, o, none⟩) L.length c ∧ b < w.heap.size ∧ L.length ≤ c ∧ ∀ j l, L[j]? = some l → ∃ u, w.cell? ⟨b, o + j, none⟩ = some u ∧ Bytes w u l

theorem Lists.later {w w' : World} {v : Value} {L : List (List UInt8)} (h : Lists w v L) (hb : Below w.heap.size w w') : Lists w' v L := by
  rcases h with h | ⟨b, o, c, h1, h2, hp, h3⟩
  · exact .inl h
  · refine .inr ⟨b, o, c, h1, Nat.lt_of_lt_of_le h2 hb.size, hp, fun j l hl => ?_⟩
    obtain ⟨u, hu, hx⟩ := h3 j l hl
    exact ⟨u, cell_later hb hu, hx.later hb⟩
theorem Lists.form {w : World} {v : Value} {L : List (List UInt8)} (h : Lists w v L) : ∃ a c, v = .slice a L.length c := by
  rcases h with ⟨rfl, a, c, rfl, _⟩ | ⟨b, o, c, rfl, _, _⟩
  · exact ⟨a, c, rfl⟩
  · exact ⟨_, c, rfl⟩
/-- The element at a place: where it lies, in every later world. -/
theorem Lists.at {w : World} {a : Option Addr} {n c : Nat} {L : List (List UInt8)} (h : Lists w (.slice a n c) L) {i : Nat} (hi : i < L.length) :
    ∃ b o, a = some ⟨b, o, none⟩ ∧ b < w.heap.size ∧ ∃ x d, w.cell? ⟨b, o + i, none⟩ = some (.slice x L[i].length d) ∧ Bytes w (.slice x L[i].length d) L[i] := by
  rcases h with ⟨rfl, _⟩ | ⟨b, o, c', h1, h2, _, h3⟩
  · simp at hi
  · obtain ⟨u, hu, hx⟩ := h3 i L[i] (List.getElem?_eq_getElem hi)
    obtain ⟨x, d, rfl⟩ := hx.form
    simp only [Value.slice.injEq] at h1
    exact ⟨b, o, h1.1, h2, x, d, hu, hx⟩
theorem Bytes.at {w : World} {a : Option Addr} {n c : Nat} {l : List UInt8} (h : Bytes w (.slice a n c) l) {i : Nat} (hi : i < l.length) :
    ∃ b o, a = some ⟨b, o, none⟩ ∧ b < w.heap.size ∧ w.cell? ⟨b, o + i, none⟩ = some (.int .u8 (l[i].toNat : Int)) := by
  rcases h with ⟨rfl, _⟩ | ⟨b, o, c', h1, h2, _, h3⟩
  · simp at hi
  · simp only [Value.slice.injEq] at h1
    exact ⟨b, o, h1.1, h2, h3 i _ (List.getElem?_eq_getElem hi)⟩
theorem Lists.nil (w : World) (a : Option Addr) (c : Nat) (h : a = none → c = 0 := by intros; first | rfl | contradiction | simp_all) : Lists w (.slice a 0 c) [] := .inl ⟨rfl, a, c, rfl, h⟩

theorem bytes_lit (w : World) (l : List UInt8) : Bytes (w.alloc (.cells (bv l).toArray 5)) (.slice (some ⟨w.heap.size, 0, none⟩) l.length l.length) l :=
  .inr ⟨w.heap.size, 0, l.length, rfl, by simp, Nat.le_refl _, fun j x hx => by
    have : (bv l)[j]? = some (.int .u8 (x.toNat : Int)) := by simp [bv, hx]
    simp [this]⟩

/-- Bytes that are kept, and all that was there ahead. -/
def KeptB (w0 : World) (v : Value) (l : List UInt8) (w' : World) : Prop := Bytes w' v l ∧ w0.heap.size < w'.heap.size ∧ Below w0.heap.size w0 w'
theorem KeptB.later {w0 w1 w2 : World} {v : Value} {l : List UInt8} (h : KeptB w0 v l w1) (hb : Below w1.heap.size w1 w2) : KeptB w0 v l w2 :=
  ⟨h.1.later hb, Nat.lt_of_lt_of_le h.2.1 hb.size, h.2.2.trans (hb.mono (Nat.le_of_lt h.2.1))⟩
theorem KeptB.drew {w0 w1 : World} {v : Value} {l : List UInt8} (h : KeptB w0 v l w1) : KeptB w0 v l w1.drew := h.later (Below.refl _ _).drew
theorem KeptB.alloc {w0 w1 : World} {v : Value} {l : List UInt8} (h : KeptB w0 v l w1) (o : Obj) : KeptB w0 v l (w1.alloc o) := h.later ((Below.refl _ _).alloc (Nat.le_refl _) o)
theorem KeptB.allocDrew {w0 w1 : World} {v : Value} {l : List UInt8} (h : KeptB w0 v l w1) (o : Obj) : KeptB w0 v l (w1.alloc o).drew := (h.alloc o).drew

theorem ret_u {k : IntKind} {a : Nat} {b : Int} (h : (a : Int) = b) : Ending.returned (.int k a) = .returned (.int k b) := by rw [h]
theorem bytes_take {w : World} {b : Option Addr} {n c : Nat} {l : List UInt8} (h : Bytes w (.slice b n c) l) {k : Nat} (hk : k ≤ l.length) : Bytes w (.slice b k c) (l.take k) := by
  rcases h with ⟨rfl, a, c', h1, h2⟩ | ⟨bl, o, c', h1, h2, hp, h3⟩
  · simp only [Value.slice.injEq] at h1
    obtain ⟨rfl, rfl, rfl⟩ := h1
    have : k = 0 := by simpa using hk
    subst this
    exact .inl ⟨by simp, _, _, rfl, h2⟩
  · simp only [Value.slice.injEq] at h1
    obtain ⟨rfl, rfl, rfl⟩ := h1
    refine .inr ⟨bl, o, c, by rw [List.length_take, Nat.min_eq_left hk], h2, by rw [List.length_take]; omega, fun j x hx => h3 j x ?_⟩
    rw [List.getElem?_take] at hx
    split at hx
    · exact hx
    · cases hx
theorem bytes_drop {w : World} {bl o c : Nat} {l : List UInt8} {n : Nat} (h : Bytes w (.slice (some ⟨bl, o, none⟩) n c) l) (k : Nat) (m : Nat) (hm : m = l.length - k) (d : Nat) (hd : m ≤ d) : Bytes w (.slice (some ⟨bl, o + k, none⟩) m d) (l.drop k) := by
  subst hm
  rcases h with ⟨rfl, a, c', h1, h2⟩ | ⟨bl, o, c', h1, h2, hp, h3⟩
  · simp only [Value.slice.injEq] at h1
    exact .inl ⟨by simp, some ⟨bl, o + k, none⟩, d, by simp, fun h => by cases h⟩
  · simp only [Value.slice.injEq, Option.some.injEq, Addr.mk.injEq] at h1
    obtain ⟨⟨rfl, rfl, _⟩, rfl, rfl⟩ := h1
    refine .inr ⟨bl, o + k, d, by simp, h2, by simpa using hd, fun j x hx => ?_⟩
    rw [List.getElem?_drop] at hx
    rw [Nat.add_assoc]
    exact h3 (k + j) x hx

theorem lists_one3 {W : World} {v : Value} {l : List UInt8} {n : Nat} (h : Bytes W v l) (hc : W.cell? ⟨n, 0, none⟩ = some v) (hn : n < W.heap.size) : Lists W (.slice (some ⟨n, 0, none⟩) 1 1) [l] :=
  .inr ⟨n, 0, 1, rfl, hn, Nat.le_refl _, fun j x hx => by
    match j, hx with
    | 0, hx => simp at hx; subst hx; exact ⟨v, hc, h⟩⟩
theorem lists_two3 {W : World} {u v : Value} {k l : List UInt8} {n : Nat} (g : Bytes W u k) (h : Bytes W v l) (hu : W.cell? ⟨n, 0, none⟩ = some u) (hc : W.cell? ⟨n, 1, none⟩ = some v) (hn : n < W.heap.size) : Lists W (.slice (some ⟨n, 0, none⟩) 2 2) [k, l] :=
  .inr ⟨n, 0, 2, rfl, hn, Nat.le_refl _, fun j x hx => by
    match j, hx with
    | 0, hx => simp at hx; subst hx; exact ⟨u, by simpa using hu, g⟩
    | 1, hx => simp at hx; subst hx; exact ⟨v, by simpa using hc, h⟩⟩

theorem Bytes.cap {w : World} {a : Option Addr} {n c : Nat} {l : List UInt8} (h : Bytes w (.slice a n c) l) : l.length ≤ c := by
  rcases h with ⟨rfl, _⟩ | ⟨b, o, c', e1, e2, e3, e4⟩
  · simp
  · simp only [Value.slice.injEq] at e1
    obtain ⟨rfl, rfl, rfl⟩ := e1
    exact e3
/-- What is cut out of a slice reads as the part. -/
theorem Bytes.sliced {w : World} {a : Option Addr} {n c : Nat} {l : List UInt8} (h : Bytes w (.slice a n c) l) {lo hi m : Nat} (h1 : lo ≤ hi) (h2 : hi ≤ l.length) (h3 : hi ≤ m) (h4 : m ≤ c) : Bytes w (Go.sliced a lo hi m 1) ((l.take hi).drop lo) := by
  unfold Go.sliced
  rcases h with ⟨rfl, a', c', e1, e2⟩ | ⟨b, o, c', e1, e2, e3, e4⟩
  · simp only [Value.slice.injEq] at e1
    obtain ⟨rfl, rfl, rfl⟩ := e1
    have : hi = 0 := by simpa using h2
    subst this
    have : lo = 0 := by omega
    subst this
    refine .inl ⟨by simp, _, _, rfl, fun h => ?_⟩
    split at h
    · omega
    · have : a = none := by simpa using h
      have := e2 this
      omega
  · simp only [Value.slice.injEq] at e1
    obtain ⟨rfl, rfl, rfl⟩ := e1
    rcases Nat.eq_or_lt_of_le h1 with rfl | h5
    · refine .inl ⟨by simp, _, _, by rw [Nat.sub_self], fun h => ?_⟩
      split at h <;> simp at h
    · have hlen : ((l.take hi).drop lo).length = hi - lo := by simp; omega
      rw [if_neg (by omega)]
      refine .inr ⟨b, o + lo, m - lo, ?_, e2, by omega, fun j x hx => ?_⟩
      · rw [hlen]
        simp only [Option.map_some, Nat.mul_one, Value.slice.injEq, and_true]
        unfold Addr.add
        by_cases h0 : lo = 0 <;> simp [h0]
      · rw [List.getElem?_drop, List.getElem?_take] at hx
        split at hx
        · have := e4 (lo + j) x hx
          rw [Nat.add_assoc]; exact this
        · cases hx
theorem cells1 : (Try.prog.underlying 97) = some (.slice (Try.prog.elem 97)) := by kernel_rfl
theorem size1 (w : World) : (sizeOf (Try.prog.elem 97)).run Try.prog w = .ok 1 w := by kernel_rfl
/-- b[i:]. -/
theorem Bytes.cut_l {w : World} {a : Option Addr} {c : Nat} {l : List UInt8} (h : Bytes w (.slice a l.length c) l) (i : Int) (lo : Nat) (hi : i = lo) (hlo : lo ≤ l.length) :
    ∃ a', (∀ w, (Instr.slice 97 (.slice a l.length c) (some (.int .i64 i)) none none).run Try.prog w = .ok (.slice a' (l.length - lo) (c - lo)) w) ∧ Bytes w (.slice a' (l.length - lo) (c - lo)) (l.drop lo) := by
  have hc := h.cap
  subst hi
  have hb := h.sliced hlo (Nat.le_refl _) hc (Nat.le_refl _)
  rw [List.take_length] at hb
  refine ⟨_, fun w => ?_, hb⟩
  rw [run_slice_l w _ a _ _ cells1 _ _ (by omega) (by omega), size1]
  rfl
/-- b[:i]. -/
theorem Bytes.cut_h {w : World} {a : Option Addr} {n c : Nat} {l : List UInt8} (h : Bytes w (.slice a n c) l) (i : Int) (hi : Nat) (he : i = hi) (hlo : hi ≤ l.length) :
    (∀ w, (Instr.slice 97 (.slice a n c) none (some (.int .i64 i)) none).run Try.prog w = .ok (.slice a hi c) w) ∧ Bytes w (.slice a hi c) (l.take hi) := by
  have hc := h.cap
  subst he
  have hb := h.sliced (lo := 0) (Nat.zero_le _) hlo (by omega) (Nat.le_refl _)
  have e : Go.sliced a 0 hi c 1 = .slice a hi c := by
    unfold Go.sliced
    congr 1
    split
    · rfl
    · cases a <;> simp [Addr.add]
  refine ⟨fun w => ?_, bytes_take h hlo⟩
  rw [run_slice_h w _ a _ _ cells1 _ _ (by omega) (by omega), size1]
  show Result.ok (Go.sliced a 0 _ c 1) w = _
  rw [Int.toNat_natCast, e]
end Go.Proofs.Ytdjhgahdiggahaa

namespace Go.Proofs.Ytdjhgahdiggahaa
open Go.RowKit

def Row (w : World) (v : Value) (xs : List Value) : Prop :=
  (xs = [] ∧ ∃ a c, v = .slice a 0 c ∧ (a = none → c = 0)) ∨
  ∃ b o c, v = .slice (some ⟨b, o, none⟩) xs.length c ∧ b < w.heap.size ∧ xs.length ≤ c ∧ ∀ j x, xs[j]? = some x → w.cell? ⟨b, o + j, none⟩ = some x
theorem Row.later {w w' : World} {v : Value} {l : List Value} (h : Row w v l) (hb : Below w.heap.size w w') : Row w' v l := by
  rcases h with h | ⟨b, o, c, h1, h2, hp, h3⟩
  · exact .inl h
  · exact .inr ⟨b, o, c, h1, Nat.lt_of_lt_of_le h2 hb.size, hp, fun j x hx => cell_later hb (h3 j x hx)⟩
theorem Row.form {w : World} {v : Value} {l : List Value} (h : Row w v l) : ∃ a c, v = .slice a l.length c := by
  rcases h with ⟨rfl, a, c, rfl, _⟩ | ⟨b, o, c, rfl, _, _⟩
  · exact ⟨a, c, rfl⟩
  · exact ⟨_, c, rfl⟩
theorem Row.at {w : World} {a : Option Addr} {n c : Nat} {l : List Value} (h : Row w (.slice a n c) l) {i : Nat} {x : Value} (hi : l[i]? = some x) :
    ∃ b o, a = some ⟨b, o, none⟩ ∧ b < w.heap.size ∧ w.cell? ⟨b, o + i, none⟩ = some x := by
  rcases h with ⟨rfl, _⟩ | ⟨b, o, c', h1, h2, _, h3⟩
  · simp at hi
  · simp only [Value.slice.injEq] at h1
    exact ⟨b, o, h1.1, h2, h3 i _ hi⟩
theorem Row.of_own {w : World} {base : Nat} {e : TypeId} {v : Value} {n : Nat} {l : List Value} (h : w.ownsRow base e 1 v n l) : Row w v l := by
  obtain ⟨hl, h0 | ⟨g, cap, cur, rfl, hb, hg, hn, hm, hc, ht⟩⟩ := h
  · obtain ⟨rfl, rfl⟩ := h0
    simp at hl
    subst hl
    exact .inl ⟨rfl, _, _, rfl, fun _ => rfl⟩
  · have hln : l.length = n := by simpa using hl
    subst hln
    refine .inr ⟨g, 0, cap, rfl, ?_, hn, fun j x hx => ?_⟩
    · rcases Nat.lt_or_ge g w.heap.size with h1 | h1
      · exact h1
      · rw [Array.getElem?_eq_none h1] at hg; cases hg
    · rw [Nat.zero_add, cell_of_row w g j cur e (0, 0) hg]
      have hj : j < l.length := (List.getElem?_eq_some_iff.1 hx).1
      have : l[j]? = some x := hx
      rw [← ht, List.getElem?_take, if_pos (by omega)] at this
      simpa using this
theorem Row.of_bytes {w : World} {v : Value} {l : List UInt8} (h : Bytes w v l) : Row w v (bv l) := by
  rcases h with ⟨rfl, a, c, rfl, h1⟩ | ⟨b, o, c, rfl, h2, hp, h3⟩
  · exact .inl ⟨rfl, a, c, rfl, h1⟩
  · refine .inr ⟨b, o, c, by simp [bv], h2, by simpa [bv] using hp, fun j x hx => ?_⟩
    simp only [bv, List.getElem?_map, Option.map_eq_some_iff] at hx
    obtain ⟨y, hy, rfl⟩ := hx
    exact h3 j y hy
theorem ownsRow_later {w w' : World} {B : Nat} {e : TypeId} {s n : Nat} {v : Value} {xs : List Value} (h : w.ownsRow B e s v n xs) (hb : Below w.heap.size w w') : w'.ownsRow B e s v n xs := by
  obtain ⟨hl, h0 | ⟨g, cap, cur, rfl, hb1, hg, hn, hm, hc, ht⟩⟩ := h
  · exact ⟨hl, .inl h0⟩
  · refine ⟨hl, .inr ⟨g, cap, cur, rfl, hb1, ?_, hn, hm, hc, ht⟩⟩
    rw [hb.block g ?_]
    · exact hg
    · rcases Nat.lt_or_ge g w.heap.size with h1 | h1
      · exact h1
      · rw [Array.getElem?_eq_none h1] at hg; cases hg
def iv (l : List Int) : List Value := l.map fun z => .int .i64 z
theorem iv_at {zs : List Int} {k : Nat} (h : k < zs.length) : (iv zs)[k]? = some (.int .i64 zs[k]) := by simp [iv, h]
end Go.Proofs.Ytdjhgahdiggahaa

namespace Go.Proofs.Ytdjhgahdiggahaa
open Go.ChangeShapes Go.WideShapes Go.ChangeAt Go.RowKit

theorem lt_u8 {a : Int} (h : 0 ≤ a ∧ a ≤ 255) : a < 256 := by omega
theorem lt_u16 {a : Int} (h : 0 ≤ a ∧ a ≤ 65535) : a < 65536 := by omega
theorem lt_u32 {a : Int} (h : 0 ≤ a ∧ a ≤ 4294967295) : a < 4294967296 := by omega
theorem lt_u64 {a : Int} (h : 0 ≤ a ∧ a ≤ 18446744073709551615) : a < 18446744073709551616 := by omega

theorem own : ownKnob Try.prog.godebug = none := by kernel_rfl
theorem laidOut : laidOutB Try.prog = true := by kernel_rfl


theorem spot_none {W : World} {a : Addr} {v : Value} (h : W.cell? (a.add 0) = some v) : a.spot = none := by
  obtain ⟨b, o, sp⟩ := a
  cases sp with
  | none => rfl
  | some s =>
    simp [World.cell?, Addr.add] at h
    split at h <;> cases h
theorem bytes_of_ints {W : World} {A : Option Addr} {len cap : Nat} {zs : List Int} (hl : len ≤ cap) (hz : zs.length = cap) (hwz : ∀ n ∈ zs, (Lit.int .u8 n).wf = true) (h0 : A = none → cap = 0)
    (hc : ∀ a, A = some a → ∀ c, c < cap → W.cell? (a.add c) = some (.int .u8 (zs.getD c 0))) : Bytes W (.slice A len cap) ((zs.take len).map fun z => UInt8.ofNat z.toNat) := by
  have hlen : ((zs.take len).map fun z => UInt8.ofNat z.toNat).length = len := by simp; omega
  rcases Nat.eq_zero_or_pos len with hp | hp
  · subst hp
    exact .inl ⟨by simp, A, cap, rfl, h0⟩
  · cases A with
    | none => have := h0 rfl; omega
    | some x =>
      have hcell := hc x rfl
      have hc0 := hcell 0 (by omega)
      have hsp := spot_none hc0
      obtain ⟨b, o, sp⟩ := x
      simp only at hsp
      subst hsp
      refine .inr ⟨b, o, cap, by rw [hlen], ?_, by rw [hlen]; exact hl, ?_⟩
      · have := World.block_lt_of_cell? _ _ hc0
        simpa [Addr.add] using this
      · intro j y hy
        simp only [List.getElem?_map, Option.map_eq_some_iff] at hy
        obtain ⟨z, hz1, rfl⟩ := hy
        have hj : j < len := by
          have := (List.getElem?_eq_some_iff.1 hz1).1
          simp at this; omega
        have hz2 : zs[j]? = some z := by rw [List.getElem?_take, if_pos hj] at hz1; exact hz1
        have hb := bounds_u8 (hwz z (List.mem_of_getElem? hz2))
        have hcj := hcell j (by omega)
        have he : zs.getD j 0 = z := by simp [List.getD, hz2]
        rw [he] at hcj
        have hn : ((UInt8.ofNat z.toNat).toNat : Int) = z := by rw [UInt8.toNat_ofNat']; omega
        rw [hn]
        cases j with
        | zero => simpa [Addr.add] using hcj
        | succ j => simpa [Addr.add] using hcj

set_option maxRecDepth 100000 in
theorem open_bytes {H : Type} {enc : TypeId × Value → H} {W : World} {base : Nat} {v : Value} {d : DataW H} {p : List MemPlace}
    (hv : Value.okWide Try.prog W .any base 97 v) (h : DataW.Trod enc Try.prog W 0 (fun _ => true) true 97 v d p) : ∃ l : List UInt8, Bytes W v l ∧ l.length ≤ 9223372036854775807 := by
  obtain ⟨a, len, cap, rfl⟩ := okWide_slice Try.underlying97 hv
  obtain ⟨fuel, hf⟩ := h
  rcases open_ints Try.underlying97 Try.underlying5 (by kernel_rfl) hf with ⟨hcs, _⟩ | ⟨x, l, c, zs, hcs, _, hl, hm, hz, _, hcell, hwz⟩
  · simp [Value.cells] at hcs
    obtain ⟨rfl, rfl, rfl⟩ := hcs
    exact ⟨[], Bytes.nil _ _ _, by simp⟩
  · simp [Value.cells] at hcs
    obtain ⟨rfl, rfl, rfl⟩ := hcs
    unfold maxLen at hm
    have hzl : zs.length = cap := by simpa using hz
    exact ⟨_, bytes_of_ints hl hzl hwz (fun h => by cases h) (fun a ha c hc => by cases ha; exact hcell c (by omega)), by simp; omega⟩

set_option maxRecDepth 100000 in
theorem open_lists {H : Type} {enc : TypeId × Value → H} {W : World} {base : Nat} {v : Value} {d : DataW H} {p : List MemPlace}
    (hv : Value.okWide Try.prog W .any base 154 v) (h : DataW.Trod enc Try.prog W 0 (fun _ => true) true 154 v d p) :
    ∃ L : List (List UInt8), Lists W v L ∧ L.length ≤ 9223372036854775807 ∧ ∀ l ∈ L, l.length ≤ 9223372036854775807 := by
  obtain ⟨a, len, cap, rfl⟩ := okWide_slice Try.underlying154 hv
  obtain ⟨fuel, hf⟩ := h
  rcases Deep.open_int_rows Try.underlying154 Try.underlying97 Try.underlying5 (by kernel_rfl) (by kernel_rfl) hf with ⟨hcs, _⟩ | ⟨x, l, c, A, Ln, C, Z, hcs, _, hl, hm, _, hr⟩
  · simp [Value.cells] at hcs
    obtain ⟨rfl, rfl, rfl⟩ := hcs
    exact ⟨[], Lists.nil _ _ _, by simp, by simp⟩
  · simp [Value.cells] at hcs
    obtain ⟨rfl, rfl, rfl⟩ := hcs
    unfold maxLen at hm hr
    have each : ∀ r, r < cap → Bytes W (.slice (A r) (Ln r) (C r)) (((Z r).take (Ln r)).map fun z => UInt8.ofNat z.toNat) := fun r hrr => by
      obtain ⟨_, h1, h2, h3, h4, h5, h6⟩ := hr r hrr
      exact bytes_of_ints h1 h3 h4 h5 (fun a ha c hc => (h6 a ha).2 c hc)
    refine ⟨(List.range len).map fun r => ((Z r).take (Ln r)).map fun z => UInt8.ofNat z.toNat, ?_, by simp; omega, ?_⟩
    · rcases Nat.eq_zero_or_pos len with hp | hp
      · subst hp
        exact .inl ⟨by simp, _, _, rfl, fun h => by cases h⟩
      · have hc0 := (hr 0 (by omega)).1
        have hsp := spot_none hc0
        obtain ⟨b, o, sp⟩ := x
        simp only at hsp
        subst hsp
        refine .inr ⟨b, o, cap, by simp, ?_, by simpa using hl, ?_⟩
        · have := World.block_lt_of_cell? _ _ hc0
          simpa [Addr.add] using this
        · intro j l hjl
          simp only [List.getElem?_map, Option.map_eq_some_iff] at hjl
          obtain ⟨r, hr1, rfl⟩ := hjl
          have hj : j < len := by
            have := (List.getElem?_eq_some_iff.1 hr1).1
            simpa using this
          have hr2 : r = j := by rw [List.getElem?_range hj] at hr1; cases hr1; rfl
          subst hr2
          refine ⟨_, ?_, each r (by omega)⟩
          have := (hr r (by omega)).1
          cases r with
          | zero => simpa [Addr.add] using this
          | succ r => simpa [Addr.add] using this
    · intro l hl2
      simp only [List.mem_map, List.mem_range] at hl2
      obtain ⟨r, hr1, rfl⟩ := hl2
      obtain ⟨_, h1, h2, h3, _⟩ := hr r (by omega)
      simp; omega

set_option maxRecDepth 100000 in
theorem open_introw {H : Type} {enc : TypeId × Value → H} {W : World} {base : Nat} {v : Value} {d : DataW H} {p : List MemPlace}
    (hv : Value.okWide Try.prog W .any base 62 v) (h : DataW.Trod enc Try.prog W 0 (fun _ => true) true 62 v d p) :
    ∃ zs : List Int, Row W v (iv zs) ∧ zs.length ≤ 9223372036854775807 ∧ ∀ z ∈ zs, -9223372036854775808 ≤ z ∧ z ≤ 9223372036854775807 := by
  obtain ⟨a, len, cap, rfl⟩ := okWide_slice Try.underlying62 hv
  obtain ⟨fuel, hf⟩ := h
  rcases open_ints Try.underlying62 Try.underlying3 (by kernel_rfl) hf with ⟨hcs, _⟩ | ⟨x, l, c, zs, hcs, _, hl, hm, hz, _, hcell, hwz⟩
  · simp [Value.cells] at hcs
    obtain ⟨rfl, rfl, rfl⟩ := hcs
    exact ⟨[], .inl ⟨rfl, _, _, rfl, fun _ => rfl⟩, by simp, by simp⟩
  · simp [Value.cells] at hcs
    obtain ⟨rfl, rfl, rfl⟩ := hcs
    unfold maxLen at hm
    have hzl : zs.length = cap := by simpa using hz
    refine ⟨zs.take len, ?_, by simp; omega, fun z hz2 => bounds_i64 (hwz z (List.mem_of_mem_take hz2))⟩
    rcases Nat.eq_zero_or_pos len with hp | hp
    · subst hp
      exact .inl ⟨by simp [iv], _, _, rfl, fun h => by cases h⟩
    · have hc0 := hcell 0 (by omega)
      have hsp := spot_none hc0
      obtain ⟨b, o, sp⟩ := x
      simp only at hsp
      subst hsp
      have hlen : (iv (zs.take len)).length = len := by simp [iv]; omega
      refine .inr ⟨b, o, cap, by rw [hlen], ?_, by rw [hlen]; exact hl, ?_⟩
      · have := World.block_lt_of_cell? _ _ hc0
        simpa [Addr.add] using this
      · intro j y hy
        simp only [iv, List.getElem?_map, Option.map_eq_some_iff] at hy
        obtain ⟨z, hz1, rfl⟩ := hy
        have hj : j < len := by
          have := (List.getElem?_eq_some_iff.1 hz1).1
          simp at this; omega
        have hz2 : zs[j]? = some z := by rw [List.getElem?_take, if_pos hj] at hz1; exact hz1
        have hcj := hcell j (by omega)
        have he : zs.getD j 0 = z := by simp [List.getD, hz2]
        rw [he] at hcj
        cases j with
        | zero => simpa [Addr.add] using hcj
        | succ j => simpa [Addr.add] using hcj

end Go.Proofs.Ytdjhgahdiggahaa

namespace Go.Proofs.Ytdjhgahdiggahaa
open Go.ChangeShapes Go.WideShapes Go.ChangeAt Go.RowKit Go.Joins Go.Deep

/-- The value reads as these, each of k cells. -/
def Rds {α : Type} (k : Nat) (f : α → List Value) (w : World) (v : Value) (L : List α) : Prop :=
  (L = [] ∧ ∃ a c, v = .slice a 0 c ∧ (a = none → c = 0)) ∨
  ∃ b o c, v = .slice (some ⟨b, o, none⟩) L.length c ∧ b < w.heap.size ∧ L.length ≤ c ∧ ∀ j x, L[j]? = some x → ∀ i u, (f x)[i]? = some u → w.cell? ⟨b, o + j * k + i, none⟩ = some u
section
variable {α : Type} {k : Nat} {f : α → List Value}
theorem Rds.later {w w' : World} {v : Value} {L : List α} (h : Rds k f w v L) (hb : Below w.heap.size w w') : Rds k f w' v L := by
  rcases h with h | ⟨b, o, c, h1, h2, hp, h3⟩
  · exact .inl h
  · exact .inr ⟨b, o, c, h1, Nat.lt_of_lt_of_le h2 hb.size, hp, fun j x hx i u hu => cell_later hb (h3 j x hx i u hu)⟩
theorem Rds.form {w : World} {v : Value} {L : List α} (h : Rds k f w v L) : ∃ a c, v = .slice a L.length c := by
  rcases h with ⟨rfl, a, c, rfl, _⟩ | ⟨b, o, c, rfl, _, _⟩
  · exact ⟨a, c, rfl⟩
  · exact ⟨_, c, rfl⟩
theorem Rds.at {w : World} {a : Option Addr} {n c : Nat} {L : List α} (h : Rds k f w (.slice a n c) L) {i : Nat} {x : α} (hx : L[i]? = some x) :
    ∃ b o, a = some ⟨b, o, none⟩ ∧ b < w.heap.size ∧ ∀ j u, (f x)[j]? = some u → w.cell? ⟨b, o + i * k + j, none⟩ = some u := by
  rcases h with ⟨rfl, _⟩ | ⟨b, o, c', h1, h2, _, h3⟩
  · simp at hx
  · simp only [Value.slice.injEq] at h1
    exact ⟨b, o, h1.1, h2, fun j u hu => h3 i x hx j u hu⟩
set_option maxRecDepth 100000 in
theorem open_rds [Inhabited α] {H : Type} {enc : TypeId × Value → H} {W : World} {base : Nat} {v : Value} {d : DataW H} {p : List MemPlace} {t : TypeId} (hu : Try.prog.underlying t = some (.slice (Try.prog.elem t))) (hC : Try.prog.cellsOf (Try.prog.elem t) = k) (hk : 0 < k) (Pr : α → Prop)
    (one : ∀ {n : Nat} {cs : List Value} {y : DataW H × List MemPlace}, DataW.trod enc Try.prog W 0 (fun _ => true) true n (Try.prog.elem t) cs = some y → cs.length = k → ∃ x : α, cs = f x ∧ Pr x)
    (hv : Value.okWide Try.prog W .any base t v) (h : DataW.Trod enc Try.prog W 0 (fun _ => true) true t v d p) :
    ∃ L : List α, Rds k f W v L ∧ L.length ≤ 9223372036854775807 ∧ ∀ x ∈ L, Pr x := by
  obtain ⟨a, len, cap, rfl⟩ := okWide_slice hu hv
  obtain ⟨fuel, hf⟩ := h
  rcases open_slice hu hf with ⟨hcs, _⟩ | ⟨x, l, c, m, n, D, Pl, hcs, _, hl, hm, hmm, _, hx⟩
  · simp [Value.cells] at hcs
    obtain ⟨rfl, rfl, rfl⟩ := hcs
    exact ⟨[], .inl ⟨rfl, _, _, rfl, fun _ => rfl⟩, by simp, by simp⟩
  · simp [Value.cells] at hcs
    obtain ⟨rfl, rfl, rfl⟩ := hcs
    unfold maxLen at hm
    have hm2 : m = cap := by simpa using hmm
    subst hm2
    rw [hC] at hx
    have each : ∀ i, i < m → ∃ u : α, ((f u).length = k ∧ ∀ j z, (f u)[j]? = some z → W.cell? ((x.add (i * k)).add j) = some z) ∧ Pr u := by
      intro i hi
      obtain ⟨cs', h1, h2⟩ := hx i hi
      obtain ⟨_, hlen, hcell⟩ := World.cells?_some h1
      obtain ⟨u, rfl, hu⟩ := one h2 hlen
      refine ⟨u, ⟨hlen, fun j z hz => ?_⟩, hu⟩
      have hj := (List.getElem?_eq_some_iff.1 hz).1
      exact (hcell j (by omega)).trans hz
    obtain ⟨F, hF⟩ := choose_lt each
    have hlen : ((List.range len).map F).length = len := by simp
    refine ⟨(List.range len).map F, ?_, by rw [hlen]; omega, ?_⟩
    · rcases Nat.eq_zero_or_pos len with hp | hp
      · subst hp
        exact .inl ⟨by simp, _, _, rfl, fun h => by cases h⟩
      · obtain ⟨⟨hl0, hc⟩, _⟩ := hF 0 (by omega)
        have hc0 := hc 0 _ (List.getElem?_eq_getElem (by omega))
        rw [Nat.zero_mul] at hc0
        have hsp := spot_none (a := x) (by simpa [Addr.add] using hc0)
        obtain ⟨b, o, sp⟩ := x
        simp only at hsp
        subst hsp
        refine .inr ⟨b, o, m, by rw [hlen], ?_, by rw [hlen]; exact hl, ?_⟩
        · have := World.block_lt_of_cell? _ _ hc0
          simpa [Addr.add] using this
        · intro j u hju i z hz
          simp only [List.getElem?_map, Option.map_eq_some_iff] at hju
          obtain ⟨r, hr1, rfl⟩ := hju
          have hj : j < len := by
            have := (List.getElem?_eq_some_iff.1 hr1).1
            simpa using this
          have hr : r = j := by
            rw [List.getElem?_range hj] at hr1
            exact (Option.some.inj hr1).symm
          subst hr
          have := (hF r (by omega)).1.2 i z hz
          have ad : ∀ b o k, (⟨b, o, none⟩ : Addr).add k = ⟨b, o + k, none⟩ := fun b o k => by cases k <;> simp [Addr.add]
          rw [ad, ad] at this
          exact this
    · intro u hu
      obtain ⟨r, hr, rfl⟩ := List.mem_map.1 hu
      have := List.mem_range.1 hr
      exact (hF r (by omega)).2
end
end Go.Proofs.Ytdjhgahdiggahaa
