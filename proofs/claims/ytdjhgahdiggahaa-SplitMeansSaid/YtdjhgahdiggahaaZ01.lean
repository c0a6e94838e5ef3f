/- Walks of small functions of the layer wire and of its reference: what they return, and that they leave memory alone but for new blocks.
   Plain numbers of the layer wire: prefixes, their order; no program in it.
   A hash over lists: the program's walk.
   Lists of bytes in memory: a slice value that reads as a list of lists of bytes.
   Bytes in memory: a slice value that reads as a list of bytes; no function of the program in it.
   Ways, buckets, hashes, plainly.
   Shares of weights, plainly.
   What all walks import; small lemmas on endings and on what a call leaves as it was. -/
import Derived.Test.YtdjhgahdiggahaaRows
import Derived.WalkKit
import Derived.WalkSpells
import Derived.WalkLawsBesides
import Derived.Lib.Hide
import Derived.Deep.QuietTactic
import Derived.BigQuiet
import Derived.Handy
import Derived.Deep.RegionWith
import Derived.Deep.RegionHeld3
import Derived.StillTailTactics
import Derived.Deep.DrawnRows
import Derived.Laws.BitsAllLaws
import Derived.Lib.AtoiAll
import Derived.Lib.ItoaNum
import Derived.Lib.IndexMore

set_option linter.unusedSimpArgs false
set_option linter.unusedVariables false
namespace Go.Proofs.Ytdjhgahdiggahaa
open Go.RowKit
attribute [local go_sem ↓] Go.wp_at_zero Go.wp_at_succ

theorem ret_b {a b : Bool} (h : a = b) : Ending.returned (.bool a) = .returned (.bool b) := by rw [h]
theorem ret_i {k : IntKind} {a b : Int} (h : a = b) : Ending.returned (.int k a) = .returned (.int k b) := by rw [h]
theorem ret_ii {k k2 : IntKind} {a a' b b' : Int} (h : a = a') (h2 : b = b') : Ending.returned (.tuple #[.int k a, .int k2 b]) = .returned (.tuple #[.int k a', .int k2 b']) := by rw [h, h2]
theorem bcell {W w1 : World} (hb : Below W.heap.size W w1) : (∀ b o, b < W.heap.size → w1.cell? ⟨b, o, none⟩ = W.cell? ⟨b, o, none⟩) ∧ (∀ b o, b < W.heap.size → w1.frozen? ⟨b, o, none⟩ = W.frozen? ⟨b, o, none⟩) :=
  ⟨fun b o h => hb.cell (p := ⟨b, o, none⟩) h, fun b o h => hb.frozen (p := ⟨b, o, none⟩) h⟩
theorem below_of {w w1 w2 : World} (h : Below w.heap.size w w1) (h2 : Below w1.heap.size w1 w2) : Below w.heap.size w w2 := h.trans (h2.mono h.size)
theorem ba1 (w : World) (o : Obj) : Below w.heap.size w (w.alloc o) := (Below.refl _ _).alloc (Nat.le_refl _) _
theorem below_dr0 (B : Nat) (w : World) (n : Nat) : Below B w (w.drewN n) := ⟨rfl, rfl, rfl, Nat.le_refl _, fun _ _ => rfl⟩
theorem wrap8 (n : Int) : IntKind.u8.wrap n = n % 256 := rfl
theorem wrap16 (n : Int) : IntKind.u16.wrap n = n % 65536 := rfl
theorem wrap32 (n : Int) : IntKind.u32.wrap n = n % 4294967296 := rfl

end Go.Proofs.Ytdjhgahdiggahaa

namespace Go.Proofs.Ytdjhgahdiggahaa
namespace Sp

/-- A way's weight. -/
def wt (d : Int) : Nat := if 0 ≤ d ∧ d < 255 then 65536 / (d.toNat + 1) else 0
theorem wt_le (d : Int) : wt d ≤ 65536 := by
  unfold wt
  split
  · exact Nat.div_le_self _ _
  · omega
theorem wt_pos {d : Int} (h : 0 ≤ d ∧ d < 255) : 257 ≤ wt d := by
  unfold wt
  rw [if_pos h]
  exact (Nat.le_div_iff_mul_le (by omega)).2 (by omega)
theorem wt_zero {d : Int} : wt d = 0 ↔ ¬ (0 ≤ d ∧ d < 255) := by
  constructor
  · intro h hd
    have := wt_pos hd
    omega
  · intro h
    unfold wt
    rw [if_neg h]
theorem wt_lt {d e : Int} (h0 : 0 ≤ d) (h : d < e) (h1 : e < 255) : wt e < wt d := by
  unfold wt
  rw [if_pos ⟨by omega, h1⟩, if_pos ⟨h0, by omega⟩]
  obtain ⟨a, ha⟩ : ∃ a, a = d.toNat + 1 := ⟨_, rfl⟩
  obtain ⟨b, hb⟩ : ∃ b, b = e.toNat + 1 := ⟨_, rfl⟩
  rw [← ha, ← hb]
  have hab : a + 1 ≤ b := by omega
  have hb5 : b ≤ 255 := by omega
  obtain ⟨q, hq⟩ : ∃ q, q = 65536 / b := ⟨_, rfl⟩
  rw [← hq]
  have hq1 : 257 ≤ q := by rw [hq]; exact (Nat.le_div_iff_mul_le (by omega)).2 (by omega)
  have hq2 : q * b ≤ 65536 := by rw [hq]; exact Nat.div_mul_le_self _ _
  refine (Nat.le_div_iff_mul_le (by omega)).2 ?_
  have h3 : q * (a + 1) ≤ q * b := Nat.mul_le_mul_left q hab
  have h4 : (q + 1) * a = q * a + a := by rw [Nat.add_mul, Nat.one_mul]
  have h5 : q * (a + 1) = q * a + q := by rw [Nat.mul_add, Nat.mul_one]
  show (q + 1) * a ≤ 65536
  omega
/-- Does one of these numbers' places stand ahead of another one? -/
def lt (rs : List Nat) (i j : Nat) : Bool := decide (rs.getD j 0 < rs.getD i 0) || (decide (rs.getD i 0 = rs.getD j 0) && decide (i < j))
theorem lt_iff {rs : List Nat} {i j : Nat} : lt rs i j = true ↔ rs.getD j 0 < rs.getD i 0 ∨ (rs.getD i 0 = rs.getD j 0 ∧ i < j) := by
  unfold lt
  simp
theorem lt_irrefl (rs : List Nat) (i : Nat) : lt rs i i = false := by
  rw [← Bool.not_eq_true, lt_iff]
  omega
theorem lt_trans {rs : List Nat} {i j k : Nat} (h : lt rs i j = true) (h' : lt rs j k = true) : lt rs i k = true := by
  rw [lt_iff] at *
  omega
theorem lt_asymm {rs : List Nat} {i j : Nat} (h : lt rs i j = true) : lt rs j i = false := by
  rw [← Bool.not_eq_true, lt_iff]
  rw [lt_iff] at h
  omega
theorem lt_tri (rs : List Nat) (i j : Nat) : lt rs i j = true ∨ i = j ∨ lt rs j i = true := by
  rw [lt_iff, lt_iff]
  omega
/-- How many stand ahead. -/
def rk (rs : List Nat) (i : Nat) : Nat := (List.range rs.length).countP fun j => lt rs j i
theorem rk_at {rs : List Nat} {P : List Nat} (hp : P.Perm (List.range rs.length)) (hs : P.Pairwise fun i j => lt rs i j = true) {k i : Nat} (hk : P[k]? = some i) : rk rs i = k := by
  unfold rk
  rw [← hp.countP_eq]
  obtain ⟨hlt, hi⟩ := List.getElem?_eq_some_iff.1 hk
  have e : P = P.take k ++ i :: P.drop (k + 1) := by
    rw [← hi, List.getElem_cons_drop, List.take_append_drop]
  rw [e] at hs ⊢
  obtain ⟨_, h2, h3⟩ := List.pairwise_append.1 hs
  rw [List.countP_append, List.countP_cons, lt_irrefl]
  have h4 : (P.take k).countP (fun j => lt rs j i) = (P.take k).length := List.countP_eq_length.2 (fun a ha => h3 a ha i (by simp))
  have h5 : (P.drop (k + 1)).countP (fun j => lt rs j i) = 0 := List.countP_eq_zero.2 (fun a ha => by
    rw [lt_asymm ((List.pairwise_cons.1 h2).1 a ha)]; decide)
  rw [h4, h5, List.length_take]
  simp
  omega
/-- The places in order. -/
def srt (rs : List Nat) : List Nat := (List.range rs.length).mergeSort fun i j => !lt rs j i
theorem srt_perm (rs : List Nat) : (srt rs).Perm (List.range rs.length) := List.mergeSort_perm _ _
theorem srt_len (rs : List Nat) : (srt rs).length = rs.length := by rw [(srt_perm rs).length_eq, List.length_range]
theorem srt_sorted (rs : List Nat) : (srt rs).Pairwise fun i j => lt rs i j = true := by
  have h1 : (srt rs).Pairwise fun i j => (!lt rs j i) = true := List.pairwise_mergeSort (fun a b c h h' => by
    simp only [Bool.not_eq_true'] at *
    rcases lt_tri rs c a with h2 | h2 | h2
    · rcases lt_tri rs a b with h3 | h3 | h3
      · have := lt_trans h2 h3
        rw [h'] at this; cases this
      · subst h3
        rw [h'] at h2; cases h2
      · rw [h] at h3; cases h3
    · subst h2; exact lt_irrefl _ _
    · exact lt_asymm h2) (fun a b => by
    rcases lt_tri rs a b with h2 | h2 | h2
    · simp [lt_asymm h2]
    · subst h2; simp [lt_irrefl]
    · simp [lt_asymm h2]) _
  have h2 : (srt rs).Nodup := (srt_perm rs).nodup_iff.2 List.nodup_range
  refine (List.pairwise_and_iff.2 ⟨h1, h2⟩).imp (fun {a b} h => ?_)
  rcases lt_tri rs a b with h3 | h3 | h3
  · exact h3
  · exact absurd h3 h.2
  · have := h.1
    rw [h3] at this; cases this
theorem rk_ex {rs : List Nat} {t : Nat} (h : t < rs.length) : ∃ i, i < rs.length ∧ rk rs i = t := by
  have hl : t < (srt rs).length := by rw [srt_len]; exact h
  refine ⟨(srt rs)[t], ?_, rk_at (srt_perm rs) (srt_sorted rs) (List.getElem?_eq_getElem hl)⟩
  have := (srt_perm rs).mem_iff.1 (List.getElem_mem hl)
  exact List.mem_range.1 this
theorem rk_lt {rs : List Nat} {i j : Nat} (hi : i < rs.length) (h : lt rs i j = true) : rk rs i < rk rs j := by
  unfold rk
  have h1 : (List.range rs.length).countP (fun k => lt rs k i) + 1 ≤ (List.range rs.length).countP (fun k => lt rs k j) := by
    have h2 : i ∈ List.range rs.length := List.mem_range.2 hi
    obtain ⟨A, B, hAB⟩ := List.append_of_mem h2
    rw [hAB, List.countP_append, List.countP_append, List.countP_cons, List.countP_cons, lt_irrefl, h]
    have h3 : A.countP (fun k => lt rs k i) ≤ A.countP (fun k => lt rs k j) := List.countP_mono_left (fun k _ hk => lt_trans hk h)
    have h4 : B.countP (fun k => lt rs k i) ≤ B.countP (fun k => lt rs k j) := List.countP_mono_left (fun k _ hk => lt_trans hk h)
    simp
    omega
  omega
theorem rk_inj {rs : List Nat} {i j : Nat} (hi : i < rs.length) (hj : j < rs.length) (h : rk rs i = rk rs j) : i = j := by
  rcases lt_tri rs i j with h1 | h1 | h1
  · have := rk_lt hi h1; omega
  · exact h1
  · have := rk_lt hj h1; omega
theorem srt_mem {rs : List Nat} {P : List Nat} (hp : P.Perm (List.range rs.length)) (hs : P.Pairwise fun i j => lt rs i j = true) {i : Nat} (hi : i < rs.length) (t : Nat) : i ∈ P.take t ↔ rk rs i < t := by
  constructor
  · intro h
    obtain ⟨k, hk⟩ := List.getElem?_of_mem h
    rw [List.getElem?_take] at hk
    split at hk
    · rw [rk_at hp hs hk]; assumption
    · cases hk
  · intro h
    obtain ⟨k, hk⟩ := List.getElem?_of_mem (hp.mem_iff.2 (List.mem_range.2 hi))
    have := rk_at hp hs hk
    refine List.mem_of_getElem? (i := k) ?_
    rw [List.getElem?_take, if_pos (by omega)]
    exact hk
/-- How many have a rank below. -/
theorem rk_count {rs : List Nat} {t : Nat} (h : t ≤ rs.length) : ((List.range rs.length).countP fun i => decide (rk rs i < t)) = t := by
  have h1 := (srt_perm rs).countP_eq (fun i => decide (rk rs i < t))
  rw [← h1]
  have e : srt rs = (srt rs).take t ++ (srt rs).drop t := (List.take_append_drop _ _).symm
  rw [e, List.countP_append]
  have h2 : ((srt rs).take t).countP (fun i => decide (rk rs i < t)) = ((srt rs).take t).length := List.countP_eq_length.2 (fun i hi => by
    have hi2 : i < rs.length := List.mem_range.1 ((srt_perm rs).mem_iff.1 (List.mem_of_mem_take hi))
    simpa using (srt_mem (srt_perm rs) (srt_sorted rs) hi2 t).1 hi)
  have h3 : ((srt rs).drop t).countP (fun i => decide (rk rs i < t)) = 0 := List.countP_eq_zero.2 (fun i hi => by
    have hi2 : i < rs.length := List.mem_range.1 ((srt_perm rs).mem_iff.1 (List.mem_of_mem_drop hi))
    intro h4
    have h5 := (srt_mem (srt_perm rs) (srt_sorted rs) hi2 t).2 (of_decide_eq_true h4)
    have h6 : (srt rs).Nodup := (srt_perm rs).nodup_iff.2 List.nodup_range
    rw [e] at h6
    exact (List.nodup_append.1 h6).2.2 i h5 i hi rfl)
  rw [h2, h3, List.length_take, srt_len]
  omega
/-- Shares of weights: what divides, what is left. -/
def bseS (W : List Nat) : List Nat := W.map fun w => 256 * w / W.sum
def rstS (W : List Nat) : List Nat := W.map fun w => 256 * w % W.sum
def left (W : List Nat) : Nat := 256 - (bseS W).sum
def shares (W : List Nat) : List Nat := (List.range W.length).map fun i => (bseS W).getD i 0 + if rk (rstS W) i < left W then 1 else 0
theorem base_len (W : List Nat) : (bseS W).length = W.length := by simp [bseS]
theorem rest_len (W : List Nat) : (rstS W).length = W.length := by simp [rstS]
theorem shares_len (W : List Nat) : (shares W).length = W.length := by simp [shares]
theorem sums (S : Nat) : ∀ V : List Nat, S * (V.map fun w => 256 * w / S).sum + (V.map fun w => 256 * w % S).sum = 256 * V.sum
  | [] => by simp
  | w :: V => by
    have ih := sums S V
    have h := Nat.div_add_mod (256 * w) S
    simp only [List.map_cons, List.sum_cons, Nat.mul_add]
    omega
theorem rests (S : Nat) (hS : 0 < S) : ∀ V : List Nat, V ≠ [] → (V.map fun w => 256 * w % S).sum < V.length * S
  | [], h => absurd rfl h
  | w :: V, _ => by
    have h1 := Nat.mod_lt (256 * w) hS
    have h2 : (V.map fun w => 256 * w % S).sum ≤ V.length * S := by
      by_cases hV : V = []
      · subst hV; simp
      · exact Nat.le_of_lt (rests S hS V hV)
    simp only [List.map_cons, List.sum_cons, List.length_cons, Nat.add_mul]
    omega
theorem base_sum {W : List Nat} (h : 0 < W.sum) : (bseS W).sum ≤ 256 ∧ left W < W.length := by
  have h1 := sums W.sum W
  have hne : W ≠ [] := by rintro rfl; simp at h
  have h2 := rests W.sum h W hne
  unfold left bseS
  obtain ⟨b, hb⟩ : ∃ b, b = (W.map fun w => 256 * w / W.sum).sum := ⟨_, rfl⟩
  obtain ⟨r, hr⟩ : ∃ r, r = (W.map fun w => 256 * w % W.sum).sum := ⟨_, rfl⟩
  obtain ⟨S, hS⟩ : ∃ S, S = W.sum := ⟨_, rfl⟩
  rw [← hb]
  rw [← hr, ← hS] at h2
  rw [← hb, ← hr, ← hS] at h1
  rw [← hS] at h
  have h3 : b ≤ 256 := by
    rcases Nat.lt_or_ge 256 b with h4 | h4
    · have : S * 257 ≤ S * b := Nat.mul_le_mul_left S h4
      omega
    · exact h4
  refine ⟨h3, ?_⟩
  rcases Nat.lt_or_ge (256 - b) W.length with h4 | h4
  · exact h4
  · have h5 : W.length * S ≤ (256 - b) * S := Nat.mul_le_mul_right S h4
    have h6 : (256 - b) * S = 256 * S - S * b := by rw [Nat.sub_mul, Nat.mul_comm b S]
    omega
theorem sum_add (f g : Nat → Nat) : ∀ l : List Nat, (l.map fun i => f i + g i).sum = (l.map f).sum + (l.map g).sum
  | [] => rfl
  | x :: l => by
    have := sum_add f g l
    simp only [List.map_cons, List.sum_cons]
    omega
theorem sum_ind (p : Nat → Prop) [DecidablePred p] : ∀ l : List Nat, (l.map fun i => if p i then 1 else 0).sum = l.countP fun i => decide (p i)
  | [] => rfl
  | x :: l => by
    have := sum_ind p l
    rw [List.map_cons, List.sum_cons, List.countP_cons, this]
    by_cases h : p x <;> simp [h] <;> omega
theorem map_getD (V : List Nat) : ((List.range V.length).map fun i => V.getD i 0) = V := by
  apply List.ext_getElem
  · simp
  · intro i h1 h2
    simp at h1
    simp [h1]
theorem shares_sum {W : List Nat} (h : 0 < W.sum) : (shares W).sum = 256 := by
  obtain ⟨h1, h2⟩ := base_sum h
  unfold shares
  rw [sum_add (fun i => (bseS W).getD i 0) (fun i => if rk (rstS W) i < left W then 1 else 0), sum_ind (fun i => rk (rstS W) i < left W)]
  have h3 := map_getD (bseS W)
  rw [base_len] at h3
  rw [h3]
  have h4 := rk_count (rs := rstS W) (t := left W) (by rw [rest_len]; omega)
  rw [rest_len] at h4
  rw [h4]
  unfold left
  omega
theorem shares_at {W : List Nat} {i : Nat} (hi : i < W.length) : (shares W).getD i 0 = 256 * W.getD i 0 / W.sum + if rk (rstS W) i < left W then 1 else 0 := by
  unfold shares
  simp [hi, bseS]
theorem rest_at {W : List Nat} {i : Nat} (hi : i < W.length) : (rstS W).getD i 0 = 256 * W.getD i 0 % W.sum := by
  unfold rstS
  simp [hi]
/-- A greater weight's share is not less; of one weight they differ by one at most, and the first is not less. -/
theorem shares_mono {W : List Nat} {i k : Nat} (hi : i < W.length) (hk : k < W.length) (h : W.getD k 0 < W.getD i 0 ∨ (W.getD i 0 = W.getD k 0 ∧ i < k)) : (shares W).getD k 0 ≤ (shares W).getD i 0 := by
  rw [shares_at hi, shares_at hk]
  have hle : 256 * W.getD k 0 ≤ 256 * W.getD i 0 := by omega
  have hd := Nat.div_le_div_right (c := W.sum) hle
  rcases Nat.lt_or_ge (256 * W.getD k 0 / W.sum) (256 * W.getD i 0 / W.sum) with h1 | h1
  · split <;> split <;> omega
  · have he : 256 * W.getD k 0 / W.sum = 256 * W.getD i 0 / W.sum := by omega
    have m1 := Nat.div_add_mod (256 * W.getD k 0) W.sum
    have m2 := Nat.div_add_mod (256 * W.getD i 0) W.sum
    rw [he] at m1
    have hl : lt (rstS W) i k = true := by
      rw [lt_iff, rest_at hi, rest_at hk]
      rcases h with h | ⟨h, h'⟩
      · exact .inl (by omega)
      · exact .inr ⟨by rw [h], h'⟩
    have := rk_lt (rs := rstS W) (by rw [rest_len]; exact hi) hl
    rw [he]
    split <;> split <;> omega
theorem shares_near {W : List Nat} {i k : Nat} (hi : i < W.length) (hk : k < W.length) (h : W.getD i 0 = W.getD k 0) : (shares W).getD i 0 ≤ (shares W).getD k 0 + 1 := by
  rw [shares_at hi, shares_at hk, h]
  split <;> split <;> omega
theorem sum_le {V : List Nat} {i : Nat} (hi : i < V.length) : V.getD i 0 ≤ V.sum := by
  induction V generalizing i with
  | nil => simp at hi
  | cons x V ih =>
    cases i with
    | zero => simp
    | succ i =>
      have := ih (i := i) (by simpa using hi)
      simp at this ⊢
      omega
end Sp
end Go.Proofs.Ytdjhgahdiggahaa

namespace Go.Proofs.Ytdjhgahdiggahaa
namespace Sp

abbrev WyN := Int × Int
def wyAt (l : List WyN) (i : Nat) : WyN := l.getD i (0, 0)
def lst (l : List WyN) (i : Nat) : Int := if i = 0 then -1 else (wyAt l (i - 1)).1
/-- Is a way good, behind the one ahead? -/
def okAt (l : List WyN) (i : Nat) : Prop := lst l i < (wyAt l i).1 ∧ (wyAt l i).1 < 8 ∧ 0 ≤ (wyAt l i).2 ∧ (wyAt l i).2 < 255
instance (l : List WyN) (i : Nat) : Decidable (okAt l i) := by unfold okAt; exact inferInstance
def okTo (l : List WyN) (k : Nat) : Prop := ∀ j, j < k → okAt l j
/-- May ways be? -/
def mayP (l : List WyN) : Prop := l ≠ [] ∧ okTo l l.length
instance (l : List WyN) (k : Nat) : Decidable (okTo l k) := by unfold okTo; exact inferInstance
instance (l : List WyN) : Decidable (mayP l) := by unfold mayP; exact inferInstance
theorem okTo_succ {l : List WyN} {k : Nat} (h : okTo l k) (h' : okAt l k) : okTo l (k + 1) := fun j hj => by
  rcases Nat.lt_or_ge j k with h1 | h1
  · exact h j h1
  · rw [show j = k by omega]; exact h'
theorem lst_succ (l : List WyN) (k : Nat) : lst l (k + 1) = (wyAt l k).1 := by
  unfold lst
  rw [if_neg (by omega)]
  rfl
theorem okTo_ge {l : List WyN} {k : Nat} (h : okTo l k) : ∀ j, j < k → (j : Int) ≤ (wyAt l j).1 ∧ (wyAt l j).1 < 8
  | 0, hj => by
    have h1 := h 0 hj
    unfold okAt lst at h1
    rw [if_pos rfl] at h1
    exact ⟨by omega, h1.2.1⟩
  | j + 1, hj => by
    have ih := okTo_ge h j (by omega)
    have h1 := h (j + 1) hj
    unfold okAt at h1
    rw [lst_succ] at h1
    exact ⟨by omega, h1.2.1⟩
theorem okTo_few {l : List WyN} {k : Nat} (h : okTo l k) : k ≤ 8 := by
  rcases Nat.eq_zero_or_pos k with h0 | h0
  · omega
  · have := okTo_ge h (k - 1) (by omega)
    omega
theorem lst_ge {l : List WyN} {k : Nat} (h : okTo l k) : -1 ≤ lst l k := by
  cases k with
  | zero => exact Int.le_refl _
  | succ k =>
    rw [lst_succ]
    have := okTo_ge h k (by omega)
    omega
theorem mayP_len {l : List WyN} (h : mayP l) : 1 ≤ l.length ∧ l.length ≤ 8 := ⟨by
  rcases Nat.eq_zero_or_pos l.length with h0 | h0
  · exact absurd (List.length_eq_zero_iff.1 h0) h.1
  · exact h0, okTo_few h.2⟩
theorem not_may {l : List WyN} {i : Nat} (hi : i < l.length) (h : ¬ okAt l i) : ¬ mayP l := fun hm => h (hm.2 i hi)
/-- The weights. -/
def ws (l : List WyN) : List Nat := l.map fun n => wt n.2
theorem ws_len (l : List WyN) : (ws l).length = l.length := by simp [ws]
theorem ws_at {l : List WyN} {i : Nat} (hi : i < l.length) : (ws l).getD i 0 = wt (wyAt l i).2 := by
  unfold ws wyAt
  simp [hi]
theorem wyAt_get {l : List WyN} {i : Nat} {n : WyN} (h : l[i]? = some n) : wyAt l i = n := by
  unfold wyAt
  rw [List.getD_eq_getElem?_getD, h]
  rfl
theorem sum_take (W : List Nat) (i : Nat) (hi : i < W.length) : (W.take (i + 1)).sum = (W.take i).sum + W.getD i 0 := by
  have : W[i]? = some W[i] := List.getElem?_eq_getElem hi
  rw [List.take_add_one, this, List.sum_append]
  simp [hi]
theorem sum_le_of {m : Nat} : ∀ {W : List Nat}, (∀ x ∈ W, x ≤ m) → W.sum ≤ W.length * m
  | [], _ => by simp
  | x :: W, h => by
    have h1 := sum_le_of (W := W) (fun y hy => h y (by simp [hy]))
    have h2 := h x (by simp)
    simp only [List.sum_cons, List.length_cons, Nat.add_mul]
    omega
theorem ws_sum_le (l : List WyN) : (ws l).sum ≤ l.length * 65536 := by
  have h := sum_le_of (W := ws l) (m := 65536) (fun x hx => by
    unfold ws at hx
    obtain ⟨n, _, rfl⟩ := List.mem_map.1 hx
    exact wt_le _)
  rw [ws_len] at h
  exact h
theorem ws_pos {l : List WyN} (h : mayP l) : 0 < (ws l).sum := by
  have h1 := (mayP_len h).1
  have h2 := h.2 0 (by omega)
  have h3 := sum_le (V := ws l) (i := 0) (by rw [ws_len]; omega)
  rw [ws_at (by omega)] at h3
  have h4 := wt_pos h2.2.2
  omega
/-- The buckets ahead of a way's. -/
def pre (l : List WyN) (S : List Nat) (i : Nat) : List Int := (List.range i).flatMap fun j => List.replicate (S.getD j 0) (wyAt l j).1
theorem pre_succ (l : List WyN) (S : List Nat) (i : Nat) : pre l S (i + 1) = pre l S i ++ List.replicate (S.getD i 0) (wyAt l i).1 := by
  unfold pre
  rw [List.range_succ, List.flatMap_append, List.flatMap_singleton]
theorem pre_len (l : List WyN) (S : List Nat) : ∀ i, i ≤ S.length → (pre l S i).length = (S.take i).sum
  | 0, _ => by simp [pre]
  | i + 1, h => by
    rw [pre_succ, List.length_append, List.length_replicate, pre_len l S i (by omega), sum_take S i (by omega)]
theorem take_sum_le (S : List Nat) (i : Nat) : (S.take i).sum ≤ S.sum := by
  have h : S.sum = (S.take i).sum + (S.drop i).sum := by rw [← List.sum_append, List.take_append_drop]
  omega
/-- What stands in the buckets so far: the rstS are noughts. -/
def fill (A : List Int) : List Int := A ++ List.replicate (256 - A.length) 0
theorem fill_len {A : List Int} (h : A.length ≤ 256) : (fill A).length = 256 := by
  unfold fill
  rw [List.length_append, List.length_replicate]
  omega
theorem fill_snoc {A : List Int} (h : A.length < 256) (v : Int) : (fill A).set A.length v = fill (A ++ [v]) := by
  unfold fill
  rw [List.set_append_right _ _ (Nat.le_refl _), Nat.sub_self, List.append_assoc, List.length_append, List.length_singleton]
  congr 1
  obtain ⟨m, hm⟩ : ∃ m, 256 - A.length = m + 1 := ⟨255 - A.length, by omega⟩
  rw [hm, show 256 - (A.length + 1) = m by omega, List.replicate_succ, List.set_cons_zero]
  rfl
theorem fill_full {A : List Int} (h : A.length = 256) : fill A = A := by
  unfold fill
  rw [h]
  simp
theorem rep_succ (k : Nat) (v : Int) : List.replicate (k + 1) v = List.replicate k v ++ [v] := List.replicate_succ'
/-- All buckets. -/
def tab (l : List WyN) : List Int := pre l (shares (ws l)) l.length
theorem tab_len {l : List WyN} (h : mayP l) : (tab l).length = 256 := by
  unfold tab
  rw [pre_len _ _ _ (by rw [shares_len, ws_len]; omega)]
  have h1 := shares_sum (ws_pos h)
  have h2 : (shares (ws l)).take l.length = shares (ws l) := List.take_of_length_le (by rw [shares_len, ws_len]; omega)
  rw [h2, h1]
theorem pre_room {l : List WyN} (h : mayP l) {i k : Nat} (hi : i < l.length) (hk : k ≤ (shares (ws l)).getD i 0) : (pre l (shares (ws l)) i).length + k ≤ 256 := by
  have hl : (shares (ws l)).length = l.length := by rw [shares_len, ws_len]
  rw [pre_len _ _ _ (by omega)]
  have h1 := shares_sum (ws_pos h)
  have h2 := take_sum_le (shares (ws l)) (i + 1)
  rw [sum_take _ i (by omega)] at h2
  omega
/-- The hash of bytes. -/
def st1 (h : Nat) (x : UInt8) : Nat := (h ^^^ x.toNat) * 16777619 % 4294967296
theorem st1_lt (h : Nat) (x : UInt8) : st1 h x < 4294967296 := by
  unfold st1
  exact Nat.mod_lt _ (by decide)
def fnv (h : Nat) (l : List UInt8) : Nat := l.foldl st1 h
theorem fnv_nil (h : Nat) : fnv h [] = h := rfl
theorem fnv_cons (h : Nat) (x : UInt8) (l : List UInt8) : fnv h (x :: l) = fnv (st1 h x) l := by
  unfold fnv
  rw [List.foldl_cons]
theorem fnv_append (h : Nat) (l m : List UInt8) : fnv h (l ++ m) = fnv (fnv h l) m := by
  unfold fnv
  rw [List.foldl_append]
theorem fnv_step {l : List UInt8} {j : Nat} {x : UInt8} (h : l[j]? = some x) (a : Nat) : fnv a (l.take (j + 1)) = st1 (fnv a (l.take j)) x := by
  rw [List.take_add_one, h, fnv_append, Option.toList_some, fnv_cons, fnv_nil]
theorem fnv_lt {h : Nat} (hh : h < 4294967296) (l : List UInt8) : fnv h l < 4294967296 := by
  induction l generalizing h with
  | nil => rw [fnv_nil]; exact hh
  | cons x l ih =>
    rw [fnv_cons]
    exact ih (st1_lt _ _)
/-- The hash of lists, one behind the other, so far. -/
def fnvs (L : List (List UInt8)) : Nat := L.foldl fnv 2166136261
theorem fnvs_snoc (L : List (List UInt8)) (l : List UInt8) : fnvs (L ++ [l]) = fnv (fnvs L) l := by
  unfold fnvs
  rw [List.foldl_append, List.foldl_cons, List.foldl_nil]
theorem fnvs_step {L : List (List UInt8)} {i : Nat} {l : List UInt8} (h : L[i]? = some l) : fnvs (L.take (i + 1)) = fnv (fnvs (L.take i)) l := by
  rw [List.take_add_one, h, ← fnvs_snoc, Option.toList_some]
theorem fnvs_lt (L : List (List UInt8)) : fnvs L < 4294967296 := by
  unfold fnvs
  have : ∀ (h : Nat), h < 4294967296 → L.foldl fnv h < 4294967296 := by
    induction L with
    | nil => exact fun h hh => hh
    | cons l L ih => exact fun h hh => ih _ (fnv_lt hh l)
  exact this _ (by decide)
theorem fnvs_flat (L : List (List UInt8)) : fnvs L = fnv 2166136261 L.flatten := by
  unfold fnvs
  generalize 2166136261 = h
  induction L generalizing h with
  | nil => rfl
  | cons l L ih => rw [List.foldl_cons, ih, List.flatten_cons, fnv_append]
end Sp
end Go.Proofs.Ytdjhgahdiggahaa

namespace Go.Proofs.Ytdjhgahdiggahaa
open Go.RowKit

def bv (l : List UInt8) : List Value := l.map fun b => .int .u8 (b.toNat : Int)

/-- The value reads as these bytes. -/
def Bytes (w : World) (v : Value) (l : List UInt8) : Prop :=
  (l = [] ∧ ∃ a c, v = .slice a 0 c ∧ (a = none → c = 0)) ∨
  ∃ b o c, v = .slice (some ⟨b, o, none⟩) l.length c ∧ b < w.heap.size ∧ l.length ≤ c ∧ ∀ j x, l[j]? = some x → w.cell? ⟨b, o + j, none⟩ = some (.int .u8 (x.toNat : Int))

theorem Bytes.later {w w' : World} {v : Value} {l : List UInt8} (h : Bytes w v l) (hb : Below w.heap.size w w') : Bytes w' v l := by
  rcases h with h | ⟨b, o, c, h1, h2, hp, h3⟩
  · exact .inl h
  · exact .inr ⟨b, o, c, h1, Nat.lt_of_lt_of_le h2 hb.size, hp, fun j x hx => cell_later hb (h3 j x hx)⟩

theorem cell_later' {w wr : World} {B : Nat} {b o : Nat} {v : Value} (h : Below B w wr) (hb : b < B) (hc : w.cell? ⟨b, o, none⟩ = some v) : wr.cell? ⟨b, o, none⟩ = some v :=
  (h.cell (p := ⟨b, o, none⟩) hb).trans hc

theorem own_ne {w : World} {B : Nat} {e : TypeId} {size n : Nat} {v : Value} {xs : List Value} {b : Nat} (h : w.ownsRow B e size v n xs) (hb : b < B) : some b ≠ v.ownBlock := by
  rcases h.2 with ⟨rfl, _⟩ | ⟨g, cap, cur, rfl, hg, _⟩
  · simp [Value.ownBlock]
  · simp [Value.ownBlock]; omega

theorem Bytes.form {w : World} {v : Value} {l : List UInt8} (h : Bytes w v l) : ∃ a c, v = .slice a l.length c := by
  rcases h with ⟨rfl, a, c, rfl, _⟩ | ⟨b, o, c, rfl, _, _⟩
  · exact ⟨a, c, rfl⟩
  · exact ⟨_, c, rfl⟩

theorem Bytes.nil (w : World) (a : Option Addr) (c : Nat) (h : a = none → c = 0 := by intros; first | rfl | contradiction | simp_all) : Bytes w (.slice a 0 c) [] := .inl ⟨rfl, a, c, rfl, h⟩
/-- Without an address there is nothing. -/
theorem Bytes.noaddr {w : World} {n c : Nat} {l : List UInt8} (h : Bytes w (.slice none n c) l) : n = 0 ∧ c = 0 ∧ l = [] := by
  rcases h with ⟨rfl, a, c', h1, h2⟩ | ⟨b, o, c', h1, _, _⟩
  · simp only [Value.slice.injEq] at h1
    obtain ⟨rfl, rfl, rfl⟩ := h1
    exact ⟨rfl, h2 rfl, rfl⟩
  · simp at h1

theorem Bytes.of_own {w : World} {base : Nat} {e : TypeId} {v : Value} {n : Nat} {l : List UInt8} (h : w.ownsRow base e 1 v n (bv l)) : Bytes w v l := by
  obtain ⟨hl, h0 | ⟨g, cap, cur, rfl, hb, hg, hn, hm, hc, ht⟩⟩ := h
  · obtain ⟨rfl, rfl⟩ := h0
    simp [bv] at hl
    subst hl
    exact Bytes.nil _ _ _
  · have hln : l.length = n := by simpa [bv] using hl
    subst hln
    refine .inr ⟨g, 0, cap, rfl, ?_, hn, fun j x hx => ?_⟩
    · rcases Nat.lt_or_ge g w.heap.size with h1 | h1
      · exact h1
      · rw [Array.getElem?_eq_none h1] at hg; cases hg
    · rw [Nat.zero_add, cell_of_row w g j cur e (0, 0) hg]
      have hj : j < l.length := (List.getElem?_eq_some_iff.1 hx).1
      have : (bv l)[j]? = some (.int .u8 (x.toNat : Int)) := by simp [bv, hx]
      rw [← ht, List.getElem?_take, if_pos (by omega)] at this
      simpa using this

theorem push_fold : ∀ (l : List UInt8) (s : ByteArray), (l.map fun b => (b.toNat : Int)).foldl (fun r n => r.push (UInt8.ofNat n.toNat)) s = ⟨(s.data.toList ++ l).toArray⟩
  | [], s => by simp
  | b :: l, s => by
    simp only [List.map_cons, List.foldl_cons]
    rw [push_fold l]
    have : (s.push (UInt8.ofNat ((b.toNat : Int)).toNat)).data.toList = s.data.toList ++ [b] := by
      simp [ByteArray.push]
    rw [this]
    simp

/-- string(b). -/
theorem Bytes.str {P : Program} {w : World} {v : Value} {l : List UInt8} (h : Bytes w v l) {src dst e : TypeId}
    (hs : P.underlying src = some (.slice e)) (he : P.underlying e = some (.int .u8)) (hd : P.underlying dst = some .string) :
    (convert src dst v).run P w = .ok (.string ⟨l.toArray⟩) w := by
  rcases h with ⟨rfl, a, c, rfl, _⟩ | ⟨b, o, c, rfl, hb, _, hc⟩
  · rw [run_convert_bytes_string w src dst e a 0 c hs he hd]
    cases a with
    | none => simp [Conv.bytesToString]; rfl
    | some a =>
      have := run_bytesToString (P := P) w a 0 c [] (by have := run_loadCells_list (P := P) w a [] (by simp); simpa using this)
      rw [this]; rfl
  · rw [run_convert_bytes_string w src dst e _ _ c hs he hd]
    have hl : (loadCells ⟨b, o, none⟩ l.length).run P w = .ok ((l.map fun b => (b.toNat : Int)).map (Value.int .u8)).toArray w := by
      have := run_loadCells_list (P := P) w ⟨b, o, none⟩ (bv l) (fun j u hu => by
        simp only [bv, List.getElem?_map, Option.map_eq_some_iff] at hu
        obtain ⟨x, hx, rfl⟩ := hu
        have := hc j x hx
        cases j with
        | zero => simpa [Addr.add] using this
        | succ j => simpa [Addr.add] using this)
      simpa [bv, List.map_map, Function.comp_def] using this
    rw [run_bytesToString (P := P) w _ _ c _ hl, push_fold]
    rfl

theorem str_eq {a b : List UInt8} (h : a = b) : ((⟨a.toArray⟩ : ByteArray).toList == (⟨b.toArray⟩ : ByteArray).toList) = true := by rw [h]; simp

theorem news_one (w : World) (v : Value) (t : TypeId) : ∀ (j : Nat) (u : Value), [v][j]? = some u → (w.alloc (.cells #[v] t)).cell? ((⟨w.heap.size, 0, none⟩ : Addr).add j) = some u := by
  intro j u hj
  match j, hj with
  | 0, hj => simp at hj; subst hj; simp [Addr.add]
theorem one_int (k : IntKind) (x : Int) : ∀ u ∈ [Value.int k x], u.oneCell' = true := by intro u hu; simp at hu; subst hu; rfl
theorem one_slice (a : Option Addr) (n c : Nat) : ∀ u ∈ [Value.slice a n c], u.oneCell' = true := by intro u hu; simp at hu; subst hu; rfl

theorem own_base {w : World} {B : Nat} {e : TypeId} {size n : Nat} {v : Value} {xs : List Value} (h : w.ownsRow B e size v n xs) {j : Nat} (hj : v.ownBlock = some j) : B ≤ j := by
  rcases h.2 with ⟨rfl, _⟩ | ⟨g, cap, cur, rfl, hg, _⟩
  · simp [Value.ownBlock] at hj
  · simp [Value.ownBlock] at hj; omega

theorem bv_append (a b : List UInt8) : bv (a ++ b) = bv a ++ bv b := by simp [bv]
theorem bv_one (l : List UInt8) : ∀ u ∈ bv l, u.oneCell' = true := by
  intro u hu
  simp only [bv, List.mem_map] at hu
  obtain ⟨b, _, rfl⟩ := hu
  rfl
theorem Bytes.news {w : World} {x : Addr} {n c : Nat} {l : List UInt8} (h : Bytes w (.slice (some x) n c) l) : ∀ (j : Nat) (u : Value), (bv l)[j]? = some u → w.cell? (x.add j) = some u := by
  intro j u hu
  simp only [bv, List.getElem?_map, Option.map_eq_some_iff] at hu
  obtain ⟨y, hy, rfl⟩ := hu
  rcases h with ⟨rfl, _⟩ | ⟨b, o, c', h1, h2, _, h3⟩
  · simp at hy
  · simp only [Value.slice.injEq, Option.some.injEq] at h1
    obtain ⟨rfl, rfl, rfl⟩ := h1
    have := h3 j y hy
    cases j with
    | zero => simpa [Addr.add] using this
    | succ j => simpa [Addr.add] using this
end Go.Proofs.Ytdjhgahdiggahaa

namespace Go.Proofs.Ytdjhgahdiggahaa
open Go.RowKit

/-- The value reads as these lists of bytes. -/
def Lists (w : World) (v : Value) (L : List (List UInt8)) : Prop :=
  (L = [] ∧ ∃ a c, v = .slice a 0 c ∧ (a = none → c = 0)) ∨
  ∃ b o c, v = .slice (some ⟨b, o, none⟩) L.length c ∧ b < w.heap.size ∧ L.length ≤ c ∧ ∀ j l, L[j]? = some l → ∃ u, w.cell? ⟨b, o + j, none⟩ = some u ∧ Bytes w u l

theorem Lists.later {w w' : World} {v : Value} {L : List (List UInt8)} (h : Lists w v L) (hb : Below w.heap.size w w') : Lists w' v L := by
  rcases h with h | ⟨b, o, c, h1, h2, hp, h3⟩
  · exact .inl h
  · refine .inr ⟨b, o, c, h1, Nat.lt_of_lt_of_le h2 hb.size, hp, fun j l hl => ?_⟩
    obtain ⟨u, hu, hx⟩ := h3 j l hl
    exact ⟨u, cell_later hb hu, hx.later hb⟩
theorem Lists.form {w : World} {v : Value} {L : List (List UInt8)} (h : Lists w v L) : ∃ a c, v = .slice a L.length c := by
  rcases h with ⟨rfl, a, c, rfl, _⟩ | ⟨b, o, c, rfl, _, _⟩
  · exact ⟨a, c, rfl⟩
  · exact ⟨_, c, rfl⟩
/-- The element at a place: where it lies, in every later world. -/
theorem Lists.at {w : World} {a : Option Addr} {n c : Nat} {L : List (List UInt8)} (h : Lists w (.slice a n c) L) {i : Nat} (hi : i < L.length) :
    ∃ b o, a = some ⟨b, o, none⟩ ∧ b < w.heap.size ∧ ∃ x d, w.cell? ⟨b, o + i, none⟩ = some (.slice x L[i].length d) ∧ Bytes w (.slice x L[i].length d) L[i] := by
  rcases h with ⟨rfl, _⟩ | ⟨b, o, c', h1, h2, _, h3⟩
  · simp at hi
  · obtain ⟨u, hu, hx⟩ := h3 i L[i] (List.getElem?_eq_getElem hi)
    obtain ⟨x, d, rfl⟩ := hx.form
    simp only [Value.slice.injEq] at h1
    exact ⟨b, o, h1.1, h2, x, d, hu, hx⟩
theorem Bytes.at {w : World} {a : Option Addr} {n c : Nat} {l : List UInt8} (h : Bytes w (.slice a n c) l) {i : Nat} (hi : i < l.length) :
    ∃ b o, a = some ⟨b, o, none⟩ ∧ b < w.heap.size ∧ w.cell? ⟨b, o + i, none⟩ = some (.int .u8 (l[i].toNat : Int)) := by
  rcases h with ⟨rfl, _⟩ | ⟨b, o, c', h1, h2, _, h3⟩
  · simp at hi
  · simp only [Value.slice.injEq] at h1
    exact ⟨b, o, h1.1, h2, h3 i _ (List.getElem?_eq_getElem hi)⟩
theorem Lists.nil (w : World) (a : Option Addr) (c : Nat) (h : a = none → c = 0 := by intros; first | rfl | contradiction | simp_all) : Lists w (.slice a 0 c) [] := .inl ⟨rfl, a, c, rfl, h⟩

theorem bytes_lit (w : World) (l : List UInt8) : Bytes (w.alloc (.cells (bv l).toArray 5)) (.slice (some ⟨w.heap.size, 0, none⟩) l.length l.length) l :=
  .inr ⟨w.heap.size, 0, l.length, rfl, by simp, Nat.le_refl _, fun j x hx => by
    have : (bv l)[j]? = some (.int .u8 (x.toNat : Int)) := by simp [bv, hx]
    simp [this]⟩

/-- Bytes that are kept, and all that was there ahead. -/
def KeptB (w0 : World) (v : Value) (l : List UInt8) (w' : World) : Prop := Bytes w' v l ∧ w0.heap.size < w'.heap.size ∧ Below w0.heap.size w0 w'
theorem KeptB.later {w0 w1 w2 : World} {v : Value} {l : List UInt8} (h : KeptB w0 v l w1) (hb : Below w1.heap.size w1 w2) : KeptB w0 v l w2 :=
  ⟨h.1.later hb, Nat.lt_of_lt_of_le h.2.1 hb.size, h.2.2.trans (hb.mono (Nat.le_of_lt h.2.1))⟩
theorem KeptB.drew {w0 w1 : World} {v : Value} {l : List UInt8} (h : KeptB w0 v l w1) : KeptB w0 v l w1.drew := h.later (Below.refl _ _).drew
theorem KeptB.alloc {w0 w1 : World} {v : Value} {l : List UInt8} (h : KeptB w0 v l w1) (o : Obj) : KeptB w0 v l (w1.alloc o) := h.later ((Below.refl _ _).alloc (Nat.le_refl _) o)
theorem KeptB.allocDrew {w0 w1 : World} {v : Value} {l : List UInt8} (h : KeptB w0 v l w1) (o : Obj) : KeptB w0 v l (w1.alloc o).drew := (h.alloc o).drew

theorem ret_u {k : IntKind} {a : Nat} {b : Int} (h : (a : Int) = b) : Ending.returned (.int k a) = .returned (.int k b) := by rw [h]
theorem bytes_take {w : World} {b : Option Addr} {n c : Nat} {l : List UInt8} (h : Bytes w (.slice b n c) l) {k : Nat} (hk : k ≤ l.length) : Bytes w (.slice b k c) (l.take k) := by
  rcases h with ⟨rfl, a, c', h1, h2⟩ | ⟨bl, o, c', h1, h2, hp, h3⟩
  · simp only [Value.slice.injEq] at h1
    obtain ⟨rfl, rfl, rfl⟩ := h1
    have : k = 0 := by simpa using hk
    subst this
    exact .inl ⟨by simp, _, _, rfl, h2⟩
  · simp only [Value.slice.injEq] at h1
    obtain ⟨rfl, rfl, rfl⟩ := h1
    refine .inr ⟨bl, o, c, by rw [List.length_take, Nat.min_eq_left hk], h2, by rw [List.length_take]; omega, fun j x hx => h3 j x ?_⟩
    rw [List.getElem?_take] at hx
    split at hx
    · exact hx
    · cases hx
theorem bytes_drop {w : World} {bl o c : Nat} {l : List UInt8} {n : Nat} (h : Bytes w (.slice (some ⟨bl, o, none⟩) n c) l) (k : Nat) (m : Nat) (hm : m = l.length - k) (d : Nat) (hd : m ≤ d) : Bytes w (.slice (some ⟨bl, o + k, none⟩) m d) (l.drop k) := by
  subst hm
  rcases h with ⟨rfl, a, c', h1, h2⟩ | ⟨bl, o, c', h1, h2, hp, h3⟩
  · simp only [Value.slice.injEq] at h1
    exact .inl ⟨by simp, some ⟨bl, o + k, none⟩, d, by simp, fun h => by cases h⟩
  · simp only [Value.slice.injEq, Option.some.injEq, Addr.mk.injEq] at h1
    obtain ⟨⟨rfl, rfl, _⟩, rfl, rfl⟩ := h1
    refine .inr ⟨bl, o + k, d, by simp, h2, by simpa using hd, fun j x hx => ?_⟩
    rw [List.getElem?_drop] at hx
    rw [Nat.add_assoc]
    exact h3 (k + j) x hx

theorem lists_one3 {W : World} {v : Value} {l : List UInt8} {n : Nat} (h : Bytes W v l) (hc : W.cell? ⟨n, 0, none⟩ = some v) (hn : n < W.heap.size) : Lists W (.slice (some ⟨n, 0, none⟩) 1 1) [l] :=
  .inr ⟨n, 0, 1, rfl, hn, Nat.le_refl _, fun j x hx => by
    match j, hx with
    | 0, hx => simp at hx; subst hx; exact ⟨v, hc, h⟩⟩
theorem lists_two3 {W : World} {u v : Value} {k l : List UInt8} {n : Nat} (g : Bytes W u k) (h : Bytes W v l) (hu : W.cell? ⟨n, 0, none⟩ = some u) (hc : W.cell? ⟨n, 1, none⟩ = some v) (hn : n < W.heap.size) : Lists W (.slice (some ⟨n, 0, none⟩) 2 2) [k, l] :=
  .inr ⟨n, 0, 2, rfl, hn, Nat.le_refl _, fun j x hx => by
    match j, hx with
    | 0, hx => simp at hx; subst hx; exact ⟨u, by simpa using hu, g⟩
    | 1, hx => simp at hx; subst hx; exact ⟨v, by simpa using hc, h⟩⟩

theorem Bytes.cap {w : World} {a : Option Addr} {n c : Nat} {l : List UInt8} (h : Bytes w (.slice a n c) l) : l.length ≤ c := by
  rcases h with ⟨rfl, _⟩ | ⟨b, o, c', e1, e2, e3, e4⟩
  · simp
  · simp only [Value.slice.injEq] at e1
    obtain ⟨rfl, rfl, rfl⟩ := e1
    exact e3
/-- What is cut out of a slice reads as the part. -/
theorem Bytes.sliced {w : World} {a : Option Addr} {n c : Nat} {l : List UInt8} (h : Bytes w (.slice a n c) l) {lo hi m : Nat} (h1 : lo ≤ hi) (h2 : hi ≤ l.length) (h3 : hi ≤ m) (h4 : m ≤ c) : Bytes w (Go.sliced a lo hi m 1) ((l.take hi).drop lo) := by
  unfold Go.sliced
  rcases h with ⟨rfl, a', c', e1, e2⟩ | ⟨b, o, c', e1, e2, e3, e4⟩
  · simp only [Value.slice.injEq] at e1
    obtain ⟨rfl, rfl, rfl⟩ := e1
    have : hi = 0 := by simpa using h2
    subst this
    have : lo = 0 := by omega
    subst this
    refine .inl ⟨by simp, _, _, rfl, fun h => ?_⟩
    split at h
    · omega
    · have : a = none := by simpa using h
      have := e2 this
      omega
  · simp only [Value.slice.injEq] at e1
    obtain ⟨rfl, rfl, rfl⟩ := e1
    rcases Nat.eq_or_lt_of_le h1 with rfl | h5
    · refine .inl ⟨by simp, _, _, by rw [Nat.sub_self], fun h => ?_⟩
      split at h <;> simp at h
    · have hlen : ((l.take hi).drop lo).length = hi - lo := by simp; omega
      rw [if_neg (by omega)]
      refine .inr ⟨b, o + lo, m - lo, ?_, e2, by omega, fun j x hx => ?_⟩
      · rw [hlen]
        simp only [Option.map_some, Nat.mul_one, Value.slice.injEq, and_true]
        unfold Addr.add
        by_cases h0 : lo = 0 <;> simp [h0]
      · rw [List.getElem?_drop, List.getElem?_take] at hx
        split at hx
        · have := e4 (lo + j) x hx
          rw [Nat.add_assoc]; exact this
        · cases hx
theorem cells1 : (Try.prog.underlying 97) = some (.slice (Try.prog.elem 97)) := by kernel_rfl
theorem size1 (w : World) : (sizeOf (Try.prog.elem 97)).run Try.prog w = .ok 1 w := by kernel_rfl
/-- b[i:]. -/
theorem Bytes.cut_l {w : World} {a : Option Addr} {c : Nat} {l : List UInt8} (h : Bytes w (.slice a l.length c) l) (i : Int) (lo : Nat) (hi : i = lo) (hlo : lo ≤ l.length) :
    ∃ a', (∀ w, (Instr.slice 97 (.slice a l.length c) (some (.int .i64 i)) none none).run Try.prog w = .ok (.slice a' (l.length - lo) (c - lo)) w) ∧ Bytes w (.slice a' (l.length - lo) (c - lo)) (l.drop lo) := by
  have hc := h.cap
  subst hi
  have hb := h.sliced hlo (Nat.le_refl _) hc (Nat.le_refl _)
  rw [List.take_length] at hb
  refine ⟨_, fun w => ?_, hb⟩
  rw [run_slice_l w _ a _ _ cells1 _ _ (by omega) (by omega), size1]
  rfl
/-- b[:i]. -/
theorem Bytes.cut_h {w : World} {a : Option Addr} {n c : Nat} {l : List UInt8} (h : Bytes w (.slice a n c) l) (i : Int) (hi : Nat) (he : i = hi) (hlo : hi ≤ l.length) :
    (∀ w, (Instr.slice 97 (.slice a n c) none (some (.int .i64 i)) none).run Try.prog w = .ok (.slice a hi c) w) ∧ Bytes w (.slice a hi c) (l.take hi) := by
  have hc := h.cap
  subst he
  have hb := h.sliced (lo := 0) (Nat.zero_le _) hlo (by omega) (Nat.le_refl _)
  have e : Go.sliced a 0 hi c 1 = .slice a hi c := by
    unfold Go.sliced
    congr 1
    split
    · rfl
    · cases a <;> simp [Addr.add]
  refine ⟨fun w => ?_, bytes_take h hlo⟩
  rw [run_slice_h w _ a _ _ cells1 _ _ (by omega) (by omega), size1]
  show Result.ok (Go.sliced a 0 _ c 1) w = _
  rw [Int.toNat_natCast, e]
end Go.Proofs.Ytdjhgahdiggahaa

namespace Go.Proofs.Ytdjhgahdiggahaa
open Go.RowKit
attribute [local go_sem ↓] Go.wp_at_zero Go.wp_at_succ
open Sp

set_option maxRecDepth 100000 in
theorem st1_32 (z : Nat) (hz : z < 4294967296) (x : UInt8) : bits .xor .u32 (z : Int) ((x.toNat : Int) % 4294967296) * 16777619 % 4294967296 = ((st1 z x : Nat) : Int) := by
  have h1 := x.toNat_lt
  have e1 : ((x.toNat : Int) % 4294967296) = (x.toNat : Int) := by omega
  rw [e1, u32_xor_nat z x.toNat hz (by omega)]
  unfold st1
  generalize z ^^^ x.toNat = a
  omega
set_option maxRecDepth 100000 in
theorem mixedL {w : World} {v : Value} {L : List (List UInt8)} (hv : Lists w v L) (hL : L.length ≤ 1000) (hl : ∀ l ∈ L, l.length ≤ 100000) :
    Calls Try.prog 77 #[v] w fun e w' => e = .returned (.int .u32 (fnvs L : Nat)) ∧ Below w.heap.size w w' := by
  have HV := Lib.hid hv
  have HL : Hid (∀ l ∈ L, l.length ≤ 100000) := by
    have : ∀ l ∈ L, l.length ≤ 100000 := hl
    exact this
  obtain ⟨a, c, rfl⟩ := hv.form
  obtain ⟨n, hn⟩ : ∃ n, n = L.length := ⟨_, rfl⟩
  rw [← hn] at HV hL ⊢
  have HNN := Lib.hid hn
  have g0 : (n : Int) ≤ 1000 := by omega
  clear hv hl hn hL
  go_enter Try.func77, Try.ntmps77
  go_wp2_with fail
  go_loopw [3, 10] (fun y x wr => ∃ i : Nat, i ≤ n ∧ y = .int .u32 ((fnvs (L.take i) : Nat) : Int) ∧ x = .int .i64 i ∧ Hid (Below w.heap.size w wr)) (fun _ x _ => n - (intOf x).toNat)
  case atStart => exact ⟨0, Nat.zero_le _, rfl, rfl, Below.refl _ _⟩
  case round =>
    obtain ⟨i, hi, rfl, rfl, HB⟩ := hrel
    obtain ⟨wr0, hwr0⟩ : ∃ wr0, wr0 = wr := ⟨_, rfl⟩
    rcases Nat.lt_or_ge i n with hlt | hge
    · have g1 : (i : Int) < n := by omega
      have hlt2 : i < L.length := by have := HNN.out; omega
      obtain ⟨bb, oo, ha, _, xa, xc, c0, hby⟩ := (HV.out.later HB.out).at hlt2
      subst ha
      have hLi : L[i]? = some L[i] := List.getElem?_eq_getElem hlt2
      obtain ⟨l, hl⟩ : ∃ l, l = L[i] := ⟨_, rfl⟩
      rw [← hl] at c0 hby hLi
      have hll : l.length ≤ 100000 := HL.out _ (List.mem_of_getElem? hLi)
      have HST := Lib.hid (fnvs_step hLi)
      obtain ⟨h0, hh0⟩ : ∃ h, h = fnvs (L.take i) := ⟨_, rfl⟩
      have hlt0 : h0 < 4294967296 := by rw [hh0]; exact fnvs_lt _
      have HLT := Lib.hid hlt0
      rw [← hh0] at HST ⊢
      obtain ⟨m, hm⟩ : ∃ m, m = l.length := ⟨_, rfl⟩
      rw [← hm] at c0 hby hll
      have HMM := Lib.hid hm
      have HBY := Lib.hid hby
      have g2 : (m : Int) ≤ 100000 := by omega
      clear hl hLi hh0 hlt0 hm hby hll
      go_wp2_with fail
      go_loopw [3, 16] (fun y x wr => ∃ j : Nat, j ≤ m ∧ y = .int .u32 ((fnv h0 (l.take j) : Nat) : Int) ∧ x = .int .i64 j ∧ Hid (Below wr0.heap.size wr0 wr)) (fun _ x _ => m - (intOf x).toNat)
      case atStart => exact ⟨0, Nat.zero_le _, by rw [List.take_zero, fnv_nil], rfl, by rw [hwr0]; exact Below.refl _ _⟩
      case round =>
        obtain ⟨j, hj, rfl, rfl, HBJ⟩ := hrel
        rcases Nat.lt_or_ge j m with hlj | hgj
        · have g3 : (j : Int) < m := by omega
          have hljl : j < l.length := by have := HMM.out; omega
          have hby := HBY.out
          rw [← hwr0] at hby
          obtain ⟨b3, o3, ha3, _, d0⟩ := (hby.later HBJ.out).at hljl
          subst ha3
          have hlj' : l[j]? = some l[j] := List.getElem?_eq_getElem hljl
          obtain ⟨x, hx⟩ : ∃ x, x = l[j] := ⟨_, rfl⟩
          rw [← hx] at d0 hlj'
          have HSJ := Lib.hid (fnv_step hlj' h0)
          obtain ⟨z, hz⟩ : ∃ z, z = fnv h0 (l.take j) := ⟨_, rfl⟩
          have HZ : Hid (z < 4294967296) := by
            show z < _
            rw [hz]; exact fnv_lt HLT.out _
          rw [← hz] at HSJ ⊢
          clear hz hx hlj' hby hljl
          go_wp2_with fail
          refine ⟨⟨j + 1, by omega, ?_, by simp, HBJ.out⟩, by simp [intOf]; omega⟩
          rw [HSJ.out, st1_32 z HZ.out x]
        · obtain rfl : j = m := by omega
          have hfe : l.take j = l := List.take_of_length_le (by have := HMM.out; omega)
          rw [hfe]
          have HB2 : Hid (Below w.heap.size w wr) := by
            have h1 := HB.out
            rw [← hwr0] at h1
            exact h1.trans (HBJ.out.mono h1.size)
          clear hfe
          go_wp2_with fail
          refine ⟨⟨i + 1, by omega, ?_, by simp, HB2.out⟩, by simp [intOf]; omega⟩
          rw [HST.out]
    · obtain rfl : i = n := by omega
      go_wp2_with fail
      go_ret
      have e : L.take i = L := List.take_of_length_le (by have := HNN.out; omega)
      obtain ⟨z, hz⟩ : ∃ z : Int, z = ((fnvs (L.take i) : Nat) : Int) := ⟨_, rfl⟩
      have hz2 : ((fnvs L : Nat) : Int) = z := by rw [hz, e]
      rw [hz2]
      refine ⟨?_, HB.out⟩
      rw [← hz]
      rfl
end Go.Proofs.Ytdjhgahdiggahaa

namespace Go.Proofs.Ytdjhgahdiggahaa
namespace Wp

/-- The first n of 32 bits, the others noughts. -/
def fst (a n : Int) : Int := a / 2 ^ (32 - n).toNat * 2 ^ (32 - n).toNat
/-- A prefix that may be. -/
def mayB (a n : Int) : Bool := decide (0 ≤ n) && (decide (n ≤ 32) && decide (fst a n = a))
def hasB (a n b : Int) : Bool := mayB a n && decide (fst b n = a)
def inB (a n b m : Int) : Bool := mayB a n && (mayB b m && (decide (n ≤ m) && decide (fst b n = a)))
def cmpI (a n b m : Int) : Int := if a < b then -1 else if b < a then 1 else if n < m then -1 else if m < n then 1 else 0

theorem pow_pos' (k : Nat) : (0 : Int) < 2 ^ k := Int.pow_pos (by decide)

theorem fst_nonneg {a n : Int} (h : 0 ≤ a) : 0 ≤ fst a n := by
  unfold fst
  exact Int.mul_nonneg (Int.ediv_nonneg h (Int.le_of_lt (pow_pos' _))) (Int.le_of_lt (pow_pos' _))
theorem fst_le {a n : Int} : fst a n ≤ a := by
  unfold fst
  exact Int.ediv_mul_le a (Int.ne_of_gt (pow_pos' _))

/-- The shift to the left leaves nothing: the bits behind the first n are noughts. -/
theorem shl_zero {a n : Int} (hn : 0 ≤ n) (hn2 : n ≤ 32) : (a * 2 ^ n.toNat % 4294967296 == 0) = decide (fst a n = a) := by
  have e : (4294967296 : Int) = 2 ^ (32 - n).toNat * 2 ^ n.toNat := by
    rw [← Int.pow_add]
    have : (32 - n).toNat + n.toNat = 32 := by omega
    rw [this]; decide
  have hp := pow_pos' n.toNat
  rw [Bool.eq_iff_iff]
  simp only [beq_iff_eq, decide_eq_true_eq]
  rw [e, Int.mul_comm a, Int.mul_comm (2 ^ (32 - n).toNat : Int), Int.mul_emod_mul_of_pos _ _ hp]
  constructor
  · intro h
    have h2 : a % 2 ^ (32 - n).toNat = 0 := by
      rcases Int.mul_eq_zero.1 h with h | h
      · omega
      · exact h
    unfold fst
    have := Int.mul_ediv_add_emod a (2 ^ (32 - n).toNat)
    rw [h2] at this
    rw [Int.mul_comm]; omega
  · intro h
    unfold fst at h
    have := Int.mul_ediv_add_emod a (2 ^ (32 - n).toNat)
    rw [Int.mul_comm] at h
    have h2 : a % 2 ^ (32 - n).toNat = 0 := by omega
    rw [h2]; simp


theorem div_lo (a : Int) (k : Nat) (h : 0 ≤ a) : 0 ≤ a / 2 ^ k := Int.ediv_nonneg h (Int.le_of_lt (pow_pos' _))
theorem div_hi (a : Int) (k : Nat) (h : 0 ≤ a) (h2 : a < 4294967296) : a / 2 ^ k < 4294967296 := by
  have := Int.ediv_le_self (2 ^ k) h
  omega
theorem div_succ (a : Int) (k : Nat) : a / 2 ^ (k + 1) = a / 2 ^ k / 2 := by
  rw [Int.pow_succ, Int.ediv_ediv_of_nonneg (Int.le_of_lt (pow_pos' _))]

theorem nat_xor_self_iff (a b : Nat) : a ^^^ b = 0 ↔ a = b := by
  constructor
  · intro h
    have h2 : a ^^^ b ^^^ b = 0 ^^^ b := by rw [h]
    rw [Nat.xor_assoc, Nat.xor_self, Nat.xor_zero, Nat.zero_xor] at h2
    exact h2
  · rintro rfl; exact Nat.xor_self a
theorem nat_xor_zero (a b k : Nat) : ((a ^^^ b) / 2 ^ k = 0) ↔ a / 2 ^ k = b / 2 ^ k := by
  rw [← Nat.shiftRight_eq_div_pow, ← Nat.shiftRight_eq_div_pow, ← Nat.shiftRight_eq_div_pow, Nat.shiftRight_xor_distrib]
  exact nat_xor_self_iff _ _
theorem fst_nat (a k : Nat) (n : Int) (hk : (32 - n).toNat = k) : fst (a : Int) n = ((a / 2 ^ k * 2 ^ k : Nat) : Int) := by
  unfold fst; rw [hk]; simp
theorem xor_fst (a b k : Nat) (n : Int) (hk : (32 - n).toNat = k) (h : fst (a : Int) n = a) : ((((a ^^^ b : Nat) : Int) / 2 ^ k) == 0) = decide (fst (b : Int) n = (a : Int)) := by
  rw [Bool.eq_iff_iff, decide_eq_true_eq, beq_iff_eq]
  rw [fst_nat b k n hk]
  rw [fst_nat a k n hk] at h
  have e : ((((a ^^^ b : Nat) : Int) / 2 ^ k) = 0) ↔ ((a ^^^ b) / 2 ^ k = 0) := by
    constructor
    · intro h2
      have : (((a ^^^ b) / 2 ^ k : Nat) : Int) = 0 := by simpa using h2
      omega
    · intro h2
      have : (((a ^^^ b) / 2 ^ k : Nat) : Int) = 0 := by rw [h2]; rfl
      simpa using this
  rw [e, nat_xor_zero]
  have hp : 0 < 2 ^ k := Nat.pow_pos (by decide)
  constructor
  · intro h2; rw [← h2]; exact h
  · intro h2
    have h3 : a / 2 ^ k * 2 ^ k = b / 2 ^ k * 2 ^ k := by omega
    exact Nat.eq_of_mul_eq_mul_right hp h3

theorem mul_lo (a : Int) (m k : Nat) (h : 0 ≤ a) : 0 ≤ a / 2 ^ m * 2 ^ k := Int.mul_nonneg (div_lo a m h) (Int.le_of_lt (pow_pos' _))
theorem mul_hi (a : Int) (m k : Nat) (h : 0 ≤ a) (h2 : a < 4294967296) (hk : k ≤ m) : a / 2 ^ m * 2 ^ k < 4294967296 := by
  have h3 : a / 2 ^ m * 2 ^ k ≤ a / 2 ^ m * 2 ^ m := by
    refine Int.mul_le_mul_of_nonneg_left ?_ (div_lo a m h)
    have := Nat.pow_le_pow_right (n := 2) (by decide) hk
    exact_mod_cast this
  have h4 := Int.ediv_mul_le a (Int.ne_of_gt (pow_pos' m))
  omega
theorem mul_succ' (a : Int) (m k : Nat) : a / 2 ^ m * 2 ^ (k + 1) = a / 2 ^ m * 2 ^ k * 2 := by
  rw [Int.pow_succ, Int.mul_assoc]
theorem mul_hi2 (a : Int) (m k : Nat) (h : 0 ≤ a) (h2 : a < 4294967296) (hk : k + 1 ≤ m) : a / 2 ^ m * 2 ^ k * 2 < 4294967296 := by
  rw [← mul_succ']; exact mul_hi a m (k + 1) h h2 hk

theorem inB_has (a n b m : Int) : inB a n b m = (mayB b m && (decide (n ≤ m) && hasB a n b)) := by
  unfold inB hasB
  cases mayB a n <;> cases mayB b m <;> cases decide (n ≤ m) <;> simp

theorem atoi_range {l : List UInt8} {v : Int} (h : Lib.atoiAll l = .ok v) : -9223372036854775808 ≤ v ∧ v ≤ 9223372036854775807 := by
  unfold Lib.atoiAll at h
  split at h
  · cases h
  · dsimp only at h
    split at h
    · cases h
    · cases h
    · split at h
      · cases h
      · split at h
        · cases h
        · split at h <;> (injection h with h; omega)

theorem cut_len (l sep : List UInt8) : (Lib.cut l sep).1.length ≤ l.length ∧ (Lib.cut l sep).2.1.length ≤ l.length := by
  unfold Lib.cut
  split
  · simp; omega
  · simp
theorem bsize (t : ByteArray) : t.size = t.data.toList.length := by
  show t.data.size = _
  rw [Array.length_toList]
theorem cut_left {t p : ByteArray} {sep : List UInt8} (h : p.data.toList = (Lib.cut t.data.toList sep).1) (ht : t.size ≤ 1000000) : p.size ≤ 1000000 := by
  have h1 := (cut_len t.data.toList sep).1
  rw [← h] at h1
  have e1 := bsize p
  have e2 := bsize t
  omega
theorem cut_right {t p : ByteArray} {sep : List UInt8} (h : p.data.toList = (Lib.cut t.data.toList sep).2.1) (ht : t.size ≤ 1000000) : p.size ≤ 1000000 := by
  have h1 := (cut_len t.data.toList sep).2
  rw [← h] at h1
  have e1 := bsize p
  have e2 := bsize t
  omega
theorem pow256 {k : Nat} (h : k ≤ 3) : (256 : Int) ^ k ≤ 16777216 := by
  have : k = 0 ∨ k = 1 ∨ k = 2 ∨ k = 3 := by omega
  rcases this with rfl | rfl | rfl | rfl <;> decide

theorem pow256_succ {x n : Int} {k : Nat} (h : x < 256 ^ k) (hn : n ≤ 255) : x * 256 + n < 256 ^ (k + 1) := by
  rw [Int.pow_succ]; omega

end Wp
end Go.Proofs.Ytdjhgahdiggahaa

namespace Go.Proofs.Ytdjhgahdiggahaa
open Go.RowKit
set_option maxHeartbeats 400000 in
theorem mayW_any (a n : Int) (w : World) :
    Calls Try.prog 86 #[.agg #[.int .u32 a, .int .i64 n]] w fun e w' => e = .returned (.bool (Wp.mayB a n)) ∧ Below w.heap.size w w' := by
  go_enter Try.func86, Try.ntmps86
  go_wp2
  · have h1 : 0 ≤ n := by assumption
    have h2 : n ≤ 32 := by assumption
    go_ret
    exact ⟨ret_b (by rw [Wp.shl_zero h1 h2]; simp [Wp.mayB, h1, h2]), by go_grown⟩
  · have h1 : 0 ≤ n := by assumption
    have h2 : ¬ n ≤ 32 := by omega
    go_ret
    exact ⟨ret_b (by simp [Wp.mayB, h2]), by go_grown⟩
  · have h1 : ¬ 0 ≤ n := by omega
    go_ret
    exact ⟨ret_b (by simp [Wp.mayB, h1]), by go_grown⟩

theorem xor_shr {a b n : Int} (ha : 0 ≤ a) (ha2 : a < 4294967296) (hb : 0 ≤ b) (hb2 : b < 4294967296) (h : Wp.fst a n = a) :
    (bits BinOp.xor IntKind.u32 a b / 2 ^ (32 - n).toNat == 0) = decide (Wp.fst b n = a) := by
  rw [u32_xor a b ha ha2 hb hb2]
  obtain ⟨a', rfl⟩ := Int.eq_ofNat_of_zero_le ha
  obtain ⟨b', rfl⟩ := Int.eq_ofNat_of_zero_le hb
  exact Wp.xor_fst a' b' _ n rfl h

end Go.Proofs.Ytdjhgahdiggahaa
