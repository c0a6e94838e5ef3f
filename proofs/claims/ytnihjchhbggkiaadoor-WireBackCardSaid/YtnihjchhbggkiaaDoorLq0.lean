/- The walk of the theorem of the first stage. -/
import Derived.Test.YtnihjchhbggkiaaDoorLs
import Derived.Test.YtnihjchhbggkiaaDoorWt
import Derived.Test.YtnihjchhbggkiaaDoorWi
import Derived.Test.YtnihjchhbggkiaaDoorWb
namespace Go.Proofs.YtnihjchhbggkiaaDoor
open Go.RowKit
attribute [local go_sem ↓] Go.wp_at_zero Go.wp_at_succ

theorem getW_good2 (n : Nat) (hn : n < 18446744073709551616) (v : Value) (w : World) (hv : Bytes w v (putL n 8)) :
    Calls Tryd.prog 14 #[v] w fun e w' => e = .returned (.tuple #[.int .u64 (n : Int), .int .i64 0]) ∧ w = w' := by
  have hl : (putL n 8).length = 8 := putL_length n 8
  have hg : getL (putL n 8) = n := by rw [get_put]; exact Nat.mod_eq_of_lt hn
  refine (getW_any v (putL n 8) w hv (by omega)).mono fun _ _ ⟨he, hw⟩ => ⟨he.trans (ret_ii ?_ ?_), hw⟩
  · rw [(get_yes (by omega) (by omega)).1, hg]
  · exact (get_yes (by omega) (by omega)).2
theorem addrOf_text (a : Int) (ha : 0 ≤ a) (ha2 : a < 4294967296) (w : World) (g : Gl w) :
    Calls Tryd.prog 26 #[.string ⟨(addrT a).toArray⟩] w fun e w' => e = .returned (.tuple #[.int .u32 a, .int .i64 0]) ∧ Below w.heap.size w w' := by
  obtain ⟨e1, e2⟩ := addr_some (addr_back ha ha2)
  refine (addrOf_any ⟨(addrT a).toArray⟩ ?_ w g).mono fun _ _ ⟨he, hb⟩ => ⟨he.trans (ret_ii (by simpa using e1) (by simpa using e2)), hb⟩
  have := addrT_len a
  rw [Wp.bsize]; simp; omega
theorem prefixOf_text (a n : Int) (ha : 0 ≤ a) (ha2 : a < 4294967296) (hm : Wp.mayB a n = true) (w : World) (g : Gl w) :
    Calls Tryd.prog 28 #[.string ⟨(pfT a n).toArray⟩] w fun e w' => e = .returned (.tuple #[.agg #[.int .u32 a, .int .i64 n], .int .i64 0]) ∧ Below w.heap.size w w' := by
  obtain ⟨e1, e2, e3⟩ := pf_back ha ha2 hm
  obtain ⟨n0, n1, _⟩ := Wp.may_of hm
  refine (prefixOf_any ⟨(pfT a n).toArray⟩ ?_ w g).mono fun _ _ ⟨he, hb⟩ => ⟨he.trans (ret_pf (by simpa using e1) (by simpa using e2) (by simpa using e3)), hb⟩
  have h1 := addrT_len a
  have h2 := itoa_len n0 (show n ≤ 255 by omega)
  rw [Wp.bsize]; simp [pfT]; omega
theorem unhexW_hex (l : List UInt8) (w : World) (hl : l.length ≤ 9000) :
    Calls Tryd.prog 22 #[.string ⟨(hexL l).toArray⟩] w fun e w' => ∃ a c, e = .returned (.tuple #[.slice a l.length c, .int .i64 0]) ∧ Bytes w' (.slice a l.length c) l ∧ Below w.heap.size w w' := by
  have h : unhexL (⟨(hexL l).toArray⟩ : ByteArray).data.toList = some l := by simpa using unhex_hex l
  exact unhexW_case _ l 0 (unhex_yes h).1 (unhex_yes h).2 w (by rw [Wp.bsize]; simp [hexL_length]; omega)

/-- What is held while the calls are made: the two prefixes' cells, and what lay before. -/
def Kept (a n b m : Int) (w w' : World) : Prop :=
  w'.cell? ⟨w.heap.size, 0, none⟩ = some (.int .u32 a) ∧ w'.cell? ⟨w.heap.size, 1, none⟩ = some (.int .i64 n) ∧ w'.cell? ⟨w.heap.size + 1, 0, none⟩ = some (.int .u32 b) ∧ w'.cell? ⟨w.heap.size + 1, 1, none⟩ = some (.int .i64 m) ∧ w.heap.size + 1 < w'.heap.size ∧ Below w.heap.size w w'
theorem Kept.later {a n b m : Int} {w w1 w2 : World} (h : Kept a n b m w w1) (hb : Below w1.heap.size w1 w2) : Kept a n b m w w2 := by
  obtain ⟨h0, h1, h2, h3, h4, h5⟩ := h
  exact ⟨cell_later hb h0, cell_later hb h1, cell_later hb h2, cell_later hb h3, Nat.lt_of_lt_of_le h4 hb.size, h5.trans (hb.mono (by omega))⟩

end Go.Proofs.YtnihjchhbggkiaaDoor
