/- What goes over options, as a contract; the walk of ip.mayOptions. -/
import Derived.Test.YtccfebaifgnodaaIe
namespace Go.Proofs.Ytccfebaifgnodaa
open Go.RowKit Go.Shelf
attribute [local go_sem] Oper.semAt_some

theorem nil_nil (W : World) : (binOp .eql 22 (.slice none 0 0) (.slice none 0 0)).run Try.prog W = .ok (.bool true) W := Lib.run_eql_slice_nil W _ _ none 0 0 0 0 Try.underlying22
theorem some_nil (W : World) (x : Addr) (n c : Nat) : (binOp .eql 22 (.slice (some x) n c) (.slice none 0 0)).run Try.prog W = .ok (.bool false) W := Lib.run_eql_slice_nil W _ _ (some x) n c 0 0 Try.underlying22

theorem each_stops (n : Nat) (hn : 1 ≤ n) (w0 w : World) (Bs : Nat) (v : Value) (L : List UInt8) (hL : L.length ≤ 1000000) (hBs : Bs < w.heap.size) (hc : w.cell? ⟨Bs, 0, none⟩ = some v) (hv : Bytes w0 v L) (hb : Below w0.heap.size w0 w) :
    SeqStopsK Fence.wide n Try.prog 64 #[.pointer (some ⟨Bs, 0, none⟩)] (fun x : Opt w0 => #[x.val]) (Below w0.heap.size) (fun ys => ys.map Opt.raw = Om.seq L) (fun pre => pre.map Opt.raw <+: Om.seq L) L.length w := fun l J Jx W hW _ _ hY h0 =>
  each1_in n hn w0 l Bs L v hL J Jx hY W ((hW.cell (p := ⟨Bs, 0, none⟩) hBs).trans hc) hv (hb.trans (hW.mono hb.size)) h0

theorem ok_all {L : List UInt8} {ys : List (Option (List UInt8))} (h : ys = Om.seq L) (hn : ∀ p ∈ ys, p ≠ none) : Om.ok L = true := by
  unfold Om.ok; rw [← h]; simp
  intro h2; exact hn _ h2 rfl
theorem ok_none {L : List UInt8} (h : none ∈ Om.seq L) : Om.ok L = false := by
  unfold Om.ok; simp [h]

set_option maxRecDepth 100000 in
set_option maxHeartbeats 2000000 in
theorem mayOptions_in (n : Nat) (hn : 3 ≤ n) (a : Option Addr) (c : Nat) (L : List UInt8) (hL : L.length ≤ 1000000) (w : World) (hv : Bytes w (.slice a L.length c) L) :
    CallsIn Fence.wide n Try.prog 41 #[.slice a L.length c] w fun e W' => e = .returned (.bool (Om.ok L)) ∧ Below w.heap.size w W' := by
  have h1 : 1 ≤ n := by omega
  refine callsIn_of_wp_marks Try.func41 rfl trivial ?_ rfl
  simp only [Try.ntmps41, List.size_toArray, List.length_cons, List.length_nil, Nat.reduceAdd, Nat.reduceSub, Array.replicate_succ, Array.replicate_zero, List.push_toArray, List.append_toArray, List.nil_append, List.cons_append]
  have HV := Lib.hid hv
  clear hv
  gi_wp2_with fail
  refine ⟨trivial, (callsIn_wide.2 (each_any a L.length c _)).mono ?_⟩
  rintro e w' ⟨rfl, rfl⟩
  gi_wp2_with fail
  have bR := Boxed.new w 4 (.bool false)
  have bN := Boxed.new (w.alloc (.cells #[.bool false] 4)) 22 (.slice a L.length c)
  rw [World.size_alloc] at bN
  have hB0 : Below w.heap.size w ((w.alloc (.cells #[.bool false] 4)).alloc (.cells #[.slice a L.length c] 22)) := ((Below.refl _ w).alloc (Nat.le_refl _) _).alloc (by simp) _
  refine wpIn_rangeFunc_ownG rfl h1 (gf := 64) (lb := #[.pointer (some ⟨w.heap.size + 1, 0, none⟩)]) rfl trivial (enters_of Try.func64 (by kernel_rfl) rfl)
    (each_stops (n - 1) (by omega) w _ (w.heap.size + 1) _ L hL (by simp) bN.cell HV.out hB0) belowK_t (belowK_b (by simp; omega)) (Below.refl _ _) (fun _ => rfl)
    (fun pre W => ((∀ p ∈ pre, p.raw ≠ none) ∧ W.cell? ⟨w.heap.size, 0, none⟩ = some (.bool false) ∧ W.frozen? ⟨w.heap.size, 0, none⟩ = false) ∧ Below w.heap.size w W)
    (fun c pre W => (c = .ret ∧ (∃ p ∈ pre, p.raw = none) ∧ W.cell? ⟨w.heap.size, 0, none⟩ = some (.bool false)) ∧ Below w.heap.size w W)
    (OwnFrom.and (Own.from (fun s A B row hs hg hr => ⟨hs.1, cell_kept hs.2.1 hg hr, (frozen_kept hs.2.1 hg hr).trans hs.2.2⟩) _) (ownFrom_below (Nat.le_refl _) (by simp; omega)))
    (fun c => OwnFrom.and (Own.from (fun s A B row hs hg hr => ⟨hs.1, hs.2.1, cell_kept hs.2.2 hg hr⟩) _) (ownFrom_below (Nat.le_refl _) (by simp; omega)))
    ⟨⟨by simp, (bR.alloc _).cell, (bR.alloc _).frozen⟩, hB0⟩
    (fun x => { tmps := #[.slice a L.length c, undef, .pointer (some ⟨w.heap.size, 0, none⟩), x.val, .slice a L.length c, .func (.func 64) #[] #[.pointer (some ⟨w.heap.size + 1, 0, none⟩)], x.val, undef, undef], defers := [] }) ?assign ?body ?done ?stop
  case assign =>
    intro l x W K hK
    gi_wp2
    exact hK
  case body =>
    rintro l pre x W ⟨⟨hp, hcr, hfr⟩, hB⟩ _
    obtain ⟨⟨v, o⟩, hov⟩ := x
    cases o with
    | none =>
      obtain rfl : v = .slice none 0 0 := hov
      have hnn := nil_nil W
      simp only [Opt.val]
      gi_wp2
      exact ⟨(KeepsOthers.setCell _ _ _).from _, ⟨rfl, ⟨_, List.mem_append_right _ (List.mem_singleton.2 rfl), rfl⟩, World.cell?_setCell_same' _ _ _ (by rw [hcr]; rfl)⟩, hB.setCell (p := ⟨w.heap.size, 0, none⟩) (Nat.le_refl _) _⟩
    | some r =>
      obtain ⟨b, o, c', rfl, hb, _, _, hby⟩ := id hov
      have hsn := some_nil W ⟨b, o, none⟩ r.length c'
      simp only [Opt.val]
      clear hby
      gi_wp2
      exact ⟨KeepsFrom.refl _ _, Below.refl _ _, ⟨fun p hp' => (List.mem_append.1 hp').elim (hp p) (fun e => by rw [List.mem_singleton.1 e]; exact fun h => by cases h), hcr, hfr⟩, hB⟩
  case done =>
    rintro D ys W hD hys ⟨⟨hne, hcr, hfr⟩, hB⟩ hK
    gi_wp2
    have hK' := (KeepsOthers.setCell W ⟨w.heap.size, 0, none⟩ (.bool true)).same D _ hK rfl
    refine ⟨by simp, .inl ⟨_, _, rfl, run_takeDeferred hK', ?_⟩⟩
    have hc5 := cell_kept (World.cell?_setCell_same' W ⟨w.heap.size, 0, none⟩ (.bool true) (by rw [hcr]; rfl)) (grownBy_putObj' _ D (.deferred none)) (fun r e => by cases e; exact ⟨_, hK', rfl⟩)
    have hok := ok_all hys (fun p hp => by obtain ⟨q, hq, rfl⟩ := List.mem_map.1 hp; exact hne q hq)
    refine ⟨.bool true, ?_, by rw [hok], (hB.setCell (p := ⟨w.heap.size, 0, none⟩) (Nat.le_refl _) _).trans (belowK_b (w := w) (Nat.le_refl _) _ D _ _ (by simp at hD; omega) hK' rfl rfl)⟩
    simp [results, Try.f41, go_sem, hc5]
  case stop =>
    rintro D c pre W hD hpre ⟨⟨rfl, ⟨p, hp, hpr⟩, hcr⟩, hB⟩ hK
    gi_wp2
    refine ⟨by simp, .inl ⟨_, _, rfl, run_takeDeferred hK, ?_⟩⟩
    have hc5 := cell_kept hcr (grownBy_putObj' _ D (.deferred none)) (fun r e => by cases e; exact ⟨_, hK, rfl⟩)
    have hok : Om.ok L = false := ok_none (hpre.subset (List.mem_map.2 ⟨p, hp, hpr⟩))
    refine ⟨.bool false, ?_, by rw [hok], hB.trans (belowK_b (w := w) (Nat.le_refl _) W D _ _ (by simp at hD; omega) hK rfl rfl)⟩
    simp [results, Try.f41, go_sem, hc5]
theorem mayOptions_any (v : Value) (L : List UInt8) (hL : L.length ≤ 1000000) (w : World) (hv : Bytes w v L) :
    Calls Try.prog 41 #[v] w fun e W' => e = .returned (.bool (Om.ok L)) ∧ Below w.heap.size w W' := by
  obtain ⟨a, c, rfl⟩ := hv.form
  exact callsIn_wide.1 (mayOptions_in 3 (by omega) a c L hL w hv)
end Go.Proofs.Ytccfebaifgnodaa
