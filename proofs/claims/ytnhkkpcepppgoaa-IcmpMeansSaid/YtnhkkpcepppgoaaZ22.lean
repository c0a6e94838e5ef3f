/- The walk of icmp.echo. -/
import Derived.Test.YtnhkkpcepppgoaaZ18
import Derived.Test.YtnhkkpcepppgoaaZ20
import Derived.Test.YtnhkkpcepppgoaaZ21

set_option linter.unusedSimpArgs false
set_option linter.unusedVariables false
namespace Go.Proofs.Ytnhkkpcepppgoaa
open Go.RowKit
attribute [local go_sem ↓] Go.wp_at_zero Go.wp_at_succ

theorem blk_other7 {t : TypeId} {g b : Nat} {cs : List Value} {w : World} (h : BlkAt t g cs w) (hne : g ≠ b) (x0 x1 x2 x3 x4 x5 x6 : Value) : BlkAt t g cs (((((((w.setCell ⟨b, 0, none⟩ (x0)).setCell ⟨b, 1, none⟩ (x1)).setCell ⟨b, 2, none⟩ (x2)).setCell ⟨b, 3, none⟩ (x3)).setCell ⟨b, 4, none⟩ (x4)).setCell ⟨b, 5, none⟩ (x5)).setCell ⟨b, 6, none⟩ (x6)) := (BlkAt.other (BlkAt.other (BlkAt.other (BlkAt.other (BlkAt.other (BlkAt.other (BlkAt.other h hne 0 x0) hne 1 x1) hne 2 x2) hne 3 x3) hne 4 x4) hne 5 x5) hne 6 x6)
theorem below_sets7 {B g : Nat} {w0 w : World} (h : Below B w0 w) (hB : B ≤ g) (x0 x1 x2 x3 x4 x5 x6 : Value) : Below B w0 (((((((w.setCell ⟨g, 0, none⟩ (x0)).setCell ⟨g, 1, none⟩ (x1)).setCell ⟨g, 2, none⟩ (x2)).setCell ⟨g, 3, none⟩ (x3)).setCell ⟨g, 4, none⟩ (x4)).setCell ⟨g, 5, none⟩ (x5)).setCell ⟨g, 6, none⟩ (x6)) := (Below.setCell (p := ⟨g, 6, none⟩) (Below.setCell (p := ⟨g, 5, none⟩) (Below.setCell (p := ⟨g, 4, none⟩) (Below.setCell (p := ⟨g, 3, none⟩) (Below.setCell (p := ⟨g, 2, none⟩) (Below.setCell (p := ⟨g, 1, none⟩) (Below.setCell (p := ⟨g, 0, none⟩) h hB x0) hB x1) hB x2) hB x3) hB x4) hB x5) hB x6)
theorem blk_other11 {t : TypeId} {g b : Nat} {cs : List Value} {w : World} (h : BlkAt t g cs w) (hne : g ≠ b) (x0 x1 x2 x3 x4 x5 x6 x7 x8 x9 x10 : Value) : BlkAt t g cs (((((((((((w.setCell ⟨b, 0, none⟩ (x0)).setCell ⟨b, 1, none⟩ (x1)).setCell ⟨b, 2, none⟩ (x2)).setCell ⟨b, 3, none⟩ (x3)).setCell ⟨b, 4, none⟩ (x4)).setCell ⟨b, 5, none⟩ (x5)).setCell ⟨b, 6, none⟩ (x6)).setCell ⟨b, 7, none⟩ (x7)).setCell ⟨b, 8, none⟩ (x8)).setCell ⟨b, 9, none⟩ (x9)).setCell ⟨b, 10, none⟩ (x10)) := (BlkAt.other (BlkAt.other (BlkAt.other (BlkAt.other (BlkAt.other (BlkAt.other (BlkAt.other (BlkAt.other (BlkAt.other (BlkAt.other (BlkAt.other h hne 0 x0) hne 1 x1) hne 2 x2) hne 3 x3) hne 4 x4) hne 5 x5) hne 6 x6) hne 7 x7) hne 8 x8) hne 9 x9) hne 10 x10)
theorem below_sets11 {B g : Nat} {w0 w : World} (h : Below B w0 w) (hB : B ≤ g) (x0 x1 x2 x3 x4 x5 x6 x7 x8 x9 x10 : Value) : Below B w0 (((((((((((w.setCell ⟨g, 0, none⟩ (x0)).setCell ⟨g, 1, none⟩ (x1)).setCell ⟨g, 2, none⟩ (x2)).setCell ⟨g, 3, none⟩ (x3)).setCell ⟨g, 4, none⟩ (x4)).setCell ⟨g, 5, none⟩ (x5)).setCell ⟨g, 6, none⟩ (x6)).setCell ⟨g, 7, none⟩ (x7)).setCell ⟨g, 8, none⟩ (x8)).setCell ⟨g, 9, none⟩ (x9)).setCell ⟨g, 10, none⟩ (x10)) := (Below.setCell (p := ⟨g, 10, none⟩) (Below.setCell (p := ⟨g, 9, none⟩) (Below.setCell (p := ⟨g, 8, none⟩) (Below.setCell (p := ⟨g, 7, none⟩) (Below.setCell (p := ⟨g, 6, none⟩) (Below.setCell (p := ⟨g, 5, none⟩) (Below.setCell (p := ⟨g, 4, none⟩) (Below.setCell (p := ⟨g, 3, none⟩) (Below.setCell (p := ⟨g, 2, none⟩) (Below.setCell (p := ⟨g, 1, none⟩) (Below.setCell (p := ⟨g, 0, none⟩) h hB x0) hB x1) hB x2) hB x3) hB x4) hB x5) hB x6) hB x7) hB x8) hB x9) hB x10)
/-- The walk stops at a test: its world gets a name. -/
theorem wpList_stop {P : Program} {ops : Array Oper} {rest : List Oper} {o : Oper} {a : Act} {w : World} {Q : Exit → Act → World → Prop} (t : TypeId) (x y : Operand) (_ : o.op = .binOp .neq t x y t) (h : ∀ W, W = w → wpList P ops Q (o :: rest) a W) : wpList P ops Q (o :: rest) a w := h w rfl
theorem hd_ne : 28 ≠ 5 := by decide
/-- Is it an echo that may be answered? -/
def echB (h : Hd) (P : List UInt8) : Bool := decide (erP P = 0) && (!fragB h && (!((h.pr : Int) != 1) && (!(((mgP P).ty : Int) != 8) && !(((mgP P).co : Int) != 0))))
def echE (l : List UInt8) : Nat := if flt l ≠ 0 then 4 else if echB (hdP l) (plP l) = true then 0 else 7
def HZV : Value := .agg #[.int .u8 0, .int .u16 0, .bool false, .bool false, .bool false, .int .i64 0, .int .u8 0, .int .u8 0, .int .u32 0, .int .u32 0, .slice none 0 0]
set_option maxHeartbeats 8000000 in
set_option maxRecDepth 100000 in
theorem echo_f (v : Value) (l : List UInt8) (hl : l.length ≤ 70000) (wm : World) (hv : Bytes wm v l) (hfl : flt l ≠ 0) :
    Calls Try.prog 73 #[v] wm fun e w' => e = .returned (.tuple #[HZV, MZ, .int .i64 4]) ∧ Below wm.heap.size wm w' := by
  obtain ⟨a, c, rfl⟩ := hv.form
  have hbb : Below wm.heap.size wm ((wm.alloc (.cells #[.int .u8 0, .int .u16 0, .bool false, .bool false, .bool false, .int .i64 0, .int .u8 0, .int .u8 0, .int .u32 0, .int .u32 0, .slice none 0 0] 28)).alloc (.cells #[.int .u8 0, .int .u8 0, .int .u8 0, .int .u8 0, .int .u8 0, .int .u8 0, .slice none 0 0] 46)) := by go_grown
  have hg2 : BlkAt 28 wm.heap.size [.int .u8 0, .int .u16 0, .bool false, .bool false, .bool false, .int .i64 0, .int .u8 0, .int .u8 0, .int .u32 0, .int .u32 0, .slice none 0 0] ((wm.alloc (.cells #[.int .u8 0, .int .u16 0, .bool false, .bool false, .bool false, .int .i64 0, .int .u8 0, .int .u8 0, .int .u32 0, .int .u32 0, .slice none 0 0] 28)).alloc (.cells #[.int .u8 0, .int .u8 0, .int .u8 0, .int .u8 0, .int .u8 0, .int .u8 0, .slice none 0 0] 46)) := (BlkAt.new wm _).later ((Below.refl _ _).alloc (Nat.le_refl _) _)
  have hg3 : BlkAt 46 (wm.heap.size + 1) [.int .u8 0, .int .u8 0, .int .u8 0, .int .u8 0, .int .u8 0, .int .u8 0, .slice none 0 0] ((wm.alloc (.cells #[.int .u8 0, .int .u16 0, .bool false, .bool false, .bool false, .int .i64 0, .int .u8 0, .int .u8 0, .int .u32 0, .int .u32 0, .slice none 0 0] 28)).alloc (.cells #[.int .u8 0, .int .u8 0, .int .u8 0, .int .u8 0, .int .u8 0, .int .u8 0, .slice none 0 0] 46)) := by
    have h := BlkAt.new (t := 46) (wm.alloc (.cells #[.int .u8 0, .int .u16 0, .bool false, .bool false, .bool false, .int .i64 0, .int .u8 0, .int .u8 0, .int .u32 0, .int .u32 0, .slice none 0 0] 28)) [.int .u8 0, .int .u8 0, .int .u8 0, .int .u8 0, .int .u8 0, .int .u8 0, .slice none 0 0]
    rw [World.size_alloc] at h
    exact h
  have hp := prsW_any _ l (by omega) _ (hv.later hbb)
  have HBB := Lib.hid hbb
  have HG2 := Lib.hid hg2
  have HG3 := Lib.hid hg3
  obtain ⟨h, hh⟩ : ∃ h, h = hdP l := ⟨_, rfl⟩
  obtain ⟨P, hP⟩ : ∃ P, P = plP l := ⟨_, rfl⟩
  obtain ⟨O, hO⟩ : ∃ P, P = opP l := ⟨_, rfl⟩
  obtain ⟨f, hf⟩ : ∃ f, f = flt l := ⟨_, rfl⟩
  obtain ⟨n, hn⟩ : ∃ n, n = l.length := ⟨_, rfl⟩
  unfold PrsW at hp
  rw [← hh, ← hP, ← hO, ← hf, ← hn] at hp
  rw [← hn]
  have HP := Lib.hid hp
  have k5 : ((f : Int) != 0) = true := by rw [bne_iff_ne]; omega
  clear hp hh hP hO hn hv hl hbb hg2 hg3
  go_enter Try.func73, Try.ntmps73
  go_wp2_with fail
  refine HP.out.mono ?_
  rintro e w1 ⟨u, v, B, rfl, hu, hvv, _, _, hb1⟩
  obtain ⟨ua, uc, rfl⟩ := hu.form
  obtain ⟨pa, pc, rfl⟩ := hvv.form
  obtain ⟨on, hon⟩ : ∃ n, n = O.length := ⟨_, rfl⟩
  obtain ⟨pn, hpn⟩ : ∃ n, n = P.length := ⟨_, rfl⟩
  rw [← hon, ← hpn]
  have HBA := Lib.hid (hb1.alloc hb1.size (.cells #[.int .u8 (h.tos : Nat), .int .u16 (h.id : Nat), .bool h.ev, .bool h.df, .bool h.mf, .int .i64 h.off, .int .u8 (h.ttl : Nat), .int .u8 (h.pr : Nat), .int .u32 (h.src : Nat), .int .u32 (h.dst : Nat), .slice ua on uc] 28))
  have HS1 := Lib.hid hb1.size
  clear hu hvv hb1 hon hpn hf hfl
  go_wp2_with (with_reducible refine wpList_stop 29 _ _ rfl ?_)
  intro w2 hw2
  have Q2 : Hid (BlkAt 28 wm.heap.size [.int .u8 0, .int .u16 0, .bool false, .bool false, .bool false, .int .i64 0, .int .u8 0, .int .u8 0, .int .u32 0, .int .u32 0, .slice none 0 0] w2) := by rw [hw2]; exact HG2.out.later HBA.out
  have Q3 : Hid (BlkAt 46 (wm.heap.size + 1) [.int .u8 0, .int .u8 0, .int .u8 0, .int .u8 0, .int .u8 0, .int .u8 0, .slice none 0 0] w2) := by rw [hw2]; exact HG3.out.later HBA.out
  have QB : Hid (Below wm.heap.size wm w2) := by rw [hw2]; exact HBB.out.trans (HBA.out.mono HBB.out.size)
  clear hw2
  have hz2 : ∀ j, w2.frozen? ⟨wm.heap.size, j, none⟩ = false := fun j => Q2.out.frozen j
  have hz3 : ∀ j, w2.frozen? ⟨wm.heap.size + 1, j, none⟩ = false := fun j => Q3.out.frozen j
  have c0 := Q2.out.cell (j := 0) rfl
  have c1 := Q2.out.cell (j := 1) rfl
  have c2 := Q2.out.cell (j := 2) rfl
  have c3 := Q2.out.cell (j := 3) rfl
  have c4 := Q2.out.cell (j := 4) rfl
  have c5 := Q2.out.cell (j := 5) rfl
  have c6 := Q2.out.cell (j := 6) rfl
  have c7 := Q2.out.cell (j := 7) rfl
  have c8 := Q2.out.cell (j := 8) rfl
  have c9 := Q2.out.cell (j := 9) rfl
  have c10 := Q2.out.cell (j := 10) rfl
  have d0 := Q3.out.cell (j := 0) rfl
  have d1 := Q3.out.cell (j := 1) rfl
  have d2 := Q3.out.cell (j := 2) rfl
  have d3 := Q3.out.cell (j := 3) rfl
  have d4 := Q3.out.cell (j := 4) rfl
  have d5 := Q3.out.cell (j := 5) rfl
  have d6 := Q3.out.cell (j := 6) rfl
  obtain ⟨s1, _, s3, _⟩ := HdAt.set11 (show HdAt wm.heap.size [.int .u8 0, .int .u16 0, .bool false, .bool false, .bool false, .int .i64 0, .int .u8 0, .int .u8 0, .int .u32 0, .int .u32 0, .slice none 0 0] w2 from Q2.out) (.int .u8 0) (.int .u16 0) (.bool false) (.bool false) (.bool false) (.int .i64 0) (.int .u8 0) (.int .u8 0) (.int .u32 0) (.int .u32 0) (.slice none 0 0)
  have hne : wm.heap.size + 1 ≠ wm.heap.size := by omega
  have q3 := blk_other11 Q3.out hne (.int .u8 0) (.int .u16 0) (.bool false) (.bool false) (.bool false) (.int .i64 0) (.int .u8 0) (.int .u8 0) (.int .u32 0) (.int .u32 0) (.slice none 0 0)
  obtain ⟨s4, _, s5⟩ := BlkAt.set7 ic_ne q3 (.int .u8 0) (.int .u8 0) (.int .u8 0) (.int .u8 0) (.int .u8 0) (.int .u8 0) (.slice none 0 0)
  have s6 := blk_other7 (show BlkAt 28 wm.heap.size [.int .u8 0, .int .u16 0, .bool false, .bool false, .bool false, .int .i64 0, .int .u8 0, .int .u8 0, .int .u32 0, .int .u32 0, .slice none 0 0] _ from s1) (Ne.symm hne) (.int .u8 0) (.int .u8 0) (.int .u8 0) (.int .u8 0) (.int .u8 0) (.int .u8 0) (.slice none 0 0)
  have E1 := Lib.hid s6
  have E2 := Lib.hid s4
  have E3 := Lib.hid (QB.out.trans ((s3 _ (Nat.le_refl _)).trans (s5 _ (Nat.le_succ _))))
  clear s1 s3 q3 s4 s5 s6 hne
  go_wp2_with fail
  have y0 := E1.out.cell (j := 0) rfl
  have y1 := E1.out.cell (j := 1) rfl
  have y2 := E1.out.cell (j := 2) rfl
  have y3 := E1.out.cell (j := 3) rfl
  have y4 := E1.out.cell (j := 4) rfl
  have y5 := E1.out.cell (j := 5) rfl
  have y6 := E1.out.cell (j := 6) rfl
  have y7 := E1.out.cell (j := 7) rfl
  have y8 := E1.out.cell (j := 8) rfl
  have y9 := E1.out.cell (j := 9) rfl
  have y10 := E1.out.cell (j := 10) rfl
  have z0 := E2.out.cell (j := 0) rfl
  have z1 := E2.out.cell (j := 1) rfl
  have z2 := E2.out.cell (j := 2) rfl
  have z3 := E2.out.cell (j := 3) rfl
  have z4 := E2.out.cell (j := 4) rfl
  have z5 := E2.out.cell (j := 5) rfl
  have z6 := E2.out.cell (j := 6) rfl
  clear c0 c1 c2 c3 c4 c5 c6 c7 c8 c9 c10 d0 d1 d2 d3 d4 d5 d6
  exact bodyPost_ret (v := .tuple #[HZV, MZ, .int .i64 4]) (by simp [results, Try.results73, go_sem, HZV, MZ, y0, y1, y2, y3, y4, y5, y6, y7, y8, y9, y10, z0, z1, z2, z3, z4, z5, z6]) rfl ⟨rfl, E3.out⟩
set_option maxHeartbeats 8000000 in
set_option maxRecDepth 100000 in
theorem echo_b (v : Value) (l : List UInt8) (hl : l.length ≤ 70000) (wm : World) (hv : Bytes wm v l) (hfl : flt l = 0) (hx : ((erP (plP l) : Nat) : Int) ≠ 0) :
    Calls Try.prog 73 #[v] wm fun e w' => e = .returned (.tuple #[HZV, MZ, .int .i64 7]) ∧ Below wm.heap.size wm w' := by
  obtain ⟨a, c, rfl⟩ := hv.form
  have hbb : Below wm.heap.size wm ((wm.alloc (.cells #[.int .u8 0, .int .u16 0, .bool false, .bool false, .bool false, .int .i64 0, .int .u8 0, .int .u8 0, .int .u32 0, .int .u32 0, .slice none 0 0] 28)).alloc (.cells #[.int .u8 0, .int .u8 0, .int .u8 0, .int .u8 0, .int .u8 0, .int .u8 0, .slice none 0 0] 46)) := by go_grown
  have hg2 : BlkAt 28 wm.heap.size [.int .u8 0, .int .u16 0, .bool false, .bool false, .bool false, .int .i64 0, .int .u8 0, .int .u8 0, .int .u32 0, .int .u32 0, .slice none 0 0] ((wm.alloc (.cells #[.int .u8 0, .int .u16 0, .bool false, .bool false, .bool false, .int .i64 0, .int .u8 0, .int .u8 0, .int .u32 0, .int .u32 0, .slice none 0 0] 28)).alloc (.cells #[.int .u8 0, .int .u8 0, .int .u8 0, .int .u8 0, .int .u8 0, .int .u8 0, .slice none 0 0] 46)) := (BlkAt.new wm _).later ((Below.refl _ _).alloc (Nat.le_refl _) _)
  have hg3 : BlkAt 46 (wm.heap.size + 1) [.int .u8 0, .int .u8 0, .int .u8 0, .int .u8 0, .int .u8 0, .int .u8 0, .slice none 0 0] ((wm.alloc (.cells #[.int .u8 0, .int .u16 0, .bool false, .bool false, .bool false, .int .i64 0, .int .u8 0, .int .u8 0, .int .u32 0, .int .u32 0, .slice none 0 0] 28)).alloc (.cells #[.int .u8 0, .int .u8 0, .int .u8 0, .int .u8 0, .int .u8 0, .int .u8 0, .slice none 0 0] 46)) := by
    have h := BlkAt.new (t := 46) (wm.alloc (.cells #[.int .u8 0, .int .u16 0, .bool false, .bool false, .bool false, .int .i64 0, .int .u8 0, .int .u8 0, .int .u32 0, .int .u32 0, .slice none 0 0] 28)) [.int .u8 0, .int .u8 0, .int .u8 0, .int .u8 0, .int .u8 0, .int .u8 0, .slice none 0 0]
    rw [World.size_alloc] at h
    exact h
  have hp := prsW_any _ l (by omega) _ (hv.later hbb)
  have HBB := Lib.hid hbb
  have HG2 := Lib.hid hg2
  have HG3 := Lib.hid hg3
  obtain ⟨h, hh⟩ : ∃ h, h = hdP l := ⟨_, rfl⟩
  obtain ⟨P, hP⟩ : ∃ P, P = plP l := ⟨_, rfl⟩
  obtain ⟨O, hO⟩ : ∃ P, P = opP l := ⟨_, rfl⟩
  obtain ⟨f, hf⟩ : ∃ f, f = flt l := ⟨_, rfl⟩
  obtain ⟨n, hn⟩ : ∃ n, n = l.length := ⟨_, rfl⟩
  unfold PrsW at hp
  rw [← hh, ← hP, ← hO, ← hf, ← hn] at hp
  rw [← hn]
  have HP := Lib.hid hp
  have k5 : ((f : Int) != 0) = false := by rw [bne_eq_false_iff_eq]; omega
  obtain ⟨_, _, _, _, _, _, _, hp8⟩ := prs_lens hfl
  obtain ⟨m, hm⟩ : ∃ m, m = mgP P := ⟨_, rfl⟩
  obtain ⟨D, hD⟩ : ∃ m, m = bdP P := ⟨_, rfl⟩
  obtain ⟨er, her⟩ : ∃ m, m = erP P := ⟨_, rfl⟩
  obtain ⟨fg, hfg⟩ : ∃ m, m = fragB h := ⟨_, rfl⟩
  have HOF : Hid (∀ (v : Value) W, Bytes W v P → Calls Try.prog 27 #[v] W fun e w' => ∃ u, e = .returned (.tuple #[.agg #[.int .u8 (m.ty : Nat), .int .u8 (m.co : Nat), .int .u8 (m.r0 : Nat), .int .u8 (m.r1 : Nat), .int .u8 (m.r2 : Nat), .int .u8 (m.r3 : Nat), u], .int .i64 (er : Nat)]) ∧ OwnB w' W.heap.size u D ∧ Below W.heap.size W w') := fun v W hb => by
    rw [hm, her, hD]; exact ofW_anyB v P W hb (by rw [hP]; omega)
  have HFG : Hid (∀ (a : Option Addr) (n c : Nat) W, Calls Try.prog 17 #[.agg #[.int .u8 (h.tos : Nat), .int .u16 (h.id : Nat), .bool h.ev, .bool h.df, .bool h.mf, .int .i64 h.off, .int .u8 (h.ttl : Nat), .int .u8 (h.pr : Nat), .int .u32 (h.src : Nat), .int .u32 (h.dst : Nat), .slice a n c]] W fun e w' => e = .returned (.bool fg) ∧ Below W.heap.size W w') := fun a n c W => by
    rw [hfg]; exact fragW_any h _ W ⟨_, _, _, rfl⟩
  (try rw [← hh] at hx)
  (try rw [← hP] at hx)
  (try rw [← her] at hx)
  (try rw [← hfg] at hx)
  (try rw [← hm] at hx)
  have k6 : ((er : Int) != 0) = true := by rw [bne_iff_ne]; exact hx
  have HLK : Hid (h = hdP l ∧ m = mgP (plP l) ∧ D = bdP (plP l)) := ⟨hh, by rw [hm, hP], by rw [hD, hP]⟩
  clear hm hD her hfg hfl hp8 hx
  clear hp hh hP hO hn hv hl hbb hg2 hg3
  go_enter Try.func73, Try.ntmps73
  go_wp2_with fail
  refine HP.out.mono ?_
  rintro e w1 ⟨u, v, B, rfl, hu, hvv, _, _, hb1⟩
  obtain ⟨ua, uc, rfl⟩ := hu.form
  obtain ⟨pa, pc, rfl⟩ := hvv.form
  obtain ⟨on, hon⟩ : ∃ n, n = O.length := ⟨_, rfl⟩
  obtain ⟨pn, hpn⟩ : ∃ n, n = P.length := ⟨_, rfl⟩
  rw [← hon, ← hpn]
  have HBA := Lib.hid (hb1.alloc hb1.size (.cells #[.int .u8 (h.tos : Nat), .int .u16 (h.id : Nat), .bool h.ev, .bool h.df, .bool h.mf, .int .i64 h.off, .int .u8 (h.ttl : Nat), .int .u8 (h.pr : Nat), .int .u32 (h.src : Nat), .int .u32 (h.dst : Nat), .slice ua on uc] 28))
  have HS1 := Lib.hid hb1.size
  have HVV := Lib.hid (OwnB.bytes (OwnB.later hvv ((Below.refl _ _).alloc (Nat.le_refl _) (.cells #[.int .u8 (h.tos : Nat), .int .u16 (h.id : Nat), .bool h.ev, .bool h.df, .bool h.mf, .int .i64 h.off, .int .u8 (h.ttl : Nat), .int .u8 (h.pr : Nat), .int .u32 (h.src : Nat), .int .u32 (h.dst : Nat), .slice ua on uc] 28))))
  have HT5 : Hid (BlkAt 28 w1.heap.size [.int .u8 (h.tos : Nat), .int .u16 (h.id : Nat), .bool h.ev, .bool h.df, .bool h.mf, .int .i64 h.off, .int .u8 (h.ttl : Nat), .int .u8 (h.pr : Nat), .int .u32 (h.src : Nat), .int .u32 (h.dst : Nat), .slice ua on uc] (w1.alloc (.cells #[.int .u8 (h.tos : Nat), .int .u16 (h.id : Nat), .bool h.ev, .bool h.df, .bool h.mf, .int .i64 h.off, .int .u8 (h.ttl : Nat), .int .u8 (h.pr : Nat), .int .u32 (h.src : Nat), .int .u32 (h.dst : Nat), .slice ua on uc] 28))) := BlkAt.new w1 _
  rw [← hpn] at HVV
  clear hu hvv hb1 hon hpn hf
  go_wp2_with fail
  refine (HOF.out _ _ HVV.out).mono ?_
  rintro e w3 ⟨b, rfl, hob, hb3⟩
  obtain ⟨ba, bc, rfl⟩ := hob.form
  obtain ⟨bn, hbn⟩ : ∃ n, n = D.length := ⟨_, rfl⟩
  rw [← hbn] at hob ⊢
  have HBN := Lib.hid hbn
  have HOB := Lib.hid hob
  have HS3 := Lib.hid hb3.size
  have ha3 : Below w3.heap.size w3 (w3.alloc (.cells #[.int .u8 (m.ty : Nat), .int .u8 (m.co : Nat), .int .u8 (m.r0 : Nat), .int .u8 (m.r1 : Nat), .int .u8 (m.r2 : Nat), .int .u8 (m.r3 : Nat), .slice ba bn bc] 46)) := (Below.refl _ _).alloc (Nat.le_refl _) _
  have HR2 : Hid (BlkAt 28 wm.heap.size [.int .u8 0, .int .u16 0, .bool false, .bool false, .bool false, .int .i64 0, .int .u8 0, .int .u8 0, .int .u32 0, .int .u32 0, .slice none 0 0] (w3.alloc (.cells #[.int .u8 (m.ty : Nat), .int .u8 (m.co : Nat), .int .u8 (m.r0 : Nat), .int .u8 (m.r1 : Nat), .int .u8 (m.r2 : Nat), .int .u8 (m.r3 : Nat), .slice ba bn bc] 46))) := ((HG2.out.later HBA.out).later hb3).later ha3
  have HR3 : Hid (BlkAt 46 (wm.heap.size + 1) [.int .u8 0, .int .u8 0, .int .u8 0, .int .u8 0, .int .u8 0, .int .u8 0, .slice none 0 0] (w3.alloc (.cells #[.int .u8 (m.ty : Nat), .int .u8 (m.co : Nat), .int .u8 (m.r0 : Nat), .int .u8 (m.r1 : Nat), .int .u8 (m.r2 : Nat), .int .u8 (m.r3 : Nat), .slice ba bn bc] 46))) := ((HG3.out.later HBA.out).later hb3).later ha3
  have HR5 : Hid (BlkAt 28 w1.heap.size [.int .u8 (h.tos : Nat), .int .u16 (h.id : Nat), .bool h.ev, .bool h.df, .bool h.mf, .int .i64 h.off, .int .u8 (h.ttl : Nat), .int .u8 (h.pr : Nat), .int .u32 (h.src : Nat), .int .u32 (h.dst : Nat), .slice ua on uc] (w3.alloc (.cells #[.int .u8 (m.ty : Nat), .int .u8 (m.co : Nat), .int .u8 (m.r0 : Nat), .int .u8 (m.r1 : Nat), .int .u8 (m.r2 : Nat), .int .u8 (m.r3 : Nat), .slice ba bn bc] 46))) := (HT5.out.later hb3).later ha3
  have HR8 : Hid (BlkAt 46 w3.heap.size [.int .u8 (m.ty : Nat), .int .u8 (m.co : Nat), .int .u8 (m.r0 : Nat), .int .u8 (m.r1 : Nat), .int .u8 (m.r2 : Nat), .int .u8 (m.r3 : Nat), .slice ba bn bc] (w3.alloc (.cells #[.int .u8 (m.ty : Nat), .int .u8 (m.co : Nat), .int .u8 (m.r0 : Nat), .int .u8 (m.r1 : Nat), .int .u8 (m.r2 : Nat), .int .u8 (m.r3 : Nat), .slice ba bn bc] 46))) := BlkAt.new w3 _
  have hq1 : Below wm.heap.size wm (w1.alloc (.cells #[.int .u8 (h.tos : Nat), .int .u16 (h.id : Nat), .bool h.ev, .bool h.df, .bool h.mf, .int .i64 h.off, .int .u8 (h.ttl : Nat), .int .u8 (h.pr : Nat), .int .u32 (h.src : Nat), .int .u32 (h.dst : Nat), .slice ua on uc] 28)) := HBB.out.trans (HBA.out.mono HBB.out.size)
  have HB8 : Hid (Below wm.heap.size wm (w3.alloc (.cells #[.int .u8 (m.ty : Nat), .int .u8 (m.co : Nat), .int .u8 (m.r0 : Nat), .int .u8 (m.r1 : Nat), .int .u8 (m.r2 : Nat), .int .u8 (m.r3 : Nat), .slice ba bn bc] 46))) := (hq1.trans (hb3.mono hq1.size)).trans (ha3.mono (hq1.trans (hb3.mono hq1.size)).size)
  clear hb3 ha3 hob hbn hq1
  go_wp2_with (with_reducible refine wpList_stop 37 _ _ rfl ?_)
  intro w2 hw2
  have Q2 : Hid (BlkAt 28 wm.heap.size [.int .u8 0, .int .u16 0, .bool false, .bool false, .bool false, .int .i64 0, .int .u8 0, .int .u8 0, .int .u32 0, .int .u32 0, .slice none 0 0] w2) := by rw [hw2]; exact HR2.out
  have Q3 : Hid (BlkAt 46 (wm.heap.size + 1) [.int .u8 0, .int .u8 0, .int .u8 0, .int .u8 0, .int .u8 0, .int .u8 0, .slice none 0 0] w2) := by rw [hw2]; exact HR3.out
  have QB : Hid (Below wm.heap.size wm w2) := by rw [hw2]; exact HB8.out
  clear hw2
  have hz2 : ∀ j, w2.frozen? ⟨wm.heap.size, j, none⟩ = false := fun j => Q2.out.frozen j
  have hz3 : ∀ j, w2.frozen? ⟨wm.heap.size + 1, j, none⟩ = false := fun j => Q3.out.frozen j
  have c0 := Q2.out.cell (j := 0) rfl
  have c1 := Q2.out.cell (j := 1) rfl
  have c2 := Q2.out.cell (j := 2) rfl
  have c3 := Q2.out.cell (j := 3) rfl
  have c4 := Q2.out.cell (j := 4) rfl
  have c5 := Q2.out.cell (j := 5) rfl
  have c6 := Q2.out.cell (j := 6) rfl
  have c7 := Q2.out.cell (j := 7) rfl
  have c8 := Q2.out.cell (j := 8) rfl
  have c9 := Q2.out.cell (j := 9) rfl
  have c10 := Q2.out.cell (j := 10) rfl
  have d0 := Q3.out.cell (j := 0) rfl
  have d1 := Q3.out.cell (j := 1) rfl
  have d2 := Q3.out.cell (j := 2) rfl
  have d3 := Q3.out.cell (j := 3) rfl
  have d4 := Q3.out.cell (j := 4) rfl
  have d5 := Q3.out.cell (j := 5) rfl
  have d6 := Q3.out.cell (j := 6) rfl
  obtain ⟨s1, _, s3, _⟩ := HdAt.set11 (show HdAt wm.heap.size [.int .u8 0, .int .u16 0, .bool false, .bool false, .bool false, .int .i64 0, .int .u8 0, .int .u8 0, .int .u32 0, .int .u32 0, .slice none 0 0] w2 from Q2.out) (.int .u8 0) (.int .u16 0) (.bool false) (.bool false) (.bool false) (.int .i64 0) (.int .u8 0) (.int .u8 0) (.int .u32 0) (.int .u32 0) (.slice none 0 0)
  have hne : wm.heap.size + 1 ≠ wm.heap.size := by omega
  have q3 := blk_other11 Q3.out hne (.int .u8 0) (.int .u16 0) (.bool false) (.bool false) (.bool false) (.int .i64 0) (.int .u8 0) (.int .u8 0) (.int .u32 0) (.int .u32 0) (.slice none 0 0)
  obtain ⟨s4, _, s5⟩ := BlkAt.set7 ic_ne q3 (.int .u8 0) (.int .u8 0) (.int .u8 0) (.int .u8 0) (.int .u8 0) (.int .u8 0) (.slice none 0 0)
  have s6 := blk_other7 (show BlkAt 28 wm.heap.size [.int .u8 0, .int .u16 0, .bool false, .bool false, .bool false, .int .i64 0, .int .u8 0, .int .u8 0, .int .u32 0, .int .u32 0, .slice none 0 0] _ from s1) (Ne.symm hne) (.int .u8 0) (.int .u8 0) (.int .u8 0) (.int .u8 0) (.int .u8 0) (.int .u8 0) (.slice none 0 0)
  have E1 := Lib.hid s6
  have E2 := Lib.hid s4
  have E3 := Lib.hid (QB.out.trans ((s3 _ (Nat.le_refl _)).trans (s5 _ (Nat.le_succ _))))
  clear s1 s3 q3 s4 s5 s6 hne
  go_wp2_with fail
  have y0 := E1.out.cell (j := 0) rfl
  have y1 := E1.out.cell (j := 1) rfl
  have y2 := E1.out.cell (j := 2) rfl
  have y3 := E1.out.cell (j := 3) rfl
  have y4 := E1.out.cell (j := 4) rfl
  have y5 := E1.out.cell (j := 5) rfl
  have y6 := E1.out.cell (j := 6) rfl
  have y7 := E1.out.cell (j := 7) rfl
  have y8 := E1.out.cell (j := 8) rfl
  have y9 := E1.out.cell (j := 9) rfl
  have y10 := E1.out.cell (j := 10) rfl
  have z0 := E2.out.cell (j := 0) rfl
  have z1 := E2.out.cell (j := 1) rfl
  have z2 := E2.out.cell (j := 2) rfl
  have z3 := E2.out.cell (j := 3) rfl
  have z4 := E2.out.cell (j := 4) rfl
  have z5 := E2.out.cell (j := 5) rfl
  have z6 := E2.out.cell (j := 6) rfl
  clear c0 c1 c2 c3 c4 c5 c6 c7 c8 c9 c10 d0 d1 d2 d3 d4 d5 d6
  exact bodyPost_ret (v := .tuple #[HZV, MZ, .int .i64 7]) (by simp [results, Try.results73, go_sem, HZV, MZ, y0, y1, y2, y3, y4, y5, y6, y7, y8, y9, y10, z0, z1, z2, z3, z4, z5, z6]) rfl ⟨rfl, E3.out⟩
set_option maxHeartbeats 8000000 in
set_option maxRecDepth 100000 in
theorem echo_c (v : Value) (l : List UInt8) (hl : l.length ≤ 70000) (wm : World) (hv : Bytes wm v l) (hfl : flt l = 0) (hx : ((erP (plP l) : Nat) : Int) = 0 ∧ fragB (hdP l) = true) :
    Calls Try.prog 73 #[v] wm fun e w' => e = .returned (.tuple #[HZV, MZ, .int .i64 7]) ∧ Below wm.heap.size wm w' := by
  obtain ⟨a, c, rfl⟩ := hv.form
  have hbb : Below wm.heap.size wm ((wm.alloc (.cells #[.int .u8 0, .int .u16 0, .bool false, .bool false, .bool false, .int .i64 0, .int .u8 0, .int .u8 0, .int .u32 0, .int .u32 0, .slice none 0 0] 28)).alloc (.cells #[.int .u8 0, .int .u8 0, .int .u8 0, .int .u8 0, .int .u8 0, .int .u8 0, .slice none 0 0] 46)) := by go_grown
  have hg2 : BlkAt 28 wm.heap.size [.int .u8 0, .int .u16 0, .bool false, .bool false, .bool false, .int .i64 0, .int .u8 0, .int .u8 0, .int .u32 0, .int .u32 0, .slice none 0 0] ((wm.alloc (.cells #[.int .u8 0, .int .u16 0, .bool false, .bool false, .bool false, .int .i64 0, .int .u8 0, .int .u8 0, .int .u32 0, .int .u32 0, .slice none 0 0] 28)).alloc (.cells #[.int .u8 0, .int .u8 0, .int .u8 0, .int .u8 0, .int .u8 0, .int .u8 0, .slice none 0 0] 46)) := (BlkAt.new wm _).later ((Below.refl _ _).alloc (Nat.le_refl _) _)
  have hg3 : BlkAt 46 (wm.heap.size + 1) [.int .u8 0, .int .u8 0, .int .u8 0, .int .u8 0, .int .u8 0, .int .u8 0, .slice none 0 0] ((wm.alloc (.cells #[.int .u8 0, .int .u16 0, .bool false, .bool false, .bool false, .int .i64 0, .int .u8 0, .int .u8 0, .int .u32 0, .int .u32 0, .slice none 0 0] 28)).alloc (.cells #[.int .u8 0, .int .u8 0, .int .u8 0, .int .u8 0, .int .u8 0, .int .u8 0, .slice none 0 0] 46)) := by
    have h := BlkAt.new (t := 46) (wm.alloc (.cells #[.int .u8 0, .int .u16 0, .bool false, .bool false, .bool false, .int .i64 0, .int .u8 0, .int .u8 0, .int .u32 0, .int .u32 0, .slice none 0 0] 28)) [.int .u8 0, .int .u8 0, .int .u8 0, .int .u8 0, .int .u8 0, .int .u8 0, .slice none 0 0]
    rw [World.size_alloc] at h
    exact h
  have hp := prsW_any _ l (by omega) _ (hv.later hbb)
  have HBB := Lib.hid hbb
  have HG2 := Lib.hid hg2
  have HG3 := Lib.hid hg3
  obtain ⟨h, hh⟩ : ∃ h, h = hdP l := ⟨_, rfl⟩
  obtain ⟨P, hP⟩ : ∃ P, P = plP l := ⟨_, rfl⟩
  obtain ⟨O, hO⟩ : ∃ P, P = opP l := ⟨_, rfl⟩
  obtain ⟨f, hf⟩ : ∃ f, f = flt l := ⟨_, rfl⟩
  obtain ⟨n, hn⟩ : ∃ n, n = l.length := ⟨_, rfl⟩
  unfold PrsW at hp
  rw [← hh, ← hP, ← hO, ← hf, ← hn] at hp
  rw [← hn]
  have HP := Lib.hid hp
  have k5 : ((f : Int) != 0) = false := by rw [bne_eq_false_iff_eq]; omega
  obtain ⟨_, _, _, _, _, _, _, hp8⟩ := prs_lens hfl
  obtain ⟨m, hm⟩ : ∃ m, m = mgP P := ⟨_, rfl⟩
  obtain ⟨D, hD⟩ : ∃ m, m = bdP P := ⟨_, rfl⟩
  obtain ⟨er, her⟩ : ∃ m, m = erP P := ⟨_, rfl⟩
  obtain ⟨fg, hfg⟩ : ∃ m, m = fragB h := ⟨_, rfl⟩
  have HOF : Hid (∀ (v : Value) W, Bytes W v P → Calls Try.prog 27 #[v] W fun e w' => ∃ u, e = .returned (.tuple #[.agg #[.int .u8 (m.ty : Nat), .int .u8 (m.co : Nat), .int .u8 (m.r0 : Nat), .int .u8 (m.r1 : Nat), .int .u8 (m.r2 : Nat), .int .u8 (m.r3 : Nat), u], .int .i64 (er : Nat)]) ∧ OwnB w' W.heap.size u D ∧ Below W.heap.size W w') := fun v W hb => by
    rw [hm, her, hD]; exact ofW_anyB v P W hb (by rw [hP]; omega)
  have HFG : Hid (∀ (a : Option Addr) (n c : Nat) W, Calls Try.prog 17 #[.agg #[.int .u8 (h.tos : Nat), .int .u16 (h.id : Nat), .bool h.ev, .bool h.df, .bool h.mf, .int .i64 h.off, .int .u8 (h.ttl : Nat), .int .u8 (h.pr : Nat), .int .u32 (h.src : Nat), .int .u32 (h.dst : Nat), .slice a n c]] W fun e w' => e = .returned (.bool fg) ∧ Below W.heap.size W w') := fun a n c W => by
    rw [hfg]; exact fragW_any h _ W ⟨_, _, _, rfl⟩
  (try rw [← hh] at hx)
  (try rw [← hP] at hx)
  (try rw [← her] at hx)
  (try rw [← hfg] at hx)
  (try rw [← hm] at hx)
  have k6 : ((er : Int) != 0) = false := by rw [bne_eq_false_iff_eq]; exact hx.1
  have k7 : fg = true := hx.2
  have HLK : Hid (h = hdP l ∧ m = mgP (plP l) ∧ D = bdP (plP l)) := ⟨hh, by rw [hm, hP], by rw [hD, hP]⟩
  clear hm hD her hfg hfl hp8 hx
  clear hp hh hP hO hn hv hl hbb hg2 hg3
  go_enter Try.func73, Try.ntmps73
  go_wp2_with fail
  refine HP.out.mono ?_
  rintro e w1 ⟨u, v, B, rfl, hu, hvv, _, _, hb1⟩
  obtain ⟨ua, uc, rfl⟩ := hu.form
  obtain ⟨pa, pc, rfl⟩ := hvv.form
  obtain ⟨on, hon⟩ : ∃ n, n = O.length := ⟨_, rfl⟩
  obtain ⟨pn, hpn⟩ : ∃ n, n = P.length := ⟨_, rfl⟩
  rw [← hon, ← hpn]
  have HBA := Lib.hid (hb1.alloc hb1.size (.cells #[.int .u8 (h.tos : Nat), .int .u16 (h.id : Nat), .bool h.ev, .bool h.df, .bool h.mf, .int .i64 h.off, .int .u8 (h.ttl : Nat), .int .u8 (h.pr : Nat), .int .u32 (h.src : Nat), .int .u32 (h.dst : Nat), .slice ua on uc] 28))
  have HS1 := Lib.hid hb1.size
  have HVV := Lib.hid (OwnB.bytes (OwnB.later hvv ((Below.refl _ _).alloc (Nat.le_refl _) (.cells #[.int .u8 (h.tos : Nat), .int .u16 (h.id : Nat), .bool h.ev, .bool h.df, .bool h.mf, .int .i64 h.off, .int .u8 (h.ttl : Nat), .int .u8 (h.pr : Nat), .int .u32 (h.src : Nat), .int .u32 (h.dst : Nat), .slice ua on uc] 28))))
  have HT5 : Hid (BlkAt 28 w1.heap.size [.int .u8 (h.tos : Nat), .int .u16 (h.id : Nat), .bool h.ev, .bool h.df, .bool h.mf, .int .i64 h.off, .int .u8 (h.ttl : Nat), .int .u8 (h.pr : Nat), .int .u32 (h.src : Nat), .int .u32 (h.dst : Nat), .slice ua on uc] (w1.alloc (.cells #[.int .u8 (h.tos : Nat), .int .u16 (h.id : Nat), .bool h.ev, .bool h.df, .bool h.mf, .int .i64 h.off, .int .u8 (h.ttl : Nat), .int .u8 (h.pr : Nat), .int .u32 (h.src : Nat), .int .u32 (h.dst : Nat), .slice ua on uc] 28))) := BlkAt.new w1 _
  rw [← hpn] at HVV
  clear hu hvv hb1 hon hpn hf
  go_wp2_with fail
  refine (HOF.out _ _ HVV.out).mono ?_
  rintro e w3 ⟨b, rfl, hob, hb3⟩
  obtain ⟨ba, bc, rfl⟩ := hob.form
  obtain ⟨bn, hbn⟩ : ∃ n, n = D.length := ⟨_, rfl⟩
  rw [← hbn] at hob ⊢
  have HBN := Lib.hid hbn
  have HOB := Lib.hid hob
  have HS3 := Lib.hid hb3.size
  have ha3 : Below w3.heap.size w3 (w3.alloc (.cells #[.int .u8 (m.ty : Nat), .int .u8 (m.co : Nat), .int .u8 (m.r0 : Nat), .int .u8 (m.r1 : Nat), .int .u8 (m.r2 : Nat), .int .u8 (m.r3 : Nat), .slice ba bn bc] 46)) := (Below.refl _ _).alloc (Nat.le_refl _) _
  have HR2 : Hid (BlkAt 28 wm.heap.size [.int .u8 0, .int .u16 0, .bool false, .bool false, .bool false, .int .i64 0, .int .u8 0, .int .u8 0, .int .u32 0, .int .u32 0, .slice none 0 0] (w3.alloc (.cells #[.int .u8 (m.ty : Nat), .int .u8 (m.co : Nat), .int .u8 (m.r0 : Nat), .int .u8 (m.r1 : Nat), .int .u8 (m.r2 : Nat), .int .u8 (m.r3 : Nat), .slice ba bn bc] 46))) := ((HG2.out.later HBA.out).later hb3).later ha3
  have HR3 : Hid (BlkAt 46 (wm.heap.size + 1) [.int .u8 0, .int .u8 0, .int .u8 0, .int .u8 0, .int .u8 0, .int .u8 0, .slice none 0 0] (w3.alloc (.cells #[.int .u8 (m.ty : Nat), .int .u8 (m.co : Nat), .int .u8 (m.r0 : Nat), .int .u8 (m.r1 : Nat), .int .u8 (m.r2 : Nat), .int .u8 (m.r3 : Nat), .slice ba bn bc] 46))) := ((HG3.out.later HBA.out).later hb3).later ha3
  have HR5 : Hid (BlkAt 28 w1.heap.size [.int .u8 (h.tos : Nat), .int .u16 (h.id : Nat), .bool h.ev, .bool h.df, .bool h.mf, .int .i64 h.off, .int .u8 (h.ttl : Nat), .int .u8 (h.pr : Nat), .int .u32 (h.src : Nat), .int .u32 (h.dst : Nat), .slice ua on uc] (w3.alloc (.cells #[.int .u8 (m.ty : Nat), .int .u8 (m.co : Nat), .int .u8 (m.r0 : Nat), .int .u8 (m.r1 : Nat), .int .u8 (m.r2 : Nat), .int .u8 (m.r3 : Nat), .slice ba bn bc] 46))) := (HT5.out.later hb3).later ha3
  have HR8 : Hid (BlkAt 46 w3.heap.size [.int .u8 (m.ty : Nat), .int .u8 (m.co : Nat), .int .u8 (m.r0 : Nat), .int .u8 (m.r1 : Nat), .int .u8 (m.r2 : Nat), .int .u8 (m.r3 : Nat), .slice ba bn bc] (w3.alloc (.cells #[.int .u8 (m.ty : Nat), .int .u8 (m.co : Nat), .int .u8 (m.r0 : Nat), .int .u8 (m.r1 : Nat), .int .u8 (m.r2 : Nat), .int .u8 (m.r3 : Nat), .slice ba bn bc] 46))) := BlkAt.new w3 _
  have hq1 : Below wm.heap.size wm (w1.alloc (.cells #[.int .u8 (h.tos : Nat), .int .u16 (h.id : Nat), .bool h.ev, .bool h.df, .bool h.mf, .int .i64 h.off, .int .u8 (h.ttl : Nat), .int .u8 (h.pr : Nat), .int .u32 (h.src : Nat), .int .u32 (h.dst : Nat), .slice ua on uc] 28)) := HBB.out.trans (HBA.out.mono HBB.out.size)
  have HB8 : Hid (Below wm.heap.size wm (w3.alloc (.cells #[.int .u8 (m.ty : Nat), .int .u8 (m.co : Nat), .int .u8 (m.r0 : Nat), .int .u8 (m.r1 : Nat), .int .u8 (m.r2 : Nat), .int .u8 (m.r3 : Nat), .slice ba bn bc] 46))) := (hq1.trans (hb3.mono hq1.size)).trans (ha3.mono (hq1.trans (hb3.mono hq1.size)).size)
  clear hb3 ha3 hob hbn hq1
  have u0 := HR5.out.cell (j := 0) rfl
  have u1 := HR5.out.cell (j := 1) rfl
  have u2 := HR5.out.cell (j := 2) rfl
  have u3 := HR5.out.cell (j := 3) rfl
  have u4 := HR5.out.cell (j := 4) rfl
  have u5 := HR5.out.cell (j := 5) rfl
  have u6 := HR5.out.cell (j := 6) rfl
  have u7 := HR5.out.cell (j := 7) rfl
  have u8 := HR5.out.cell (j := 8) rfl
  have u9 := HR5.out.cell (j := 9) rfl
  have u10 := HR5.out.cell (j := 10) rfl
  go_wp2_with fail
  refine (HFG.out _ _ _ _).mono ?_
  rintro e w2 ⟨rfl, hb2⟩
  have Q2 : Hid (BlkAt 28 wm.heap.size [.int .u8 0, .int .u16 0, .bool false, .bool false, .bool false, .int .i64 0, .int .u8 0, .int .u8 0, .int .u32 0, .int .u32 0, .slice none 0 0] w2) := HR2.out.later hb2
  have Q3 : Hid (BlkAt 46 (wm.heap.size + 1) [.int .u8 0, .int .u8 0, .int .u8 0, .int .u8 0, .int .u8 0, .int .u8 0, .slice none 0 0] w2) := HR3.out.later hb2
  have QB : Hid (Below wm.heap.size wm w2) := HB8.out.trans (hb2.mono HB8.out.size)
  have H5 : Hid (BlkAt 28 w1.heap.size [.int .u8 (h.tos : Nat), .int .u16 (h.id : Nat), .bool h.ev, .bool h.df, .bool h.mf, .int .i64 h.off, .int .u8 (h.ttl : Nat), .int .u8 (h.pr : Nat), .int .u32 (h.src : Nat), .int .u32 (h.dst : Nat), .slice ua on uc] w2) := HR5.out.later hb2
  have H8 : Hid (BlkAt 46 w3.heap.size [.int .u8 (m.ty : Nat), .int .u8 (m.co : Nat), .int .u8 (m.r0 : Nat), .int .u8 (m.r1 : Nat), .int .u8 (m.r2 : Nat), .int .u8 (m.r3 : Nat), .slice ba bn bc] w2) := HR8.out.later hb2
  have HO2 := Lib.hid (OwnB.later (OwnB.alloc HOB.out (.cells #[.int .u8 (m.ty : Nat), .int .u8 (m.co : Nat), .int .u8 (m.r0 : Nat), .int .u8 (m.r1 : Nat), .int .u8 (m.r2 : Nat), .int .u8 (m.r3 : Nat), .slice ba bn bc] 46)) hb2)
  clear hb2 u0 u1 u2 u3 u4 u5 u6 u7 u8 u9 u10
  subst k7
  have hz2 : ∀ j, w2.frozen? ⟨wm.heap.size, j, none⟩ = false := fun j => Q2.out.frozen j
  have hz3 : ∀ j, w2.frozen? ⟨wm.heap.size + 1, j, none⟩ = false := fun j => Q3.out.frozen j
  have c0 := Q2.out.cell (j := 0) rfl
  have c1 := Q2.out.cell (j := 1) rfl
  have c2 := Q2.out.cell (j := 2) rfl
  have c3 := Q2.out.cell (j := 3) rfl
  have c4 := Q2.out.cell (j := 4) rfl
  have c5 := Q2.out.cell (j := 5) rfl
  have c6 := Q2.out.cell (j := 6) rfl
  have c7 := Q2.out.cell (j := 7) rfl
  have c8 := Q2.out.cell (j := 8) rfl
  have c9 := Q2.out.cell (j := 9) rfl
  have c10 := Q2.out.cell (j := 10) rfl
  have d0 := Q3.out.cell (j := 0) rfl
  have d1 := Q3.out.cell (j := 1) rfl
  have d2 := Q3.out.cell (j := 2) rfl
  have d3 := Q3.out.cell (j := 3) rfl
  have d4 := Q3.out.cell (j := 4) rfl
  have d5 := Q3.out.cell (j := 5) rfl
  have d6 := Q3.out.cell (j := 6) rfl
  obtain ⟨s1, _, s3, _⟩ := HdAt.set11 (show HdAt wm.heap.size [.int .u8 0, .int .u16 0, .bool false, .bool false, .bool false, .int .i64 0, .int .u8 0, .int .u8 0, .int .u32 0, .int .u32 0, .slice none 0 0] w2 from Q2.out) (.int .u8 0) (.int .u16 0) (.bool false) (.bool false) (.bool false) (.int .i64 0) (.int .u8 0) (.int .u8 0) (.int .u32 0) (.int .u32 0) (.slice none 0 0)
  have hne : wm.heap.size + 1 ≠ wm.heap.size := by omega
  have q3 := blk_other11 Q3.out hne (.int .u8 0) (.int .u16 0) (.bool false) (.bool false) (.bool false) (.int .i64 0) (.int .u8 0) (.int .u8 0) (.int .u32 0) (.int .u32 0) (.slice none 0 0)
  obtain ⟨s4, _, s5⟩ := BlkAt.set7 ic_ne q3 (.int .u8 0) (.int .u8 0) (.int .u8 0) (.int .u8 0) (.int .u8 0) (.int .u8 0) (.slice none 0 0)
  have s6 := blk_other7 (show BlkAt 28 wm.heap.size [.int .u8 0, .int .u16 0, .bool false, .bool false, .bool false, .int .i64 0, .int .u8 0, .int .u8 0, .int .u32 0, .int .u32 0, .slice none 0 0] _ from s1) (Ne.symm hne) (.int .u8 0) (.int .u8 0) (.int .u8 0) (.int .u8 0) (.int .u8 0) (.int .u8 0) (.slice none 0 0)
  have E1 := Lib.hid s6
  have E2 := Lib.hid s4
  have E3 := Lib.hid (QB.out.trans ((s3 _ (Nat.le_refl _)).trans (s5 _ (Nat.le_succ _))))
  clear s1 s3 q3 s4 s5 s6 hne
  go_wp2_with fail
  have y0 := E1.out.cell (j := 0) rfl
  have y1 := E1.out.cell (j := 1) rfl
  have y2 := E1.out.cell (j := 2) rfl
  have y3 := E1.out.cell (j := 3) rfl
  have y4 := E1.out.cell (j := 4) rfl
  have y5 := E1.out.cell (j := 5) rfl
  have y6 := E1.out.cell (j := 6) rfl
  have y7 := E1.out.cell (j := 7) rfl
  have y8 := E1.out.cell (j := 8) rfl
  have y9 := E1.out.cell (j := 9) rfl
  have y10 := E1.out.cell (j := 10) rfl
  have z0 := E2.out.cell (j := 0) rfl
  have z1 := E2.out.cell (j := 1) rfl
  have z2 := E2.out.cell (j := 2) rfl
  have z3 := E2.out.cell (j := 3) rfl
  have z4 := E2.out.cell (j := 4) rfl
  have z5 := E2.out.cell (j := 5) rfl
  have z6 := E2.out.cell (j := 6) rfl
  clear c0 c1 c2 c3 c4 c5 c6 c7 c8 c9 c10 d0 d1 d2 d3 d4 d5 d6
  exact bodyPost_ret (v := .tuple #[HZV, MZ, .int .i64 7]) (by simp [results, Try.results73, go_sem, HZV, MZ, y0, y1, y2, y3, y4, y5, y6, y7, y8, y9, y10, z0, z1, z2, z3, z4, z5, z6]) rfl ⟨rfl, E3.out⟩
set_option maxHeartbeats 8000000 in
set_option maxRecDepth 100000 in
theorem echo_d (v : Value) (l : List UInt8) (hl : l.length ≤ 70000) (wm : World) (hv : Bytes wm v l) (hfl : flt l = 0) (hx : ((erP (plP l) : Nat) : Int) = 0 ∧ fragB (hdP l) = false ∧ (((hdP l).pr : Int) != 1) = true) :
    Calls Try.prog 73 #[v] wm fun e w' => e = .returned (.tuple #[HZV, MZ, .int .i64 7]) ∧ Below wm.heap.size wm w' := by
  obtain ⟨a, c, rfl⟩ := hv.form
  have hbb : Below wm.heap.size wm ((wm.alloc (.cells #[.int .u8 0, .int .u16 0, .bool false, .bool false, .bool false, .int .i64 0, .int .u8 0, .int .u8 0, .int .u32 0, .int .u32 0, .slice none 0 0] 28)).alloc (.cells #[.int .u8 0, .int .u8 0, .int .u8 0, .int .u8 0, .int .u8 0, .int .u8 0, .slice none 0 0] 46)) := by go_grown
  have hg2 : BlkAt 28 wm.heap.size [.int .u8 0, .int .u16 0, .bool false, .bool false, .bool false, .int .i64 0, .int .u8 0, .int .u8 0, .int .u32 0, .int .u32 0, .slice none 0 0] ((wm.alloc (.cells #[.int .u8 0, .int .u16 0, .bool false, .bool false, .bool false, .int .i64 0, .int .u8 0, .int .u8 0, .int .u32 0, .int .u32 0, .slice none 0 0] 28)).alloc (.cells #[.int .u8 0, .int .u8 0, .int .u8 0, .int .u8 0, .int .u8 0, .int .u8 0, .slice none 0 0] 46)) := (BlkAt.new wm _).later ((Below.refl _ _).alloc (Nat.le_refl _) _)
  have hg3 : BlkAt 46 (wm.heap.size + 1) [.int .u8 0, .int .u8 0, .int .u8 0, .int .u8 0, .int .u8 0, .int .u8 0, .slice none 0 0] ((wm.alloc (.cells #[.int .u8 0, .int .u16 0, .bool false, .bool false, .bool false, .int .i64 0, .int .u8 0, .int .u8 0, .int .u32 0, .int .u32 0, .slice none 0 0] 28)).alloc (.cells #[.int .u8 0, .int .u8 0, .int .u8 0, .int .u8 0, .int .u8 0, .int .u8 0, .slice none 0 0] 46)) := by
    have h := BlkAt.new (t := 46) (wm.alloc (.cells #[.int .u8 0, .int .u16 0, .bool false, .bool false, .bool false, .int .i64 0, .int .u8 0, .int .u8 0, .int .u32 0, .int .u32 0, .slice none 0 0] 28)) [.int .u8 0, .int .u8 0, .int .u8 0, .int .u8 0, .int .u8 0, .int .u8 0, .slice none 0 0]
    rw [World.size_alloc] at h
    exact h
  have hp := prsW_any _ l (by omega) _ (hv.later hbb)
  have HBB := Lib.hid hbb
  have HG2 := Lib.hid hg2
  have HG3 := Lib.hid hg3
  obtain ⟨h, hh⟩ : ∃ h, h = hdP l := ⟨_, rfl⟩
  obtain ⟨P, hP⟩ : ∃ P, P = plP l := ⟨_, rfl⟩
  obtain ⟨O, hO⟩ : ∃ P, P = opP l := ⟨_, rfl⟩
  obtain ⟨f, hf⟩ : ∃ f, f = flt l := ⟨_, rfl⟩
  obtain ⟨n, hn⟩ : ∃ n, n = l.length := ⟨_, rfl⟩
  unfold PrsW at hp
  rw [← hh, ← hP, ← hO, ← hf, ← hn] at hp
  rw [← hn]
  have HP := Lib.hid hp
  have k5 : ((f : Int) != 0) = false := by rw [bne_eq_false_iff_eq]; omega
  obtain ⟨_, _, _, _, _, _, _, hp8⟩ := prs_lens hfl
  obtain ⟨m, hm⟩ : ∃ m, m = mgP P := ⟨_, rfl⟩
  obtain ⟨D, hD⟩ : ∃ m, m = bdP P := ⟨_, rfl⟩
  obtain ⟨er, her⟩ : ∃ m, m = erP P := ⟨_, rfl⟩
  obtain ⟨fg, hfg⟩ : ∃ m, m = fragB h := ⟨_, rfl⟩
  have HOF : Hid (∀ (v : Value) W, Bytes W v P → Calls Try.prog 27 #[v] W fun e w' => ∃ u, e = .returned (.tuple #[.agg #[.int .u8 (m.ty : Nat), .int .u8 (m.co : Nat), .int .u8 (m.r0 : Nat), .int .u8 (m.r1 : Nat), .int .u8 (m.r2 : Nat), .int .u8 (m.r3 : Nat), u], .int .i64 (er : Nat)]) ∧ OwnB w' W.heap.size u D ∧ Below W.heap.size W w') := fun v W hb => by
    rw [hm, her, hD]; exact ofW_anyB v P W hb (by rw [hP]; omega)
  have HFG : Hid (∀ (a : Option Addr) (n c : Nat) W, Calls Try.prog 17 #[.agg #[.int .u8 (h.tos : Nat), .int .u16 (h.id : Nat), .bool h.ev, .bool h.df, .bool h.mf, .int .i64 h.off, .int .u8 (h.ttl : Nat), .int .u8 (h.pr : Nat), .int .u32 (h.src : Nat), .int .u32 (h.dst : Nat), .slice a n c]] W fun e w' => e = .returned (.bool fg) ∧ Below W.heap.size W w') := fun a n c W => by
    rw [hfg]; exact fragW_any h _ W ⟨_, _, _, rfl⟩
  (try rw [← hh] at hx)
  (try rw [← hP] at hx)
  (try rw [← her] at hx)
  (try rw [← hfg] at hx)
  (try rw [← hm] at hx)
  have k6 : ((er : Int) != 0) = false := by rw [bne_eq_false_iff_eq]; exact hx.1
  have k7 : fg = false := hx.2.1
  have k8 := hx.2.2
  have HLK : Hid (h = hdP l ∧ m = mgP (plP l) ∧ D = bdP (plP l)) := ⟨hh, by rw [hm, hP], by rw [hD, hP]⟩
  clear hm hD her hfg hfl hp8 hx
  clear hp hh hP hO hn hv hl hbb hg2 hg3
  go_enter Try.func73, Try.ntmps73
  go_wp2_with fail
  refine HP.out.mono ?_
  rintro e w1 ⟨u, v, B, rfl, hu, hvv, _, _, hb1⟩
  obtain ⟨ua, uc, rfl⟩ := hu.form
  obtain ⟨pa, pc, rfl⟩ := hvv.form
  obtain ⟨on, hon⟩ : ∃ n, n = O.length := ⟨_, rfl⟩
  obtain ⟨pn, hpn⟩ : ∃ n, n = P.length := ⟨_, rfl⟩
  rw [← hon, ← hpn]
  have HBA := Lib.hid (hb1.alloc hb1.size (.cells #[.int .u8 (h.tos : Nat), .int .u16 (h.id : Nat), .bool h.ev, .bool h.df, .bool h.mf, .int .i64 h.off, .int .u8 (h.ttl : Nat), .int .u8 (h.pr : Nat), .int .u32 (h.src : Nat), .int .u32 (h.dst : Nat), .slice ua on uc] 28))
  have HS1 := Lib.hid hb1.size
  have HVV := Lib.hid (OwnB.bytes (OwnB.later hvv ((Below.refl _ _).alloc (Nat.le_refl _) (.cells #[.int .u8 (h.tos : Nat), .int .u16 (h.id : Nat), .bool h.ev, .bool h.df, .bool h.mf, .int .i64 h.off, .int .u8 (h.ttl : Nat), .int .u8 (h.pr : Nat), .int .u32 (h.src : Nat), .int .u32 (h.dst : Nat), .slice ua on uc] 28))))
  have HT5 : Hid (BlkAt 28 w1.heap.size [.int .u8 (h.tos : Nat), .int .u16 (h.id : Nat), .bool h.ev, .bool h.df, .bool h.mf, .int .i64 h.off, .int .u8 (h.ttl : Nat), .int .u8 (h.pr : Nat), .int .u32 (h.src : Nat), .int .u32 (h.dst : Nat), .slice ua on uc] (w1.alloc (.cells #[.int .u8 (h.tos : Nat), .int .u16 (h.id : Nat), .bool h.ev, .bool h.df, .bool h.mf, .int .i64 h.off, .int .u8 (h.ttl : Nat), .int .u8 (h.pr : Nat), .int .u32 (h.src : Nat), .int .u32 (h.dst : Nat), .slice ua on uc] 28))) := BlkAt.new w1 _
  rw [← hpn] at HVV
  clear hu hvv hb1 hon hpn hf
  go_wp2_with fail
  refine (HOF.out _ _ HVV.out).mono ?_
  rintro e w3 ⟨b, rfl, hob, hb3⟩
  obtain ⟨ba, bc, rfl⟩ := hob.form
  obtain ⟨bn, hbn⟩ : ∃ n, n = D.length := ⟨_, rfl⟩
  rw [← hbn] at hob ⊢
  have HBN := Lib.hid hbn
  have HOB := Lib.hid hob
  have HS3 := Lib.hid hb3.size
  have ha3 : Below w3.heap.size w3 (w3.alloc (.cells #[.int .u8 (m.ty : Nat), .int .u8 (m.co : Nat), .int .u8 (m.r0 : Nat), .int .u8 (m.r1 : Nat), .int .u8 (m.r2 : Nat), .int .u8 (m.r3 : Nat), .slice ba bn bc] 46)) := (Below.refl _ _).alloc (Nat.le_refl _) _
  have HR2 : Hid (BlkAt 28 wm.heap.size [.int .u8 0, .int .u16 0, .bool false, .bool false, .bool false, .int .i64 0, .int .u8 0, .int .u8 0, .int .u32 0, .int .u32 0, .slice none 0 0] (w3.alloc (.cells #[.int .u8 (m.ty : Nat), .int .u8 (m.co : Nat), .int .u8 (m.r0 : Nat), .int .u8 (m.r1 : Nat), .int .u8 (m.r2 : Nat), .int .u8 (m.r3 : Nat), .slice ba bn bc] 46))) := ((HG2.out.later HBA.out).later hb3).later ha3
  have HR3 : Hid (BlkAt 46 (wm.heap.size + 1) [.int .u8 0, .int .u8 0, .int .u8 0, .int .u8 0, .int .u8 0, .int .u8 0, .slice none 0 0] (w3.alloc (.cells #[.int .u8 (m.ty : Nat), .int .u8 (m.co : Nat), .int .u8 (m.r0 : Nat), .int .u8 (m.r1 : Nat), .int .u8 (m.r2 : Nat), .int .u8 (m.r3 : Nat), .slice ba bn bc] 46))) := ((HG3.out.later HBA.out).later hb3).later ha3
  have HR5 : Hid (BlkAt 28 w1.heap.size [.int .u8 (h.tos : Nat), .int .u16 (h.id : Nat), .bool h.ev, .bool h.df, .bool h.mf, .int .i64 h.off, .int .u8 (h.ttl : Nat), .int .u8 (h.pr : Nat), .int .u32 (h.src : Nat), .int .u32 (h.dst : Nat), .slice ua on uc] (w3.alloc (.cells #[.int .u8 (m.ty : Nat), .int .u8 (m.co : Nat), .int .u8 (m.r0 : Nat), .int .u8 (m.r1 : Nat), .int .u8 (m.r2 : Nat), .int .u8 (m.r3 : Nat), .slice ba bn bc] 46))) := (HT5.out.later hb3).later ha3
  have HR8 : Hid (BlkAt 46 w3.heap.size [.int .u8 (m.ty : Nat), .int .u8 (m.co : Nat), .int .u8 (m.r0 : Nat), .int .u8 (m.r1 : Nat), .int .u8 (m.r2 : Nat), .int .u8 (m.r3 : Nat), .slice ba bn bc] (w3.alloc (.cells #[.int .u8 (m.ty : Nat), .int .u8 (m.co : Nat), .int .u8 (m.r0 : Nat), .int .u8 (m.r1 : Nat), .int .u8 (m.r2 : Nat), .int .u8 (m.r3 : Nat), .slice ba bn bc] 46))) := BlkAt.new w3 _
  have hq1 : Below wm.heap.size wm (w1.alloc (.cells #[.int .u8 (h.tos : Nat), .int .u16 (h.id : Nat), .bool h.ev, .bool h.df, .bool h.mf, .int .i64 h.off, .int .u8 (h.ttl : Nat), .int .u8 (h.pr : Nat), .int .u32 (h.src : Nat), .int .u32 (h.dst : Nat), .slice ua on uc] 28)) := HBB.out.trans (HBA.out.mono HBB.out.size)
  have HB8 : Hid (Below wm.heap.size wm (w3.alloc (.cells #[.int .u8 (m.ty : Nat), .int .u8 (m.co : Nat), .int .u8 (m.r0 : Nat), .int .u8 (m.r1 : Nat), .int .u8 (m.r2 : Nat), .int .u8 (m.r3 : Nat), .slice ba bn bc] 46))) := (hq1.trans (hb3.mono hq1.size)).trans (ha3.mono (hq1.trans (hb3.mono hq1.size)).size)
  clear hb3 ha3 hob hbn hq1
  have u0 := HR5.out.cell (j := 0) rfl
  have u1 := HR5.out.cell (j := 1) rfl
  have u2 := HR5.out.cell (j := 2) rfl
  have u3 := HR5.out.cell (j := 3) rfl
  have u4 := HR5.out.cell (j := 4) rfl
  have u5 := HR5.out.cell (j := 5) rfl
  have u6 := HR5.out.cell (j := 6) rfl
  have u7 := HR5.out.cell (j := 7) rfl
  have u8 := HR5.out.cell (j := 8) rfl
  have u9 := HR5.out.cell (j := 9) rfl
  have u10 := HR5.out.cell (j := 10) rfl
  go_wp2_with fail
  refine (HFG.out _ _ _ _).mono ?_
  rintro e w2 ⟨rfl, hb2⟩
  have Q2 : Hid (BlkAt 28 wm.heap.size [.int .u8 0, .int .u16 0, .bool false, .bool false, .bool false, .int .i64 0, .int .u8 0, .int .u8 0, .int .u32 0, .int .u32 0, .slice none 0 0] w2) := HR2.out.later hb2
  have Q3 : Hid (BlkAt 46 (wm.heap.size + 1) [.int .u8 0, .int .u8 0, .int .u8 0, .int .u8 0, .int .u8 0, .int .u8 0, .slice none 0 0] w2) := HR3.out.later hb2
  have QB : Hid (Below wm.heap.size wm w2) := HB8.out.trans (hb2.mono HB8.out.size)
  have H5 : Hid (BlkAt 28 w1.heap.size [.int .u8 (h.tos : Nat), .int .u16 (h.id : Nat), .bool h.ev, .bool h.df, .bool h.mf, .int .i64 h.off, .int .u8 (h.ttl : Nat), .int .u8 (h.pr : Nat), .int .u32 (h.src : Nat), .int .u32 (h.dst : Nat), .slice ua on uc] w2) := HR5.out.later hb2
  have H8 : Hid (BlkAt 46 w3.heap.size [.int .u8 (m.ty : Nat), .int .u8 (m.co : Nat), .int .u8 (m.r0 : Nat), .int .u8 (m.r1 : Nat), .int .u8 (m.r2 : Nat), .int .u8 (m.r3 : Nat), .slice ba bn bc] w2) := HR8.out.later hb2
  have HO2 := Lib.hid (OwnB.later (OwnB.alloc HOB.out (.cells #[.int .u8 (m.ty : Nat), .int .u8 (m.co : Nat), .int .u8 (m.r0 : Nat), .int .u8 (m.r1 : Nat), .int .u8 (m.r2 : Nat), .int .u8 (m.r3 : Nat), .slice ba bn bc] 46)) hb2)
  clear hb2 u0 u1 u2 u3 u4 u5 u6 u7 u8 u9 u10
  subst k7
  have v7 := H5.out.cell (j := 7) rfl
  have v0 := H8.out.cell (j := 0) rfl
  have v1 := H8.out.cell (j := 1) rfl
  have hz2 : ∀ j, w2.frozen? ⟨wm.heap.size, j, none⟩ = false := fun j => Q2.out.frozen j
  have hz3 : ∀ j, w2.frozen? ⟨wm.heap.size + 1, j, none⟩ = false := fun j => Q3.out.frozen j
  have c0 := Q2.out.cell (j := 0) rfl
  have c1 := Q2.out.cell (j := 1) rfl
  have c2 := Q2.out.cell (j := 2) rfl
  have c3 := Q2.out.cell (j := 3) rfl
  have c4 := Q2.out.cell (j := 4) rfl
  have c5 := Q2.out.cell (j := 5) rfl
  have c6 := Q2.out.cell (j := 6) rfl
  have c7 := Q2.out.cell (j := 7) rfl
  have c8 := Q2.out.cell (j := 8) rfl
  have c9 := Q2.out.cell (j := 9) rfl
  have c10 := Q2.out.cell (j := 10) rfl
  have d0 := Q3.out.cell (j := 0) rfl
  have d1 := Q3.out.cell (j := 1) rfl
  have d2 := Q3.out.cell (j := 2) rfl
  have d3 := Q3.out.cell (j := 3) rfl
  have d4 := Q3.out.cell (j := 4) rfl
  have d5 := Q3.out.cell (j := 5) rfl
  have d6 := Q3.out.cell (j := 6) rfl
  obtain ⟨s1, _, s3, _⟩ := HdAt.set11 (show HdAt wm.heap.size [.int .u8 0, .int .u16 0, .bool false, .bool false, .bool false, .int .i64 0, .int .u8 0, .int .u8 0, .int .u32 0, .int .u32 0, .slice none 0 0] w2 from Q2.out) (.int .u8 0) (.int .u16 0) (.bool false) (.bool false) (.bool false) (.int .i64 0) (.int .u8 0) (.int .u8 0) (.int .u32 0) (.int .u32 0) (.slice none 0 0)
  have hne : wm.heap.size + 1 ≠ wm.heap.size := by omega
  have q3 := blk_other11 Q3.out hne (.int .u8 0) (.int .u16 0) (.bool false) (.bool false) (.bool false) (.int .i64 0) (.int .u8 0) (.int .u8 0) (.int .u32 0) (.int .u32 0) (.slice none 0 0)
  obtain ⟨s4, _, s5⟩ := BlkAt.set7 ic_ne q3 (.int .u8 0) (.int .u8 0) (.int .u8 0) (.int .u8 0) (.int .u8 0) (.int .u8 0) (.slice none 0 0)
  have s6 := blk_other7 (show BlkAt 28 wm.heap.size [.int .u8 0, .int .u16 0, .bool false, .bool false, .bool false, .int .i64 0, .int .u8 0, .int .u8 0, .int .u32 0, .int .u32 0, .slice none 0 0] _ from s1) (Ne.symm hne) (.int .u8 0) (.int .u8 0) (.int .u8 0) (.int .u8 0) (.int .u8 0) (.int .u8 0) (.slice none 0 0)
  have E1 := Lib.hid s6
  have E2 := Lib.hid s4
  have E3 := Lib.hid (QB.out.trans ((s3 _ (Nat.le_refl _)).trans (s5 _ (Nat.le_succ _))))
  clear s1 s3 q3 s4 s5 s6 hne
  go_wp2_with fail
  have y0 := E1.out.cell (j := 0) rfl
  have y1 := E1.out.cell (j := 1) rfl
  have y2 := E1.out.cell (j := 2) rfl
  have y3 := E1.out.cell (j := 3) rfl
  have y4 := E1.out.cell (j := 4) rfl
  have y5 := E1.out.cell (j := 5) rfl
  have y6 := E1.out.cell (j := 6) rfl
  have y7 := E1.out.cell (j := 7) rfl
  have y8 := E1.out.cell (j := 8) rfl
  have y9 := E1.out.cell (j := 9) rfl
  have y10 := E1.out.cell (j := 10) rfl
  have z0 := E2.out.cell (j := 0) rfl
  have z1 := E2.out.cell (j := 1) rfl
  have z2 := E2.out.cell (j := 2) rfl
  have z3 := E2.out.cell (j := 3) rfl
  have z4 := E2.out.cell (j := 4) rfl
  have z5 := E2.out.cell (j := 5) rfl
  have z6 := E2.out.cell (j := 6) rfl
  clear c0 c1 c2 c3 c4 c5 c6 c7 c8 c9 c10 d0 d1 d2 d3 d4 d5 d6
  exact bodyPost_ret (v := .tuple #[HZV, MZ, .int .i64 7]) (by simp [results, Try.results73, go_sem, HZV, MZ, y0, y1, y2, y3, y4, y5, y6, y7, y8, y9, y10, z0, z1, z2, z3, z4, z5, z6]) rfl ⟨rfl, E3.out⟩
set_option maxHeartbeats 8000000 in
set_option maxRecDepth 100000 in
theorem echo_e (v : Value) (l : List UInt8) (hl : l.length ≤ 70000) (wm : World) (hv : Bytes wm v l) (hfl : flt l = 0) (hx : ((erP (plP l) : Nat) : Int) = 0 ∧ fragB (hdP l) = false ∧ (((hdP l).pr : Int) != 1) = false ∧ (((mgP (plP l)).ty : Int) != 8) = true) :
    Calls Try.prog 73 #[v] wm fun e w' => e = .returned (.tuple #[HZV, MZ, .int .i64 7]) ∧ Below wm.heap.size wm w' := by
  obtain ⟨a, c, rfl⟩ := hv.form
  have hbb : Below wm.heap.size wm ((wm.alloc (.cells #[.int .u8 0, .int .u16 0, .bool false, .bool false, .bool false, .int .i64 0, .int .u8 0, .int .u8 0, .int .u32 0, .int .u32 0, .slice none 0 0] 28)).alloc (.cells #[.int .u8 0, .int .u8 0, .int .u8 0, .int .u8 0, .int .u8 0, .int .u8 0, .slice none 0 0] 46)) := by go_grown
  have hg2 : BlkAt 28 wm.heap.size [.int .u8 0, .int .u16 0, .bool false, .bool false, .bool false, .int .i64 0, .int .u8 0, .int .u8 0, .int .u32 0, .int .u32 0, .slice none 0 0] ((wm.alloc (.cells #[.int .u8 0, .int .u16 0, .bool false, .bool false, .bool false, .int .i64 0, .int .u8 0, .int .u8 0, .int .u32 0, .int .u32 0, .slice none 0 0] 28)).alloc (.cells #[.int .u8 0, .int .u8 0, .int .u8 0, .int .u8 0, .int .u8 0, .int .u8 0, .slice none 0 0] 46)) := (BlkAt.new wm _).later ((Below.refl _ _).alloc (Nat.le_refl _) _)
  have hg3 : BlkAt 46 (wm.heap.size + 1) [.int .u8 0, .int .u8 0, .int .u8 0, .int .u8 0, .int .u8 0, .int .u8 0, .slice none 0 0] ((wm.alloc (.cells #[.int .u8 0, .int .u16 0, .bool false, .bool false, .bool false, .int .i64 0, .int .u8 0, .int .u8 0, .int .u32 0, .int .u32 0, .slice none 0 0] 28)).alloc (.cells #[.int .u8 0, .int .u8 0, .int .u8 0, .int .u8 0, .int .u8 0, .int .u8 0, .slice none 0 0] 46)) := by
    have h := BlkAt.new (t := 46) (wm.alloc (.cells #[.int .u8 0, .int .u16 0, .bool false, .bool false, .bool false, .int .i64 0, .int .u8 0, .int .u8 0, .int .u32 0, .int .u32 0, .slice none 0 0] 28)) [.int .u8 0, .int .u8 0, .int .u8 0, .int .u8 0, .int .u8 0, .int .u8 0, .slice none 0 0]
    rw [World.size_alloc] at h
    exact h
  have hp := prsW_any _ l (by omega) _ (hv.later hbb)
  have HBB := Lib.hid hbb
  have HG2 := Lib.hid hg2
  have HG3 := Lib.hid hg3
  obtain ⟨h, hh⟩ : ∃ h, h = hdP l := ⟨_, rfl⟩
  obtain ⟨P, hP⟩ : ∃ P, P = plP l := ⟨_, rfl⟩
  obtain ⟨O, hO⟩ : ∃ P, P = opP l := ⟨_, rfl⟩
  obtain ⟨f, hf⟩ : ∃ f, f = flt l := ⟨_, rfl⟩
  obtain ⟨n, hn⟩ : ∃ n, n = l.length := ⟨_, rfl⟩
  unfold PrsW at hp
  rw [← hh, ← hP, ← hO, ← hf, ← hn] at hp
  rw [← hn]
  have HP := Lib.hid hp
  have k5 : ((f : Int) != 0) = false := by rw [bne_eq_false_iff_eq]; omega
  obtain ⟨_, _, _, _, _, _, _, hp8⟩ := prs_lens hfl
  obtain ⟨m, hm⟩ : ∃ m, m = mgP P := ⟨_, rfl⟩
  obtain ⟨D, hD⟩ : ∃ m, m = bdP P := ⟨_, rfl⟩
  obtain ⟨er, her⟩ : ∃ m, m = erP P := ⟨_, rfl⟩
  obtain ⟨fg, hfg⟩ : ∃ m, m = fragB h := ⟨_, rfl⟩
  have HOF : Hid (∀ (v : Value) W, Bytes W v P → Calls Try.prog 27 #[v] W fun e w' => ∃ u, e = .returned (.tuple #[.agg #[.int .u8 (m.ty : Nat), .int .u8 (m.co : Nat), .int .u8 (m.r0 : Nat), .int .u8 (m.r1 : Nat), .int .u8 (m.r2 : Nat), .int .u8 (m.r3 : Nat), u], .int .i64 (er : Nat)]) ∧ OwnB w' W.heap.size u D ∧ Below W.heap.size W w') := fun v W hb => by
    rw [hm, her, hD]; exact ofW_anyB v P W hb (by rw [hP]; omega)
  have HFG : Hid (∀ (a : Option Addr) (n c : Nat) W, Calls Try.prog 17 #[.agg #[.int .u8 (h.tos : Nat), .int .u16 (h.id : Nat), .bool h.ev, .bool h.df, .bool h.mf, .int .i64 h.off, .int .u8 (h.ttl : Nat), .int .u8 (h.pr : Nat), .int .u32 (h.src : Nat), .int .u32 (h.dst : Nat), .slice a n c]] W fun e w' => e = .returned (.bool fg) ∧ Below W.heap.size W w') := fun a n c W => by
    rw [hfg]; exact fragW_any h _ W ⟨_, _, _, rfl⟩
  (try rw [← hh] at hx)
  (try rw [← hP] at hx)
  (try rw [← her] at hx)
  (try rw [← hfg] at hx)
  (try rw [← hm] at hx)
  have k6 : ((er : Int) != 0) = false := by rw [bne_eq_false_iff_eq]; exact hx.1
  have k7 : fg = false := hx.2.1
  have k8 := hx.2.2.1
  have k9 := hx.2.2.2
  have HLK : Hid (h = hdP l ∧ m = mgP (plP l) ∧ D = bdP (plP l)) := ⟨hh, by rw [hm, hP], by rw [hD, hP]⟩
  clear hm hD her hfg hfl hp8 hx
  clear hp hh hP hO hn hv hl hbb hg2 hg3
  go_enter Try.func73, Try.ntmps73
  go_wp2_with fail
  refine HP.out.mono ?_
  rintro e w1 ⟨u, v, B, rfl, hu, hvv, _, _, hb1⟩
  obtain ⟨ua, uc, rfl⟩ := hu.form
  obtain ⟨pa, pc, rfl⟩ := hvv.form
  obtain ⟨on, hon⟩ : ∃ n, n = O.length := ⟨_, rfl⟩
  obtain ⟨pn, hpn⟩ : ∃ n, n = P.length := ⟨_, rfl⟩
  rw [← hon, ← hpn]
  have HBA := Lib.hid (hb1.alloc hb1.size (.cells #[.int .u8 (h.tos : Nat), .int .u16 (h.id : Nat), .bool h.ev, .bool h.df, .bool h.mf, .int .i64 h.off, .int .u8 (h.ttl : Nat), .int .u8 (h.pr : Nat), .int .u32 (h.src : Nat), .int .u32 (h.dst : Nat), .slice ua on uc] 28))
  have HS1 := Lib.hid hb1.size
  have HVV := Lib.hid (OwnB.bytes (OwnB.later hvv ((Below.refl _ _).alloc (Nat.le_refl _) (.cells #[.int .u8 (h.tos : Nat), .int .u16 (h.id : Nat), .bool h.ev, .bool h.df, .bool h.mf, .int .i64 h.off, .int .u8 (h.ttl : Nat), .int .u8 (h.pr : Nat), .int .u32 (h.src : Nat), .int .u32 (h.dst : Nat), .slice ua on uc] 28))))
  have HT5 : Hid (BlkAt 28 w1.heap.size [.int .u8 (h.tos : Nat), .int .u16 (h.id : Nat), .bool h.ev, .bool h.df, .bool h.mf, .int .i64 h.off, .int .u8 (h.ttl : Nat), .int .u8 (h.pr : Nat), .int .u32 (h.src : Nat), .int .u32 (h.dst : Nat), .slice ua on uc] (w1.alloc (.cells #[.int .u8 (h.tos : Nat), .int .u16 (h.id : Nat), .bool h.ev, .bool h.df, .bool h.mf, .int .i64 h.off, .int .u8 (h.ttl : Nat), .int .u8 (h.pr : Nat), .int .u32 (h.src : Nat), .int .u32 (h.dst : Nat), .slice ua on uc] 28))) := BlkAt.new w1 _
  rw [← hpn] at HVV
  clear hu hvv hb1 hon hpn hf
  go_wp2_with fail
  refine (HOF.out _ _ HVV.out).mono ?_
  rintro e w3 ⟨b, rfl, hob, hb3⟩
  obtain ⟨ba, bc, rfl⟩ := hob.form
  obtain ⟨bn, hbn⟩ : ∃ n, n = D.length := ⟨_, rfl⟩
  rw [← hbn] at hob ⊢
  have HBN := Lib.hid hbn
  have HOB := Lib.hid hob
  have HS3 := Lib.hid hb3.size
  have ha3 : Below w3.heap.size w3 (w3.alloc (.cells #[.int .u8 (m.ty : Nat), .int .u8 (m.co : Nat), .int .u8 (m.r0 : Nat), .int .u8 (m.r1 : Nat), .int .u8 (m.r2 : Nat), .int .u8 (m.r3 : Nat), .slice ba bn bc] 46)) := (Below.refl _ _).alloc (Nat.le_refl _) _
  have HR2 : Hid (BlkAt 28 wm.heap.size [.int .u8 0, .int .u16 0, .bool false, .bool false, .bool false, .int .i64 0, .int .u8 0, .int .u8 0, .int .u32 0, .int .u32 0, .slice none 0 0] (w3.alloc (.cells #[.int .u8 (m.ty : Nat), .int .u8 (m.co : Nat), .int .u8 (m.r0 : Nat), .int .u8 (m.r1 : Nat), .int .u8 (m.r2 : Nat), .int .u8 (m.r3 : Nat), .slice ba bn bc] 46))) := ((HG2.out.later HBA.out).later hb3).later ha3
  have HR3 : Hid (BlkAt 46 (wm.heap.size + 1) [.int .u8 0, .int .u8 0, .int .u8 0, .int .u8 0, .int .u8 0, .int .u8 0, .slice none 0 0] (w3.alloc (.cells #[.int .u8 (m.ty : Nat), .int .u8 (m.co : Nat), .int .u8 (m.r0 : Nat), .int .u8 (m.r1 : Nat), .int .u8 (m.r2 : Nat), .int .u8 (m.r3 : Nat), .slice ba bn bc] 46))) := ((HG3.out.later HBA.out).later hb3).later ha3
  have HR5 : Hid (BlkAt 28 w1.heap.size [.int .u8 (h.tos : Nat), .int .u16 (h.id : Nat), .bool h.ev, .bool h.df, .bool h.mf, .int .i64 h.off, .int .u8 (h.ttl : Nat), .int .u8 (h.pr : Nat), .int .u32 (h.src : Nat), .int .u32 (h.dst : Nat), .slice ua on uc] (w3.alloc (.cells #[.int .u8 (m.ty : Nat), .int .u8 (m.co : Nat), .int .u8 (m.r0 : Nat), .int .u8 (m.r1 : Nat), .int .u8 (m.r2 : Nat), .int .u8 (m.r3 : Nat), .slice ba bn bc] 46))) := (HT5.out.later hb3).later ha3
  have HR8 : Hid (BlkAt 46 w3.heap.size [.int .u8 (m.ty : Nat), .int .u8 (m.co : Nat), .int .u8 (m.r0 : Nat), .int .u8 (m.r1 : Nat), .int .u8 (m.r2 : Nat), .int .u8 (m.r3 : Nat), .slice ba bn bc] (w3.alloc (.cells #[.int .u8 (m.ty : Nat), .int .u8 (m.co : Nat), .int .u8 (m.r0 : Nat), .int .u8 (m.r1 : Nat), .int .u8 (m.r2 : Nat), .int .u8 (m.r3 : Nat), .slice ba bn bc] 46))) := BlkAt.new w3 _
  have hq1 : Below wm.heap.size wm (w1.alloc (.cells #[.int .u8 (h.tos : Nat), .int .u16 (h.id : Nat), .bool h.ev, .bool h.df, .bool h.mf, .int .i64 h.off, .int .u8 (h.ttl : Nat), .int .u8 (h.pr : Nat), .int .u32 (h.src : Nat), .int .u32 (h.dst : Nat), .slice ua on uc] 28)) := HBB.out.trans (HBA.out.mono HBB.out.size)
  have HB8 : Hid (Below wm.heap.size wm (w3.alloc (.cells #[.int .u8 (m.ty : Nat), .int .u8 (m.co : Nat), .int .u8 (m.r0 : Nat), .int .u8 (m.r1 : Nat), .int .u8 (m.r2 : Nat), .int .u8 (m.r3 : Nat), .slice ba bn bc] 46))) := (hq1.trans (hb3.mono hq1.size)).trans (ha3.mono (hq1.trans (hb3.mono hq1.size)).size)
  clear hb3 ha3 hob hbn hq1
  have u0 := HR5.out.cell (j := 0) rfl
  have u1 := HR5.out.cell (j := 1) rfl
  have u2 := HR5.out.cell (j := 2) rfl
  have u3 := HR5.out.cell (j := 3) rfl
  have u4 := HR5.out.cell (j := 4) rfl
  have u5 := HR5.out.cell (j := 5) rfl
  have u6 := HR5.out.cell (j := 6) rfl
  have u7 := HR5.out.cell (j := 7) rfl
  have u8 := HR5.out.cell (j := 8) rfl
  have u9 := HR5.out.cell (j := 9) rfl
  have u10 := HR5.out.cell (j := 10) rfl
  go_wp2_with fail
  refine (HFG.out _ _ _ _).mono ?_
  rintro e w2 ⟨rfl, hb2⟩
  have Q2 : Hid (BlkAt 28 wm.heap.size [.int .u8 0, .int .u16 0, .bool false, .bool false, .bool false, .int .i64 0, .int .u8 0, .int .u8 0, .int .u32 0, .int .u32 0, .slice none 0 0] w2) := HR2.out.later hb2
  have Q3 : Hid (BlkAt 46 (wm.heap.size + 1) [.int .u8 0, .int .u8 0, .int .u8 0, .int .u8 0, .int .u8 0, .int .u8 0, .slice none 0 0] w2) := HR3.out.later hb2
  have QB : Hid (Below wm.heap.size wm w2) := HB8.out.trans (hb2.mono HB8.out.size)
  have H5 : Hid (BlkAt 28 w1.heap.size [.int .u8 (h.tos : Nat), .int .u16 (h.id : Nat), .bool h.ev, .bool h.df, .bool h.mf, .int .i64 h.off, .int .u8 (h.ttl : Nat), .int .u8 (h.pr : Nat), .int .u32 (h.src : Nat), .int .u32 (h.dst : Nat), .slice ua on uc] w2) := HR5.out.later hb2
  have H8 : Hid (BlkAt 46 w3.heap.size [.int .u8 (m.ty : Nat), .int .u8 (m.co : Nat), .int .u8 (m.r0 : Nat), .int .u8 (m.r1 : Nat), .int .u8 (m.r2 : Nat), .int .u8 (m.r3 : Nat), .slice ba bn bc] w2) := HR8.out.later hb2
  have HO2 := Lib.hid (OwnB.later (OwnB.alloc HOB.out (.cells #[.int .u8 (m.ty : Nat), .int .u8 (m.co : Nat), .int .u8 (m.r0 : Nat), .int .u8 (m.r1 : Nat), .int .u8 (m.r2 : Nat), .int .u8 (m.r3 : Nat), .slice ba bn bc] 46)) hb2)
  clear hb2 u0 u1 u2 u3 u4 u5 u6 u7 u8 u9 u10
  subst k7
  have v7 := H5.out.cell (j := 7) rfl
  have v0 := H8.out.cell (j := 0) rfl
  have v1 := H8.out.cell (j := 1) rfl
  have hz2 : ∀ j, w2.frozen? ⟨wm.heap.size, j, none⟩ = false := fun j => Q2.out.frozen j
  have hz3 : ∀ j, w2.frozen? ⟨wm.heap.size + 1, j, none⟩ = false := fun j => Q3.out.frozen j
  have c0 := Q2.out.cell (j := 0) rfl
  have c1 := Q2.out.cell (j := 1) rfl
  have c2 := Q2.out.cell (j := 2) rfl
  have c3 := Q2.out.cell (j := 3) rfl
  have c4 := Q2.out.cell (j := 4) rfl
  have c5 := Q2.out.cell (j := 5) rfl
  have c6 := Q2.out.cell (j := 6) rfl
  have c7 := Q2.out.cell (j := 7) rfl
  have c8 := Q2.out.cell (j := 8) rfl
  have c9 := Q2.out.cell (j := 9) rfl
  have c10 := Q2.out.cell (j := 10) rfl
  have d0 := Q3.out.cell (j := 0) rfl
  have d1 := Q3.out.cell (j := 1) rfl
  have d2 := Q3.out.cell (j := 2) rfl
  have d3 := Q3.out.cell (j := 3) rfl
  have d4 := Q3.out.cell (j := 4) rfl
  have d5 := Q3.out.cell (j := 5) rfl
  have d6 := Q3.out.cell (j := 6) rfl
  obtain ⟨s1, _, s3, _⟩ := HdAt.set11 (show HdAt wm.heap.size [.int .u8 0, .int .u16 0, .bool false, .bool false, .bool false, .int .i64 0, .int .u8 0, .int .u8 0, .int .u32 0, .int .u32 0, .slice none 0 0] w2 from Q2.out) (.int .u8 0) (.int .u16 0) (.bool false) (.bool false) (.bool false) (.int .i64 0) (.int .u8 0) (.int .u8 0) (.int .u32 0) (.int .u32 0) (.slice none 0 0)
  have hne : wm.heap.size + 1 ≠ wm.heap.size := by omega
  have q3 := blk_other11 Q3.out hne (.int .u8 0) (.int .u16 0) (.bool false) (.bool false) (.bool false) (.int .i64 0) (.int .u8 0) (.int .u8 0) (.int .u32 0) (.int .u32 0) (.slice none 0 0)
  obtain ⟨s4, _, s5⟩ := BlkAt.set7 ic_ne q3 (.int .u8 0) (.int .u8 0) (.int .u8 0) (.int .u8 0) (.int .u8 0) (.int .u8 0) (.slice none 0 0)
  have s6 := blk_other7 (show BlkAt 28 wm.heap.size [.int .u8 0, .int .u16 0, .bool false, .bool false, .bool false, .int .i64 0, .int .u8 0, .int .u8 0, .int .u32 0, .int .u32 0, .slice none 0 0] _ from s1) (Ne.symm hne) (.int .u8 0) (.int .u8 0) (.int .u8 0) (.int .u8 0) (.int .u8 0) (.int .u8 0) (.slice none 0 0)
  have E1 := Lib.hid s6
  have E2 := Lib.hid s4
  have E3 := Lib.hid (QB.out.trans ((s3 _ (Nat.le_refl _)).trans (s5 _ (Nat.le_succ _))))
  clear s1 s3 q3 s4 s5 s6 hne
  go_wp2_with fail
  have y0 := E1.out.cell (j := 0) rfl
  have y1 := E1.out.cell (j := 1) rfl
  have y2 := E1.out.cell (j := 2) rfl
  have y3 := E1.out.cell (j := 3) rfl
  have y4 := E1.out.cell (j := 4) rfl
  have y5 := E1.out.cell (j := 5) rfl
  have y6 := E1.out.cell (j := 6) rfl
  have y7 := E1.out.cell (j := 7) rfl
  have y8 := E1.out.cell (j := 8) rfl
  have y9 := E1.out.cell (j := 9) rfl
  have y10 := E1.out.cell (j := 10) rfl
  have z0 := E2.out.cell (j := 0) rfl
  have z1 := E2.out.cell (j := 1) rfl
  have z2 := E2.out.cell (j := 2) rfl
  have z3 := E2.out.cell (j := 3) rfl
  have z4 := E2.out.cell (j := 4) rfl
  have z5 := E2.out.cell (j := 5) rfl
  have z6 := E2.out.cell (j := 6) rfl
  clear c0 c1 c2 c3 c4 c5 c6 c7 c8 c9 c10 d0 d1 d2 d3 d4 d5 d6
  exact bodyPost_ret (v := .tuple #[HZV, MZ, .int .i64 7]) (by simp [results, Try.results73, go_sem, HZV, MZ, y0, y1, y2, y3, y4, y5, y6, y7, y8, y9, y10, z0, z1, z2, z3, z4, z5, z6]) rfl ⟨rfl, E3.out⟩
set_option maxHeartbeats 8000000 in
set_option maxRecDepth 100000 in
theorem echo_g (v : Value) (l : List UInt8) (hl : l.length ≤ 70000) (wm : World) (hv : Bytes wm v l) (hfl : flt l = 0) (hx : ((erP (plP l) : Nat) : Int) = 0 ∧ fragB (hdP l) = false ∧ (((hdP l).pr : Int) != 1) = false ∧ (((mgP (plP l)).ty : Int) != 8) = false ∧ (((mgP (plP l)).co : Int) != 0) = true) :
    Calls Try.prog 73 #[v] wm fun e w' => e = .returned (.tuple #[HZV, MZ, .int .i64 7]) ∧ Below wm.heap.size wm w' := by
  obtain ⟨a, c, rfl⟩ := hv.form
  have hbb : Below wm.heap.size wm ((wm.alloc (.cells #[.int .u8 0, .int .u16 0, .bool false, .bool false, .bool false, .int .i64 0, .int .u8 0, .int .u8 0, .int .u32 0, .int .u32 0, .slice none 0 0] 28)).alloc (.cells #[.int .u8 0, .int .u8 0, .int .u8 0, .int .u8 0, .int .u8 0, .int .u8 0, .slice none 0 0] 46)) := by go_grown
  have hg2 : BlkAt 28 wm.heap.size [.int .u8 0, .int .u16 0, .bool false, .bool false, .bool false, .int .i64 0, .int .u8 0, .int .u8 0, .int .u32 0, .int .u32 0, .slice none 0 0] ((wm.alloc (.cells #[.int .u8 0, .int .u16 0, .bool false, .bool false, .bool false, .int .i64 0, .int .u8 0, .int .u8 0, .int .u32 0, .int .u32 0, .slice none 0 0] 28)).alloc (.cells #[.int .u8 0, .int .u8 0, .int .u8 0, .int .u8 0, .int .u8 0, .int .u8 0, .slice none 0 0] 46)) := (BlkAt.new wm _).later ((Below.refl _ _).alloc (Nat.le_refl _) _)
  have hg3 : BlkAt 46 (wm.heap.size + 1) [.int .u8 0, .int .u8 0, .int .u8 0, .int .u8 0, .int .u8 0, .int .u8 0, .slice none 0 0] ((wm.alloc (.cells #[.int .u8 0, .int .u16 0, .bool false, .bool false, .bool false, .int .i64 0, .int .u8 0, .int .u8 0, .int .u32 0, .int .u32 0, .slice none 0 0] 28)).alloc (.cells #[.int .u8 0, .int .u8 0, .int .u8 0, .int .u8 0, .int .u8 0, .int .u8 0, .slice none 0 0] 46)) := by
    have h := BlkAt.new (t := 46) (wm.alloc (.cells #[.int .u8 0, .int .u16 0, .bool false, .bool false, .bool false, .int .i64 0, .int .u8 0, .int .u8 0, .int .u32 0, .int .u32 0, .slice none 0 0] 28)) [.int .u8 0, .int .u8 0, .int .u8 0, .int .u8 0, .int .u8 0, .int .u8 0, .slice none 0 0]
    rw [World.size_alloc] at h
    exact h
  have hp := prsW_any _ l (by omega) _ (hv.later hbb)
  have HBB := Lib.hid hbb
  have HG2 := Lib.hid hg2
  have HG3 := Lib.hid hg3
  obtain ⟨h, hh⟩ : ∃ h, h = hdP l := ⟨_, rfl⟩
  obtain ⟨P, hP⟩ : ∃ P, P = plP l := ⟨_, rfl⟩
  obtain ⟨O, hO⟩ : ∃ P, P = opP l := ⟨_, rfl⟩
  obtain ⟨f, hf⟩ : ∃ f, f = flt l := ⟨_, rfl⟩
  obtain ⟨n, hn⟩ : ∃ n, n = l.length := ⟨_, rfl⟩
  unfold PrsW at hp
  rw [← hh, ← hP, ← hO, ← hf, ← hn] at hp
  rw [← hn]
  have HP := Lib.hid hp
  have k5 : ((f : Int) != 0) = false := by rw [bne_eq_false_iff_eq]; omega
  obtain ⟨_, _, _, _, _, _, _, hp8⟩ := prs_lens hfl
  obtain ⟨m, hm⟩ : ∃ m, m = mgP P := ⟨_, rfl⟩
  obtain ⟨D, hD⟩ : ∃ m, m = bdP P := ⟨_, rfl⟩
  obtain ⟨er, her⟩ : ∃ m, m = erP P := ⟨_, rfl⟩
  obtain ⟨fg, hfg⟩ : ∃ m, m = fragB h := ⟨_, rfl⟩
  have HOF : Hid (∀ (v : Value) W, Bytes W v P → Calls Try.prog 27 #[v] W fun e w' => ∃ u, e = .returned (.tuple #[.agg #[.int .u8 (m.ty : Nat), .int .u8 (m.co : Nat), .int .u8 (m.r0 : Nat), .int .u8 (m.r1 : Nat), .int .u8 (m.r2 : Nat), .int .u8 (m.r3 : Nat), u], .int .i64 (er : Nat)]) ∧ OwnB w' W.heap.size u D ∧ Below W.heap.size W w') := fun v W hb => by
    rw [hm, her, hD]; exact ofW_anyB v P W hb (by rw [hP]; omega)
  have HFG : Hid (∀ (a : Option Addr) (n c : Nat) W, Calls Try.prog 17 #[.agg #[.int .u8 (h.tos : Nat), .int .u16 (h.id : Nat), .bool h.ev, .bool h.df, .bool h.mf, .int .i64 h.off, .int .u8 (h.ttl : Nat), .int .u8 (h.pr : Nat), .int .u32 (h.src : Nat), .int .u32 (h.dst : Nat), .slice a n c]] W fun e w' => e = .returned (.bool fg) ∧ Below W.heap.size W w') := fun a n c W => by
    rw [hfg]; exact fragW_any h _ W ⟨_, _, _, rfl⟩
  (try rw [← hh] at hx)
  (try rw [← hP] at hx)
  (try rw [← her] at hx)
  (try rw [← hfg] at hx)
  (try rw [← hm] at hx)
  have k6 : ((er : Int) != 0) = false := by rw [bne_eq_false_iff_eq]; exact hx.1
  have k7 : fg = false := hx.2.1
  have k8 := hx.2.2.1
  have k9 := hx.2.2.2.1
  have k10 := hx.2.2.2.2
  have HLK : Hid (h = hdP l ∧ m = mgP (plP l) ∧ D = bdP (plP l)) := ⟨hh, by rw [hm, hP], by rw [hD, hP]⟩
  clear hm hD her hfg hfl hp8 hx
  clear hp hh hP hO hn hv hl hbb hg2 hg3
  go_enter Try.func73, Try.ntmps73
  go_wp2_with fail
  refine HP.out.mono ?_
  rintro e w1 ⟨u, v, B, rfl, hu, hvv, _, _, hb1⟩
  obtain ⟨ua, uc, rfl⟩ := hu.form
  obtain ⟨pa, pc, rfl⟩ := hvv.form
  obtain ⟨on, hon⟩ : ∃ n, n = O.length := ⟨_, rfl⟩
  obtain ⟨pn, hpn⟩ : ∃ n, n = P.length := ⟨_, rfl⟩
  rw [← hon, ← hpn]
  have HBA := Lib.hid (hb1.alloc hb1.size (.cells #[.int .u8 (h.tos : Nat), .int .u16 (h.id : Nat), .bool h.ev, .bool h.df, .bool h.mf, .int .i64 h.off, .int .u8 (h.ttl : Nat), .int .u8 (h.pr : Nat), .int .u32 (h.src : Nat), .int .u32 (h.dst : Nat), .slice ua on uc] 28))
  have HS1 := Lib.hid hb1.size
  have HVV := Lib.hid (OwnB.bytes (OwnB.later hvv ((Below.refl _ _).alloc (Nat.le_refl _) (.cells #[.int .u8 (h.tos : Nat), .int .u16 (h.id : Nat), .bool h.ev, .bool h.df, .bool h.mf, .int .i64 h.off, .int .u8 (h.ttl : Nat), .int .u8 (h.pr : Nat), .int .u32 (h.src : Nat), .int .u32 (h.dst : Nat), .slice ua on uc] 28))))
  have HT5 : Hid (BlkAt 28 w1.heap.size [.int .u8 (h.tos : Nat), .int .u16 (h.id : Nat), .bool h.ev, .bool h.df, .bool h.mf, .int .i64 h.off, .int .u8 (h.ttl : Nat), .int .u8 (h.pr : Nat), .int .u32 (h.src : Nat), .int .u32 (h.dst : Nat), .slice ua on uc] (w1.alloc (.cells #[.int .u8 (h.tos : Nat), .int .u16 (h.id : Nat), .bool h.ev, .bool h.df, .bool h.mf, .int .i64 h.off, .int .u8 (h.ttl : Nat), .int .u8 (h.pr : Nat), .int .u32 (h.src : Nat), .int .u32 (h.dst : Nat), .slice ua on uc] 28))) := BlkAt.new w1 _
  rw [← hpn] at HVV
  clear hu hvv hb1 hon hpn hf
  go_wp2_with fail
  refine (HOF.out _ _ HVV.out).mono ?_
  rintro e w3 ⟨b, rfl, hob, hb3⟩
  obtain ⟨ba, bc, rfl⟩ := hob.form
  obtain ⟨bn, hbn⟩ : ∃ n, n = D.length := ⟨_, rfl⟩
  rw [← hbn] at hob ⊢
  have HBN := Lib.hid hbn
  have HOB := Lib.hid hob
  have HS3 := Lib.hid hb3.size
  have ha3 : Below w3.heap.size w3 (w3.alloc (.cells #[.int .u8 (m.ty : Nat), .int .u8 (m.co : Nat), .int .u8 (m.r0 : Nat), .int .u8 (m.r1 : Nat), .int .u8 (m.r2 : Nat), .int .u8 (m.r3 : Nat), .slice ba bn bc] 46)) := (Below.refl _ _).alloc (Nat.le_refl _) _
  have HR2 : Hid (BlkAt 28 wm.heap.size [.int .u8 0, .int .u16 0, .bool false, .bool false, .bool false, .int .i64 0, .int .u8 0, .int .u8 0, .int .u32 0, .int .u32 0, .slice none 0 0] (w3.alloc (.cells #[.int .u8 (m.ty : Nat), .int .u8 (m.co : Nat), .int .u8 (m.r0 : Nat), .int .u8 (m.r1 : Nat), .int .u8 (m.r2 : Nat), .int .u8 (m.r3 : Nat), .slice ba bn bc] 46))) := ((HG2.out.later HBA.out).later hb3).later ha3
  have HR3 : Hid (BlkAt 46 (wm.heap.size + 1) [.int .u8 0, .int .u8 0, .int .u8 0, .int .u8 0, .int .u8 0, .int .u8 0, .slice none 0 0] (w3.alloc (.cells #[.int .u8 (m.ty : Nat), .int .u8 (m.co : Nat), .int .u8 (m.r0 : Nat), .int .u8 (m.r1 : Nat), .int .u8 (m.r2 : Nat), .int .u8 (m.r3 : Nat), .slice ba bn bc] 46))) := ((HG3.out.later HBA.out).later hb3).later ha3
  have HR5 : Hid (BlkAt 28 w1.heap.size [.int .u8 (h.tos : Nat), .int .u16 (h.id : Nat), .bool h.ev, .bool h.df, .bool h.mf, .int .i64 h.off, .int .u8 (h.ttl : Nat), .int .u8 (h.pr : Nat), .int .u32 (h.src : Nat), .int .u32 (h.dst : Nat), .slice ua on uc] (w3.alloc (.cells #[.int .u8 (m.ty : Nat), .int .u8 (m.co : Nat), .int .u8 (m.r0 : Nat), .int .u8 (m.r1 : Nat), .int .u8 (m.r2 : Nat), .int .u8 (m.r3 : Nat), .slice ba bn bc] 46))) := (HT5.out.later hb3).later ha3
  have HR8 : Hid (BlkAt 46 w3.heap.size [.int .u8 (m.ty : Nat), .int .u8 (m.co : Nat), .int .u8 (m.r0 : Nat), .int .u8 (m.r1 : Nat), .int .u8 (m.r2 : Nat), .int .u8 (m.r3 : Nat), .slice ba bn bc] (w3.alloc (.cells #[.int .u8 (m.ty : Nat), .int .u8 (m.co : Nat), .int .u8 (m.r0 : Nat), .int .u8 (m.r1 : Nat), .int .u8 (m.r2 : Nat), .int .u8 (m.r3 : Nat), .slice ba bn bc] 46))) := BlkAt.new w3 _
  have hq1 : Below wm.heap.size wm (w1.alloc (.cells #[.int .u8 (h.tos : Nat), .int .u16 (h.id : Nat), .bool h.ev, .bool h.df, .bool h.mf, .int .i64 h.off, .int .u8 (h.ttl : Nat), .int .u8 (h.pr : Nat), .int .u32 (h.src : Nat), .int .u32 (h.dst : Nat), .slice ua on uc] 28)) := HBB.out.trans (HBA.out.mono HBB.out.size)
  have HB8 : Hid (Below wm.heap.size wm (w3.alloc (.cells #[.int .u8 (m.ty : Nat), .int .u8 (m.co : Nat), .int .u8 (m.r0 : Nat), .int .u8 (m.r1 : Nat), .int .u8 (m.r2 : Nat), .int .u8 (m.r3 : Nat), .slice ba bn bc] 46))) := (hq1.trans (hb3.mono hq1.size)).trans (ha3.mono (hq1.trans (hb3.mono hq1.size)).size)
  clear hb3 ha3 hob hbn hq1
  have u0 := HR5.out.cell (j := 0) rfl
  have u1 := HR5.out.cell (j := 1) rfl
  have u2 := HR5.out.cell (j := 2) rfl
  have u3 := HR5.out.cell (j := 3) rfl
  have u4 := HR5.out.cell (j := 4) rfl
  have u5 := HR5.out.cell (j := 5) rfl
  have u6 := HR5.out.cell (j := 6) rfl
  have u7 := HR5.out.cell (j := 7) rfl
  have u8 := HR5.out.cell (j := 8) rfl
  have u9 := HR5.out.cell (j := 9) rfl
  have u10 := HR5.out.cell (j := 10) rfl
  go_wp2_with fail
  refine (HFG.out _ _ _ _).mono ?_
  rintro e w2 ⟨rfl, hb2⟩
  have Q2 : Hid (BlkAt 28 wm.heap.size [.int .u8 0, .int .u16 0, .bool false, .bool false, .bool false, .int .i64 0, .int .u8 0, .int .u8 0, .int .u32 0, .int .u32 0, .slice none 0 0] w2) := HR2.out.later hb2
  have Q3 : Hid (BlkAt 46 (wm.heap.size + 1) [.int .u8 0, .int .u8 0, .int .u8 0, .int .u8 0, .int .u8 0, .int .u8 0, .slice none 0 0] w2) := HR3.out.later hb2
  have QB : Hid (Below wm.heap.size wm w2) := HB8.out.trans (hb2.mono HB8.out.size)
  have H5 : Hid (BlkAt 28 w1.heap.size [.int .u8 (h.tos : Nat), .int .u16 (h.id : Nat), .bool h.ev, .bool h.df, .bool h.mf, .int .i64 h.off, .int .u8 (h.ttl : Nat), .int .u8 (h.pr : Nat), .int .u32 (h.src : Nat), .int .u32 (h.dst : Nat), .slice ua on uc] w2) := HR5.out.later hb2
  have H8 : Hid (BlkAt 46 w3.heap.size [.int .u8 (m.ty : Nat), .int .u8 (m.co : Nat), .int .u8 (m.r0 : Nat), .int .u8 (m.r1 : Nat), .int .u8 (m.r2 : Nat), .int .u8 (m.r3 : Nat), .slice ba bn bc] w2) := HR8.out.later hb2
  have HO2 := Lib.hid (OwnB.later (OwnB.alloc HOB.out (.cells #[.int .u8 (m.ty : Nat), .int .u8 (m.co : Nat), .int .u8 (m.r0 : Nat), .int .u8 (m.r1 : Nat), .int .u8 (m.r2 : Nat), .int .u8 (m.r3 : Nat), .slice ba bn bc] 46)) hb2)
  clear hb2 u0 u1 u2 u3 u4 u5 u6 u7 u8 u9 u10
  subst k7
  have v7 := H5.out.cell (j := 7) rfl
  have v0 := H8.out.cell (j := 0) rfl
  have v1 := H8.out.cell (j := 1) rfl
  have hz2 : ∀ j, w2.frozen? ⟨wm.heap.size, j, none⟩ = false := fun j => Q2.out.frozen j
  have hz3 : ∀ j, w2.frozen? ⟨wm.heap.size + 1, j, none⟩ = false := fun j => Q3.out.frozen j
  have c0 := Q2.out.cell (j := 0) rfl
  have c1 := Q2.out.cell (j := 1) rfl
  have c2 := Q2.out.cell (j := 2) rfl
  have c3 := Q2.out.cell (j := 3) rfl
  have c4 := Q2.out.cell (j := 4) rfl
  have c5 := Q2.out.cell (j := 5) rfl
  have c6 := Q2.out.cell (j := 6) rfl
  have c7 := Q2.out.cell (j := 7) rfl
  have c8 := Q2.out.cell (j := 8) rfl
  have c9 := Q2.out.cell (j := 9) rfl
  have c10 := Q2.out.cell (j := 10) rfl
  have d0 := Q3.out.cell (j := 0) rfl
  have d1 := Q3.out.cell (j := 1) rfl
  have d2 := Q3.out.cell (j := 2) rfl
  have d3 := Q3.out.cell (j := 3) rfl
  have d4 := Q3.out.cell (j := 4) rfl
  have d5 := Q3.out.cell (j := 5) rfl
  have d6 := Q3.out.cell (j := 6) rfl
  obtain ⟨s1, _, s3, _⟩ := HdAt.set11 (show HdAt wm.heap.size [.int .u8 0, .int .u16 0, .bool false, .bool false, .bool false, .int .i64 0, .int .u8 0, .int .u8 0, .int .u32 0, .int .u32 0, .slice none 0 0] w2 from Q2.out) (.int .u8 0) (.int .u16 0) (.bool false) (.bool false) (.bool false) (.int .i64 0) (.int .u8 0) (.int .u8 0) (.int .u32 0) (.int .u32 0) (.slice none 0 0)
  have hne : wm.heap.size + 1 ≠ wm.heap.size := by omega
  have q3 := blk_other11 Q3.out hne (.int .u8 0) (.int .u16 0) (.bool false) (.bool false) (.bool false) (.int .i64 0) (.int .u8 0) (.int .u8 0) (.int .u32 0) (.int .u32 0) (.slice none 0 0)
  obtain ⟨s4, _, s5⟩ := BlkAt.set7 ic_ne q3 (.int .u8 0) (.int .u8 0) (.int .u8 0) (.int .u8 0) (.int .u8 0) (.int .u8 0) (.slice none 0 0)
  have s6 := blk_other7 (show BlkAt 28 wm.heap.size [.int .u8 0, .int .u16 0, .bool false, .bool false, .bool false, .int .i64 0, .int .u8 0, .int .u8 0, .int .u32 0, .int .u32 0, .slice none 0 0] _ from s1) (Ne.symm hne) (.int .u8 0) (.int .u8 0) (.int .u8 0) (.int .u8 0) (.int .u8 0) (.int .u8 0) (.slice none 0 0)
  have E1 := Lib.hid s6
  have E2 := Lib.hid s4
  have E3 := Lib.hid (QB.out.trans ((s3 _ (Nat.le_refl _)).trans (s5 _ (Nat.le_succ _))))
  clear s1 s3 q3 s4 s5 s6 hne
  go_wp2_with fail
  have y0 := E1.out.cell (j := 0) rfl
  have y1 := E1.out.cell (j := 1) rfl
  have y2 := E1.out.cell (j := 2) rfl
  have y3 := E1.out.cell (j := 3) rfl
  have y4 := E1.out.cell (j := 4) rfl
  have y5 := E1.out.cell (j := 5) rfl
  have y6 := E1.out.cell (j := 6) rfl
  have y7 := E1.out.cell (j := 7) rfl
  have y8 := E1.out.cell (j := 8) rfl
  have y9 := E1.out.cell (j := 9) rfl
  have y10 := E1.out.cell (j := 10) rfl
  have z0 := E2.out.cell (j := 0) rfl
  have z1 := E2.out.cell (j := 1) rfl
  have z2 := E2.out.cell (j := 2) rfl
  have z3 := E2.out.cell (j := 3) rfl
  have z4 := E2.out.cell (j := 4) rfl
  have z5 := E2.out.cell (j := 5) rfl
  have z6 := E2.out.cell (j := 6) rfl
  clear c0 c1 c2 c3 c4 c5 c6 c7 c8 c9 c10 d0 d1 d2 d3 d4 d5 d6
  exact bodyPost_ret (v := .tuple #[HZV, MZ, .int .i64 7]) (by simp [results, Try.results73, go_sem, HZV, MZ, y0, y1, y2, y3, y4, y5, y6, y7, y8, y9, y10, z0, z1, z2, z3, z4, z5, z6]) rfl ⟨rfl, E3.out⟩
set_option maxHeartbeats 8000000 in
set_option maxRecDepth 100000 in
theorem echo_y (v : Value) (l : List UInt8) (hl : l.length ≤ 70000) (wm : World) (hv : Bytes wm v l) (hfl : flt l = 0) (hx : ((erP (plP l) : Nat) : Int) = 0 ∧ fragB (hdP l) = false ∧ (((hdP l).pr : Int) != 1) = false ∧ (((mgP (plP l)).ty : Int) != 8) = false ∧ (((mgP (plP l)).co : Int) != 0) = false) :
    Calls Try.prog 73 #[v] wm fun e w' => ∃ u b, e = .returned (.tuple #[.agg #[.int .u8 ((hdP l).tos : Nat), .int .u16 ((hdP l).id : Nat), .bool (hdP l).ev, .bool (hdP l).df, .bool (hdP l).mf, .int .i64 (hdP l).off, .int .u8 ((hdP l).ttl : Nat), .int .u8 ((hdP l).pr : Nat), .int .u32 ((hdP l).src : Nat), .int .u32 ((hdP l).dst : Nat), u], .agg #[.int .u8 ((mgP (plP l)).ty : Nat), .int .u8 ((mgP (plP l)).co : Nat), .int .u8 ((mgP (plP l)).r0 : Nat), .int .u8 ((mgP (plP l)).r1 : Nat), .int .u8 ((mgP (plP l)).r2 : Nat), .int .u8 ((mgP (plP l)).r3 : Nat), b], .int .i64 0]) ∧ (∃ a n c, u = .slice a n c) ∧ Bytes w' b (bdP (plP l)) ∧ Below wm.heap.size wm w' := by
  obtain ⟨a, c, rfl⟩ := hv.form
  have hbb : Below wm.heap.size wm ((wm.alloc (.cells #[.int .u8 0, .int .u16 0, .bool false, .bool false, .bool false, .int .i64 0, .int .u8 0, .int .u8 0, .int .u32 0, .int .u32 0, .slice none 0 0] 28)).alloc (.cells #[.int .u8 0, .int .u8 0, .int .u8 0, .int .u8 0, .int .u8 0, .int .u8 0, .slice none 0 0] 46)) := by go_grown
  have hg2 : BlkAt 28 wm.heap.size [.int .u8 0, .int .u16 0, .bool false, .bool false, .bool false, .int .i64 0, .int .u8 0, .int .u8 0, .int .u32 0, .int .u32 0, .slice none 0 0] ((wm.alloc (.cells #[.int .u8 0, .int .u16 0, .bool false, .bool false, .bool false, .int .i64 0, .int .u8 0, .int .u8 0, .int .u32 0, .int .u32 0, .slice none 0 0] 28)).alloc (.cells #[.int .u8 0, .int .u8 0, .int .u8 0, .int .u8 0, .int .u8 0, .int .u8 0, .slice none 0 0] 46)) := (BlkAt.new wm _).later ((Below.refl _ _).alloc (Nat.le_refl _) _)
  have hg3 : BlkAt 46 (wm.heap.size + 1) [.int .u8 0, .int .u8 0, .int .u8 0, .int .u8 0, .int .u8 0, .int .u8 0, .slice none 0 0] ((wm.alloc (.cells #[.int .u8 0, .int .u16 0, .bool false, .bool false, .bool false, .int .i64 0, .int .u8 0, .int .u8 0, .int .u32 0, .int .u32 0, .slice none 0 0] 28)).alloc (.cells #[.int .u8 0, .int .u8 0, .int .u8 0, .int .u8 0, .int .u8 0, .int .u8 0, .slice none 0 0] 46)) := by
    have h := BlkAt.new (t := 46) (wm.alloc (.cells #[.int .u8 0, .int .u16 0, .bool false, .bool false, .bool false, .int .i64 0, .int .u8 0, .int .u8 0, .int .u32 0, .int .u32 0, .slice none 0 0] 28)) [.int .u8 0, .int .u8 0, .int .u8 0, .int .u8 0, .int .u8 0, .int .u8 0, .slice none 0 0]
    rw [World.size_alloc] at h
    exact h
  have hp := prsW_any _ l (by omega) _ (hv.later hbb)
  have HBB := Lib.hid hbb
  have HG2 := Lib.hid hg2
  have HG3 := Lib.hid hg3
  obtain ⟨h, hh⟩ : ∃ h, h = hdP l := ⟨_, rfl⟩
  obtain ⟨P, hP⟩ : ∃ P, P = plP l := ⟨_, rfl⟩
  obtain ⟨O, hO⟩ : ∃ P, P = opP l := ⟨_, rfl⟩
  obtain ⟨f, hf⟩ : ∃ f, f = flt l := ⟨_, rfl⟩
  obtain ⟨n, hn⟩ : ∃ n, n = l.length := ⟨_, rfl⟩
  unfold PrsW at hp
  rw [← hh, ← hP, ← hO, ← hf, ← hn] at hp
  rw [← hn]
  have HP := Lib.hid hp
  have k5 : ((f : Int) != 0) = false := by rw [bne_eq_false_iff_eq]; omega
  obtain ⟨_, _, _, _, _, _, _, hp8⟩ := prs_lens hfl
  obtain ⟨m, hm⟩ : ∃ m, m = mgP P := ⟨_, rfl⟩
  obtain ⟨D, hD⟩ : ∃ m, m = bdP P := ⟨_, rfl⟩
  obtain ⟨er, her⟩ : ∃ m, m = erP P := ⟨_, rfl⟩
  obtain ⟨fg, hfg⟩ : ∃ m, m = fragB h := ⟨_, rfl⟩
  have HOF : Hid (∀ (v : Value) W, Bytes W v P → Calls Try.prog 27 #[v] W fun e w' => ∃ u, e = .returned (.tuple #[.agg #[.int .u8 (m.ty : Nat), .int .u8 (m.co : Nat), .int .u8 (m.r0 : Nat), .int .u8 (m.r1 : Nat), .int .u8 (m.r2 : Nat), .int .u8 (m.r3 : Nat), u], .int .i64 (er : Nat)]) ∧ OwnB w' W.heap.size u D ∧ Below W.heap.size W w') := fun v W hb => by
    rw [hm, her, hD]; exact ofW_anyB v P W hb (by rw [hP]; omega)
  have HFG : Hid (∀ (a : Option Addr) (n c : Nat) W, Calls Try.prog 17 #[.agg #[.int .u8 (h.tos : Nat), .int .u16 (h.id : Nat), .bool h.ev, .bool h.df, .bool h.mf, .int .i64 h.off, .int .u8 (h.ttl : Nat), .int .u8 (h.pr : Nat), .int .u32 (h.src : Nat), .int .u32 (h.dst : Nat), .slice a n c]] W fun e w' => e = .returned (.bool fg) ∧ Below W.heap.size W w') := fun a n c W => by
    rw [hfg]; exact fragW_any h _ W ⟨_, _, _, rfl⟩
  (try rw [← hh] at hx)
  (try rw [← hP] at hx)
  (try rw [← her] at hx)
  (try rw [← hfg] at hx)
  (try rw [← hm] at hx)
  have k6 : ((er : Int) != 0) = false := by rw [bne_eq_false_iff_eq]; exact hx.1
  have k7 : fg = false := hx.2.1
  have k8 := hx.2.2.1
  have k9 := hx.2.2.2.1
  have k10 := hx.2.2.2.2
  rw [← hh, ← hP, ← hm, ← hD]
  have HLK : Hid (h = hdP l ∧ m = mgP (plP l) ∧ D = bdP (plP l)) := ⟨hh, by rw [hm, hP], by rw [hD, hP]⟩
  clear hm hD her hfg hfl hp8 hx
  clear hp hh hP hO hn hv hl hbb hg2 hg3
  go_enter Try.func73, Try.ntmps73
  go_wp2_with fail
  refine HP.out.mono ?_
  rintro e w1 ⟨u, v, B, rfl, hu, hvv, _, _, hb1⟩
  obtain ⟨ua, uc, rfl⟩ := hu.form
  obtain ⟨pa, pc, rfl⟩ := hvv.form
  obtain ⟨on, hon⟩ : ∃ n, n = O.length := ⟨_, rfl⟩
  obtain ⟨pn, hpn⟩ : ∃ n, n = P.length := ⟨_, rfl⟩
  rw [← hon, ← hpn]
  have HBA := Lib.hid (hb1.alloc hb1.size (.cells #[.int .u8 (h.tos : Nat), .int .u16 (h.id : Nat), .bool h.ev, .bool h.df, .bool h.mf, .int .i64 h.off, .int .u8 (h.ttl : Nat), .int .u8 (h.pr : Nat), .int .u32 (h.src : Nat), .int .u32 (h.dst : Nat), .slice ua on uc] 28))
  have HS1 := Lib.hid hb1.size
  have HVV := Lib.hid (OwnB.bytes (OwnB.later hvv ((Below.refl _ _).alloc (Nat.le_refl _) (.cells #[.int .u8 (h.tos : Nat), .int .u16 (h.id : Nat), .bool h.ev, .bool h.df, .bool h.mf, .int .i64 h.off, .int .u8 (h.ttl : Nat), .int .u8 (h.pr : Nat), .int .u32 (h.src : Nat), .int .u32 (h.dst : Nat), .slice ua on uc] 28))))
  have HT5 : Hid (BlkAt 28 w1.heap.size [.int .u8 (h.tos : Nat), .int .u16 (h.id : Nat), .bool h.ev, .bool h.df, .bool h.mf, .int .i64 h.off, .int .u8 (h.ttl : Nat), .int .u8 (h.pr : Nat), .int .u32 (h.src : Nat), .int .u32 (h.dst : Nat), .slice ua on uc] (w1.alloc (.cells #[.int .u8 (h.tos : Nat), .int .u16 (h.id : Nat), .bool h.ev, .bool h.df, .bool h.mf, .int .i64 h.off, .int .u8 (h.ttl : Nat), .int .u8 (h.pr : Nat), .int .u32 (h.src : Nat), .int .u32 (h.dst : Nat), .slice ua on uc] 28))) := BlkAt.new w1 _
  rw [← hpn] at HVV
  clear hu hvv hb1 hon hpn hf
  go_wp2_with fail
  refine (HOF.out _ _ HVV.out).mono ?_
  rintro e w3 ⟨b, rfl, hob, hb3⟩
  obtain ⟨ba, bc, rfl⟩ := hob.form
  obtain ⟨bn, hbn⟩ : ∃ n, n = D.length := ⟨_, rfl⟩
  rw [← hbn] at hob ⊢
  have HBN := Lib.hid hbn
  have HOB := Lib.hid hob
  have HS3 := Lib.hid hb3.size
  have ha3 : Below w3.heap.size w3 (w3.alloc (.cells #[.int .u8 (m.ty : Nat), .int .u8 (m.co : Nat), .int .u8 (m.r0 : Nat), .int .u8 (m.r1 : Nat), .int .u8 (m.r2 : Nat), .int .u8 (m.r3 : Nat), .slice ba bn bc] 46)) := (Below.refl _ _).alloc (Nat.le_refl _) _
  have HR2 : Hid (BlkAt 28 wm.heap.size [.int .u8 0, .int .u16 0, .bool false, .bool false, .bool false, .int .i64 0, .int .u8 0, .int .u8 0, .int .u32 0, .int .u32 0, .slice none 0 0] (w3.alloc (.cells #[.int .u8 (m.ty : Nat), .int .u8 (m.co : Nat), .int .u8 (m.r0 : Nat), .int .u8 (m.r1 : Nat), .int .u8 (m.r2 : Nat), .int .u8 (m.r3 : Nat), .slice ba bn bc] 46))) := ((HG2.out.later HBA.out).later hb3).later ha3
  have HR3 : Hid (BlkAt 46 (wm.heap.size + 1) [.int .u8 0, .int .u8 0, .int .u8 0, .int .u8 0, .int .u8 0, .int .u8 0, .slice none 0 0] (w3.alloc (.cells #[.int .u8 (m.ty : Nat), .int .u8 (m.co : Nat), .int .u8 (m.r0 : Nat), .int .u8 (m.r1 : Nat), .int .u8 (m.r2 : Nat), .int .u8 (m.r3 : Nat), .slice ba bn bc] 46))) := ((HG3.out.later HBA.out).later hb3).later ha3
  have HR5 : Hid (BlkAt 28 w1.heap.size [.int .u8 (h.tos : Nat), .int .u16 (h.id : Nat), .bool h.ev, .bool h.df, .bool h.mf, .int .i64 h.off, .int .u8 (h.ttl : Nat), .int .u8 (h.pr : Nat), .int .u32 (h.src : Nat), .int .u32 (h.dst : Nat), .slice ua on uc] (w3.alloc (.cells #[.int .u8 (m.ty : Nat), .int .u8 (m.co : Nat), .int .u8 (m.r0 : Nat), .int .u8 (m.r1 : Nat), .int .u8 (m.r2 : Nat), .int .u8 (m.r3 : Nat), .slice ba bn bc] 46))) := (HT5.out.later hb3).later ha3
  have HR8 : Hid (BlkAt 46 w3.heap.size [.int .u8 (m.ty : Nat), .int .u8 (m.co : Nat), .int .u8 (m.r0 : Nat), .int .u8 (m.r1 : Nat), .int .u8 (m.r2 : Nat), .int .u8 (m.r3 : Nat), .slice ba bn bc] (w3.alloc (.cells #[.int .u8 (m.ty : Nat), .int .u8 (m.co : Nat), .int .u8 (m.r0 : Nat), .int .u8 (m.r1 : Nat), .int .u8 (m.r2 : Nat), .int .u8 (m.r3 : Nat), .slice ba bn bc] 46))) := BlkAt.new w3 _
  have hq1 : Below wm.heap.size wm (w1.alloc (.cells #[.int .u8 (h.tos : Nat), .int .u16 (h.id : Nat), .bool h.ev, .bool h.df, .bool h.mf, .int .i64 h.off, .int .u8 (h.ttl : Nat), .int .u8 (h.pr : Nat), .int .u32 (h.src : Nat), .int .u32 (h.dst : Nat), .slice ua on uc] 28)) := HBB.out.trans (HBA.out.mono HBB.out.size)
  have HB8 : Hid (Below wm.heap.size wm (w3.alloc (.cells #[.int .u8 (m.ty : Nat), .int .u8 (m.co : Nat), .int .u8 (m.r0 : Nat), .int .u8 (m.r1 : Nat), .int .u8 (m.r2 : Nat), .int .u8 (m.r3 : Nat), .slice ba bn bc] 46))) := (hq1.trans (hb3.mono hq1.size)).trans (ha3.mono (hq1.trans (hb3.mono hq1.size)).size)
  clear hb3 ha3 hob hbn hq1
  have u0 := HR5.out.cell (j := 0) rfl
  have u1 := HR5.out.cell (j := 1) rfl
  have u2 := HR5.out.cell (j := 2) rfl
  have u3 := HR5.out.cell (j := 3) rfl
  have u4 := HR5.out.cell (j := 4) rfl
  have u5 := HR5.out.cell (j := 5) rfl
  have u6 := HR5.out.cell (j := 6) rfl
  have u7 := HR5.out.cell (j := 7) rfl
  have u8 := HR5.out.cell (j := 8) rfl
  have u9 := HR5.out.cell (j := 9) rfl
  have u10 := HR5.out.cell (j := 10) rfl
  go_wp2_with fail
  refine (HFG.out _ _ _ _).mono ?_
  rintro e w2 ⟨rfl, hb2⟩
  have Q2 : Hid (BlkAt 28 wm.heap.size [.int .u8 0, .int .u16 0, .bool false, .bool false, .bool false, .int .i64 0, .int .u8 0, .int .u8 0, .int .u32 0, .int .u32 0, .slice none 0 0] w2) := HR2.out.later hb2
  have Q3 : Hid (BlkAt 46 (wm.heap.size + 1) [.int .u8 0, .int .u8 0, .int .u8 0, .int .u8 0, .int .u8 0, .int .u8 0, .slice none 0 0] w2) := HR3.out.later hb2
  have QB : Hid (Below wm.heap.size wm w2) := HB8.out.trans (hb2.mono HB8.out.size)
  have H5 : Hid (BlkAt 28 w1.heap.size [.int .u8 (h.tos : Nat), .int .u16 (h.id : Nat), .bool h.ev, .bool h.df, .bool h.mf, .int .i64 h.off, .int .u8 (h.ttl : Nat), .int .u8 (h.pr : Nat), .int .u32 (h.src : Nat), .int .u32 (h.dst : Nat), .slice ua on uc] w2) := HR5.out.later hb2
  have H8 : Hid (BlkAt 46 w3.heap.size [.int .u8 (m.ty : Nat), .int .u8 (m.co : Nat), .int .u8 (m.r0 : Nat), .int .u8 (m.r1 : Nat), .int .u8 (m.r2 : Nat), .int .u8 (m.r3 : Nat), .slice ba bn bc] w2) := HR8.out.later hb2
  have HO2 := Lib.hid (OwnB.later (OwnB.alloc HOB.out (.cells #[.int .u8 (m.ty : Nat), .int .u8 (m.co : Nat), .int .u8 (m.r0 : Nat), .int .u8 (m.r1 : Nat), .int .u8 (m.r2 : Nat), .int .u8 (m.r3 : Nat), .slice ba bn bc] 46)) hb2)
  clear hb2 u0 u1 u2 u3 u4 u5 u6 u7 u8 u9 u10
  subst k7
  have v7 := H5.out.cell (j := 7) rfl
  have v0 := H8.out.cell (j := 0) rfl
  have v1 := H8.out.cell (j := 1) rfl
  have HN1 : Hid (w1.heap.size ≠ wm.heap.size ∧ w3.heap.size ≠ wm.heap.size ∧ w1.heap.size ≠ wm.heap.size + 1 ∧ w3.heap.size ≠ wm.heap.size + 1) := by
    have h1 := HS1.out
    have h2 := HS3.out
    simp only [World.size_alloc] at h1 h2
    refine ⟨?_, ?_, ?_, ?_⟩ <;> omega
  go_wp2_with fail
  (refine wp_region_held_drew (S := (fun w' => BlkAt 28 w1.heap.size [.int .u8 (h.tos : Nat), .int .u16 (h.id : Nat), .bool h.ev, .bool h.df, .bool h.mf, .int .i64 h.off, .int .u8 (h.ttl : Nat), .int .u8 (h.pr : Nat), .int .u32 (h.src : Nat), .int .u32 (h.dst : Nat), .slice ua on uc] w' ∧ BlkAt 46 w3.heap.size [.int .u8 (m.ty : Nat), .int .u8 (m.co : Nat), .int .u8 (m.r0 : Nat), .int .u8 (m.r1 : Nat), .int .u8 (m.r2 : Nat), .int .u8 (m.r3 : Nat), .slice ba bn bc] w' ∧ Below wm.heap.size wm w')) (by kernel_rfl) ?_ (fun hHeld => ?_); (focus ((try dsimp only); (exact ⟨H5.out, H8.out, QB.out.drew⟩))))
  (try dsimp only at hHeld)
  obtain ⟨w0, hw0⟩ : ∃ w0, w0 = World.drew w2 := ⟨_, rfl⟩
  have R2 : Hid (BlkAt 28 wm.heap.size [.int .u8 0, .int .u16 0, .bool false, .bool false, .bool false, .int .i64 0, .int .u8 0, .int .u8 0, .int .u32 0, .int .u32 0, .slice none 0 0] w0) := by rw [hw0]; exact Q2.out
  have R3 : Hid (BlkAt 46 (wm.heap.size + 1) [.int .u8 0, .int .u8 0, .int .u8 0, .int .u8 0, .int .u8 0, .int .u8 0, .slice none 0 0] w0) := by rw [hw0]; exact Q3.out
  have RO : Hid (OwnB w0 (w1.alloc (.cells #[.int .u8 (h.tos : Nat), .int .u16 (h.id : Nat), .bool h.ev, .bool h.df, .bool h.mf, .int .i64 h.off, .int .u8 (h.ttl : Nat), .int .u8 (h.pr : Nat), .int .u32 (h.src : Nat), .int .u32 (h.dst : Nat), .slice ua on uc] 28)).heap.size (.slice ba bn bc) D) := by rw [hw0]; exact HO2.out.drew
  rw [← hw0]
  rw [← hw0] at hHeld
  clear hw0 v7 v0 v1 Q2 Q3
  (refine wpAnyH_take (i := 0) (v := ?_) rfl (by kernel_rfl) (by kernel_rfl) (by kernel_rfl) (fun _ _ _ h => h) (Or.inl ⟨by rfl, ?_⟩) hHeld ?_; rotate_left; (focus (intro w hSw; (try dsimp only at hSw); go_simp; (have e0 := BlkAt.cell hSw.1 (j := 0) rfl; have e1 := BlkAt.cell hSw.1 (j := 1) rfl; have e2 := BlkAt.cell hSw.1 (j := 2) rfl; have e3 := BlkAt.cell hSw.1 (j := 3) rfl; have e4 := BlkAt.cell hSw.1 (j := 4) rfl; have e5 := BlkAt.cell hSw.1 (j := 5) rfl; have e6 := BlkAt.cell hSw.1 (j := 6) rfl; have e7 := BlkAt.cell hSw.1 (j := 7) rfl; have e8 := BlkAt.cell hSw.1 (j := 8) rfl; have e9 := BlkAt.cell hSw.1 (j := 9) rfl; have e10 := BlkAt.cell hSw.1 (j := 10) rfl; go_simp; try with_reducible rfl))); (try simp only [Act.put, List.setIfInBounds_toArray, List.set_cons_zero, List.set_cons_succ, List.getElem_toArray, List.getElem_cons_zero]))
  (refine wpAnyH_take (i := 1) (v := ?_) rfl (by kernel_rfl) (by kernel_rfl) (by kernel_rfl) (fun _ _ _ h => h) (Or.inl ⟨by rfl, ?_⟩) hHeld ?_; rotate_left; (focus (intro w hSw; (try dsimp only at hSw); go_simp; (have e0 := BlkAt.cell hSw.2.1 (j := 0) rfl; have e1 := BlkAt.cell hSw.2.1 (j := 1) rfl; have e2 := BlkAt.cell hSw.2.1 (j := 2) rfl; have e3 := BlkAt.cell hSw.2.1 (j := 3) rfl; have e4 := BlkAt.cell hSw.2.1 (j := 4) rfl; have e5 := BlkAt.cell hSw.2.1 (j := 5) rfl; have e6 := BlkAt.cell hSw.2.1 (j := 6) rfl; go_simp; try with_reducible rfl))); (try simp only [Act.put, List.setIfInBounds_toArray, List.set_cons_zero, List.set_cons_succ, List.getElem_toArray, List.getElem_cons_zero, List.getElem_cons_succ]))
  refine wpAnyH_at (m := #[true, true, false, false, false]) (by kernel_rfl) ?_
  have hne : wm.heap.size + 1 ≠ wm.heap.size := by omega
  have hz2 : ∀ j, w0.frozen? ⟨wm.heap.size, j, none⟩ = false := fun j => R2.out.frozen j
  have c0 := R2.out.cell (j := 0) rfl
  have c1 := R2.out.cell (j := 1) rfl
  have c2 := R2.out.cell (j := 2) rfl
  have c3 := R2.out.cell (j := 3) rfl
  have c4 := R2.out.cell (j := 4) rfl
  have c5 := R2.out.cell (j := 5) rfl
  have c6 := R2.out.cell (j := 6) rfl
  have c7 := R2.out.cell (j := 7) rfl
  have c8 := R2.out.cell (j := 8) rfl
  have c9 := R2.out.cell (j := 9) rfl
  have c10 := R2.out.cell (j := 10) rfl
  obtain ⟨s1, sO, s3, _⟩ := HdAt.set11 (show HdAt wm.heap.size [.int .u8 0, .int .u16 0, .bool false, .bool false, .bool false, .int .i64 0, .int .u8 0, .int .u8 0, .int .u32 0, .int .u32 0, .slice none 0 0] w0 from R2.out) (.int .u8 (h.tos : Nat)) (.int .u16 (h.id : Nat)) (.bool h.ev) (.bool h.df) (.bool h.mf) (.int .i64 h.off) (.int .u8 (h.ttl : Nat)) (.int .u8 (h.pr : Nat)) (.int .u32 (h.src : Nat)) (.int .u32 (h.dst : Nat)) (.slice ua on uc)
  have G1 := Lib.hid s1
  have G3 := Lib.hid (blk_other11 R3.out hne (.int .u8 (h.tos : Nat)) (.int .u16 (h.id : Nat)) (.bool h.ev) (.bool h.df) (.bool h.mf) (.int .i64 h.off) (.int .u8 (h.ttl : Nat)) (.int .u8 (h.pr : Nat)) (.int .u32 (h.src : Nat)) (.int .u32 (h.dst : Nat)) (.slice ua on uc))
  have GO := Lib.hid (sO _ _ _ RO.out)
  have Q5 := Lib.hid (blk_other11 hHeld.1 HN1.out.1 (.int .u8 (h.tos : Nat)) (.int .u16 (h.id : Nat)) (.bool h.ev) (.bool h.df) (.bool h.mf) (.int .i64 h.off) (.int .u8 (h.ttl : Nat)) (.int .u8 (h.pr : Nat)) (.int .u32 (h.src : Nat)) (.int .u32 (h.dst : Nat)) (.slice ua on uc))
  have Q8 := Lib.hid (blk_other11 hHeld.2.1 HN1.out.2.1 (.int .u8 (h.tos : Nat)) (.int .u16 (h.id : Nat)) (.bool h.ev) (.bool h.df) (.bool h.mf) (.int .i64 h.off) (.int .u8 (h.ttl : Nat)) (.int .u8 (h.pr : Nat)) (.int .u32 (h.src : Nat)) (.int .u32 (h.dst : Nat)) (.slice ua on uc))
  have QX := Lib.hid (hHeld.2.2.trans (s3 _ (Nat.le_refl _)))
  clear s1 sO s3
  refine wpAnyH_ready (rs := [2]) (by kernel_rfl) (by simp) ?_
  refine AllReadyH.cons rfl (fun K hK => ?_) AllReadyH.nil
  go_simp
  refine hK.out _ _ ⟨Q5.out, Q8.out, QX.out⟩ (fun hHeldN => ?_)
  clear hK K hHeld; have hHeld := hHeldN; clear hHeldN
  try simp only [Act.put, List.setIfInBounds_toArray, List.set_cons_zero, List.set_cons_succ, List.getElem_toArray, List.getElem_cons_zero, List.getElem_cons_succ]
  clear hz2 c0 c1 c2 c3 c4 c5 c6 c7 c8 c9 c10 R2 R3 RO Q5 Q8 QX
  obtain ⟨wa, hwa⟩ : ∃ wa, wa = (((((((((((w0.setCell ⟨wm.heap.size, 0, none⟩ (.int .u8 (h.tos : Nat))).setCell ⟨wm.heap.size, 1, none⟩ (.int .u16 (h.id : Nat))).setCell ⟨wm.heap.size, 2, none⟩ (.bool h.ev)).setCell ⟨wm.heap.size, 3, none⟩ (.bool h.df)).setCell ⟨wm.heap.size, 4, none⟩ (.bool h.mf)).setCell ⟨wm.heap.size, 5, none⟩ (.int .i64 h.off)).setCell ⟨wm.heap.size, 6, none⟩ (.int .u8 (h.ttl : Nat))).setCell ⟨wm.heap.size, 7, none⟩ (.int .u8 (h.pr : Nat))).setCell ⟨wm.heap.size, 8, none⟩ (.int .u32 (h.src : Nat))).setCell ⟨wm.heap.size, 9, none⟩ (.int .u32 (h.dst : Nat))).setCell ⟨wm.heap.size, 10, none⟩ (.slice ua on uc)) := ⟨_, rfl⟩
  rw [← hwa] at hHeld G1 G3 GO ⊢
  clear hwa
  have hz3 : ∀ j, wa.frozen? ⟨wm.heap.size + 1, j, none⟩ = false := fun j => G3.out.frozen j
  have d0 := G3.out.cell (j := 0) rfl
  have d1 := G3.out.cell (j := 1) rfl
  have d2 := G3.out.cell (j := 2) rfl
  have d3 := G3.out.cell (j := 3) rfl
  have d4 := G3.out.cell (j := 4) rfl
  have d5 := G3.out.cell (j := 5) rfl
  have d6 := G3.out.cell (j := 6) rfl
  obtain ⟨s4, sO, s5⟩ := BlkAt.set7 ic_ne G3.out (.int .u8 (m.ty : Nat)) (.int .u8 (m.co : Nat)) (.int .u8 (m.r0 : Nat)) (.int .u8 (m.r1 : Nat)) (.int .u8 (m.r2 : Nat)) (.int .u8 (m.r3 : Nat)) (.slice ba bn bc)
  have J1 := Lib.hid (blk_other7 (show BlkAt 28 wm.heap.size [.int .u8 (h.tos : Nat), .int .u16 (h.id : Nat), .bool h.ev, .bool h.df, .bool h.mf, .int .i64 h.off, .int .u8 (h.ttl : Nat), .int .u8 (h.pr : Nat), .int .u32 (h.src : Nat), .int .u32 (h.dst : Nat), .slice ua on uc] _ from G1.out) (Ne.symm hne) (.int .u8 (m.ty : Nat)) (.int .u8 (m.co : Nat)) (.int .u8 (m.r0 : Nat)) (.int .u8 (m.r1 : Nat)) (.int .u8 (m.r2 : Nat)) (.int .u8 (m.r3 : Nat)) (.slice ba bn bc))
  have J3 := Lib.hid s4
  have JO := Lib.hid (sO _ _ _ GO.out)
  have Q5 := Lib.hid (blk_other7 hHeld.1 HN1.out.2.2.1 (.int .u8 (m.ty : Nat)) (.int .u8 (m.co : Nat)) (.int .u8 (m.r0 : Nat)) (.int .u8 (m.r1 : Nat)) (.int .u8 (m.r2 : Nat)) (.int .u8 (m.r3 : Nat)) (.slice ba bn bc))
  have Q8 := Lib.hid (blk_other7 hHeld.2.1 HN1.out.2.2.2 (.int .u8 (m.ty : Nat)) (.int .u8 (m.co : Nat)) (.int .u8 (m.r0 : Nat)) (.int .u8 (m.r1 : Nat)) (.int .u8 (m.r2 : Nat)) (.int .u8 (m.r3 : Nat)) (.slice ba bn bc))
  have QX := Lib.hid (hHeld.2.2.trans (s5 _ (Nat.le_succ _)))
  clear s4 s5 sO
  refine wpAnyH_ready (rs := [3]) (by kernel_rfl) (by simp) ?_
  refine AllReadyH.cons rfl (fun K hK => ?_) AllReadyH.nil
  go_simp
  refine hK.out _ _ ⟨Q5.out, Q8.out, QX.out⟩ (fun hHeldN => ?_)
  clear hK K hHeld; have hHeld := hHeldN; clear hHeldN
  try simp only [Act.put, List.setIfInBounds_toArray, List.set_cons_zero, List.set_cons_succ, List.getElem_toArray, List.getElem_cons_zero, List.getElem_cons_succ]
  clear hz3 d0 d1 d2 d3 d4 d5 d6 G1 G3 GO Q5 Q8 QX
  obtain ⟨wb, hwb⟩ : ∃ wb, wb = (((((((wa.setCell ⟨wm.heap.size + 1, 0, none⟩ (.int .u8 (m.ty : Nat))).setCell ⟨wm.heap.size + 1, 1, none⟩ (.int .u8 (m.co : Nat))).setCell ⟨wm.heap.size + 1, 2, none⟩ (.int .u8 (m.r0 : Nat))).setCell ⟨wm.heap.size + 1, 3, none⟩ (.int .u8 (m.r1 : Nat))).setCell ⟨wm.heap.size + 1, 4, none⟩ (.int .u8 (m.r2 : Nat))).setCell ⟨wm.heap.size + 1, 5, none⟩ (.int .u8 (m.r3 : Nat))).setCell ⟨wm.heap.size + 1, 6, none⟩ (.slice ba bn bc)) := ⟨_, rfl⟩
  rw [← hwb] at hHeld J1 J3 JO ⊢
  clear hwb
  (refine wpAnyH_take (i := 4) (v := ?_) rfl (by kernel_rfl) (by kernel_rfl) (by kernel_rfl) (fun _ _ _ h => h) (Or.inl ⟨by rfl, ?_⟩) hHeld ?_; rotate_left; (focus (intro w hSw; (try dsimp only at hSw); go_simp; try with_reducible rfl)); (try simp only [Act.put, List.setIfInBounds_toArray, List.set_cons_zero, List.set_cons_succ, List.getElem_toArray, List.getElem_cons_zero, List.getElem_cons_succ]))
  refine wpAnyH_done (by kernel_rfl) ?_ _
  have HE := Lib.hid hHeld.2.2
  clear hHeld
  go_wp2_with fail
  have y0 := J1.out.cell (j := 0) rfl
  have y1 := J1.out.cell (j := 1) rfl
  have y2 := J1.out.cell (j := 2) rfl
  have y3 := J1.out.cell (j := 3) rfl
  have y4 := J1.out.cell (j := 4) rfl
  have y5 := J1.out.cell (j := 5) rfl
  have y6 := J1.out.cell (j := 6) rfl
  have y7 := J1.out.cell (j := 7) rfl
  have y8 := J1.out.cell (j := 8) rfl
  have y9 := J1.out.cell (j := 9) rfl
  have y10 := J1.out.cell (j := 10) rfl
  have z0 := J3.out.cell (j := 0) rfl
  have z1 := J3.out.cell (j := 1) rfl
  have z2 := J3.out.cell (j := 2) rfl
  have z3 := J3.out.cell (j := 3) rfl
  have z4 := J3.out.cell (j := 4) rfl
  have z5 := J3.out.cell (j := 5) rfl
  have z6 := J3.out.cell (j := 6) rfl
  exact bodyPost_ret (v := .tuple #[.agg #[.int .u8 (h.tos : Nat), .int .u16 (h.id : Nat), .bool h.ev, .bool h.df, .bool h.mf, .int .i64 h.off, .int .u8 (h.ttl : Nat), .int .u8 (h.pr : Nat), .int .u32 (h.src : Nat), .int .u32 (h.dst : Nat), .slice ua on uc], .agg #[.int .u8 (m.ty : Nat), .int .u8 (m.co : Nat), .int .u8 (m.r0 : Nat), .int .u8 (m.r1 : Nat), .int .u8 (m.r2 : Nat), .int .u8 (m.r3 : Nat), .slice ba bn bc], .int .i64 0]) (by simp [results, Try.results73, go_sem, y0, y1, y2, y3, y4, y5, y6, y7, y8, y9, y10, z0, z1, z2, z3, z4, z5, z6]) rfl ⟨_, _, rfl, ⟨_, _, _, rfl⟩, JO.out.bytes, HE.out⟩
end Go.Proofs.Ytnhkkpcepppgoaa
