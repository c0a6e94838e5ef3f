/- RelWhole: an act, B3 (in a round: hpan). -/
import Derived.Test.YtghaajmalhcgbaaZ09
import Derived.Test.YtghaajmalhcgbaaZ11
import Derived.Test.YtghaajmalhcgbaaZ12

set_option linter.unusedSimpArgs false
set_option linter.unusedVariables false
namespace Go.Proofs.Ytghaajmalhcgbaa
open Go.RowKit
attribute [local go_sem ↓] Go.wp_at_zero Go.wp_at_succ

set_option maxHeartbeats 16000000 in
set_option maxRecDepth 1000000 in
theorem acCaseB3 {w wr : World} {P : Bool → Nat} {eb fb : Nat} {A G : Bool → Nat} {X : List Nat} {V : Bool → Value} {R : Bool → Bool → Value} {σ : Wn} {nl i : Nat} {a0 : Option Addr} {c0 : Nat} {l : List Wy} (HV : Hid (Rds 3 Wy.cs w (.slice a0 nl c0) l)) (HS : Hid (∀ x ∈ l, x.Ok)) (HNN : Hid (nl = l.length)) (g0 : (nl : Int) ≤ 200) (HM : Hid (WM w P eb fb A G X V R σ wr)) (HA : Hid (AcT σ i (20 * i))) (hlt : i < nl) (hX : ∀ x, l[i]? = some x → x.back = true ∧ x.k = 3) (kk1 kk2 kk3 kk4 kk5 kk6 kk18 kk19 kk20 kk21 kk22 kk23 kk24 kk25 kk26 kk27 kk28 kk29 kk30 kk31 kk32 kk33 kk34 kk35 kk36 kk37 kk38 kk39 kk40 kk41 kk42 kk43 kk239 kk240 kk241 kk242 kk243 kk244 kk245 kk246 kk247 kk248 kk249 kk250 kk251 kk252 kk253 kk254 kk255 kk256 kk257 kk258 kk259 kk260 kk261 kk262 kk263 kk264 kk265 kk266 kk267 kk268 kk269 kk270 kk271 kk272 kk273 kk274 kk275 kk276 kk277 kk278 kk279 kk280 kk281 kk282 kk283 kk284 kk285 kk286 kk287 kk288 kk289 kk290 kk291 kk292 kk293 kk294 kk295 kk296 kk297 kk298 kk299 kk300 kk301 kk302 kk303 kk304 : Value) (u13 u14 u15 u16 u17 u44 u45 u46 u47 u48 u49 u50 u51 u52 u53 u54 u55 u56 u57 u58 u59 u60 u61 u62 u63 u64 u65 u66 u67 u68 u69 u70 u71 u72 u73 u74 u75 u76 u77 u78 u79 u80 u81 u82 u83 u84 u85 u86 u87 u88 u89 u90 u91 u92 u93 u94 u95 u96 u97 u98 u99 u100 u101 u102 u103 u104 u105 u106 u107 u108 u109 u110 u111 u112 u113 u114 u115 u116 u117 u118 u119 u120 u121 u122 u123 u124 u125 u126 u127 u128 u129 u130 u131 u132 u133 u134 u135 u136 u137 u138 u139 u140 u141 u142 u143 u144 u145 u146 u147 u148 u149 u150 u151 u152 u153 u154 u155 u156 u157 u158 u159 u160 u161 u162 u163 u164 u165 u166 u167 u168 u169 u170 u171 u172 u173 u174 u175 u176 u177 u178 u179 u180 u181 u182 u183 u184 u185 u186 u187 u188 u189 u190 u191 u192 u193 u194 u195 u196 u197 u198 u199 u200 u201 u202 u203 u204 u205 u206 u207 u208 u209 u210 u211 u212 u213 u214 u215 u216 u217 u218 u219 u220 u221 u222 u223 u224 u225 u226 u227 u228 u229 u230 u231 u232 u233 u234 u235 u236 u237 u238 : Value) {Q0 : Exit → Act → World → Prop} (hpan : ∀ x (a : Act) (d : Option Nat) v w', Q0 (.panic x) (a.put d v) w' → Q0 (.panic x) a w') :
    Code.wp Try.prog acBody (Exit.then (fun a' w'' => acI w P eb fb A nl a0 c0 kk1 kk2 kk3 kk4 kk5 kk6 kk18 kk19 kk20 kk21 kk22 kk23 kk24 kk25 kk26 kk27 kk28 kk29 kk30 kk31 kk32 kk33 kk34 kk35 kk36 kk37 kk38 kk39 kk40 kk41 kk42 kk43 kk239 kk240 kk241 kk242 kk243 kk244 kk245 kk246 kk247 kk248 kk249 kk250 kk251 kk252 kk253 kk254 kk255 kk256 kk257 kk258 kk259 kk260 kk261 kk262 kk263 kk264 kk265 kk266 kk267 kk268 kk269 kk270 kk271 kk272 kk273 kk274 kk275 kk276 kk277 kk278 kk279 kk280 kk281 kk282 kk283 kk284 kk285 kk286 kk287 kk288 kk289 kk290 kk291 kk292 kk293 kk294 kk295 kk296 kk297 kk298 kk299 kk300 kk301 kk302 kk303 kk304 a' w'' ∧ acMu nl a' w'' < acMu nl ⟨#[.slice a0 nl c0, kk1, kk2, kk3, kk4, kk5, kk6, .pointer (some ⟨eb, 0, none⟩), .pointer (some ⟨fb, 0, none⟩), .pointer (some ⟨A false, 0, none⟩), .pointer (some ⟨A true, 0, none⟩), .func (.func 28) #[] #[.pointer (some ⟨eb, 0, none⟩), .pointer (some ⟨A true, 0, none⟩)], .int .i64 i, u13, u14, u15, u16, u17, kk18, kk19, kk20, kk21, kk22, kk23, kk24, kk25, kk26, kk27, kk28, kk29, kk30, kk31, kk32, kk33, kk34, kk35, kk36, kk37, kk38, kk39, kk40, kk41, kk42, kk43, u44, u45, u46, u47, u48, u49, u50, u51, u52, u53, u54, u55, u56, u57, u58, u59, u60, u61, u62, u63, u64, u65, u66, u67, u68, u69, u70, u71, u72, u73, u74, u75, u76, u77, u78, u79, u80, u81, u82, u83, u84, u85, u86, u87, u88, u89, u90, u91, u92, u93, u94, u95, u96, u97, u98, u99, u100, u101, u102, u103, u104, u105, u106, u107, u108, u109, u110, u111, u112, u113, u114, u115, u116, u117, u118, u119, u120, u121, u122, u123, u124, u125, u126, u127, u128, u129, u130, u131, u132, u133, u134, u135, u136, u137, u138, u139, u140, u141, u142, u143, u144, u145, u146, u147, u148, u149, u150, u151, u152, u153, u154, u155, u156, u157, u158, u159, u160, u161, u162, u163, u164, u165, u166, u167, u168, u169, u170, u171, u172, u173, u174, u175, u176, u177, u178, u179, u180, u181, u182, u183, u184, u185, u186, u187, u188, u189, u190, u191, u192, u193, u194, u195, u196, u197, u198, u199, u200, u201, u202, u203, u204, u205, u206, u207, u208, u209, u210, u211, u212, u213, u214, u215, u216, u217, u218, u219, u220, u221, u222, u223, u224, u225, u226, u227, u228, u229, u230, u231, u232, u233, u234, u235, u236, u237, u238, kk239, kk240, kk241, kk242, kk243, kk244, kk245, kk246, kk247, kk248, kk249, kk250, kk251, kk252, kk253, kk254, kk255, kk256, kk257, kk258, kk259, kk260, kk261, kk262, kk263, kk264, kk265, kk266, kk267, kk268, kk269, kk270, kk271, kk272, kk273, kk274, kk275, kk276, kk277, kk278, kk279, kk280, kk281, kk282, kk283, kk284, kk285, kk286, kk287, kk288, kk289, kk290, kk291, kk292, kk293, kk294, kk295, kk296, kk297, kk298, kk299, kk300, kk301, kk302, kk303, kk304], []⟩ wr) Q0) ⟨#[.slice a0 nl c0, kk1, kk2, kk3, kk4, kk5, kk6, .pointer (some ⟨eb, 0, none⟩), .pointer (some ⟨fb, 0, none⟩), .pointer (some ⟨A false, 0, none⟩), .pointer (some ⟨A true, 0, none⟩), .func (.func 28) #[] #[.pointer (some ⟨eb, 0, none⟩), .pointer (some ⟨A true, 0, none⟩)], .int .i64 i, u13, u14, u15, u16, u17, kk18, kk19, kk20, kk21, kk22, kk23, kk24, kk25, kk26, kk27, kk28, kk29, kk30, kk31, kk32, kk33, kk34, kk35, kk36, kk37, kk38, kk39, kk40, kk41, kk42, kk43, u44, u45, u46, u47, u48, u49, u50, u51, u52, u53, u54, u55, u56, u57, u58, u59, u60, u61, u62, u63, u64, u65, u66, u67, u68, u69, u70, u71, u72, u73, u74, u75, u76, u77, u78, u79, u80, u81, u82, u83, u84, u85, u86, u87, u88, u89, u90, u91, u92, u93, u94, u95, u96, u97, u98, u99, u100, u101, u102, u103, u104, u105, u106, u107, u108, u109, u110, u111, u112, u113, u114, u115, u116, u117, u118, u119, u120, u121, u122, u123, u124, u125, u126, u127, u128, u129, u130, u131, u132, u133, u134, u135, u136, u137, u138, u139, u140, u141, u142, u143, u144, u145, u146, u147, u148, u149, u150, u151, u152, u153, u154, u155, u156, u157, u158, u159, u160, u161, u162, u163, u164, u165, u166, u167, u168, u169, u170, u171, u172, u173, u174, u175, u176, u177, u178, u179, u180, u181, u182, u183, u184, u185, u186, u187, u188, u189, u190, u191, u192, u193, u194, u195, u196, u197, u198, u199, u200, u201, u202, u203, u204, u205, u206, u207, u208, u209, u210, u211, u212, u213, u214, u215, u216, u217, u218, u219, u220, u221, u222, u223, u224, u225, u226, u227, u228, u229, u230, u231, u232, u233, u234, u235, u236, u237, u238, kk239, kk240, kk241, kk242, kk243, kk244, kk245, kk246, kk247, kk248, kk249, kk250, kk251, kk252, kk253, kk254, kk255, kk256, kk257, kk258, kk259, kk260, kk261, kk262, kk263, kk264, kk265, kk266, kk267, kk268, kk269, kk270, kk271, kk272, kk273, kk274, kk275, kk276, kk277, kk278, kk279, kk280, kk281, kk282, kk283, kk284, kk285, kk286, kk287, kk288, kk289, kk290, kk291, kk292, kk293, kk294, kk295, kk296, kk297, kk298, kk299, kk300, kk301, kk302, kk303, kk304], []⟩ wr := by
  have g1 : (i : Int) < nl := by omega
  obtain ⟨⟨K, NN, bk⟩, hx⟩ : ∃ x, l[i]? = some x := ⟨l[i]'(by have := HNN.out; omega), List.getElem?_eq_getElem _⟩
  have hxok := HS.out _ (List.mem_of_getElem? hx)
  have hk := hX _ hx
  simp only at hk
  obtain ⟨bl, bo, rfl, hbl, hcell⟩ := HV.out.at hx
  obtain ⟨rfl, hk⟩ := hk
  have HK := Lib.hid hk
  have HCE : Hid (∀ W, Below w.heap.size w W → W.cell? ⟨bl, bo + i * 3, none⟩ = some (.int .i64 K) ∧ W.cell? ⟨bl, bo + i * 3 + 1, none⟩ = some (.int .i64 NN) ∧ W.cell? ⟨bl, bo + i * 3 + 2, none⟩ = some (.bool true)) := fun W hW =>
    ⟨cell_later hW (hcell 0 _ rfl), cell_later hW (hcell 1 _ rfl), cell_later hW (hcell 2 _ rfl)⟩
  obtain ⟨d0, d1, d2⟩ := HCE.out wr HM.out.bel
  have h0 := HM.out.later (Below.refl _ _).drew
  obtain ⟨M0, hM0, hO0, hB0⟩ := h0.fm true
  have hS := AS.start h0 hO0 hB0
  obtain ⟨va, vc, hvf⟩ := hO0.form
  obtain ⟨vn, hvn⟩ : ∃ vn, vn = M0.length := ⟨_, rfl⟩
  rw [← hvn] at hvf
  rw [hvf] at hS
  have HSS := Lib.hid hS
  have HH0 := Lib.hid h0
  have HCELL : Hid (∀ s v M w', AS w P G X V true wr.drew s v M w' → w'.cell? ⟨eb, 1, none⟩ = some (.pointer (some ⟨P true, 0, none⟩)) ∧ w'.cell? ⟨fb, 1, none⟩ = some (.slice va vn vc)) := by
    have : ∀ s v M w', AS w P G X V true wr.drew s v M w' → w'.cell? ⟨eb, 1, none⟩ = some (.pointer (some ⟨P true, 0, none⟩)) ∧ w'.cell? ⟨fb, 1, none⟩ = some (.slice va vn vc) := fun s v M w' h => by
      obtain ⟨a1, a2⟩ := h.cells HH0.out true
      rw [← hvf]
      exact ⟨a1.cell (j := 1) rfl, a2.cell (j := 1) rfl⟩
    exact this
  have HM0 : Hid (M0.map (·.1) = σ.f true) := hM0
  have HL0 : Hid (M0.length ≤ 4000) := by
    have h1 := HA.out.f true
    rw [← hM0, List.length_map] at h1
    show _ ≤ _
    omega
  have HT := Lib.hid (dueC (h0.s true) (HA.out.i.o true) h0.xl)
  have HBW : Hid (w.heap.size ≤ wr.drew.heap.size) := h0.bel.size
  have HC0 := Lib.hid (HCELL.out _ _ _ _ hS)
  have HKN : Hid (-9223372036854775808 ≤ NN ∧ NN ≤ 9223372036854775807) := ⟨hxok.n0, hxok.n1⟩
  clear h0 hM0 hO0 hB0 hS hvf hvn hx hxok hk hX hcell hbl HV HS HNN
  conv => arg 2; whnf
  go_wp2_with fail
  refine wp_region_last (S := fun w' => w'.cell? ⟨eb, 1, none⟩ = some (.pointer (some ⟨P true, 0, none⟩)) ∧ w'.cell? ⟨fb, 1, none⟩ = some (.slice va vn vc)) (by simp only [List.pop_toArray, List.dropLast]; exact rfl) (by kernel_rfl) (by kernel_rfl) HC0.out (fun hHeld => ?_)
  (refine wpAnyH_take (i := 0) (v := ?_) rfl (by kernel_rfl) (by kernel_rfl) (by kernel_rfl) (fun _ _ _ h => hpan _ _ _ _ _ h) (Or.inl ⟨by rfl, ?_⟩) hHeld ?_; rotate_left; (focus (intro w hSw; (try dsimp only at hSw); go_simp; try with_reducible rfl)); (try simp only [Act.put, List.setIfInBounds_toArray, List.set_cons_zero, List.set_cons_succ, List.getElem_toArray, List.getElem_cons_zero])); (refine wpAnyH_take (i := 1) (v := ?_) rfl (by kernel_rfl) (by kernel_rfl) (by kernel_rfl) (fun _ _ _ h => hpan _ _ _ _ _ h) (Or.inl ⟨by rfl, ?_⟩) hHeld ?_; rotate_left; (focus (intro w hSw; (try dsimp only at hSw); go_simp; try with_reducible rfl)); (try simp only [Act.put, List.setIfInBounds_toArray, List.set_cons_zero, List.set_cons_succ, List.getElem_toArray, List.getElem_cons_zero, List.getElem_cons_succ])); (refine wpAnyH_take (i := 2) (v := ?_) rfl (by kernel_rfl) (by kernel_rfl) (by kernel_rfl) (fun _ _ _ h => hpan _ _ _ _ _ h) (Or.inl ⟨by rfl, ?_⟩) hHeld ?_; rotate_left; (focus (intro w hSw; (try dsimp only at hSw); go_simp; try with_reducible rfl)); (try simp only [Act.put, List.setIfInBounds_toArray, List.set_cons_zero, List.set_cons_succ, List.getElem_toArray, List.getElem_cons_zero, List.getElem_cons_succ]))
  (refine wpAnyH_take (i := 3) (v := ?_) rfl (by kernel_rfl) (by kernel_rfl) (by kernel_rfl) (fun _ _ _ h => hpan _ _ _ _ _ h) (Or.inl ⟨by rfl, ?_⟩) hHeld ?_; rotate_left; (focus (intro w hSw; (try dsimp only at hSw); go_simp; (have cc := hSw.2; go_simp; try with_reducible rfl))); (try simp only [Act.put, List.setIfInBounds_toArray, List.set_cons_zero, List.set_cons_succ, List.getElem_toArray, List.getElem_cons_zero, List.getElem_cons_succ]))
  (refine wpAnyH_take (i := 4) (v := ?_) rfl (by kernel_rfl) (by kernel_rfl) (by kernel_rfl) (fun _ _ _ h => hpan _ _ _ _ _ h) (Or.inl ⟨by rfl, ?_⟩) hHeld ?_; rotate_left; (focus (intro w hSw; (try dsimp only at hSw); go_simp; try with_reducible rfl)); (try simp only [Act.put, List.setIfInBounds_toArray, List.set_cons_zero, List.set_cons_succ, List.getElem_toArray, List.getElem_cons_zero, List.getElem_cons_succ])); (refine wpAnyH_take (i := 5) (v := ?_) rfl (by kernel_rfl) (by kernel_rfl) (by kernel_rfl) (fun _ _ _ h => hpan _ _ _ _ _ h) (Or.inl ⟨by rfl, ?_⟩) hHeld ?_; rotate_left; (focus (intro w hSw; (try dsimp only at hSw); go_simp; try with_reducible rfl)); (try simp only [Act.put, List.setIfInBounds_toArray, List.set_cons_zero, List.set_cons_succ, List.getElem_toArray, List.getElem_cons_zero, List.getElem_cons_succ]))
  (refine wpAnyH_take (i := 6) (v := ?_) rfl (by kernel_rfl) (by kernel_rfl) (by kernel_rfl) (fun _ _ _ h => hpan _ _ _ _ _ h) (Or.inl ⟨by rfl, ?_⟩) hHeld ?_; rotate_left; (focus (intro w hSw; (try dsimp only at hSw); go_simp; (have cc := hSw.1; go_simp; try with_reducible rfl))); (try simp only [Act.put, List.setIfInBounds_toArray, List.set_cons_zero, List.set_cons_succ, List.getElem_toArray, List.getElem_cons_zero, List.getElem_cons_succ]))
  (refine wpAnyH_ready (rs := [7]) (by kernel_rfl) (by simp) ?_; refine AllReadyH.cons rfl (fun K hK => ?_) AllReadyH.nil; go_simp; refine HT.out.mono ?_; rintro e w1 ⟨v1, M1, rfl, hM1, hO1, hB1, hP1, hC1⟩; refine hK.out _ _ ?_ (fun hHeldN => ?_); (focus ((try dsimp only); (exact HCELL.out _ _ _ _ (AS.call HSS.out hP1 hC1)))); clear hK K hHeld; have hHeld := hHeldN; clear hHeldN; (try simp only [Act.put, List.setIfInBounds_toArray, List.set_cons_zero, List.set_cons_succ, List.getElem_toArray, List.getElem_cons_zero, List.getElem_cons_succ]))
  have HS1 := Lib.hid (AS.call HSS.out hP1 hC1)
  have HO1 := Lib.hid hO1
  have HB1 := Lib.hid hB1
  have HM1 : Hid (M1.map (·.1) = dueL (σ.s true)) := hM1
  have HL1 : Hid (M1.length ≤ 8) := by
    have h1 := map_len hM1
    have h2 := dueL_le (HA.out.i.o true)
    show _ ≤ _
    omega
  have HW1 : Hid (w.heap.size ≤ w1.heap.size) := Nat.le_trans HBW.out hC1.size
  clear hM1 hO1 hB1 hP1 hC1 HT
  have HR : Hid (∀ ty, ∃ v' w', (Builtin.append_ #[88, 88] ty #[.slice va vn vc, v1]).run Try.prog w1 = .ok v' w' ∧ OwnS w' w.heap.size v' (M0 ++ M1) ∧ w1.grownBy w' (Value.slice va vn vc).ownBlock ∧ ∀ g, v'.ownBlock = some g → (Value.slice va vn vc).ownBlock = some g ∨ w1.heap.size ≤ g) := fun ty =>
    run_appO w1 w.heap.size _ ty _ _ M0 M1 HS1.out.o HO1.out (fun x hx => bod_cell (HB1.out x hx)) (by have := HL0.out; have := HL1.out; omega) HW1.out
  (refine wpAnyH_ready (rs := [8]) (by kernel_rfl) (by simp) ?_; refine AllReadyH.cons rfl (fun K hK => ?_) AllReadyH.nil; refine step_appG rfl (.tmp 58) (.tmp 62) _ _ rfl _ _ _ rfl rfl HR.out ?_; rintro v2 w2 ⟨hO2, hg2, hf2⟩; refine hK.out _ _ ?_ (fun hHeldN => ?_); (focus ((try dsimp only); (exact HCELL.out _ _ _ _ (AS.app HS1.out hO2 hg2 hf2 HB1.out)))); clear hK K hHeld; have hHeld := hHeldN; clear hHeldN; (try simp only [Act.put, List.setIfInBounds_toArray, List.set_cons_zero, List.set_cons_succ, List.getElem_toArray, List.getElem_cons_zero, List.getElem_cons_succ]))
  (refine wpAnyH_take (i := 9) (v := ?_) rfl (by kernel_rfl) (by kernel_rfl) (by kernel_rfl) (fun _ _ _ h => hpan _ _ _ _ _ h) (Or.inl ⟨by rfl, ?_⟩) hHeld ?_; rotate_left; (focus (intro w hSw; (try dsimp only at hSw); go_simp; try with_reducible rfl)); (try simp only [Act.put, List.setIfInBounds_toArray, List.set_cons_zero, List.set_cons_succ, List.getElem_toArray, List.getElem_cons_zero, List.getElem_cons_succ]))
  refine wpAnyH_done (by kernel_rfl) ?_ _
  have hA2 := AS.app HS1.out hO2 hg2 hf2 HB1.out
  obtain ⟨a2, c2, rfl⟩ := hO2.form
  obtain ⟨L, hL⟩ : ∃ L, L = M0 ++ M1 := ⟨_, rfl⟩
  rw [← hL] at hA2 hO2 ⊢
  have HLM : Hid (L.map (·.1) = σ.f true ++ dueL (σ.s true)) := by
    show _ = _
    rw [hL, List.map_append, HM0.out, HM1.out]
  have HLL : Hid (L.length ≤ 4008) := by
    show _ ≤ _
    rw [hL]
    have := HL0.out; have := HL1.out; simp; omega
  obtain ⟨n, hn⟩ : ∃ n, n = L.length := ⟨_, rfl⟩
  rw [← hn] at hA2 hO2 ⊢
  have HN : Hid (n = L.length) := hn
  have HA2 := Lib.hid hA2
  obtain ⟨w3, hw3⟩ : ∃ w3, w3 = w2.setCell ⟨fb, 1, none⟩ (.slice a2 n c2) := ⟨_, rfl⟩
  have HFB := Lib.hid (HA2.out.cells HH0.out true).2
  have HF3 : Hid (BlkAt 89 fb (pr2 (upB V true (.slice a2 n c2))) w3) := by show BlkAt _ _ _ _; rw [hw3]; exact BlkAt.set HFB.out 1 _
  have HC3 : Hid (Chg [fb] w2 w3) := by show Chg _ _ _; rw [hw3]; exact (Chg.refl _ _).set (by simp) _ _
  have hW3 := HA2.out.stop HH0.out HF3.out HC3.out HA2.out.o HA2.out.b HA2.out.f
  have hT3 := HA.out.due true
  rw [← HLM.out] at hT3
  obtain ⟨σ3, hσ3⟩ : ∃ s, s = outW σ true (dueM (σ.s true)) (L.map (·.1)) := ⟨_, rfl⟩
  rw [← hσ3] at hW3 hT3
  have HF : Hid (σ3.f true = L.map (·.1)) := by
    show _ = _
    rw [hσ3]; simp [outW, upB_self]
  have HO3 : Hid (OwnS w3 w.heap.size (.slice a2 n c2) L) := HC3.out.owns HA2.out.o (fun g hg => by
    have := ne_ty (own_ty HA2.out.o hg) (blk_ty HFB.out) (by decide)
    simpa using this)
  obtain ⟨G3, hG3⟩ : ∃ G3, G3 = upB G true (G true) := ⟨_, rfl⟩
  obtain ⟨V3, hV3⟩ : ∃ V3, V3 = upB V true (.slice a2 n c2) := ⟨_, rfl⟩
  rw [← hG3, ← hV3] at hW3
  have HV3 : Hid (V3 true = .slice a2 n c2) := by
    show _ = _
    rw [hV3]; exact upB_self _ _ _
  have HW3 := Lib.hid hW3
  have HT3 : Hid (AcT σ3 i (20 * i + 8)) := hT3
  have e1 := (HCELL.out _ _ _ _ HA2.out).2
  have hfz : ∀ j, w2.frozen? ⟨fb, j, none⟩ = false := fun j => BlkAt.frozen HFB.out j
  have HW := Lib.hid hw3
  clear hO2 hg2 hf2 HR hA2 hL hn hHeld hW3 hT3 hσ3 hG3 hV3 hw3 d0 d1 d2
  refine lastQ_at rfl ?_
  go_simp
  rw [← HW.out]
  clear e1 hfz
  have f3 : w3.cell? ⟨fb, 1, none⟩ = some (.slice a2 n c2) := by rw [← HV3.out]; exact BlkAt.cell HW3.out.f (j := 1) rfl
  obtain ⟨d0, d1, d2⟩ := HCE.out w3 HW3.out.bel
  have n0 : (n : Int) ≤ 4008 := by have := HN.out; have := HLL.out; omega
  have q1 : (K == 1) = false := by rw [beq_eq_false_iff_ne]; have := HK.out; omega
  have q2 : (K == 2) = false := by rw [beq_eq_false_iff_ne]; have := HK.out; omega
  have q3 : (K == 3) = true := by rw [beq_iff_eq]; have := HK.out; omega
  have q4 : (K == 4) = false := by rw [beq_eq_false_iff_ne]; have := HK.out; omega
  have q5 : (K == 5) = false := by rw [beq_eq_false_iff_ne]; have := HK.out; omega
  rcases Nat.eq_zero_or_pos n with hz | hp
  · subst hz
    go_wp2_with fail
    have HW9 := HW3
    have HT9 : Hid (AcT σ3 (i + 1) (20 * (i + 1))) := HT3.out.more (by omega) (by omega) (by omega)
    have HI9 : Hid (WInv σ3 (i + 1)) := HT9.out.i
    have HN9 : Hid (i + 1 ≤ 1000) := by show _ ≤ _; omega
    refine ckLoop _ _ _ _ _ _ _ _ _ _ _ _ _ _ _ _ _ _ _ _ _ _ _ _ _ _ _ _ _ _ _ _ _ _ _ _ _ _ _ _ _ _ _ _ _ _ _ _ _ _ _ _ _ _ _ _ _ _ _ _ _ _ _ _ _ _ _ _ _ _ _ _ _ _ _ _ _ _ _ _ _ _ _ _ _ _ _ _ _ _ _ _ _ _ _ _ _ _ _ _ _ _ _ _ _ _ _ _ _ _ _ _ _ _ _ _ _ _ _ _ _ _ _ _ _ _ _ _ _ _ _ _ _ _ _ _ _ _ _ _ _ _ _ _ _ _ _ _ _ _ _ _ _ _ _ _ _ _ _ _ _ _ _ _ _ _ _ _ _ _ _ _ _ _ _ _ _ _ _ _ _ _ _ _ _ _ _ _ _ _ _ _ _ _ _ _ _ _ _ _ _ _ _ _ _ _ _ _ _ _ _ _ _ _ _ _ _ _ _ _ _ _ _ _ _ _ _ _ _ _ _ _ _ _ _ _ _ _ _ _ _ _ _ HW9 HI9 HN9 (fun x a d v w' h => by exact hpan x a d v w' h) _ _ _ _ _ _ _ _ _ _ _ _ _ _ _ _ _ _ _ _ _ _ _ _ _ _ _ _ _ _ _ _ _ _ _ _ _ _ _ _ _ _ _ _ _ _ _ _ _ _ _ _ _ _ _ _ _ _ _ _ ⟨0, Nat.zero_le _, rfl, Below.refl _ _⟩ (fun a' w' hI hmu => ?_)
    unfold ckI at hI
    obtain ⟨z17, hI⟩ := hI
    obtain ⟨z181, hI⟩ := hI
    obtain ⟨z182, hI⟩ := hI
    obtain ⟨z183, hI⟩ := hI
    obtain ⟨z184, hI⟩ := hI
    obtain ⟨z185, hI⟩ := hI
    obtain ⟨z186, hI⟩ := hI
    obtain ⟨z187, hI⟩ := hI
    obtain ⟨z188, hI⟩ := hI
    obtain ⟨z189, hI⟩ := hI
    obtain ⟨z190, hI⟩ := hI
    obtain ⟨z191, hI⟩ := hI
    obtain ⟨z192, hI⟩ := hI
    obtain ⟨z193, hI⟩ := hI
    obtain ⟨z194, hI⟩ := hI
    obtain ⟨z195, hI⟩ := hI
    obtain ⟨z196, hI⟩ := hI
    obtain ⟨z197, hI⟩ := hI
    obtain ⟨z198, hI⟩ := hI
    obtain ⟨z199, hI⟩ := hI
    obtain ⟨z200, hI⟩ := hI
    obtain ⟨z201, hI⟩ := hI
    obtain ⟨z202, hI⟩ := hI
    obtain ⟨z203, hI⟩ := hI
    obtain ⟨z204, hI⟩ := hI
    obtain ⟨z205, hI⟩ := hI
    obtain ⟨z206, hI⟩ := hI
    obtain ⟨z207, hI⟩ := hI
    obtain ⟨z208, hI⟩ := hI
    obtain ⟨z209, hI⟩ := hI
    obtain ⟨z210, hI⟩ := hI
    obtain ⟨z211, hI⟩ := hI
    obtain ⟨z212, hI⟩ := hI
    obtain ⟨z213, hI⟩ := hI
    obtain ⟨z214, hI⟩ := hI
    obtain ⟨z215, hI⟩ := hI
    obtain ⟨z216, hI⟩ := hI
    obtain ⟨z217, hI⟩ := hI
    obtain ⟨z218, hI⟩ := hI
    obtain ⟨z219, hI⟩ := hI
    obtain ⟨z220, hI⟩ := hI
    obtain ⟨z221, hI⟩ := hI
    obtain ⟨z222, hI⟩ := hI
    obtain ⟨z223, hI⟩ := hI
    obtain ⟨z224, hI⟩ := hI
    obtain ⟨z225, hI⟩ := hI
    obtain ⟨z226, hI⟩ := hI
    obtain ⟨z227, hI⟩ := hI
    obtain ⟨z228, hI⟩ := hI
    obtain ⟨z229, hI⟩ := hI
    obtain ⟨z230, hI⟩ := hI
    obtain ⟨z231, hI⟩ := hI
    obtain ⟨z232, hI⟩ := hI
    obtain ⟨z233, hI⟩ := hI
    obtain ⟨z234, hI⟩ := hI
    obtain ⟨z235, hI⟩ := hI
    obtain ⟨z236, hI⟩ := hI
    obtain ⟨z237, hI⟩ := hI
    obtain ⟨z238, hI⟩ := hI
    obtain ⟨hrel, ha⟩ := hI
    subst ha
    obtain ⟨j9, hj9, rfl, HB9⟩ := hrel
    clear hmu
    go_wp2_with fail
    refine ⟨?_, ?_⟩
    · unfold acI
      refine ⟨_, _, _, _, _, _, _, _, _, _, _, _, _, _, _, _, _, _, _, _, _, _, _, _, _, _, _, _, _, _, _, _, _, _, _, _, _, _, _, _, _, _, _, _, _, _, _, _, _, _, _, _, _, _, _, _, _, _, _, _, _, _, _, _, _, _, _, _, _, _, _, _, _, _, _, _, _, _, _, _, _, _, _, _, _, _, _, _, _, _, _, _, _, _, _, _, _, _, _, _, _, _, _, _, _, _, _, _, _, _, _, _, _, _, _, _, _, _, _, _, _, _, _, _, _, _, _, _, _, _, _, _, _, _, _, _, _, _, _, _, _, _, _, _, _, _, _, _, _, _, _, _, _, _, _, _, _, _, _, _, _, _, _, _, _, _, _, _, _, _, _, _, _, _, _, _, _, _, _, _, _, _, _, _, _, _, _, _, _, _, _, _, _, _, _, _, _, _, _, _, _, ?_, rfl⟩
      exact ⟨i + 1, G3, X, V3, R, σ3, by omega, by go_num, HW9.out.later HB9.out, HT9⟩
    · simp [acMu, intOf]; omega
  · have hp1 : (0 : Int) < n := by omega
    obtain ⟨kx, hk1, hk2⟩ : ∃ k : Nat, k < n ∧ (wrap64 (NN.tmod (n : Int) + n)).tmod n = (k : Int) := by
      obtain ⟨k, h1, h2, h3, h4⟩ := act_at NN n (by omega) (by omega)
      exact ⟨k, h1, by rw [show wrap64 (NN.tmod (n : Int) + n) = NN.tmod n + n from IntWalk.wrap64_in _ ⟨by omega, by omega⟩]; exact h2⟩
    go_wp2_with fail
    obtain ⟨⟨⟨gq, ga, gb⟩, gv⟩, hx⟩ : ∃ x, L[kx]? = some x := ⟨L[kx]'(by have := HN.out; omega), List.getElem?_eq_getElem _⟩
    obtain ⟨g2, rfl, hg2, k0, k1, k2⟩ := HO3.out.at hx
    simp only at k0 k1 k2
    have h0 := HW3.out.later (Below.refl _ _).drew
    have hO0 := HO3.out.later (Below.refl _ _).drew
    have hB0 : Bods w3 X L := HA2.out.b.chg HC3.out (fun k hk => by simp at hk; subst hk; exact .inl (ty_noB (blk_ty HFB.out) (by decide)))
    have hxb := hB0 _ (List.mem_of_getElem? hx)
    have hS := AS.start h0 (d := true) (M := L) (by rw [HV3.out]; exact hO0) (hB0.later (Below.refl _ _).drew)
    rw [HV3.out] at hS
    have hal : Below w3.heap.size w3 (w3.drew.alloc (.cells #[.int .u64 (gq : Int), .int .u64 (ga : Int), gv] 94)) := (Below.refl _ _).drew.trans (show Below w3.heap.size w3.drew _ from ba1 w3.drew _)
    have hS1 := hS.later (show Below w3.drew.heap.size w3.drew (w3.drew.alloc (.cells #[.int .u64 (gq : Int), .int .u64 (ga : Int), gv] 94)) from ba1 w3.drew _)
    have HH := Lib.hid h0
    have HSS := Lib.hid hS1
    have HXB := Lib.hid hxb
    have HX : Hid (L[kx]? = some (⟨gq, ga, gb⟩, gv)) := hx
    have HAL := Lib.hid hal
    have HC0 : Hid (∀ W, Below w3.heap.size w3 W → W.cell? ⟨fb, 1, none⟩ = some (.slice (some ⟨g2, 0, none⟩) n c2) ∧ W.cell? ⟨g2, kx * 3, none⟩ = some (.int .u64 (gq : Int)) ∧ W.cell? ⟨g2, kx * 3 + 1, none⟩ = some (.int .u64 (ga : Int)) ∧ W.cell? ⟨g2, kx * 3 + 2, none⟩ = some gv) := by
      have : ∀ W, Below w3.heap.size w3 W → W.cell? ⟨fb, 1, none⟩ = some (.slice (some ⟨g2, 0, none⟩) n c2) ∧ W.cell? ⟨g2, kx * 3, none⟩ = some (.int .u64 (gq : Int)) ∧ W.cell? ⟨g2, kx * 3 + 1, none⟩ = some (.int .u64 (ga : Int)) ∧ W.cell? ⟨g2, kx * 3 + 2, none⟩ = some gv := fun W hW =>
        ⟨cell_later hW f3, cell_later hW k0, cell_later hW k1, cell_later hW k2⟩
      exact this
    have HD0 := Lib.hid (HC0.out w3.drew (Below.refl _ _).drew)
    have HR6 : Hid (∀ ty, ∃ v' w', (Builtin.append_ #[88, 88] ty #[.slice (some ⟨g2, 0, none⟩) n c2, .slice (some ⟨w3.heap.size, 0, none⟩) 1 1]).run Try.prog (w3.drew.alloc (.cells #[.int .u64 (gq : Int), .int .u64 (ga : Int), gv] 94)) = .ok v' w' ∧ OwnS w' w.heap.size v' (L ++ [(⟨gq, ga, gb⟩, gv)]) ∧ (w3.drew.alloc (.cells #[.int .u64 (gq : Int), .int .u64 (ga : Int), gv] 94)).grownBy w' (Value.slice (some ⟨g2, 0, none⟩) n c2).ownBlock ∧ (∀ g, v'.ownBlock = some g → (Value.slice (some ⟨g2, 0, none⟩) n c2).ownBlock = some g ∨ (w3.drew.alloc (.cells #[.int .u64 (gq : Int), .int .u64 (ga : Int), gv] 94)).heap.size ≤ g) ∧ ∀ j u, (sc L)[j]? = some u → w'.cell? ((⟨g2, 0, none⟩ : Addr).add j) = some u) := fun ty =>
      run_appK _ w.heap.size ty _ L (⟨gq, ga, gb⟩, gv) w3.heap.size HSS.out.o (BlkAt.new w3.drew _) (bod_cell HXB.out) (by have := HLL.out; omega) (Nat.le_trans HW3.out.bel.size HAL.out.size) g2 rfl
    clear h0 hO0 hB0 hxb hS hS1 hal hx k0 k1 k2 d0 d1 d2 f3 hg2
    refine wp_region_last (S := fun w' => w'.cell? ⟨fb, 1, none⟩ = some (.slice (some ⟨g2, 0, none⟩) n c2) ∧ w'.cell? ⟨g2, kx * 3, none⟩ = some (.int .u64 (gq : Int)) ∧ w'.cell? ⟨g2, kx * 3 + 1, none⟩ = some (.int .u64 (ga : Int)) ∧ w'.cell? ⟨g2, kx * 3 + 2, none⟩ = some gv) (by simp only [List.pop_toArray, List.dropLast]; exact rfl) (by kernel_rfl) (by kernel_rfl) HD0.out (fun hHeld => ?_)
    (refine wpAnyH_take (i := 0) (v := ?_) rfl (by kernel_rfl) (by kernel_rfl) (by kernel_rfl) (fun _ _ _ h => hpan _ _ _ _ _ h) (Or.inl ⟨by rfl, ?_⟩) hHeld ?_; rotate_left; (focus (intro w hSw; (try dsimp only at hSw); go_simp; try with_reducible rfl)); (try simp only [Act.put, List.setIfInBounds_toArray, List.set_cons_zero, List.set_cons_succ, List.getElem_toArray, List.getElem_cons_zero])); (refine wpAnyH_take (i := 1) (v := ?_) rfl (by kernel_rfl) (by kernel_rfl) (by kernel_rfl) (fun _ _ _ h => hpan _ _ _ _ _ h) (Or.inl ⟨by rfl, ?_⟩) hHeld ?_; rotate_left; (focus (intro w hSw; (try dsimp only at hSw); go_simp; try with_reducible rfl)); (try simp only [Act.put, List.setIfInBounds_toArray, List.set_cons_zero, List.set_cons_succ, List.getElem_toArray, List.getElem_cons_zero, List.getElem_cons_succ])); (refine wpAnyH_take (i := 2) (v := ?_) rfl (by kernel_rfl) (by kernel_rfl) (by kernel_rfl) (fun _ _ _ h => hpan _ _ _ _ _ h) (Or.inl ⟨by rfl, ?_⟩) hHeld ?_; rotate_left; (focus (intro w hSw; (try dsimp only at hSw); go_simp; try with_reducible rfl)); (try simp only [Act.put, List.setIfInBounds_toArray, List.set_cons_zero, List.set_cons_succ, List.getElem_toArray, List.getElem_cons_zero, List.getElem_cons_succ]))
    (refine wpAnyH_take (i := 3) (v := ?_) rfl (by kernel_rfl) (by kernel_rfl) (by kernel_rfl) (fun _ _ _ h => hpan _ _ _ _ _ h) (Or.inl ⟨by rfl, ?_⟩) hHeld ?_; rotate_left; (focus (intro w hSw; (try dsimp only at hSw); go_simp; (have cc := hSw.1; go_simp; try with_reducible rfl))); (try simp only [Act.put, List.setIfInBounds_toArray, List.set_cons_zero, List.set_cons_succ, List.getElem_toArray, List.getElem_cons_zero, List.getElem_cons_succ]))
    (refine wpAnyH_take (i := 4) (v := ?_) rfl (by kernel_rfl) (by kernel_rfl) (by kernel_rfl) (fun _ _ _ h => hpan _ _ _ _ _ h) (Or.inl ⟨by rfl, ?_⟩) hHeld ?_; rotate_left; (focus (intro w hSw; (try dsimp only at hSw); go_simp; try with_reducible rfl)); (try simp only [Act.put, List.setIfInBounds_toArray, List.set_cons_zero, List.set_cons_succ, List.getElem_toArray, List.getElem_cons_zero, List.getElem_cons_succ])); (refine wpAnyH_take (i := 5) (v := ?_) rfl (by kernel_rfl) (by kernel_rfl) (by kernel_rfl) (fun _ _ _ h => hpan _ _ _ _ _ h) (Or.inl ⟨by rfl, ?_⟩) hHeld ?_; rotate_left; (focus (intro w hSw; (try dsimp only at hSw); go_simp; try with_reducible rfl)); (try simp only [Act.put, List.setIfInBounds_toArray, List.set_cons_zero, List.set_cons_succ, List.getElem_toArray, List.getElem_cons_zero, List.getElem_cons_succ]))
    (refine wpAnyH_take (i := 6) (v := ?_) rfl (by kernel_rfl) (by kernel_rfl) (by kernel_rfl) (fun _ _ _ h => hpan _ _ _ _ _ h) (Or.inl ⟨by rfl, ?_⟩) hHeld ?_; rotate_left; (focus (intro w hSw; (try dsimp only at hSw); go_simp; (have cc := hSw.1; go_simp; try with_reducible rfl))); (try simp only [Act.put, List.setIfInBounds_toArray, List.set_cons_zero, List.set_cons_succ, List.getElem_toArray, List.getElem_cons_zero, List.getElem_cons_succ]))
    (refine wpAnyH_take (i := 7) (v := ?_) rfl (by kernel_rfl) (by kernel_rfl) (by kernel_rfl) (fun _ _ _ h => hpan _ _ _ _ _ h) (Or.inl ⟨by rfl, ?_⟩) hHeld ?_; rotate_left; (focus (intro w hSw; (try dsimp only at hSw); go_simp; try with_reducible rfl)); (try simp only [Act.put, List.setIfInBounds_toArray, List.set_cons_zero, List.set_cons_succ, List.getElem_toArray, List.getElem_cons_zero, List.getElem_cons_succ])); (refine wpAnyH_take (i := 8) (v := ?_) rfl (by kernel_rfl) (by kernel_rfl) (by kernel_rfl) (fun _ _ _ h => hpan _ _ _ _ _ h) (Or.inl ⟨by rfl, ?_⟩) hHeld ?_; rotate_left; (focus (intro w hSw; (try dsimp only at hSw); go_simp; try with_reducible rfl)); (try simp only [Act.put, List.setIfInBounds_toArray, List.set_cons_zero, List.set_cons_succ, List.getElem_toArray, List.getElem_cons_zero, List.getElem_cons_succ]))
    (refine wpAnyH_take (i := 9) (v := ?_) rfl (by kernel_rfl) (by kernel_rfl) (by kernel_rfl) (fun _ _ _ h => hpan _ _ _ _ _ h) (Or.inl ⟨by rfl, ?_⟩) hHeld ?_; rotate_left; (focus (intro w hSw; (try dsimp only at hSw); go_simp; (have cc := hSw.2.1; have cd := hSw.2.2.1; have ce := hSw.2.2.2; go_simp; try with_reducible rfl))); (try simp only [Act.put, List.setIfInBounds_toArray, List.set_cons_zero, List.set_cons_succ, List.getElem_toArray, List.getElem_cons_zero, List.getElem_cons_succ]))
    (refine wpAnyH_ready (rs := [10]) (by kernel_rfl) (by simp) ?_; refine AllReadyH.cons rfl (fun K hK => ?_) AllReadyH.nil; go_simp; skip; refine hK.out _ _ ?_ (fun hHeldN => ?_); (focus ((try dsimp only); (exact HC0.out _ HAL.out))); clear hK K hHeld; have hHeld := hHeldN; clear hHeldN; (try simp only [Act.put, List.setIfInBounds_toArray, List.set_cons_zero, List.set_cons_succ, List.getElem_toArray, List.getElem_cons_zero, List.getElem_cons_succ]))
    (refine wpAnyH_ready (rs := [11]) (by kernel_rfl) (by simp) ?_; refine AllReadyH.cons rfl (fun K hK => ?_) AllReadyH.nil; refine step_appG rfl (.tmp 133) (.tmp 140) _ _ rfl _ _ _ rfl rfl HR6.out ?_; rintro v6 w6 ⟨hO6, hg6, hf6, hk6⟩; refine hK.out _ _ ?_ (fun hHeldN => ?_); (focus ((try dsimp only); (exact ⟨by have hA := AS.app HSS.out hO6 hg6 hf6 (fun x hx => by simp at hx; subst hx; exact HXB.out.later HAL.out); rw [← HV3.out]; exact (hA.cells HH.out true).2.cell (j := 1) rfl, by have h7 := hk6 (kx * 3) _ (sc_at L kx _ HX.out).1; rw [add0] at h7; exact h7, by have h7 := hk6 (kx * 3 + 1) _ (sc_at L kx _ HX.out).2.1; rw [add0] at h7; exact h7, by have h7 := hk6 (kx * 3 + 2) _ (sc_at L kx _ HX.out).2.2; rw [add0] at h7; exact h7⟩))); clear hK K hHeld; have hHeld := hHeldN; clear hHeldN; (try simp only [Act.put, List.setIfInBounds_toArray, List.set_cons_zero, List.set_cons_succ, List.getElem_toArray, List.getElem_cons_zero, List.getElem_cons_succ]))
    (refine wpAnyH_take (i := 12) (v := ?_) rfl (by kernel_rfl) (by kernel_rfl) (by kernel_rfl) (fun _ _ _ h => hpan _ _ _ _ _ h) (Or.inl ⟨by rfl, ?_⟩) hHeld ?_; rotate_left; (focus (intro w hSw; (try dsimp only at hSw); go_simp; try with_reducible rfl)); (try simp only [Act.put, List.setIfInBounds_toArray, List.set_cons_zero, List.set_cons_succ, List.getElem_toArray, List.getElem_cons_zero, List.getElem_cons_succ]))
    refine wpAnyH_done (by kernel_rfl) ?_ _
    have hA6 := AS.app HSS.out hO6 hg6 hf6 (fun x hx => by simp at hx; subst hx; exact HXB.out.later HAL.out)
    obtain ⟨a6, c6, rfl⟩ := hO6.form
    obtain ⟨L6, hL6⟩ : ∃ L6, L6 = L ++ [((⟨gq, ga, gb⟩ : Sg), gv)] := ⟨_, rfl⟩
    rw [← hL6] at hA6 hO6 ⊢
    obtain ⟨n6, hn6⟩ : ∃ n6, n6 = L6.length := ⟨_, rfl⟩
    rw [← hn6] at hA6 hO6 ⊢
    have HL6 : Hid (L6 = L ++ [((⟨gq, ga, gb⟩ : Sg), gv)]) := hL6
    have HA6 := Lib.hid hA6
    obtain ⟨w7, hw7⟩ : ∃ w7, w7 = w6.setCell ⟨fb, 1, none⟩ (.slice a6 n6 c6) := ⟨_, rfl⟩
    have HFB6 := Lib.hid (HA6.out.cells HH.out true).2
    have HF7 : Hid (BlkAt 89 fb (pr2 (upB V3 true (.slice a6 n6 c6))) w7) := by show BlkAt _ _ _ _; rw [hw7]; exact BlkAt.set HFB6.out 1 _
    have HC7 : Hid (Chg [fb] w6 w7) := by show Chg _ _ _; rw [hw7]; exact (Chg.refl _ _).set (by simp) _ _
    have hW7 := HA6.out.stop HH.out HF7.out HC7.out HA6.out.o HA6.out.b HA6.out.f
    have hsame : outW σ3 true (σ3.s true) (L6.map (·.1)) = ⟨σ3.s, upB σ3.f true (L6.map (·.1)), σ3.x, σ3.y⟩ := by unfold outW; rw [upB_same]
    rw [hsame] at hW7
    have HW9 := Lib.hid hW7
    have HT9 : Hid (AcT ⟨σ3.s, upB σ3.f true (L6.map (·.1)), σ3.x, σ3.y⟩ (i + 1) (20 * (i + 1))) := by
      have h1 := HT3.out.fly true (F := L6.map (·.1)) (c := 20 * i + 9) (fun g hg => by
        rw [HF.out]
        rw [HL6.out, List.map_append] at hg
        rcases List.mem_append.1 hg with e | e
        · exact e
        · simp at e
          rw [e]
          exact List.mem_map_of_mem (List.mem_of_getElem? HX.out)) (by
        have h2 := HT3.out.f true
        rw [HF.out, List.length_map] at h2
        rw [HL6.out]; simp; omega) (by omega)
      exact h1.more (by omega) (by omega) (by omega)
    have e1 := HFB6.out.cell (j := 1) rfl
    have hfz : ∀ j, w6.frozen? ⟨fb, j, none⟩ = false := fun j => BlkAt.frozen HFB6.out j
    have HW6e := Lib.hid hw7
    clear hO6 hg6 hf6 hk6 HR6 hA6 hL6 hn6 hHeld hW7 hsame hw7
    refine lastQ_at rfl ?_
    go_simp
    rw [← HW6e.out]
    clear e1 hfz
    go_wp2_with fail
    have HI9 : Hid (WInv ⟨σ3.s, upB σ3.f true (L6.map (fun x : Sg × Value => x.1)), σ3.x, σ3.y⟩ (i + 1)) := HT9.out.i
    have HN9 : Hid (i + 1 ≤ 1000) := by show _ ≤ _; omega
    refine ckLoop _ _ _ _ _ _ _ _ _ _ _ _ _ _ _ _ _ _ _ _ _ _ _ _ _ _ _ _ _ _ _ _ _ _ _ _ _ _ _ _ _ _ _ _ _ _ _ _ _ _ _ _ _ _ _ _ _ _ _ _ _ _ _ _ _ _ _ _ _ _ _ _ _ _ _ _ _ _ _ _ _ _ _ _ _ _ _ _ _ _ _ _ _ _ _ _ _ _ _ _ _ _ _ _ _ _ _ _ _ _ _ _ _ _ _ _ _ _ _ _ _ _ _ _ _ _ _ _ _ _ _ _ _ _ _ _ _ _ _ _ _ _ _ _ _ _ _ _ _ _ _ _ _ _ _ _ _ _ _ _ _ _ _ _ _ _ _ _ _ _ _ _ _ _ _ _ _ _ _ _ _ _ _ _ _ _ _ _ _ _ _ _ _ _ _ _ _ _ _ _ _ _ _ _ _ _ _ _ _ _ _ _ _ _ _ _ _ _ _ _ _ _ _ _ _ _ _ _ _ _ _ _ _ _ _ _ _ _ _ _ _ _ _ HW9 HI9 HN9 (fun x a d v w' h => by exact hpan x a d v w' h) _ _ _ _ _ _ _ _ _ _ _ _ _ _ _ _ _ _ _ _ _ _ _ _ _ _ _ _ _ _ _ _ _ _ _ _ _ _ _ _ _ _ _ _ _ _ _ _ _ _ _ _ _ _ _ _ _ _ _ _ ⟨0, Nat.zero_le _, rfl, Below.refl _ _⟩ (fun a' w' hI hmu => ?_)
    unfold ckI at hI
    obtain ⟨z17, hI⟩ := hI
    obtain ⟨z181, hI⟩ := hI
    obtain ⟨z182, hI⟩ := hI
    obtain ⟨z183, hI⟩ := hI
    obtain ⟨z184, hI⟩ := hI
    obtain ⟨z185, hI⟩ := hI
    obtain ⟨z186, hI⟩ := hI
    obtain ⟨z187, hI⟩ := hI
    obtain ⟨z188, hI⟩ := hI
    obtain ⟨z189, hI⟩ := hI
    obtain ⟨z190, hI⟩ := hI
    obtain ⟨z191, hI⟩ := hI
    obtain ⟨z192, hI⟩ := hI
    obtain ⟨z193, hI⟩ := hI
    obtain ⟨z194, hI⟩ := hI
    obtain ⟨z195, hI⟩ := hI
    obtain ⟨z196, hI⟩ := hI
    obtain ⟨z197, hI⟩ := hI
    obtain ⟨z198, hI⟩ := hI
    obtain ⟨z199, hI⟩ := hI
    obtain ⟨z200, hI⟩ := hI
    obtain ⟨z201, hI⟩ := hI
    obtain ⟨z202, hI⟩ := hI
    obtain ⟨z203, hI⟩ := hI
    obtain ⟨z204, hI⟩ := hI
    obtain ⟨z205, hI⟩ := hI
    obtain ⟨z206, hI⟩ := hI
    obtain ⟨z207, hI⟩ := hI
    obtain ⟨z208, hI⟩ := hI
    obtain ⟨z209, hI⟩ := hI
    obtain ⟨z210, hI⟩ := hI
    obtain ⟨z211, hI⟩ := hI
    obtain ⟨z212, hI⟩ := hI
    obtain ⟨z213, hI⟩ := hI
    obtain ⟨z214, hI⟩ := hI
    obtain ⟨z215, hI⟩ := hI
    obtain ⟨z216, hI⟩ := hI
    obtain ⟨z217, hI⟩ := hI
    obtain ⟨z218, hI⟩ := hI
    obtain ⟨z219, hI⟩ := hI
    obtain ⟨z220, hI⟩ := hI
    obtain ⟨z221, hI⟩ := hI
    obtain ⟨z222, hI⟩ := hI
    obtain ⟨z223, hI⟩ := hI
    obtain ⟨z224, hI⟩ := hI
    obtain ⟨z225, hI⟩ := hI
    obtain ⟨z226, hI⟩ := hI
    obtain ⟨z227, hI⟩ := hI
    obtain ⟨z228, hI⟩ := hI
    obtain ⟨z229, hI⟩ := hI
    obtain ⟨z230, hI⟩ := hI
    obtain ⟨z231, hI⟩ := hI
    obtain ⟨z232, hI⟩ := hI
    obtain ⟨z233, hI⟩ := hI
    obtain ⟨z234, hI⟩ := hI
    obtain ⟨z235, hI⟩ := hI
    obtain ⟨z236, hI⟩ := hI
    obtain ⟨z237, hI⟩ := hI
    obtain ⟨z238, hI⟩ := hI
    obtain ⟨hrel, ha⟩ := hI
    subst ha
    obtain ⟨j9, hj9, rfl, HB9⟩ := hrel
    clear hmu
    go_wp2_with fail
    refine ⟨?_, ?_⟩
    · unfold acI
      refine ⟨_, _, _, _, _, _, _, _, _, _, _, _, _, _, _, _, _, _, _, _, _, _, _, _, _, _, _, _, _, _, _, _, _, _, _, _, _, _, _, _, _, _, _, _, _, _, _, _, _, _, _, _, _, _, _, _, _, _, _, _, _, _, _, _, _, _, _, _, _, _, _, _, _, _, _, _, _, _, _, _, _, _, _, _, _, _, _, _, _, _, _, _, _, _, _, _, _, _, _, _, _, _, _, _, _, _, _, _, _, _, _, _, _, _, _, _, _, _, _, _, _, _, _, _, _, _, _, _, _, _, _, _, _, _, _, _, _, _, _, _, _, _, _, _, _, _, _, _, _, _, _, _, _, _, _, _, _, _, _, _, _, _, _, _, _, _, _, _, _, _, _, _, _, _, _, _, _, _, _, _, _, _, _, _, _, _, _, _, _, _, _, _, _, _, _, _, _, _, _, _, _, ?_, rfl⟩
      exact ⟨i + 1, (upB G3 true (G3 true)), X, (upB V3 true (.slice a6 n6 c6)), R, ⟨σ3.s, upB σ3.f true (L6.map (fun x : Sg × Value => x.1)), σ3.x, σ3.y⟩, by omega, by go_num, HW9.out.later HB9.out, HT9⟩
    · simp [acMu, intOf]; omega
end Go.Proofs.Ytghaajmalhcgbaa
