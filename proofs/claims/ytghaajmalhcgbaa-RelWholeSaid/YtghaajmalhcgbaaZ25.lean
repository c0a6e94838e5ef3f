/- RelWhole: one end hears (in a round: hpan).
   RelWhole: one end hears (in a round: hpan). -/
import Derived.Test.YtghaajmalhcgbaaZ08

set_option linter.unusedSimpArgs false
set_option linter.unusedVariables false
namespace Go.Proofs.Ytghaajmalhcgbaa
open Go.RowKit
attribute [local go_sem ↓] Go.wp_at_zero Go.wp_at_succ

set_option maxHeartbeats 16000000 in
set_option maxRecDepth 1000000 in
theorem rdCase_false {w0 wr : World} {P : Bool → Nat} {eb fb : Nat} {A G : Bool → Nat} {X : List Nat} {V : Bool → Value} {R : Bool → Bool → Value} {σ τ : Wn} {N : Nat} (HM : Hid (WM w0 P eb fb A G X V R τ wr)) (HI : Hid (WInv τ N)) (HN : Hid (N ≤ 1000)) (HF : Hid ((τ.f false).length ≤ 10000)) (HST : Hid (stepW τ false = stW σ 1)) (kk0 kk1 kk2 kk3 kk4 kk5 kk6 kk9 kk10 kk12 kk13 kk14 kk15 kk16 kk17 kk18 kk22 kk23 kk24 kk25 kk26 kk27 kk28 kk29 kk30 kk31 kk32 kk33 kk34 kk35 kk36 kk37 kk38 kk39 kk40 kk41 kk42 kk43 kk44 kk45 kk46 kk47 kk48 kk49 kk50 kk51 kk52 kk53 kk54 kk55 kk56 kk57 kk58 kk59 kk60 kk61 kk62 kk63 kk64 kk65 kk66 kk67 kk68 kk69 kk70 kk71 kk72 kk73 kk74 kk75 kk76 kk77 kk78 kk79 kk80 kk81 kk82 kk83 kk84 kk85 kk86 kk87 kk88 kk89 kk90 kk91 kk92 kk93 kk94 kk95 kk96 kk97 kk98 kk99 kk100 kk101 kk102 kk103 kk104 kk105 kk106 kk107 kk108 kk109 kk110 kk111 kk112 kk113 kk114 kk115 kk116 kk117 kk118 kk119 kk120 kk121 kk122 kk123 kk124 kk125 kk126 kk127 kk128 kk129 kk130 kk131 kk132 kk133 kk134 kk135 kk136 kk137 kk138 kk139 kk140 kk141 kk142 kk143 kk144 kk145 kk146 kk147 kk148 kk149 kk150 kk151 kk152 kk153 kk154 kk155 kk156 kk157 kk158 kk159 kk160 kk161 kk162 kk163 kk164 kk165 kk166 kk167 kk168 kk169 kk170 kk171 kk172 kk173 kk174 kk175 kk176 kk177 kk178 kk179 kk180 kk181 kk182 kk183 kk184 kk185 kk186 kk187 kk188 kk189 kk190 kk191 kk192 kk193 kk194 kk195 kk196 kk197 kk198 kk199 kk200 kk201 kk202 kk203 kk204 kk205 kk206 kk207 kk208 kk209 kk210 kk211 kk212 kk213 kk214 kk215 kk216 kk217 kk218 kk219 kk220 kk221 kk222 kk223 kk224 kk225 kk226 kk227 kk228 kk229 kk230 kk231 kk232 kk233 kk234 kk235 kk236 kk237 kk238 kk239 kk240 kk241 kk242 kk276 kk277 kk278 kk279 kk280 kk281 kk282 kk283 kk284 kk285 kk286 kk287 kk288 kk289 kk290 kk291 kk292 kk293 kk294 kk295 kk296 kk297 kk298 kk299 kk300 kk301 kk302 kk303 kk304 : Value) (u20 u21 u243 u244 u245 u246 u247 u248 u249 u250 u251 u252 u253 u254 u255 u256 u257 u258 u259 u260 u261 u262 u263 u264 u265 u266 u267 u268 u269 u270 u271 u272 u273 u274 u275 : Value) {Q0 : Exit → Act → World → Prop} (hpan : ∀ x (a : Act) (d : Option Nat) v w', Q0 (.panic x) (a.put d v) w' → Q0 (.panic x) a w') :
    Code.wp Try.prog rdBody (Exit.then (fun a' w'' => rdI w0 P eb fb A σ kk0 kk1 kk2 kk3 kk4 kk5 kk6 kk9 kk10 kk12 kk13 kk14 kk15 kk16 kk17 kk18 kk22 kk23 kk24 kk25 kk26 kk27 kk28 kk29 kk30 kk31 kk32 kk33 kk34 kk35 kk36 kk37 kk38 kk39 kk40 kk41 kk42 kk43 kk44 kk45 kk46 kk47 kk48 kk49 kk50 kk51 kk52 kk53 kk54 kk55 kk56 kk57 kk58 kk59 kk60 kk61 kk62 kk63 kk64 kk65 kk66 kk67 kk68 kk69 kk70 kk71 kk72 kk73 kk74 kk75 kk76 kk77 kk78 kk79 kk80 kk81 kk82 kk83 kk84 kk85 kk86 kk87 kk88 kk89 kk90 kk91 kk92 kk93 kk94 kk95 kk96 kk97 kk98 kk99 kk100 kk101 kk102 kk103 kk104 kk105 kk106 kk107 kk108 kk109 kk110 kk111 kk112 kk113 kk114 kk115 kk116 kk117 kk118 kk119 kk120 kk121 kk122 kk123 kk124 kk125 kk126 kk127 kk128 kk129 kk130 kk131 kk132 kk133 kk134 kk135 kk136 kk137 kk138 kk139 kk140 kk141 kk142 kk143 kk144 kk145 kk146 kk147 kk148 kk149 kk150 kk151 kk152 kk153 kk154 kk155 kk156 kk157 kk158 kk159 kk160 kk161 kk162 kk163 kk164 kk165 kk166 kk167 kk168 kk169 kk170 kk171 kk172 kk173 kk174 kk175 kk176 kk177 kk178 kk179 kk180 kk181 kk182 kk183 kk184 kk185 kk186 kk187 kk188 kk189 kk190 kk191 kk192 kk193 kk194 kk195 kk196 kk197 kk198 kk199 kk200 kk201 kk202 kk203 kk204 kk205 kk206 kk207 kk208 kk209 kk210 kk211 kk212 kk213 kk214 kk215 kk216 kk217 kk218 kk219 kk220 kk221 kk222 kk223 kk224 kk225 kk226 kk227 kk228 kk229 kk230 kk231 kk232 kk233 kk234 kk235 kk236 kk237 kk238 kk239 kk240 kk241 kk242 kk276 kk277 kk278 kk279 kk280 kk281 kk282 kk283 kk284 kk285 kk286 kk287 kk288 kk289 kk290 kk291 kk292 kk293 kk294 kk295 kk296 kk297 kk298 kk299 kk300 kk301 kk302 kk303 kk304 a' w'' ∧ rdMu 2 a' w'' < rdMu 2 ⟨#[kk0, kk1, kk2, kk3, kk4, kk5, kk6, .pointer (some ⟨eb, 0, none⟩), .pointer (some ⟨fb, 0, none⟩), kk9, kk10, .func (.func 28) #[] #[.pointer (some ⟨eb, 0, none⟩), .pointer (some ⟨A true, 0, none⟩)], kk12, kk13, kk14, kk15, kk16, kk17, kk18, .int .i64 0, u20, u21, kk22, kk23, kk24, kk25, kk26, kk27, kk28, kk29, kk30, kk31, kk32, kk33, kk34, kk35, kk36, kk37, kk38, kk39, kk40, kk41, kk42, kk43, kk44, kk45, kk46, kk47, kk48, kk49, kk50, kk51, kk52, kk53, kk54, kk55, kk56, kk57, kk58, kk59, kk60, kk61, kk62, kk63, kk64, kk65, kk66, kk67, kk68, kk69, kk70, kk71, kk72, kk73, kk74, kk75, kk76, kk77, kk78, kk79, kk80, kk81, kk82, kk83, kk84, kk85, kk86, kk87, kk88, kk89, kk90, kk91, kk92, kk93, kk94, kk95, kk96, kk97, kk98, kk99, kk100, kk101, kk102, kk103, kk104, kk105, kk106, kk107, kk108, kk109, kk110, kk111, kk112, kk113, kk114, kk115, kk116, kk117, kk118, kk119, kk120, kk121, kk122, kk123, kk124, kk125, kk126, kk127, kk128, kk129, kk130, kk131, kk132, kk133, kk134, kk135, kk136, kk137, kk138, kk139, kk140, kk141, kk142, kk143, kk144, kk145, kk146, kk147, kk148, kk149, kk150, kk151, kk152, kk153, kk154, kk155, kk156, kk157, kk158, kk159, kk160, kk161, kk162, kk163, kk164, kk165, kk166, kk167, kk168, kk169, kk170, kk171, kk172, kk173, kk174, kk175, kk176, kk177, kk178, kk179, kk180, kk181, kk182, kk183, kk184, kk185, kk186, kk187, kk188, kk189, kk190, kk191, kk192, kk193, kk194, kk195, kk196, kk197, kk198, kk199, kk200, kk201, kk202, kk203, kk204, kk205, kk206, kk207, kk208, kk209, kk210, kk211, kk212, kk213, kk214, kk215, kk216, kk217, kk218, kk219, kk220, kk221, kk222, kk223, kk224, kk225, kk226, kk227, kk228, kk229, kk230, kk231, kk232, kk233, kk234, kk235, kk236, kk237, kk238, kk239, kk240, kk241, kk242, u243, u244, u245, u246, u247, u248, u249, u250, u251, u252, u253, u254, u255, u256, u257, u258, u259, u260, u261, u262, u263, u264, u265, u266, u267, u268, u269, u270, u271, u272, u273, u274, u275, kk276, kk277, kk278, kk279, kk280, kk281, kk282, kk283, kk284, kk285, kk286, kk287, kk288, kk289, kk290, kk291, kk292, kk293, kk294, kk295, kk296, kk297, kk298, kk299, kk300, kk301, kk302, kk303, kk304], []⟩ wr) Q0) ⟨#[kk0, kk1, kk2, kk3, kk4, kk5, kk6, .pointer (some ⟨eb, 0, none⟩), .pointer (some ⟨fb, 0, none⟩), kk9, kk10, .func (.func 28) #[] #[.pointer (some ⟨eb, 0, none⟩), .pointer (some ⟨A true, 0, none⟩)], kk12, kk13, kk14, kk15, kk16, kk17, kk18, .int .i64 0, u20, u21, kk22, kk23, kk24, kk25, kk26, kk27, kk28, kk29, kk30, kk31, kk32, kk33, kk34, kk35, kk36, kk37, kk38, kk39, kk40, kk41, kk42, kk43, kk44, kk45, kk46, kk47, kk48, kk49, kk50, kk51, kk52, kk53, kk54, kk55, kk56, kk57, kk58, kk59, kk60, kk61, kk62, kk63, kk64, kk65, kk66, kk67, kk68, kk69, kk70, kk71, kk72, kk73, kk74, kk75, kk76, kk77, kk78, kk79, kk80, kk81, kk82, kk83, kk84, kk85, kk86, kk87, kk88, kk89, kk90, kk91, kk92, kk93, kk94, kk95, kk96, kk97, kk98, kk99, kk100, kk101, kk102, kk103, kk104, kk105, kk106, kk107, kk108, kk109, kk110, kk111, kk112, kk113, kk114, kk115, kk116, kk117, kk118, kk119, kk120, kk121, kk122, kk123, kk124, kk125, kk126, kk127, kk128, kk129, kk130, kk131, kk132, kk133, kk134, kk135, kk136, kk137, kk138, kk139, kk140, kk141, kk142, kk143, kk144, kk145, kk146, kk147, kk148, kk149, kk150, kk151, kk152, kk153, kk154, kk155, kk156, kk157, kk158, kk159, kk160, kk161, kk162, kk163, kk164, kk165, kk166, kk167, kk168, kk169, kk170, kk171, kk172, kk173, kk174, kk175, kk176, kk177, kk178, kk179, kk180, kk181, kk182, kk183, kk184, kk185, kk186, kk187, kk188, kk189, kk190, kk191, kk192, kk193, kk194, kk195, kk196, kk197, kk198, kk199, kk200, kk201, kk202, kk203, kk204, kk205, kk206, kk207, kk208, kk209, kk210, kk211, kk212, kk213, kk214, kk215, kk216, kk217, kk218, kk219, kk220, kk221, kk222, kk223, kk224, kk225, kk226, kk227, kk228, kk229, kk230, kk231, kk232, kk233, kk234, kk235, kk236, kk237, kk238, kk239, kk240, kk241, kk242, u243, u244, u245, u246, u247, u248, u249, u250, u251, u252, u253, u254, u255, u256, u257, u258, u259, u260, u261, u262, u263, u264, u265, u266, u267, u268, u269, u270, u271, u272, u273, u274, u275, kk276, kk277, kk278, kk279, kk280, kk281, kk282, kk283, kk284, kk285, kk286, kk287, kk288, kk289, kk290, kk291, kk292, kk293, kk294, kk295, kk296, kk297, kk298, kk299, kk300, kk301, kk302, kk303, kk304], []⟩ wr := by
  have h0 := HM.out.later (Below.refl _ _).drew
  obtain ⟨M0, hM0, hO0, hB0⟩ := h0.fm false
  have hS := AS.start h0 hO0 hB0
  obtain ⟨va, vc, hvf⟩ := hO0.form
  obtain ⟨vn, hvn⟩ : ∃ vn, vn = M0.length := ⟨_, rfl⟩
  rw [← hvn] at hvf
  rw [hvf] at hS
  have HS := Lib.hid hS
  have HH0 := Lib.hid h0
  have HCELL : Hid (∀ s v M w, AS w0 P G X V false wr.drew s v M w → w.cell? ⟨eb, 0, none⟩ = some (.pointer (some ⟨P false, 0, none⟩)) ∧ w.cell? ⟨fb, 0, none⟩ = some (.slice va vn vc)) := by
    have : ∀ s v M w, AS w0 P G X V false wr.drew s v M w → w.cell? ⟨eb, 0, none⟩ = some (.pointer (some ⟨P false, 0, none⟩)) ∧ w.cell? ⟨fb, 0, none⟩ = some (.slice va vn vc) := fun s v M w h => by
      obtain ⟨a1, a2⟩ := h.cells HH0.out true
      rw [← hvf]
      exact ⟨a1.cell (j := 0) rfl, a2.cell (j := 0) rfl⟩
    exact this
  have HM0 : Hid (M0.map (·.1) = τ.f false) := hM0
  have HL0 : Hid (M0.length ≤ 10000) := by
    have := HF.out
    rw [← hM0, List.length_map] at this
    exact this
  have HT := Lib.hid (tickC (h0.s false) (HI.out.o false) h0.xl)
  have HB0 : Hid (w0.heap.size ≤ wr.drew.heap.size) := h0.bel.size
  have HC0 := Lib.hid (HCELL.out _ _ _ _ hS)
  clear h0 hM0 hO0 hB0 hS hvf hvn
  conv => arg 2; whnf
  go_wp2_with fail
  (refine wp_region_held_drew (S := (fun w' => w'.cell? ⟨eb, 0, none⟩ = some (.pointer (some ⟨P false, 0, none⟩)) ∧ w'.cell? ⟨fb, 0, none⟩ = some (.slice va vn vc))) (by kernel_rfl) ?_ (fun hHeld => ?_); (focus ((try dsimp only); (exact HC0.out))))
  (try dsimp only at hHeld)
  (refine wpAnyH_take (i := 0) (v := ?_) rfl (by kernel_rfl) (by kernel_rfl) (by kernel_rfl) (fun _ _ _ h => hpan _ _ _ _ _ h) (Or.inl ⟨by rfl, ?_⟩) hHeld ?_; rotate_left; (focus (intro w hSw; (try dsimp only at hSw); go_simp; try with_reducible rfl)); (try simp only [Act.put, List.setIfInBounds_toArray, List.set_cons_zero, List.set_cons_succ, List.getElem_toArray, List.getElem_cons_zero])); (refine wpAnyH_take (i := 1) (v := ?_) rfl (by kernel_rfl) (by kernel_rfl) (by kernel_rfl) (fun _ _ _ h => hpan _ _ _ _ _ h) (Or.inl ⟨by rfl, ?_⟩) hHeld ?_; rotate_left; (focus (intro w hSw; (try dsimp only at hSw); go_simp; try with_reducible rfl)); (try simp only [Act.put, List.setIfInBounds_toArray, List.set_cons_zero, List.set_cons_succ, List.getElem_toArray, List.getElem_cons_zero, List.getElem_cons_succ]))
  (refine wpAnyH_take (i := 2) (v := ?_) rfl (by kernel_rfl) (by kernel_rfl) (by kernel_rfl) (fun _ _ _ h => hpan _ _ _ _ _ h) (Or.inl ⟨by rfl, ?_⟩) hHeld ?_; rotate_left; (focus (intro w hSw; (try dsimp only at hSw); go_simp; (have cc := hSw.2; go_simp; try with_reducible rfl))); (try simp only [Act.put, List.setIfInBounds_toArray, List.set_cons_zero, List.set_cons_succ, List.getElem_toArray, List.getElem_cons_zero, List.getElem_cons_succ]))
  (refine wpAnyH_take (i := 3) (v := ?_) rfl (by kernel_rfl) (by kernel_rfl) (by kernel_rfl) (fun _ _ _ h => hpan _ _ _ _ _ h) (Or.inl ⟨by rfl, ?_⟩) hHeld ?_; rotate_left; (focus (intro w hSw; (try dsimp only at hSw); go_simp; try with_reducible rfl)); (try simp only [Act.put, List.setIfInBounds_toArray, List.set_cons_zero, List.set_cons_succ, List.getElem_toArray, List.getElem_cons_zero, List.getElem_cons_succ])); (refine wpAnyH_take (i := 4) (v := ?_) rfl (by kernel_rfl) (by kernel_rfl) (by kernel_rfl) (fun _ _ _ h => hpan _ _ _ _ _ h) (Or.inl ⟨by rfl, ?_⟩) hHeld ?_; rotate_left; (focus (intro w hSw; (try dsimp only at hSw); go_simp; try with_reducible rfl)); (try simp only [Act.put, List.setIfInBounds_toArray, List.set_cons_zero, List.set_cons_succ, List.getElem_toArray, List.getElem_cons_zero, List.getElem_cons_succ]))
  (refine wpAnyH_take (i := 5) (v := ?_) rfl (by kernel_rfl) (by kernel_rfl) (by kernel_rfl) (fun _ _ _ h => hpan _ _ _ _ _ h) (Or.inl ⟨by rfl, ?_⟩) hHeld ?_; rotate_left; (focus (intro w hSw; (try dsimp only at hSw); go_simp; (have cc := hSw.1; go_simp; try with_reducible rfl))); (try simp only [Act.put, List.setIfInBounds_toArray, List.set_cons_zero, List.set_cons_succ, List.getElem_toArray, List.getElem_cons_zero, List.getElem_cons_succ]))
  (refine wpAnyH_take (i := 8) (v := ?_) rfl (by kernel_rfl) (by kernel_rfl) (by kernel_rfl) (fun _ _ _ h => hpan _ _ _ _ _ h) (Or.inl ⟨by rfl, ?_⟩) hHeld ?_; rotate_left; (focus (intro w hSw; (try dsimp only at hSw); go_simp; try with_reducible rfl)); (try simp only [Act.put, List.setIfInBounds_toArray, List.set_cons_zero, List.set_cons_succ, List.getElem_toArray, List.getElem_cons_zero, List.getElem_cons_succ])); (refine wpAnyH_take (i := 9) (v := ?_) rfl (by kernel_rfl) (by kernel_rfl) (by kernel_rfl) (fun _ _ _ h => hpan _ _ _ _ _ h) (Or.inl ⟨by rfl, ?_⟩) hHeld ?_; rotate_left; (focus (intro w hSw; (try dsimp only at hSw); go_simp; try with_reducible rfl)); (try simp only [Act.put, List.setIfInBounds_toArray, List.set_cons_zero, List.set_cons_succ, List.getElem_toArray, List.getElem_cons_zero, List.getElem_cons_succ]))
  (refine wpAnyH_take (i := 10) (v := ?_) rfl (by kernel_rfl) (by kernel_rfl) (by kernel_rfl) (fun _ _ _ h => hpan _ _ _ _ _ h) (Or.inl ⟨by rfl, ?_⟩) hHeld ?_; rotate_left; (focus (intro w hSw; (try dsimp only at hSw); go_simp; (have cc := hSw.1; go_simp; try with_reducible rfl))); (try simp only [Act.put, List.setIfInBounds_toArray, List.set_cons_zero, List.set_cons_succ, List.getElem_toArray, List.getElem_cons_zero, List.getElem_cons_succ]))
  (refine wpAnyH_ready (rs := [6]) (by kernel_rfl) (by simp) ?_; refine AllReadyH.cons rfl (fun K hK => ?_) AllReadyH.nil; go_simp; refine HT.out.mono ?_; rintro e w1 ⟨v1, M1, rfl, hM1, hO1, hB1, hP1, hC1⟩; refine hK.out _ _ ?_ (fun hHeldN => ?_); (focus ((try dsimp only); (exact HCELL.out _ _ _ _ (AS.call HS.out hP1 hC1)))); clear hK K hHeld; have hHeld := hHeldN; clear hHeldN; (try simp only [Act.put, List.setIfInBounds_toArray, List.set_cons_zero, List.set_cons_succ, List.getElem_toArray, List.getElem_cons_zero, List.getElem_cons_succ]))
  have HS1 := Lib.hid (AS.call HS.out hP1 hC1)
  have HO1 := Lib.hid hO1
  have HB1 := Lib.hid hB1
  have HM1 : Hid (M1.map (·.1) = tickL (τ.s false)) := hM1
  have HL1 : Hid (M1.length ≤ 1000000 - 20000) := by
    have h1 := map_len hM1
    have h2 := tickL_le (HI.out.o false)
    show _ ≤ _
    omega
  have HW1 : Hid (w0.heap.size ≤ w1.heap.size) := Nat.le_trans HB0.out hC1.size
  clear hM1 hO1 hB1 hP1 hC1 HT
  have HR : Hid (∀ ty, ∃ v' w', (Builtin.append_ #[88, 88] ty #[.slice va vn vc, v1]).run Try.prog w1 = .ok v' w' ∧ OwnS w' w0.heap.size v' (M0 ++ M1) ∧ w1.grownBy w' (Value.slice va vn vc).ownBlock ∧ ∀ g, v'.ownBlock = some g → (Value.slice va vn vc).ownBlock = some g ∨ w1.heap.size ≤ g) := fun ty =>
    run_appO w1 w0.heap.size _ ty _ _ M0 M1 HS1.out.o HO1.out (fun x hx => bod_cell (HB1.out x hx)) (by have := HL0.out; have := HL1.out; omega) HW1.out
  (refine wpAnyH_ready (rs := [7]) (by kernel_rfl) (by simp) ?_; refine AllReadyH.cons rfl (fun K hK => ?_) AllReadyH.nil; refine step_appG rfl (.tmp 249) (.tmp 253) _ _ rfl _ _ _ rfl rfl HR.out ?_; rintro v2 w2 ⟨hO2, hg2, hf2⟩; refine hK.out _ _ ?_ (fun hHeldN => ?_); (focus ((try dsimp only); (exact HCELL.out _ _ _ _ (AS.app HS1.out hO2 hg2 hf2 HB1.out)))); clear hK K hHeld; have hHeld := hHeldN; clear hHeldN; (try simp only [Act.put, List.setIfInBounds_toArray, List.set_cons_zero, List.set_cons_succ, List.getElem_toArray, List.getElem_cons_zero, List.getElem_cons_succ]))
  have HS2 := Lib.hid (AS.app HS1.out hO2 hg2 hf2 HB1.out)
  have HT2 := Lib.hid (dueC HS2.out.p (tickM_ok (HI.out.o false)) (fun k hk => Nat.lt_of_lt_of_le (HH0.out.xl k hk) HS2.out.c.size))
  clear hO2 hg2 hf2 HR
  (refine wpAnyH_ready (rs := [11]) (by kernel_rfl) (by simp) ?_; refine AllReadyH.cons rfl (fun K hK => ?_) AllReadyH.nil; go_simp; refine HT2.out.mono ?_; rintro e w3 ⟨v3, M2, rfl, hM2, hO3, hB3, hP3, hC3⟩; refine hK.out _ _ ?_ (fun hHeldN => ?_); (focus ((try dsimp only); (exact HCELL.out _ _ _ _ (AS.call HS2.out hP3 hC3)))); clear hK K hHeld; have hHeld := hHeldN; clear hHeldN; (try simp only [Act.put, List.setIfInBounds_toArray, List.set_cons_zero, List.set_cons_succ, List.getElem_toArray, List.getElem_cons_zero, List.getElem_cons_succ]))
  have HS3 := Lib.hid (AS.call HS2.out hP3 hC3)
  have HO3 := Lib.hid hO3
  have HB3 := Lib.hid hB3
  have HM2 : Hid (M2.map (·.1) = dueL (tickM (τ.s false))) := hM2
  have HL2 : Hid (M2.length ≤ 8) := by
    have h1 := map_len hM2
    have h2 := dueL_le (tickM_ok (HI.out.o false))
    show _ ≤ _
    omega
  have HL1' : Hid (M1.length ≤ 8) := by
    have h1 := map_len HM1.out
    have h2 := tickL_le (HI.out.o false)
    show _ ≤ _
    omega
  have HW3 : Hid (w0.heap.size ≤ w3.heap.size) := Nat.le_trans HB0.out HS3.out.c.size
  clear hM2 hO3 hB3 hP3 hC3 HT2
  have HR3 : Hid (∀ ty, ∃ v' w', (Builtin.append_ #[88, 88] ty #[v2, v3]).run Try.prog w3 = .ok v' w' ∧ OwnS w' w0.heap.size v' ((M0 ++ M1) ++ M2) ∧ w3.grownBy w' v2.ownBlock ∧ ∀ g, v'.ownBlock = some g → v2.ownBlock = some g ∨ w3.heap.size ≤ g) := fun ty =>
    run_appO w3 w0.heap.size _ ty _ _ (M0 ++ M1) M2 HS3.out.o HO3.out (fun x hx => bod_cell (HB3.out x hx)) (by have := HL0.out; have := HL1'.out; have := HL2.out; simp; omega) HW3.out
  (refine wpAnyH_ready (rs := [12]) (by kernel_rfl) (by simp) ?_; refine AllReadyH.cons rfl (fun K hK => ?_) AllReadyH.nil; refine step_appG rfl (.tmp 254) (.tmp 258) _ _ rfl _ _ _ rfl rfl HR3.out ?_; rintro v4 w4 ⟨hO4, hg4, hf4⟩; refine hK.out _ _ ?_ (fun hHeldN => ?_); (focus ((try dsimp only); (exact HCELL.out _ _ _ _ (AS.app HS3.out hO4 hg4 hf4 HB3.out)))); clear hK K hHeld; have hHeld := hHeldN; clear hHeldN; (try simp only [Act.put, List.setIfInBounds_toArray, List.set_cons_zero, List.set_cons_succ, List.getElem_toArray, List.getElem_cons_zero, List.getElem_cons_succ]))
  have HS4 := Lib.hid (AS.app HS3.out hO4 hg4 hf4 HB3.out)
  (refine wpAnyH_take (i := 13) (v := ?_) rfl (by kernel_rfl) (by kernel_rfl) (by kernel_rfl) (fun _ _ _ h => hpan _ _ _ _ _ h) (Or.inl ⟨by rfl, ?_⟩) hHeld ?_; rotate_left; (focus (intro w hSw; (try dsimp only at hSw); go_simp; try with_reducible rfl)); (try simp only [Act.put, List.setIfInBounds_toArray, List.set_cons_zero, List.set_cons_succ, List.getElem_toArray, List.getElem_cons_zero, List.getElem_cons_succ]))
  refine wpAnyH_done (by kernel_rfl) ?_ _
  obtain ⟨a4, c4, rfl⟩ := hO4.form
  obtain ⟨L, hL⟩ : ∃ L, L = (M0 ++ M1) ++ M2 := ⟨_, rfl⟩
  rw [← hL] at HS4 ⊢
  have HLM : Hid (L.map (·.1) = τ.f false ++ stL (τ.s false)) := by
    show _ = _
    rw [hL, List.map_append, List.map_append, HM0.out, HM1.out, HM2.out, List.append_assoc]; rfl
  have HLL : Hid (L.length ≤ 10016) := by
    show _ ≤ _
    rw [hL]
    have := HL0.out; have := HL1'.out; have := HL2.out; simp; omega
  obtain ⟨ln, hln⟩ : ∃ ln, ln = L.length := ⟨_, rfl⟩
  rw [← hln] at HS4 ⊢
  have HLN : Hid (ln = L.length) := hln
  clear hO4 hg4 hf4 HR3 hL hln hHeld
  have g0 : (ln : Int) ≤ 1000000 := by have := HLN.out; have := HLL.out; omega
  have HFB := Lib.hid (HS4.out.cells HH0.out true).2
  have d1 := (HCELL.out _ _ _ _ HS4.out).2
  have hfz : ∀ j, w4.frozen? ⟨fb, j, none⟩ = false := fun j => BlkAt.frozen HFB.out j
  obtain ⟨w5, hw5⟩ : ∃ w5, w5 = w4.setCell ⟨fb, 0, none⟩ (.slice none 0 0) := ⟨_, rfl⟩
  have HC5 : Hid (Chg [fb] w4 w5) := by show Chg _ _ _; rw [hw5]; exact (Chg.refl _ _).set (by simp) _ _
  have HF5 : Hid (BlkAt 89 fb (pr2 (upB V false (.slice none 0 0))) w5) := by show BlkAt _ _ _ _; rw [hw5]; exact BlkAt.set HFB.out 0 _
  have HW5 : Hid (WM w0 P eb fb A (upB G false (G false)) X (upB V false (.slice none 0 0)) R (tkW false L 0 (outW τ false (stM (τ.s false)) [])) w5) :=
    HS4.out.stop HH0.out HF5.out HC5.out (OwnS.nil _ _) (fun x hx => by cases hx) (by simp [Value.ownBlock])
  have HO5 : Hid (OwnS w5 w0.heap.size (.slice a4 ln c4) L) := HC5.out.owns HS4.out.o (fun g hg => by
    have := ne_ty (own_ty HS4.out.o hg) (blk_ty HFB.out) (by decide)
    simpa using this)
  have HB5 : Hid (Bods w5 X L) := HS4.out.b.chg HC5.out (fun k hk => by simp at hk; subst hk; exact .inl (ty_noB (blk_ty HFB.out) (by decide)))
  have HI5 : Hid (WInv (outW τ false (stM (τ.s false)) []) N) := outW_st HI.out false
  have HA5 : Hid (∀ x ∈ L, Ad ((outW τ false (stM (τ.s false)) []).s false) ((outW τ false (stM (τ.s false)) []).x false) x.1) := by
    have : ∀ x ∈ L, Ad ((outW τ false (stM (τ.s false)) []).s false) ((outW τ false (stM (τ.s false)) []).x false) x.1 := fun x hx =>
      outW_ads HI.out false x.1 (by rw [← HLM.out]; exact List.mem_map_of_mem hx)
    exact this
  have HV5 := Lib.hid hw5
  clear hw5
  go_wp2_with fail
  rw [← HV5.out]
  clear d1 hfz
  refine wkLoop (σ := outW τ false (stM (τ.s false)) []) (N := N) (d := false) (L := L) _ _ _ _ _ _ _ _ _ _ _ _ _ _ _ _ _ _ _ _ _ _ _ _ _ _ _ _ _ _ _ _ _ _ _ _ _ _ _ _ _ _ _ _ _ _ _ _ _ _ _ _ _ _ _ _ _ _ _ _ _ _ _ _ _ _ _ _ _ _ _ _ _ _ _ _ _ _ _ _ _ _ _ _ _ _ _ _ _ _ _ _ _ _ _ _ _ _ _ _ _ _ _ _ _ _ _ _ _ _ _ _ _ _ _ _ _ _ _ _ _ _ _ _ _ _ _ _ _ _ _ _ _ _ _ _ _ _ _ _ _ _ _ _ _ _ _ _ _ _ _ _ _ _ _ _ _ _ _ _ _ _ _ _ _ _ _ _ _ _ _ _ _ _ _ _ _ _ _ _ _ _ _ _ _ _ _ _ _ _ _ _ _ _ _ _ _ _ _ _ _ _ _ _ _ _ _ _ _ _ _ _ _ _ _ _ _ _ _ _ _ _ _ _ _ _ _ _ _ _ _ _ _ _ _ _ _ _ _ _ _ _ _ _ _ _ _ _ _ _ _ _ _ _ _ _ _ _ _ _ _ _ _ _ _ _ _ _ _ _ _ _ _ _ _ _ _ _ _ _ _ _ _ _ _ _ _ HLN g0 HI5 HN HA5 _ _ _ _ _ _ _ _ _ _ _ _ _ _ _ _ ⟨0, _, _, _, Nat.zero_le _, rfl, HW5, HO5, HB5⟩ (fun a' w' hI hmu => ?_)
  unfold wkI at hI
  obtain ⟨z21, hI⟩ := hI
  obtain ⟨z262, hI⟩ := hI
  obtain ⟨z263, hI⟩ := hI
  obtain ⟨z264, hI⟩ := hI
  obtain ⟨z265, hI⟩ := hI
  obtain ⟨z266, hI⟩ := hI
  obtain ⟨z267, hI⟩ := hI
  obtain ⟨z268, hI⟩ := hI
  obtain ⟨z269, hI⟩ := hI
  obtain ⟨z270, hI⟩ := hI
  obtain ⟨z271, hI⟩ := hI
  obtain ⟨z272, hI⟩ := hI
  obtain ⟨z273, hI⟩ := hI
  obtain ⟨z274, hI⟩ := hI
  obtain ⟨z275, hI⟩ := hI
  obtain ⟨hrel, ha⟩ := hI
  subst ha
  obtain ⟨j, G6, X6, R6, hj, rfl, HW6, _, _⟩ := hrel
  have hj2 : j = ln := by simp [wkMu, intOf] at hmu; omega
  subst hj2
  have HW7 : Hid (WM w0 P eb fb A G6 X6 (upB V false (.slice none 0 0)) R6 (stW σ 1) w') := by
    have h := HW6.out
    rw [tkW_step HLM.out HLN.out, HST.out] at h
    exact h
  clear hmu HW6 HB5 HO5 HW5
  have e9 : ((dN false : Nat) : Int) = 0 := rfl
  rw [e9]
  go_wp2_with fail
  refine ⟨?_, ?_⟩
  · unfold rdI
    refine ⟨_, _, _, _, _, _, _, _, _, _, _, _, _, _, _, _, _, _, _, _, _, _, _, _, _, _, _, _, _, _, _, _, _, _, _, _, ?_, rfl⟩
    exact ⟨1, G6, X6, _, R6, by omega, by go_num, HW7⟩
  · simp [rdMu, intOf]

end Go.Proofs.Ytghaajmalhcgbaa

namespace Go.Proofs.Ytghaajmalhcgbaa
open Go.RowKit
attribute [local go_sem ↓] Go.wp_at_zero Go.wp_at_succ

set_option maxHeartbeats 16000000 in
set_option maxRecDepth 1000000 in
theorem rdCase_true {w0 wr : World} {P : Bool → Nat} {eb fb : Nat} {A G : Bool → Nat} {X : List Nat} {V : Bool → Value} {R : Bool → Bool → Value} {σ τ : Wn} {N : Nat} (HM : Hid (WM w0 P eb fb A G X V R τ wr)) (HI : Hid (WInv τ N)) (HN : Hid (N ≤ 1000)) (HF : Hid ((τ.f true).length ≤ 10000)) (HST : Hid (stepW τ true = stW σ 2)) (kk0 kk1 kk2 kk3 kk4 kk5 kk6 kk9 kk10 kk12 kk13 kk14 kk15 kk16 kk17 kk18 kk22 kk23 kk24 kk25 kk26 kk27 kk28 kk29 kk30 kk31 kk32 kk33 kk34 kk35 kk36 kk37 kk38 kk39 kk40 kk41 kk42 kk43 kk44 kk45 kk46 kk47 kk48 kk49 kk50 kk51 kk52 kk53 kk54 kk55 kk56 kk57 kk58 kk59 kk60 kk61 kk62 kk63 kk64 kk65 kk66 kk67 kk68 kk69 kk70 kk71 kk72 kk73 kk74 kk75 kk76 kk77 kk78 kk79 kk80 kk81 kk82 kk83 kk84 kk85 kk86 kk87 kk88 kk89 kk90 kk91 kk92 kk93 kk94 kk95 kk96 kk97 kk98 kk99 kk100 kk101 kk102 kk103 kk104 kk105 kk106 kk107 kk108 kk109 kk110 kk111 kk112 kk113 kk114 kk115 kk116 kk117 kk118 kk119 kk120 kk121 kk122 kk123 kk124 kk125 kk126 kk127 kk128 kk129 kk130 kk131 kk132 kk133 kk134 kk135 kk136 kk137 kk138 kk139 kk140 kk141 kk142 kk143 kk144 kk145 kk146 kk147 kk148 kk149 kk150 kk151 kk152 kk153 kk154 kk155 kk156 kk157 kk158 kk159 kk160 kk161 kk162 kk163 kk164 kk165 kk166 kk167 kk168 kk169 kk170 kk171 kk172 kk173 kk174 kk175 kk176 kk177 kk178 kk179 kk180 kk181 kk182 kk183 kk184 kk185 kk186 kk187 kk188 kk189 kk190 kk191 kk192 kk193 kk194 kk195 kk196 kk197 kk198 kk199 kk200 kk201 kk202 kk203 kk204 kk205 kk206 kk207 kk208 kk209 kk210 kk211 kk212 kk213 kk214 kk215 kk216 kk217 kk218 kk219 kk220 kk221 kk222 kk223 kk224 kk225 kk226 kk227 kk228 kk229 kk230 kk231 kk232 kk233 kk234 kk235 kk236 kk237 kk238 kk239 kk240 kk241 kk242 kk276 kk277 kk278 kk279 kk280 kk281 kk282 kk283 kk284 kk285 kk286 kk287 kk288 kk289 kk290 kk291 kk292 kk293 kk294 kk295 kk296 kk297 kk298 kk299 kk300 kk301 kk302 kk303 kk304 : Value) (u20 u21 u243 u244 u245 u246 u247 u248 u249 u250 u251 u252 u253 u254 u255 u256 u257 u258 u259 u260 u261 u262 u263 u264 u265 u266 u267 u268 u269 u270 u271 u272 u273 u274 u275 : Value) {Q0 : Exit → Act → World → Prop} (hpan : ∀ x (a : Act) (d : Option Nat) v w', Q0 (.panic x) (a.put d v) w' → Q0 (.panic x) a w') :
    Code.wp Try.prog rdBody (Exit.then (fun a' w'' => rdI w0 P eb fb A σ kk0 kk1 kk2 kk3 kk4 kk5 kk6 kk9 kk10 kk12 kk13 kk14 kk15 kk16 kk17 kk18 kk22 kk23 kk24 kk25 kk26 kk27 kk28 kk29 kk30 kk31 kk32 kk33 kk34 kk35 kk36 kk37 kk38 kk39 kk40 kk41 kk42 kk43 kk44 kk45 kk46 kk47 kk48 kk49 kk50 kk51 kk52 kk53 kk54 kk55 kk56 kk57 kk58 kk59 kk60 kk61 kk62 kk63 kk64 kk65 kk66 kk67 kk68 kk69 kk70 kk71 kk72 kk73 kk74 kk75 kk76 kk77 kk78 kk79 kk80 kk81 kk82 kk83 kk84 kk85 kk86 kk87 kk88 kk89 kk90 kk91 kk92 kk93 kk94 kk95 kk96 kk97 kk98 kk99 kk100 kk101 kk102 kk103 kk104 kk105 kk106 kk107 kk108 kk109 kk110 kk111 kk112 kk113 kk114 kk115 kk116 kk117 kk118 kk119 kk120 kk121 kk122 kk123 kk124 kk125 kk126 kk127 kk128 kk129 kk130 kk131 kk132 kk133 kk134 kk135 kk136 kk137 kk138 kk139 kk140 kk141 kk142 kk143 kk144 kk145 kk146 kk147 kk148 kk149 kk150 kk151 kk152 kk153 kk154 kk155 kk156 kk157 kk158 kk159 kk160 kk161 kk162 kk163 kk164 kk165 kk166 kk167 kk168 kk169 kk170 kk171 kk172 kk173 kk174 kk175 kk176 kk177 kk178 kk179 kk180 kk181 kk182 kk183 kk184 kk185 kk186 kk187 kk188 kk189 kk190 kk191 kk192 kk193 kk194 kk195 kk196 kk197 kk198 kk199 kk200 kk201 kk202 kk203 kk204 kk205 kk206 kk207 kk208 kk209 kk210 kk211 kk212 kk213 kk214 kk215 kk216 kk217 kk218 kk219 kk220 kk221 kk222 kk223 kk224 kk225 kk226 kk227 kk228 kk229 kk230 kk231 kk232 kk233 kk234 kk235 kk236 kk237 kk238 kk239 kk240 kk241 kk242 kk276 kk277 kk278 kk279 kk280 kk281 kk282 kk283 kk284 kk285 kk286 kk287 kk288 kk289 kk290 kk291 kk292 kk293 kk294 kk295 kk296 kk297 kk298 kk299 kk300 kk301 kk302 kk303 kk304 a' w'' ∧ rdMu 2 a' w'' < rdMu 2 ⟨#[kk0, kk1, kk2, kk3, kk4, kk5, kk6, .pointer (some ⟨eb, 0, none⟩), .pointer (some ⟨fb, 0, none⟩), kk9, kk10, .func (.func 28) #[] #[.pointer (some ⟨eb, 0, none⟩), .pointer (some ⟨A true, 0, none⟩)], kk12, kk13, kk14, kk15, kk16, kk17, kk18, .int .i64 1, u20, u21, kk22, kk23, kk24, kk25, kk26, kk27, kk28, kk29, kk30, kk31, kk32, kk33, kk34, kk35, kk36, kk37, kk38, kk39, kk40, kk41, kk42, kk43, kk44, kk45, kk46, kk47, kk48, kk49, kk50, kk51, kk52, kk53, kk54, kk55, kk56, kk57, kk58, kk59, kk60, kk61, kk62, kk63, kk64, kk65, kk66, kk67, kk68, kk69, kk70, kk71, kk72, kk73, kk74, kk75, kk76, kk77, kk78, kk79, kk80, kk81, kk82, kk83, kk84, kk85, kk86, kk87, kk88, kk89, kk90, kk91, kk92, kk93, kk94, kk95, kk96, kk97, kk98, kk99, kk100, kk101, kk102, kk103, kk104, kk105, kk106, kk107, kk108, kk109, kk110, kk111, kk112, kk113, kk114, kk115, kk116, kk117, kk118, kk119, kk120, kk121, kk122, kk123, kk124, kk125, kk126, kk127, kk128, kk129, kk130, kk131, kk132, kk133, kk134, kk135, kk136, kk137, kk138, kk139, kk140, kk141, kk142, kk143, kk144, kk145, kk146, kk147, kk148, kk149, kk150, kk151, kk152, kk153, kk154, kk155, kk156, kk157, kk158, kk159, kk160, kk161, kk162, kk163, kk164, kk165, kk166, kk167, kk168, kk169, kk170, kk171, kk172, kk173, kk174, kk175, kk176, kk177, kk178, kk179, kk180, kk181, kk182, kk183, kk184, kk185, kk186, kk187, kk188, kk189, kk190, kk191, kk192, kk193, kk194, kk195, kk196, kk197, kk198, kk199, kk200, kk201, kk202, kk203, kk204, kk205, kk206, kk207, kk208, kk209, kk210, kk211, kk212, kk213, kk214, kk215, kk216, kk217, kk218, kk219, kk220, kk221, kk222, kk223, kk224, kk225, kk226, kk227, kk228, kk229, kk230, kk231, kk232, kk233, kk234, kk235, kk236, kk237, kk238, kk239, kk240, kk241, kk242, u243, u244, u245, u246, u247, u248, u249, u250, u251, u252, u253, u254, u255, u256, u257, u258, u259, u260, u261, u262, u263, u264, u265, u266, u267, u268, u269, u270, u271, u272, u273, u274, u275, kk276, kk277, kk278, kk279, kk280, kk281, kk282, kk283, kk284, kk285, kk286, kk287, kk288, kk289, kk290, kk291, kk292, kk293, kk294, kk295, kk296, kk297, kk298, kk299, kk300, kk301, kk302, kk303, kk304], []⟩ wr) Q0) ⟨#[kk0, kk1, kk2, kk3, kk4, kk5, kk6, .pointer (some ⟨eb, 0, none⟩), .pointer (some ⟨fb, 0, none⟩), kk9, kk10, .func (.func 28) #[] #[.pointer (some ⟨eb, 0, none⟩), .pointer (some ⟨A true, 0, none⟩)], kk12, kk13, kk14, kk15, kk16, kk17, kk18, .int .i64 1, u20, u21, kk22, kk23, kk24, kk25, kk26, kk27, kk28, kk29, kk30, kk31, kk32, kk33, kk34, kk35, kk36, kk37, kk38, kk39, kk40, kk41, kk42, kk43, kk44, kk45, kk46, kk47, kk48, kk49, kk50, kk51, kk52, kk53, kk54, kk55, kk56, kk57, kk58, kk59, kk60, kk61, kk62, kk63, kk64, kk65, kk66, kk67, kk68, kk69, kk70, kk71, kk72, kk73, kk74, kk75, kk76, kk77, kk78, kk79, kk80, kk81, kk82, kk83, kk84, kk85, kk86, kk87, kk88, kk89, kk90, kk91, kk92, kk93, kk94, kk95, kk96, kk97, kk98, kk99, kk100, kk101, kk102, kk103, kk104, kk105, kk106, kk107, kk108, kk109, kk110, kk111, kk112, kk113, kk114, kk115, kk116, kk117, kk118, kk119, kk120, kk121, kk122, kk123, kk124, kk125, kk126, kk127, kk128, kk129, kk130, kk131, kk132, kk133, kk134, kk135, kk136, kk137, kk138, kk139, kk140, kk141, kk142, kk143, kk144, kk145, kk146, kk147, kk148, kk149, kk150, kk151, kk152, kk153, kk154, kk155, kk156, kk157, kk158, kk159, kk160, kk161, kk162, kk163, kk164, kk165, kk166, kk167, kk168, kk169, kk170, kk171, kk172, kk173, kk174, kk175, kk176, kk177, kk178, kk179, kk180, kk181, kk182, kk183, kk184, kk185, kk186, kk187, kk188, kk189, kk190, kk191, kk192, kk193, kk194, kk195, kk196, kk197, kk198, kk199, kk200, kk201, kk202, kk203, kk204, kk205, kk206, kk207, kk208, kk209, kk210, kk211, kk212, kk213, kk214, kk215, kk216, kk217, kk218, kk219, kk220, kk221, kk222, kk223, kk224, kk225, kk226, kk227, kk228, kk229, kk230, kk231, kk232, kk233, kk234, kk235, kk236, kk237, kk238, kk239, kk240, kk241, kk242, u243, u244, u245, u246, u247, u248, u249, u250, u251, u252, u253, u254, u255, u256, u257, u258, u259, u260, u261, u262, u263, u264, u265, u266, u267, u268, u269, u270, u271, u272, u273, u274, u275, kk276, kk277, kk278, kk279, kk280, kk281, kk282, kk283, kk284, kk285, kk286, kk287, kk288, kk289, kk290, kk291, kk292, kk293, kk294, kk295, kk296, kk297, kk298, kk299, kk300, kk301, kk302, kk303, kk304], []⟩ wr := by
  have h0 := HM.out.later (Below.refl _ _).drew
  obtain ⟨M0, hM0, hO0, hB0⟩ := h0.fm true
  have hS := AS.start h0 hO0 hB0
  obtain ⟨va, vc, hvf⟩ := hO0.form
  obtain ⟨vn, hvn⟩ : ∃ vn, vn = M0.length := ⟨_, rfl⟩
  rw [← hvn] at hvf
  rw [hvf] at hS
  have HS := Lib.hid hS
  have HH0 := Lib.hid h0
  have HCELL : Hid (∀ s v M w, AS w0 P G X V true wr.drew s v M w → w.cell? ⟨eb, 1, none⟩ = some (.pointer (some ⟨P true, 0, none⟩)) ∧ w.cell? ⟨fb, 1, none⟩ = some (.slice va vn vc)) := by
    have : ∀ s v M w, AS w0 P G X V true wr.drew s v M w → w.cell? ⟨eb, 1, none⟩ = some (.pointer (some ⟨P true, 0, none⟩)) ∧ w.cell? ⟨fb, 1, none⟩ = some (.slice va vn vc) := fun s v M w h => by
      obtain ⟨a1, a2⟩ := h.cells HH0.out true
      rw [← hvf]
      exact ⟨a1.cell (j := 1) rfl, a2.cell (j := 1) rfl⟩
    exact this
  have HM0 : Hid (M0.map (·.1) = τ.f true) := hM0
  have HL0 : Hid (M0.length ≤ 10000) := by
    have := HF.out
    rw [← hM0, List.length_map] at this
    exact this
  have HT := Lib.hid (tickC (h0.s true) (HI.out.o true) h0.xl)
  have HB0 : Hid (w0.heap.size ≤ wr.drew.heap.size) := h0.bel.size
  have HC0 := Lib.hid (HCELL.out _ _ _ _ hS)
  clear h0 hM0 hO0 hB0 hS hvf hvn
  conv => arg 2; whnf
  go_wp2_with fail
  (refine wp_region_held_drew (S := (fun w' => w'.cell? ⟨eb, 1, none⟩ = some (.pointer (some ⟨P true, 0, none⟩)) ∧ w'.cell? ⟨fb, 1, none⟩ = some (.slice va vn vc))) (by kernel_rfl) ?_ (fun hHeld => ?_); (focus ((try dsimp only); (exact HC0.out))))
  (try dsimp only at hHeld)
  (refine wpAnyH_take (i := 0) (v := ?_) rfl (by kernel_rfl) (by kernel_rfl) (by kernel_rfl) (fun _ _ _ h => hpan _ _ _ _ _ h) (Or.inl ⟨by rfl, ?_⟩) hHeld ?_; rotate_left; (focus (intro w hSw; (try dsimp only at hSw); go_simp; try with_reducible rfl)); (try simp only [Act.put, List.setIfInBounds_toArray, List.set_cons_zero, List.set_cons_succ, List.getElem_toArray, List.getElem_cons_zero])); (refine wpAnyH_take (i := 1) (v := ?_) rfl (by kernel_rfl) (by kernel_rfl) (by kernel_rfl) (fun _ _ _ h => hpan _ _ _ _ _ h) (Or.inl ⟨by rfl, ?_⟩) hHeld ?_; rotate_left; (focus (intro w hSw; (try dsimp only at hSw); go_simp; try with_reducible rfl)); (try simp only [Act.put, List.setIfInBounds_toArray, List.set_cons_zero, List.set_cons_succ, List.getElem_toArray, List.getElem_cons_zero, List.getElem_cons_succ]))
  (refine wpAnyH_take (i := 2) (v := ?_) rfl (by kernel_rfl) (by kernel_rfl) (by kernel_rfl) (fun _ _ _ h => hpan _ _ _ _ _ h) (Or.inl ⟨by rfl, ?_⟩) hHeld ?_; rotate_left; (focus (intro w hSw; (try dsimp only at hSw); go_simp; (have cc := hSw.2; go_simp; try with_reducible rfl))); (try simp only [Act.put, List.setIfInBounds_toArray, List.set_cons_zero, List.set_cons_succ, List.getElem_toArray, List.getElem_cons_zero, List.getElem_cons_succ]))
  (refine wpAnyH_take (i := 3) (v := ?_) rfl (by kernel_rfl) (by kernel_rfl) (by kernel_rfl) (fun _ _ _ h => hpan _ _ _ _ _ h) (Or.inl ⟨by rfl, ?_⟩) hHeld ?_; rotate_left; (focus (intro w hSw; (try dsimp only at hSw); go_simp; try with_reducible rfl)); (try simp only [Act.put, List.setIfInBounds_toArray, List.set_cons_zero, List.set_cons_succ, List.getElem_toArray, List.getElem_cons_zero, List.getElem_cons_succ])); (refine wpAnyH_take (i := 4) (v := ?_) rfl (by kernel_rfl) (by kernel_rfl) (by kernel_rfl) (fun _ _ _ h => hpan _ _ _ _ _ h) (Or.inl ⟨by rfl, ?_⟩) hHeld ?_; rotate_left; (focus (intro w hSw; (try dsimp only at hSw); go_simp; try with_reducible rfl)); (try simp only [Act.put, List.setIfInBounds_toArray, List.set_cons_zero, List.set_cons_succ, List.getElem_toArray, List.getElem_cons_zero, List.getElem_cons_succ]))
  (refine wpAnyH_take (i := 5) (v := ?_) rfl (by kernel_rfl) (by kernel_rfl) (by kernel_rfl) (fun _ _ _ h => hpan _ _ _ _ _ h) (Or.inl ⟨by rfl, ?_⟩) hHeld ?_; rotate_left; (focus (intro w hSw; (try dsimp only at hSw); go_simp; (have cc := hSw.1; go_simp; try with_reducible rfl))); (try simp only [Act.put, List.setIfInBounds_toArray, List.set_cons_zero, List.set_cons_succ, List.getElem_toArray, List.getElem_cons_zero, List.getElem_cons_succ]))
  (refine wpAnyH_take (i := 8) (v := ?_) rfl (by kernel_rfl) (by kernel_rfl) (by kernel_rfl) (fun _ _ _ h => hpan _ _ _ _ _ h) (Or.inl ⟨by rfl, ?_⟩) hHeld ?_; rotate_left; (focus (intro w hSw; (try dsimp only at hSw); go_simp; try with_reducible rfl)); (try simp only [Act.put, List.setIfInBounds_toArray, List.set_cons_zero, List.set_cons_succ, List.getElem_toArray, List.getElem_cons_zero, List.getElem_cons_succ])); (refine wpAnyH_take (i := 9) (v := ?_) rfl (by kernel_rfl) (by kernel_rfl) (by kernel_rfl) (fun _ _ _ h => hpan _ _ _ _ _ h) (Or.inl ⟨by rfl, ?_⟩) hHeld ?_; rotate_left; (focus (intro w hSw; (try dsimp only at hSw); go_simp; try with_reducible rfl)); (try simp only [Act.put, List.setIfInBounds_toArray, List.set_cons_zero, List.set_cons_succ, List.getElem_toArray, List.getElem_cons_zero, List.getElem_cons_succ]))
  (refine wpAnyH_take (i := 10) (v := ?_) rfl (by kernel_rfl) (by kernel_rfl) (by kernel_rfl) (fun _ _ _ h => hpan _ _ _ _ _ h) (Or.inl ⟨by rfl, ?_⟩) hHeld ?_; rotate_left; (focus (intro w hSw; (try dsimp only at hSw); go_simp; (have cc := hSw.1; go_simp; try with_reducible rfl))); (try simp only [Act.put, List.setIfInBounds_toArray, List.set_cons_zero, List.set_cons_succ, List.getElem_toArray, List.getElem_cons_zero, List.getElem_cons_succ]))
  (refine wpAnyH_ready (rs := [6]) (by kernel_rfl) (by simp) ?_; refine AllReadyH.cons rfl (fun K hK => ?_) AllReadyH.nil; go_simp; refine HT.out.mono ?_; rintro e w1 ⟨v1, M1, rfl, hM1, hO1, hB1, hP1, hC1⟩; refine hK.out _ _ ?_ (fun hHeldN => ?_); (focus ((try dsimp only); (exact HCELL.out _ _ _ _ (AS.call HS.out hP1 hC1)))); clear hK K hHeld; have hHeld := hHeldN; clear hHeldN; (try simp only [Act.put, List.setIfInBounds_toArray, List.set_cons_zero, List.set_cons_succ, List.getElem_toArray, List.getElem_cons_zero, List.getElem_cons_succ]))
  have HS1 := Lib.hid (AS.call HS.out hP1 hC1)
  have HO1 := Lib.hid hO1
  have HB1 := Lib.hid hB1
  have HM1 : Hid (M1.map (·.1) = tickL (τ.s true)) := hM1
  have HL1 : Hid (M1.length ≤ 1000000 - 20000) := by
    have h1 := map_len hM1
    have h2 := tickL_le (HI.out.o true)
    show _ ≤ _
    omega
  have HW1 : Hid (w0.heap.size ≤ w1.heap.size) := Nat.le_trans HB0.out hC1.size
  clear hM1 hO1 hB1 hP1 hC1 HT
  have HR : Hid (∀ ty, ∃ v' w', (Builtin.append_ #[88, 88] ty #[.slice va vn vc, v1]).run Try.prog w1 = .ok v' w' ∧ OwnS w' w0.heap.size v' (M0 ++ M1) ∧ w1.grownBy w' (Value.slice va vn vc).ownBlock ∧ ∀ g, v'.ownBlock = some g → (Value.slice va vn vc).ownBlock = some g ∨ w1.heap.size ≤ g) := fun ty =>
    run_appO w1 w0.heap.size _ ty _ _ M0 M1 HS1.out.o HO1.out (fun x hx => bod_cell (HB1.out x hx)) (by have := HL0.out; have := HL1.out; omega) HW1.out
  (refine wpAnyH_ready (rs := [7]) (by kernel_rfl) (by simp) ?_; refine AllReadyH.cons rfl (fun K hK => ?_) AllReadyH.nil; refine step_appG rfl (.tmp 249) (.tmp 253) _ _ rfl _ _ _ rfl rfl HR.out ?_; rintro v2 w2 ⟨hO2, hg2, hf2⟩; refine hK.out _ _ ?_ (fun hHeldN => ?_); (focus ((try dsimp only); (exact HCELL.out _ _ _ _ (AS.app HS1.out hO2 hg2 hf2 HB1.out)))); clear hK K hHeld; have hHeld := hHeldN; clear hHeldN; (try simp only [Act.put, List.setIfInBounds_toArray, List.set_cons_zero, List.set_cons_succ, List.getElem_toArray, List.getElem_cons_zero, List.getElem_cons_succ]))
  have HS2 := Lib.hid (AS.app HS1.out hO2 hg2 hf2 HB1.out)
  have HT2 := Lib.hid (dueC HS2.out.p (tickM_ok (HI.out.o true)) (fun k hk => Nat.lt_of_lt_of_le (HH0.out.xl k hk) HS2.out.c.size))
  clear hO2 hg2 hf2 HR
  (refine wpAnyH_ready (rs := [11]) (by kernel_rfl) (by simp) ?_; refine AllReadyH.cons rfl (fun K hK => ?_) AllReadyH.nil; go_simp; refine HT2.out.mono ?_; rintro e w3 ⟨v3, M2, rfl, hM2, hO3, hB3, hP3, hC3⟩; refine hK.out _ _ ?_ (fun hHeldN => ?_); (focus ((try dsimp only); (exact HCELL.out _ _ _ _ (AS.call HS2.out hP3 hC3)))); clear hK K hHeld; have hHeld := hHeldN; clear hHeldN; (try simp only [Act.put, List.setIfInBounds_toArray, List.set_cons_zero, List.set_cons_succ, List.getElem_toArray, List.getElem_cons_zero, List.getElem_cons_succ]))
  have HS3 := Lib.hid (AS.call HS2.out hP3 hC3)
  have HO3 := Lib.hid hO3
  have HB3 := Lib.hid hB3
  have HM2 : Hid (M2.map (·.1) = dueL (tickM (τ.s true))) := hM2
  have HL2 : Hid (M2.length ≤ 8) := by
    have h1 := map_len hM2
    have h2 := dueL_le (tickM_ok (HI.out.o true))
    show _ ≤ _
    omega
  have HL1' : Hid (M1.length ≤ 8) := by
    have h1 := map_len HM1.out
    have h2 := tickL_le (HI.out.o true)
    show _ ≤ _
    omega
  have HW3 : Hid (w0.heap.size ≤ w3.heap.size) := Nat.le_trans HB0.out HS3.out.c.size
  clear hM2 hO3 hB3 hP3 hC3 HT2
  have HR3 : Hid (∀ ty, ∃ v' w', (Builtin.append_ #[88, 88] ty #[v2, v3]).run Try.prog w3 = .ok v' w' ∧ OwnS w' w0.heap.size v' ((M0 ++ M1) ++ M2) ∧ w3.grownBy w' v2.ownBlock ∧ ∀ g, v'.ownBlock = some g → v2.ownBlock = some g ∨ w3.heap.size ≤ g) := fun ty =>
    run_appO w3 w0.heap.size _ ty _ _ (M0 ++ M1) M2 HS3.out.o HO3.out (fun x hx => bod_cell (HB3.out x hx)) (by have := HL0.out; have := HL1'.out; have := HL2.out; simp; omega) HW3.out
  (refine wpAnyH_ready (rs := [12]) (by kernel_rfl) (by simp) ?_; refine AllReadyH.cons rfl (fun K hK => ?_) AllReadyH.nil; refine step_appG rfl (.tmp 254) (.tmp 258) _ _ rfl _ _ _ rfl rfl HR3.out ?_; rintro v4 w4 ⟨hO4, hg4, hf4⟩; refine hK.out _ _ ?_ (fun hHeldN => ?_); (focus ((try dsimp only); (exact HCELL.out _ _ _ _ (AS.app HS3.out hO4 hg4 hf4 HB3.out)))); clear hK K hHeld; have hHeld := hHeldN; clear hHeldN; (try simp only [Act.put, List.setIfInBounds_toArray, List.set_cons_zero, List.set_cons_succ, List.getElem_toArray, List.getElem_cons_zero, List.getElem_cons_succ]))
  have HS4 := Lib.hid (AS.app HS3.out hO4 hg4 hf4 HB3.out)
  (refine wpAnyH_take (i := 13) (v := ?_) rfl (by kernel_rfl) (by kernel_rfl) (by kernel_rfl) (fun _ _ _ h => hpan _ _ _ _ _ h) (Or.inl ⟨by rfl, ?_⟩) hHeld ?_; rotate_left; (focus (intro w hSw; (try dsimp only at hSw); go_simp; try with_reducible rfl)); (try simp only [Act.put, List.setIfInBounds_toArray, List.set_cons_zero, List.set_cons_succ, List.getElem_toArray, List.getElem_cons_zero, List.getElem_cons_succ]))
  refine wpAnyH_done (by kernel_rfl) ?_ _
  obtain ⟨a4, c4, rfl⟩ := hO4.form
  obtain ⟨L, hL⟩ : ∃ L, L = (M0 ++ M1) ++ M2 := ⟨_, rfl⟩
  rw [← hL] at HS4 ⊢
  have HLM : Hid (L.map (·.1) = τ.f true ++ stL (τ.s true)) := by
    show _ = _
    rw [hL, List.map_append, List.map_append, HM0.out, HM1.out, HM2.out, List.append_assoc]; rfl
  have HLL : Hid (L.length ≤ 10016) := by
    show _ ≤ _
    rw [hL]
    have := HL0.out; have := HL1'.out; have := HL2.out; simp; omega
  obtain ⟨ln, hln⟩ : ∃ ln, ln = L.length := ⟨_, rfl⟩
  rw [← hln] at HS4 ⊢
  have HLN : Hid (ln = L.length) := hln
  clear hO4 hg4 hf4 HR3 hL hln hHeld
  have g0 : (ln : Int) ≤ 1000000 := by have := HLN.out; have := HLL.out; omega
  have HFB := Lib.hid (HS4.out.cells HH0.out true).2
  have d1 := (HCELL.out _ _ _ _ HS4.out).2
  have hfz : ∀ j, w4.frozen? ⟨fb, j, none⟩ = false := fun j => BlkAt.frozen HFB.out j
  obtain ⟨w5, hw5⟩ : ∃ w5, w5 = w4.setCell ⟨fb, 1, none⟩ (.slice none 0 0) := ⟨_, rfl⟩
  have HC5 : Hid (Chg [fb] w4 w5) := by show Chg _ _ _; rw [hw5]; exact (Chg.refl _ _).set (by simp) _ _
  have HF5 : Hid (BlkAt 89 fb (pr2 (upB V true (.slice none 0 0))) w5) := by show BlkAt _ _ _ _; rw [hw5]; exact BlkAt.set HFB.out 1 _
  have HW5 : Hid (WM w0 P eb fb A (upB G true (G true)) X (upB V true (.slice none 0 0)) R (tkW true L 0 (outW τ true (stM (τ.s true)) [])) w5) :=
    HS4.out.stop HH0.out HF5.out HC5.out (OwnS.nil _ _) (fun x hx => by cases hx) (by simp [Value.ownBlock])
  have HO5 : Hid (OwnS w5 w0.heap.size (.slice a4 ln c4) L) := HC5.out.owns HS4.out.o (fun g hg => by
    have := ne_ty (own_ty HS4.out.o hg) (blk_ty HFB.out) (by decide)
    simpa using this)
  have HB5 : Hid (Bods w5 X L) := HS4.out.b.chg HC5.out (fun k hk => by simp at hk; subst hk; exact .inl (ty_noB (blk_ty HFB.out) (by decide)))
  have HI5 : Hid (WInv (outW τ true (stM (τ.s true)) []) N) := outW_st HI.out true
  have HA5 : Hid (∀ x ∈ L, Ad ((outW τ true (stM (τ.s true)) []).s true) ((outW τ true (stM (τ.s true)) []).x true) x.1) := by
    have : ∀ x ∈ L, Ad ((outW τ true (stM (τ.s true)) []).s true) ((outW τ true (stM (τ.s true)) []).x true) x.1 := fun x hx =>
      outW_ads HI.out true x.1 (by rw [← HLM.out]; exact List.mem_map_of_mem hx)
    exact this
  have HV5 := Lib.hid hw5
  clear hw5
  go_wp2_with fail
  rw [← HV5.out]
  clear d1 hfz
  refine wkLoop (σ := outW τ true (stM (τ.s true)) []) (N := N) (d := true) (L := L) _ _ _ _ _ _ _ _ _ _ _ _ _ _ _ _ _ _ _ _ _ _ _ _ _ _ _ _ _ _ _ _ _ _ _ _ _ _ _ _ _ _ _ _ _ _ _ _ _ _ _ _ _ _ _ _ _ _ _ _ _ _ _ _ _ _ _ _ _ _ _ _ _ _ _ _ _ _ _ _ _ _ _ _ _ _ _ _ _ _ _ _ _ _ _ _ _ _ _ _ _ _ _ _ _ _ _ _ _ _ _ _ _ _ _ _ _ _ _ _ _ _ _ _ _ _ _ _ _ _ _ _ _ _ _ _ _ _ _ _ _ _ _ _ _ _ _ _ _ _ _ _ _ _ _ _ _ _ _ _ _ _ _ _ _ _ _ _ _ _ _ _ _ _ _ _ _ _ _ _ _ _ _ _ _ _ _ _ _ _ _ _ _ _ _ _ _ _ _ _ _ _ _ _ _ _ _ _ _ _ _ _ _ _ _ _ _ _ _ _ _ _ _ _ _ _ _ _ _ _ _ _ _ _ _ _ _ _ _ _ _ _ _ _ _ _ _ _ _ _ _ _ _ _ _ _ _ _ _ _ _ _ _ _ _ _ _ _ _ _ _ _ _ _ _ _ _ _ _ _ _ _ _ _ _ _ _ HLN g0 HI5 HN HA5 _ _ _ _ _ _ _ _ _ _ _ _ _ _ _ _ ⟨0, _, _, _, Nat.zero_le _, rfl, HW5, HO5, HB5⟩ (fun a' w' hI hmu => ?_)
  unfold wkI at hI
  obtain ⟨z21, hI⟩ := hI
  obtain ⟨z262, hI⟩ := hI
  obtain ⟨z263, hI⟩ := hI
  obtain ⟨z264, hI⟩ := hI
  obtain ⟨z265, hI⟩ := hI
  obtain ⟨z266, hI⟩ := hI
  obtain ⟨z267, hI⟩ := hI
  obtain ⟨z268, hI⟩ := hI
  obtain ⟨z269, hI⟩ := hI
  obtain ⟨z270, hI⟩ := hI
  obtain ⟨z271, hI⟩ := hI
  obtain ⟨z272, hI⟩ := hI
  obtain ⟨z273, hI⟩ := hI
  obtain ⟨z274, hI⟩ := hI
  obtain ⟨z275, hI⟩ := hI
  obtain ⟨hrel, ha⟩ := hI
  subst ha
  obtain ⟨j, G6, X6, R6, hj, rfl, HW6, _, _⟩ := hrel
  have hj2 : j = ln := by simp [wkMu, intOf] at hmu; omega
  subst hj2
  have HW7 : Hid (WM w0 P eb fb A G6 X6 (upB V true (.slice none 0 0)) R6 (stW σ 2) w') := by
    have h := HW6.out
    rw [tkW_step HLM.out HLN.out, HST.out] at h
    exact h
  clear hmu HW6 HB5 HO5 HW5
  have e9 : ((dN true : Nat) : Int) = 1 := rfl
  rw [e9]
  go_wp2_with fail
  refine ⟨?_, ?_⟩
  · unfold rdI
    refine ⟨_, _, _, _, _, _, _, _, _, _, _, _, _, _, _, _, _, _, _, _, _, _, _, _, _, _, _, _, _, _, _, _, _, _, _, _, ?_, rfl⟩
    exact ⟨2, G6, X6, _, R6, by omega, by go_num, HW7⟩
  · simp [rdMu, intOf]

end Go.Proofs.Ytghaajmalhcgbaa
