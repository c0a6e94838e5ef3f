/- Arguments that are bytes, and lists of bytes, opened.
   RelWhole: both ends hear, the invariant.
   The chapter's rows: known.
   An end's stream and a slice that begins with what flies from it, while an order is under way.
   One end's stream and what flies from it change at once; append of owned segments.
   RelWhole: all that is told comes. -/
import Derived.ProofKit
import Derived.OpenShut
import Derived.Deep.Matrix
import Derived.Test.YtghaajmalhcgbaaZ01
import Derived.Test.YtghaajmalhcgbaaZ02
import Derived.Test.YtghaajmalhcgbaaZ05
import Derived.Test.YtghaajmalhcgbaaZ06
import Derived.Test.YtghaajmalhcgbaaZ07

set_option linter.unusedSimpArgs false
set_option linter.unusedVariables false
namespace Go.Proofs.Ytghaajmalhcgbaa
open Go.RowKit
attribute [local go_sem ↓] Go.wp_at_zero Go.wp_at_succ

def tkW (d : Bool) (L : List (Sg × Value)) (j : Nat) (σ : Wn) : Wn := ((L.map (·.1)).take j).foldl (fun τ g => takeW τ d g) σ
theorem tkW_succ (d : Bool) (L : List (Sg × Value)) (j : Nat) (σ : Wn) (x : Sg × Value) (h : L[j]? = some x) : tkW d L (j + 1) σ = takeW (tkW d L j σ) d x.1 := by
  unfold tkW
  have hj := (List.getElem?_eq_some_iff.1 h)
  obtain ⟨hl, he⟩ := hj
  rw [List.take_succ_eq_append_getElem (by simpa using hl), List.foldl_append]
  simp [he]
theorem tkW_facts {σ : Wn} {N : Nat} (d : Bool) (L : List (Sg × Value)) (j : Nat) (h : WInv σ N) (ha : ∀ x ∈ L, Ad (σ.s d) (σ.x d) x.1) : WInv (tkW d L j σ) N ∧ ∀ x ∈ L, Ad ((tkW d L j σ).s d) ((tkW d L j σ).x d) x.1 := by
  have hm : ∀ g ∈ (L.map (·.1)).take j, Ad (σ.s d) (σ.x d) g := fun g hg => by
    obtain ⟨x, hx, rfl⟩ := List.mem_map.1 (List.mem_of_mem_take hg)
    exact ha x hx
  obtain ⟨e1, _, _, e4⟩ := fold_takeW d ((L.map (·.1)).take j) σ
  refine ⟨fold_inv d _ σ h hm, fun x hx => ?_⟩
  unfold tkW
  rw [e1, e4]
  exact ha x hx
def WkR (w0 : World) (P : Bool → Nat) (eb fb : Nat) (A : Bool → Nat) (V : Bool → Value) (σ : Wn) (d : Bool) (L : List (Sg × Value)) (a0 : Option Addr) (ln c0 : Nat) (x : Value) (wr : World) : Prop :=
  ∃ (j : Nat) (G : Bool → Nat) (X : List Nat) (R : Bool → Bool → Value), j ≤ ln ∧ x = .int .i64 j ∧ Hid (WM w0 P eb fb A G X V R (tkW d L j σ) wr) ∧ Hid (OwnS wr w0.heap.size (.slice a0 ln c0) L) ∧ Hid (Bods wr X L)
noncomputable def wkBody : Code := ((((Try.f10.body.map loops).getD [])[4]?).getD .skip)
set_option maxRecDepth 1000000 in
def wkI (w0 : World) (P : Bool → Nat) (eb fb : Nat) (A : Bool → Nat) (V : Bool → Value) (σ : Wn) (d : Bool) (L : List (Sg × Value)) (a0 : Option Addr) (ln c0 : Nat) (kk0 kk1 kk2 kk3 kk4 kk5 kk6 kk7 kk8 kk9 kk10 kk12 kk13 kk14 kk15 kk16 kk17 kk18 kk22 kk23 kk24 kk25 kk26 kk27 kk28 kk29 kk30 kk31 kk32 kk33 kk34 kk35 kk36 kk37 kk38 kk39 kk40 kk41 kk42 kk43 kk44 kk45 kk46 kk47 kk48 kk49 kk50 kk51 kk52 kk53 kk54 kk55 kk56 kk57 kk58 kk59 kk60 kk61 kk62 kk63 kk64 kk65 kk66 kk67 kk68 kk69 kk70 kk71 kk72 kk73 kk74 kk75 kk76 kk77 kk78 kk79 kk80 kk81 kk82 kk83 kk84 kk85 kk86 kk87 kk88 kk89 kk90 kk91 kk92 kk93 kk94 kk95 kk96 kk97 kk98 kk99 kk100 kk101 kk102 kk103 kk104 kk105 kk106 kk107 kk108 kk109 kk110 kk111 kk112 kk113 kk114 kk115 kk116 kk117 kk118 kk119 kk120 kk121 kk122 kk123 kk124 kk125 kk126 kk127 kk128 kk129 kk130 kk131 kk132 kk133 kk134 kk135 kk136 kk137 kk138 kk139 kk140 kk141 kk142 kk143 kk144 kk145 kk146 kk147 kk148 kk149 kk150 kk151 kk152 kk153 kk154 kk155 kk156 kk157 kk158 kk159 kk160 kk161 kk162 kk163 kk164 kk165 kk166 kk167 kk168 kk169 kk170 kk171 kk172 kk173 kk174 kk175 kk176 kk177 kk178 kk179 kk180 kk181 kk182 kk183 kk184 kk185 kk186 kk187 kk188 kk189 kk190 kk191 kk192 kk193 kk194 kk195 kk196 kk197 kk198 kk199 kk200 kk201 kk202 kk203 kk204 kk205 kk206 kk207 kk208 kk209 kk210 kk211 kk212 kk213 kk214 kk215 kk216 kk217 kk218 kk219 kk220 kk221 kk222 kk223 kk224 kk225 kk226 kk227 kk228 kk229 kk230 kk231 kk232 kk233 kk234 kk235 kk236 kk237 kk238 kk239 kk240 kk241 kk242 kk243 kk244 kk245 kk246 kk247 kk248 kk249 kk250 kk251 kk252 kk253 kk254 kk255 kk256 kk257 kk258 kk259 kk260 kk261 kk276 kk277 kk278 kk279 kk280 kk281 kk282 kk283 kk284 kk285 kk286 kk287 kk288 kk289 kk290 kk291 kk292 kk293 kk294 kk295 kk296 kk297 kk298 kk299 kk300 kk301 kk302 kk303 kk304 : Value) (a : Act) (w' : World) : Prop := ∃ u21 : Value, ∃ u262 : Value, ∃ u263 : Value, ∃ u264 : Value, ∃ u265 : Value, ∃ u266 : Value, ∃ u267 : Value, ∃ u268 : Value, ∃ u269 : Value, ∃ u270 : Value, ∃ u271 : Value, ∃ u272 : Value, ∃ u273 : Value, ∃ u274 : Value, ∃ u275 : Value, WkR w0 P eb fb A V σ d L a0 ln c0 u21 w' ∧ a = ⟨#[kk0, kk1, kk2, kk3, kk4, kk5, kk6, kk7, kk8, kk9, kk10, .func (.func 28) #[] #[.pointer (some ⟨eb, 0, none⟩), .pointer (some ⟨A true, 0, none⟩)], kk12, kk13, kk14, kk15, kk16, kk17, kk18, .int .i64 (dN d : Int), .slice a0 ln c0, u21, kk22, kk23, kk24, kk25, kk26, kk27, kk28, kk29, kk30, kk31, kk32, kk33, kk34, kk35, kk36, kk37, kk38, kk39, kk40, kk41, kk42, kk43, kk44, kk45, kk46, kk47, kk48, kk49, kk50, kk51, kk52, kk53, kk54, kk55, kk56, kk57, kk58, kk59, kk60, kk61, kk62, kk63, kk64, kk65, kk66, kk67, kk68, kk69, kk70, kk71, kk72, kk73, kk74, kk75, kk76, kk77, kk78, kk79, kk80, kk81, kk82, kk83, kk84, kk85, kk86, kk87, kk88, kk89, kk90, kk91, kk92, kk93, kk94, kk95, kk96, kk97, kk98, kk99, kk100, kk101, kk102, kk103, kk104, kk105, kk106, kk107, kk108, kk109, kk110, kk111, kk112, kk113, kk114, kk115, kk116, kk117, kk118, kk119, kk120, kk121, kk122, kk123, kk124, kk125, kk126, kk127, kk128, kk129, kk130, kk131, kk132, kk133, kk134, kk135, kk136, kk137, kk138, kk139, kk140, kk141, kk142, kk143, kk144, kk145, kk146, kk147, kk148, kk149, kk150, kk151, kk152, kk153, kk154, kk155, kk156, kk157, kk158, kk159, kk160, kk161, kk162, kk163, kk164, kk165, kk166, kk167, kk168, kk169, kk170, kk171, kk172, kk173, kk174, kk175, kk176, kk177, kk178, kk179, kk180, kk181, kk182, kk183, kk184, kk185, kk186, kk187, kk188, kk189, kk190, kk191, kk192, kk193, kk194, kk195, kk196, kk197, kk198, kk199, kk200, kk201, kk202, kk203, kk204, kk205, kk206, kk207, kk208, kk209, kk210, kk211, kk212, kk213, kk214, kk215, kk216, kk217, kk218, kk219, kk220, kk221, kk222, kk223, kk224, kk225, kk226, kk227, kk228, kk229, kk230, kk231, kk232, kk233, kk234, kk235, kk236, kk237, kk238, kk239, kk240, kk241, kk242, kk243, kk244, kk245, kk246, kk247, kk248, kk249, kk250, kk251, kk252, kk253, kk254, kk255, kk256, kk257, kk258, kk259, kk260, kk261, u262, u263, u264, u265, u266, u267, u268, u269, u270, u271, u272, u273, u274, u275, kk276, kk277, kk278, kk279, kk280, kk281, kk282, kk283, kk284, kk285, kk286, kk287, kk288, kk289, kk290, kk291, kk292, kk293, kk294, kk295, kk296, kk297, kk298, kk299, kk300, kk301, kk302, kk303, kk304], []⟩
def wkMu (n : Nat) (a : Act) (_ : World) : Nat := n - (intOf (a.tmps.getD 21 undef)).toNat
set_option maxHeartbeats 4000000 in
set_option maxRecDepth 1000000 in
theorem wkRound {w0 : World} {P : Bool → Nat} {eb fb : Nat} {A : Bool → Nat} {V : Bool → Value} {σ : Wn} {d : Bool} {L : List (Sg × Value)} {a0 : Option Addr} {ln c0 : Nat} {N : Nat} (kk0 kk1 kk2 kk3 kk4 kk5 kk6 kk7 kk8 kk9 kk10 kk12 kk13 kk14 kk15 kk16 kk17 kk18 kk22 kk23 kk24 kk25 kk26 kk27 kk28 kk29 kk30 kk31 kk32 kk33 kk34 kk35 kk36 kk37 kk38 kk39 kk40 kk41 kk42 kk43 kk44 kk45 kk46 kk47 kk48 kk49 kk50 kk51 kk52 kk53 kk54 kk55 kk56 kk57 kk58 kk59 kk60 kk61 kk62 kk63 kk64 kk65 kk66 kk67 kk68 kk69 kk70 kk71 kk72 kk73 kk74 kk75 kk76 kk77 kk78 kk79 kk80 kk81 kk82 kk83 kk84 kk85 kk86 kk87 kk88 kk89 kk90 kk91 kk92 kk93 kk94 kk95 kk96 kk97 kk98 kk99 kk100 kk101 kk102 kk103 kk104 kk105 kk106 kk107 kk108 kk109 kk110 kk111 kk112 kk113 kk114 kk115 kk116 kk117 kk118 kk119 kk120 kk121 kk122 kk123 kk124 kk125 kk126 kk127 kk128 kk129 kk130 kk131 kk132 kk133 kk134 kk135 kk136 kk137 kk138 kk139 kk140 kk141 kk142 kk143 kk144 kk145 kk146 kk147 kk148 kk149 kk150 kk151 kk152 kk153 kk154 kk155 kk156 kk157 kk158 kk159 kk160 kk161 kk162 kk163 kk164 kk165 kk166 kk167 kk168 kk169 kk170 kk171 kk172 kk173 kk174 kk175 kk176 kk177 kk178 kk179 kk180 kk181 kk182 kk183 kk184 kk185 kk186 kk187 kk188 kk189 kk190 kk191 kk192 kk193 kk194 kk195 kk196 kk197 kk198 kk199 kk200 kk201 kk202 kk203 kk204 kk205 kk206 kk207 kk208 kk209 kk210 kk211 kk212 kk213 kk214 kk215 kk216 kk217 kk218 kk219 kk220 kk221 kk222 kk223 kk224 kk225 kk226 kk227 kk228 kk229 kk230 kk231 kk232 kk233 kk234 kk235 kk236 kk237 kk238 kk239 kk240 kk241 kk242 kk243 kk244 kk245 kk246 kk247 kk248 kk249 kk250 kk251 kk252 kk253 kk254 kk255 kk256 kk257 kk258 kk259 kk260 kk261 kk276 kk277 kk278 kk279 kk280 kk281 kk282 kk283 kk284 kk285 kk286 kk287 kk288 kk289 kk290 kk291 kk292 kk293 kk294 kk295 kk296 kk297 kk298 kk299 kk300 kk301 kk302 kk303 kk304 : Value) {Q0 : Exit → Act → World → Prop} (HLN : Hid (ln = L.length)) (g0 : (ln : Int) ≤ 1000000) (HI : Hid (WInv σ N)) (HN : Hid (N ≤ 1000)) (HA : Hid (∀ x ∈ L, Ad (σ.s d) (σ.x d) x.1)) (a : Act) (wr : World) (hI : wkI w0 P eb fb A V σ d L a0 ln c0 kk0 kk1 kk2 kk3 kk4 kk5 kk6 kk7 kk8 kk9 kk10 kk12 kk13 kk14 kk15 kk16 kk17 kk18 kk22 kk23 kk24 kk25 kk26 kk27 kk28 kk29 kk30 kk31 kk32 kk33 kk34 kk35 kk36 kk37 kk38 kk39 kk40 kk41 kk42 kk43 kk44 kk45 kk46 kk47 kk48 kk49 kk50 kk51 kk52 kk53 kk54 kk55 kk56 kk57 kk58 kk59 kk60 kk61 kk62 kk63 kk64 kk65 kk66 kk67 kk68 kk69 kk70 kk71 kk72 kk73 kk74 kk75 kk76 kk77 kk78 kk79 kk80 kk81 kk82 kk83 kk84 kk85 kk86 kk87 kk88 kk89 kk90 kk91 kk92 kk93 kk94 kk95 kk96 kk97 kk98 kk99 kk100 kk101 kk102 kk103 kk104 kk105 kk106 kk107 kk108 kk109 kk110 kk111 kk112 kk113 kk114 kk115 kk116 kk117 kk118 kk119 kk120 kk121 kk122 kk123 kk124 kk125 kk126 kk127 kk128 kk129 kk130 kk131 kk132 kk133 kk134 kk135 kk136 kk137 kk138 kk139 kk140 kk141 kk142 kk143 kk144 kk145 kk146 kk147 kk148 kk149 kk150 kk151 kk152 kk153 kk154 kk155 kk156 kk157 kk158 kk159 kk160 kk161 kk162 kk163 kk164 kk165 kk166 kk167 kk168 kk169 kk170 kk171 kk172 kk173 kk174 kk175 kk176 kk177 kk178 kk179 kk180 kk181 kk182 kk183 kk184 kk185 kk186 kk187 kk188 kk189 kk190 kk191 kk192 kk193 kk194 kk195 kk196 kk197 kk198 kk199 kk200 kk201 kk202 kk203 kk204 kk205 kk206 kk207 kk208 kk209 kk210 kk211 kk212 kk213 kk214 kk215 kk216 kk217 kk218 kk219 kk220 kk221 kk222 kk223 kk224 kk225 kk226 kk227 kk228 kk229 kk230 kk231 kk232 kk233 kk234 kk235 kk236 kk237 kk238 kk239 kk240 kk241 kk242 kk243 kk244 kk245 kk246 kk247 kk248 kk249 kk250 kk251 kk252 kk253 kk254 kk255 kk256 kk257 kk258 kk259 kk260 kk261 kk276 kk277 kk278 kk279 kk280 kk281 kk282 kk283 kk284 kk285 kk286 kk287 kk288 kk289 kk290 kk291 kk292 kk293 kk294 kk295 kk296 kk297 kk298 kk299 kk300 kk301 kk302 kk303 kk304 a wr) (hexit : ∀ a' w'', wkI w0 P eb fb A V σ d L a0 ln c0 kk0 kk1 kk2 kk3 kk4 kk5 kk6 kk7 kk8 kk9 kk10 kk12 kk13 kk14 kk15 kk16 kk17 kk18 kk22 kk23 kk24 kk25 kk26 kk27 kk28 kk29 kk30 kk31 kk32 kk33 kk34 kk35 kk36 kk37 kk38 kk39 kk40 kk41 kk42 kk43 kk44 kk45 kk46 kk47 kk48 kk49 kk50 kk51 kk52 kk53 kk54 kk55 kk56 kk57 kk58 kk59 kk60 kk61 kk62 kk63 kk64 kk65 kk66 kk67 kk68 kk69 kk70 kk71 kk72 kk73 kk74 kk75 kk76 kk77 kk78 kk79 kk80 kk81 kk82 kk83 kk84 kk85 kk86 kk87 kk88 kk89 kk90 kk91 kk92 kk93 kk94 kk95 kk96 kk97 kk98 kk99 kk100 kk101 kk102 kk103 kk104 kk105 kk106 kk107 kk108 kk109 kk110 kk111 kk112 kk113 kk114 kk115 kk116 kk117 kk118 kk119 kk120 kk121 kk122 kk123 kk124 kk125 kk126 kk127 kk128 kk129 kk130 kk131 kk132 kk133 kk134 kk135 kk136 kk137 kk138 kk139 kk140 kk141 kk142 kk143 kk144 kk145 kk146 kk147 kk148 kk149 kk150 kk151 kk152 kk153 kk154 kk155 kk156 kk157 kk158 kk159 kk160 kk161 kk162 kk163 kk164 kk165 kk166 kk167 kk168 kk169 kk170 kk171 kk172 kk173 kk174 kk175 kk176 kk177 kk178 kk179 kk180 kk181 kk182 kk183 kk184 kk185 kk186 kk187 kk188 kk189 kk190 kk191 kk192 kk193 kk194 kk195 kk196 kk197 kk198 kk199 kk200 kk201 kk202 kk203 kk204 kk205 kk206 kk207 kk208 kk209 kk210 kk211 kk212 kk213 kk214 kk215 kk216 kk217 kk218 kk219 kk220 kk221 kk222 kk223 kk224 kk225 kk226 kk227 kk228 kk229 kk230 kk231 kk232 kk233 kk234 kk235 kk236 kk237 kk238 kk239 kk240 kk241 kk242 kk243 kk244 kk245 kk246 kk247 kk248 kk249 kk250 kk251 kk252 kk253 kk254 kk255 kk256 kk257 kk258 kk259 kk260 kk261 kk276 kk277 kk278 kk279 kk280 kk281 kk282 kk283 kk284 kk285 kk286 kk287 kk288 kk289 kk290 kk291 kk292 kk293 kk294 kk295 kk296 kk297 kk298 kk299 kk300 kk301 kk302 kk303 kk304 a' w'' → wkMu ln a' w'' = 0 → Q0 (.exit 9) a' w'') :
    Code.wp Try.prog wkBody (Exit.then (fun a' w'' => wkI w0 P eb fb A V σ d L a0 ln c0 kk0 kk1 kk2 kk3 kk4 kk5 kk6 kk7 kk8 kk9 kk10 kk12 kk13 kk14 kk15 kk16 kk17 kk18 kk22 kk23 kk24 kk25 kk26 kk27 kk28 kk29 kk30 kk31 kk32 kk33 kk34 kk35 kk36 kk37 kk38 kk39 kk40 kk41 kk42 kk43 kk44 kk45 kk46 kk47 kk48 kk49 kk50 kk51 kk52 kk53 kk54 kk55 kk56 kk57 kk58 kk59 kk60 kk61 kk62 kk63 kk64 kk65 kk66 kk67 kk68 kk69 kk70 kk71 kk72 kk73 kk74 kk75 kk76 kk77 kk78 kk79 kk80 kk81 kk82 kk83 kk84 kk85 kk86 kk87 kk88 kk89 kk90 kk91 kk92 kk93 kk94 kk95 kk96 kk97 kk98 kk99 kk100 kk101 kk102 kk103 kk104 kk105 kk106 kk107 kk108 kk109 kk110 kk111 kk112 kk113 kk114 kk115 kk116 kk117 kk118 kk119 kk120 kk121 kk122 kk123 kk124 kk125 kk126 kk127 kk128 kk129 kk130 kk131 kk132 kk133 kk134 kk135 kk136 kk137 kk138 kk139 kk140 kk141 kk142 kk143 kk144 kk145 kk146 kk147 kk148 kk149 kk150 kk151 kk152 kk153 kk154 kk155 kk156 kk157 kk158 kk159 kk160 kk161 kk162 kk163 kk164 kk165 kk166 kk167 kk168 kk169 kk170 kk171 kk172 kk173 kk174 kk175 kk176 kk177 kk178 kk179 kk180 kk181 kk182 kk183 kk184 kk185 kk186 kk187 kk188 kk189 kk190 kk191 kk192 kk193 kk194 kk195 kk196 kk197 kk198 kk199 kk200 kk201 kk202 kk203 kk204 kk205 kk206 kk207 kk208 kk209 kk210 kk211 kk212 kk213 kk214 kk215 kk216 kk217 kk218 kk219 kk220 kk221 kk222 kk223 kk224 kk225 kk226 kk227 kk228 kk229 kk230 kk231 kk232 kk233 kk234 kk235 kk236 kk237 kk238 kk239 kk240 kk241 kk242 kk243 kk244 kk245 kk246 kk247 kk248 kk249 kk250 kk251 kk252 kk253 kk254 kk255 kk256 kk257 kk258 kk259 kk260 kk261 kk276 kk277 kk278 kk279 kk280 kk281 kk282 kk283 kk284 kk285 kk286 kk287 kk288 kk289 kk290 kk291 kk292 kk293 kk294 kk295 kk296 kk297 kk298 kk299 kk300 kk301 kk302 kk303 kk304 a' w'' ∧ wkMu ln a' w'' < wkMu ln a wr) Q0) a wr := by
  unfold wkI at hI
  obtain ⟨u21, hI⟩ := hI
  obtain ⟨u262, hI⟩ := hI
  obtain ⟨u263, hI⟩ := hI
  obtain ⟨u264, hI⟩ := hI
  obtain ⟨u265, hI⟩ := hI
  obtain ⟨u266, hI⟩ := hI
  obtain ⟨u267, hI⟩ := hI
  obtain ⟨u268, hI⟩ := hI
  obtain ⟨u269, hI⟩ := hI
  obtain ⟨u270, hI⟩ := hI
  obtain ⟨u271, hI⟩ := hI
  obtain ⟨u272, hI⟩ := hI
  obtain ⟨u273, hI⟩ := hI
  obtain ⟨u274, hI⟩ := hI
  obtain ⟨u275, hI⟩ := hI
  obtain ⟨hrel, ha⟩ := hI
  subst ha
  obtain ⟨j, G, X, R, hj, rfl, HW, HO, HB⟩ := hrel
  rcases Nat.lt_or_ge j ln with hjl | hjg
  · have g1 : (j : Int) < ln := by omega
    obtain ⟨⟨⟨q, a, b⟩, v⟩, hx⟩ : ∃ x, L[j]? = some x := ⟨L[j]'(by have := HLN.out; omega), List.getElem?_eq_getElem _⟩
    have hm := List.mem_of_getElem? hx
    obtain ⟨hI1, hA1⟩ := tkW_facts d L j HI.out HA.out
    have HT := Lib.hid (takeF HW.out hI1 HN.out d q a v b (hA1 _ hm) (HB.out _ hm))
    obtain ⟨b0, rfl, hb0, c0', c1', c2'⟩ := HO.out.at hx
    have HX : Hid (L[j]? = some (⟨q, a, b⟩, v)) := hx
    have HO := HO
    simp only at c0' c1' c2'
    clear hx hm hI1 hA1 hb0
    conv => arg 2; whnf
    go_wp2_with fail
    refine HT.out.mono ?_
    rintro e w2 ⟨G', X', R', rfl, hW2, hB2, M2, hC2, hT2⟩
    have HW2 : Hid (WM w0 P eb fb A G' X' V R' (tkW d L (j + 1) σ) w2) := by
      have : WM w0 P eb fb A G' X' V R' (tkW d L (j + 1) σ) w2 := by rw [tkW_succ d L j σ _ HX.out]; exact hW2
      exact this
    have HO2 : Hid (OwnS w2 w0.heap.size (.slice (some ⟨b0, 0, none⟩) ln c0) L) := hC2.owns HO.out (fun k hk hm => hT2 k hm (own_ty HO.out hk))
    have HB2 := Lib.hid (hB2 L HB.out)
    clear hW2 hB2 hC2 hT2 HT c0' c1' c2'
    go_wp2_with fail
    refine ⟨?_, ?_⟩
    · unfold wkI
      refine ⟨_, _, _, _, _, _, _, _, _, _, _, _, _, _, _, ?_, rfl⟩
      exact ⟨j + 1, G', X', R', by omega, by go_num, HW2, HO2, HB2⟩
    · simp [wkMu, intOf]; omega
  · obtain rfl : j = ln := by omega
    conv => arg 2; whnf
    have g1 : ¬ ((j : Int) < j) := by omega
    clear HLN HI HN HA
    go_wp2_with fail
    refine hexit _ _ ?_ ?_
    · unfold wkI
      exact ⟨_, _, _, _, _, _, _, _, _, _, _, _, _, _, _, ⟨j, G, X, R, Nat.le_refl _, rfl, HW, HO, HB⟩, rfl⟩
    · simp [wkMu, intOf]
set_option maxHeartbeats 4000000 in
set_option maxRecDepth 1000000 in
theorem wkLoop {w0 : World} {P : Bool → Nat} {eb fb : Nat} {A : Bool → Nat} {V : Bool → Value} {σ : Wn} {d : Bool} {L : List (Sg × Value)} {a0 : Option Addr} {ln c0 : Nat} {N : Nat} (kk0 kk1 kk2 kk3 kk4 kk5 kk6 kk7 kk8 kk9 kk10 kk12 kk13 kk14 kk15 kk16 kk17 kk18 kk22 kk23 kk24 kk25 kk26 kk27 kk28 kk29 kk30 kk31 kk32 kk33 kk34 kk35 kk36 kk37 kk38 kk39 kk40 kk41 kk42 kk43 kk44 kk45 kk46 kk47 kk48 kk49 kk50 kk51 kk52 kk53 kk54 kk55 kk56 kk57 kk58 kk59 kk60 kk61 kk62 kk63 kk64 kk65 kk66 kk67 kk68 kk69 kk70 kk71 kk72 kk73 kk74 kk75 kk76 kk77 kk78 kk79 kk80 kk81 kk82 kk83 kk84 kk85 kk86 kk87 kk88 kk89 kk90 kk91 kk92 kk93 kk94 kk95 kk96 kk97 kk98 kk99 kk100 kk101 kk102 kk103 kk104 kk105 kk106 kk107 kk108 kk109 kk110 kk111 kk112 kk113 kk114 kk115 kk116 kk117 kk118 kk119 kk120 kk121 kk122 kk123 kk124 kk125 kk126 kk127 kk128 kk129 kk130 kk131 kk132 kk133 kk134 kk135 kk136 kk137 kk138 kk139 kk140 kk141 kk142 kk143 kk144 kk145 kk146 kk147 kk148 kk149 kk150 kk151 kk152 kk153 kk154 kk155 kk156 kk157 kk158 kk159 kk160 kk161 kk162 kk163 kk164 kk165 kk166 kk167 kk168 kk169 kk170 kk171 kk172 kk173 kk174 kk175 kk176 kk177 kk178 kk179 kk180 kk181 kk182 kk183 kk184 kk185 kk186 kk187 kk188 kk189 kk190 kk191 kk192 kk193 kk194 kk195 kk196 kk197 kk198 kk199 kk200 kk201 kk202 kk203 kk204 kk205 kk206 kk207 kk208 kk209 kk210 kk211 kk212 kk213 kk214 kk215 kk216 kk217 kk218 kk219 kk220 kk221 kk222 kk223 kk224 kk225 kk226 kk227 kk228 kk229 kk230 kk231 kk232 kk233 kk234 kk235 kk236 kk237 kk238 kk239 kk240 kk241 kk242 kk243 kk244 kk245 kk246 kk247 kk248 kk249 kk250 kk251 kk252 kk253 kk254 kk255 kk256 kk257 kk258 kk259 kk260 kk261 kk276 kk277 kk278 kk279 kk280 kk281 kk282 kk283 kk284 kk285 kk286 kk287 kk288 kk289 kk290 kk291 kk292 kk293 kk294 kk295 kk296 kk297 kk298 kk299 kk300 kk301 kk302 kk303 kk304 : Value) {Q0 : Exit → Act → World → Prop} (HLN : Hid (ln = L.length)) (g0 : (ln : Int) ≤ 1000000) (HI : Hid (WInv σ N)) (HN : Hid (N ≤ 1000)) (HA : Hid (∀ x ∈ L, Ad (σ.s d) (σ.x d) x.1)) (u21 u262 u263 u264 u265 u266 u267 u268 u269 u270 u271 u272 u273 u274 u275 : Value) (w' : World) (hrel : WkR w0 P eb fb A V σ d L a0 ln c0 u21 w') (hexit : ∀ a' w'', wkI w0 P eb fb A V σ d L a0 ln c0 kk0 kk1 kk2 kk3 kk4 kk5 kk6 kk7 kk8 kk9 kk10 kk12 kk13 kk14 kk15 kk16 kk17 kk18 kk22 kk23 kk24 kk25 kk26 kk27 kk28 kk29 kk30 kk31 kk32 kk33 kk34 kk35 kk36 kk37 kk38 kk39 kk40 kk41 kk42 kk43 kk44 kk45 kk46 kk47 kk48 kk49 kk50 kk51 kk52 kk53 kk54 kk55 kk56 kk57 kk58 kk59 kk60 kk61 kk62 kk63 kk64 kk65 kk66 kk67 kk68 kk69 kk70 kk71 kk72 kk73 kk74 kk75 kk76 kk77 kk78 kk79 kk80 kk81 kk82 kk83 kk84 kk85 kk86 kk87 kk88 kk89 kk90 kk91 kk92 kk93 kk94 kk95 kk96 kk97 kk98 kk99 kk100 kk101 kk102 kk103 kk104 kk105 kk106 kk107 kk108 kk109 kk110 kk111 kk112 kk113 kk114 kk115 kk116 kk117 kk118 kk119 kk120 kk121 kk122 kk123 kk124 kk125 kk126 kk127 kk128 kk129 kk130 kk131 kk132 kk133 kk134 kk135 kk136 kk137 kk138 kk139 kk140 kk141 kk142 kk143 kk144 kk145 kk146 kk147 kk148 kk149 kk150 kk151 kk152 kk153 kk154 kk155 kk156 kk157 kk158 kk159 kk160 kk161 kk162 kk163 kk164 kk165 kk166 kk167 kk168 kk169 kk170 kk171 kk172 kk173 kk174 kk175 kk176 kk177 kk178 kk179 kk180 kk181 kk182 kk183 kk184 kk185 kk186 kk187 kk188 kk189 kk190 kk191 kk192 kk193 kk194 kk195 kk196 kk197 kk198 kk199 kk200 kk201 kk202 kk203 kk204 kk205 kk206 kk207 kk208 kk209 kk210 kk211 kk212 kk213 kk214 kk215 kk216 kk217 kk218 kk219 kk220 kk221 kk222 kk223 kk224 kk225 kk226 kk227 kk228 kk229 kk230 kk231 kk232 kk233 kk234 kk235 kk236 kk237 kk238 kk239 kk240 kk241 kk242 kk243 kk244 kk245 kk246 kk247 kk248 kk249 kk250 kk251 kk252 kk253 kk254 kk255 kk256 kk257 kk258 kk259 kk260 kk261 kk276 kk277 kk278 kk279 kk280 kk281 kk282 kk283 kk284 kk285 kk286 kk287 kk288 kk289 kk290 kk291 kk292 kk293 kk294 kk295 kk296 kk297 kk298 kk299 kk300 kk301 kk302 kk303 kk304 a' w'' → wkMu ln a' w'' = 0 → Q0 (.exit 9) a' w'') : Code.wp Try.prog (Code.loop wkBody) Q0 ⟨#[kk0, kk1, kk2, kk3, kk4, kk5, kk6, kk7, kk8, kk9, kk10, .func (.func 28) #[] #[.pointer (some ⟨eb, 0, none⟩), .pointer (some ⟨A true, 0, none⟩)], kk12, kk13, kk14, kk15, kk16, kk17, kk18, .int .i64 (dN d : Int), .slice a0 ln c0, u21, kk22, kk23, kk24, kk25, kk26, kk27, kk28, kk29, kk30, kk31, kk32, kk33, kk34, kk35, kk36, kk37, kk38, kk39, kk40, kk41, kk42, kk43, kk44, kk45, kk46, kk47, kk48, kk49, kk50, kk51, kk52, kk53, kk54, kk55, kk56, kk57, kk58, kk59, kk60, kk61, kk62, kk63, kk64, kk65, kk66, kk67, kk68, kk69, kk70, kk71, kk72, kk73, kk74, kk75, kk76, kk77, kk78, kk79, kk80, kk81, kk82, kk83, kk84, kk85, kk86, kk87, kk88, kk89, kk90, kk91, kk92, kk93, kk94, kk95, kk96, kk97, kk98, kk99, kk100, kk101, kk102, kk103, kk104, kk105, kk106, kk107, kk108, kk109, kk110, kk111, kk112, kk113, kk114, kk115, kk116, kk117, kk118, kk119, kk120, kk121, kk122, kk123, kk124, kk125, kk126, kk127, kk128, kk129, kk130, kk131, kk132, kk133, kk134, kk135, kk136, kk137, kk138, kk139, kk140, kk141, kk142, kk143, kk144, kk145, kk146, kk147, kk148, kk149, kk150, kk151, kk152, kk153, kk154, kk155, kk156, kk157, kk158, kk159, kk160, kk161, kk162, kk163, kk164, kk165, kk166, kk167, kk168, kk169, kk170, kk171, kk172, kk173, kk174, kk175, kk176, kk177, kk178, kk179, kk180, kk181, kk182, kk183, kk184, kk185, kk186, kk187, kk188, kk189, kk190, kk191, kk192, kk193, kk194, kk195, kk196, kk197, kk198, kk199, kk200, kk201, kk202, kk203, kk204, kk205, kk206, kk207, kk208, kk209, kk210, kk211, kk212, kk213, kk214, kk215, kk216, kk217, kk218, kk219, kk220, kk221, kk222, kk223, kk224, kk225, kk226, kk227, kk228, kk229, kk230, kk231, kk232, kk233, kk234, kk235, kk236, kk237, kk238, kk239, kk240, kk241, kk242, kk243, kk244, kk245, kk246, kk247, kk248, kk249, kk250, kk251, kk252, kk253, kk254, kk255, kk256, kk257, kk258, kk259, kk260, kk261, u262, u263, u264, u265, u266, u267, u268, u269, u270, u271, u272, u273, u274, u275, kk276, kk277, kk278, kk279, kk280, kk281, kk282, kk283, kk284, kk285, kk286, kk287, kk288, kk289, kk290, kk291, kk292, kk293, kk294, kk295, kk296, kk297, kk298, kk299, kk300, kk301, kk302, kk303, kk304], []⟩ w' := by
  refine wp_loop (wkI w0 P eb fb A V σ d L a0 ln c0 kk0 kk1 kk2 kk3 kk4 kk5 kk6 kk7 kk8 kk9 kk10 kk12 kk13 kk14 kk15 kk16 kk17 kk18 kk22 kk23 kk24 kk25 kk26 kk27 kk28 kk29 kk30 kk31 kk32 kk33 kk34 kk35 kk36 kk37 kk38 kk39 kk40 kk41 kk42 kk43 kk44 kk45 kk46 kk47 kk48 kk49 kk50 kk51 kk52 kk53 kk54 kk55 kk56 kk57 kk58 kk59 kk60 kk61 kk62 kk63 kk64 kk65 kk66 kk67 kk68 kk69 kk70 kk71 kk72 kk73 kk74 kk75 kk76 kk77 kk78 kk79 kk80 kk81 kk82 kk83 kk84 kk85 kk86 kk87 kk88 kk89 kk90 kk91 kk92 kk93 kk94 kk95 kk96 kk97 kk98 kk99 kk100 kk101 kk102 kk103 kk104 kk105 kk106 kk107 kk108 kk109 kk110 kk111 kk112 kk113 kk114 kk115 kk116 kk117 kk118 kk119 kk120 kk121 kk122 kk123 kk124 kk125 kk126 kk127 kk128 kk129 kk130 kk131 kk132 kk133 kk134 kk135 kk136 kk137 kk138 kk139 kk140 kk141 kk142 kk143 kk144 kk145 kk146 kk147 kk148 kk149 kk150 kk151 kk152 kk153 kk154 kk155 kk156 kk157 kk158 kk159 kk160 kk161 kk162 kk163 kk164 kk165 kk166 kk167 kk168 kk169 kk170 kk171 kk172 kk173 kk174 kk175 kk176 kk177 kk178 kk179 kk180 kk181 kk182 kk183 kk184 kk185 kk186 kk187 kk188 kk189 kk190 kk191 kk192 kk193 kk194 kk195 kk196 kk197 kk198 kk199 kk200 kk201 kk202 kk203 kk204 kk205 kk206 kk207 kk208 kk209 kk210 kk211 kk212 kk213 kk214 kk215 kk216 kk217 kk218 kk219 kk220 kk221 kk222 kk223 kk224 kk225 kk226 kk227 kk228 kk229 kk230 kk231 kk232 kk233 kk234 kk235 kk236 kk237 kk238 kk239 kk240 kk241 kk242 kk243 kk244 kk245 kk246 kk247 kk248 kk249 kk250 kk251 kk252 kk253 kk254 kk255 kk256 kk257 kk258 kk259 kk260 kk261 kk276 kk277 kk278 kk279 kk280 kk281 kk282 kk283 kk284 kk285 kk286 kk287 kk288 kk289 kk290 kk291 kk292 kk293 kk294 kk295 kk296 kk297 kk298 kk299 kk300 kk301 kk302 kk303 kk304) (wkMu ln) ?_ (fun a w'' hI => wkRound kk0 kk1 kk2 kk3 kk4 kk5 kk6 kk7 kk8 kk9 kk10 kk12 kk13 kk14 kk15 kk16 kk17 kk18 kk22 kk23 kk24 kk25 kk26 kk27 kk28 kk29 kk30 kk31 kk32 kk33 kk34 kk35 kk36 kk37 kk38 kk39 kk40 kk41 kk42 kk43 kk44 kk45 kk46 kk47 kk48 kk49 kk50 kk51 kk52 kk53 kk54 kk55 kk56 kk57 kk58 kk59 kk60 kk61 kk62 kk63 kk64 kk65 kk66 kk67 kk68 kk69 kk70 kk71 kk72 kk73 kk74 kk75 kk76 kk77 kk78 kk79 kk80 kk81 kk82 kk83 kk84 kk85 kk86 kk87 kk88 kk89 kk90 kk91 kk92 kk93 kk94 kk95 kk96 kk97 kk98 kk99 kk100 kk101 kk102 kk103 kk104 kk105 kk106 kk107 kk108 kk109 kk110 kk111 kk112 kk113 kk114 kk115 kk116 kk117 kk118 kk119 kk120 kk121 kk122 kk123 kk124 kk125 kk126 kk127 kk128 kk129 kk130 kk131 kk132 kk133 kk134 kk135 kk136 kk137 kk138 kk139 kk140 kk141 kk142 kk143 kk144 kk145 kk146 kk147 kk148 kk149 kk150 kk151 kk152 kk153 kk154 kk155 kk156 kk157 kk158 kk159 kk160 kk161 kk162 kk163 kk164 kk165 kk166 kk167 kk168 kk169 kk170 kk171 kk172 kk173 kk174 kk175 kk176 kk177 kk178 kk179 kk180 kk181 kk182 kk183 kk184 kk185 kk186 kk187 kk188 kk189 kk190 kk191 kk192 kk193 kk194 kk195 kk196 kk197 kk198 kk199 kk200 kk201 kk202 kk203 kk204 kk205 kk206 kk207 kk208 kk209 kk210 kk211 kk212 kk213 kk214 kk215 kk216 kk217 kk218 kk219 kk220 kk221 kk222 kk223 kk224 kk225 kk226 kk227 kk228 kk229 kk230 kk231 kk232 kk233 kk234 kk235 kk236 kk237 kk238 kk239 kk240 kk241 kk242 kk243 kk244 kk245 kk246 kk247 kk248 kk249 kk250 kk251 kk252 kk253 kk254 kk255 kk256 kk257 kk258 kk259 kk260 kk261 kk276 kk277 kk278 kk279 kk280 kk281 kk282 kk283 kk284 kk285 kk286 kk287 kk288 kk289 kk290 kk291 kk292 kk293 kk294 kk295 kk296 kk297 kk298 kk299 kk300 kk301 kk302 kk303 kk304 HLN g0 HI HN HA a w'' hI hexit)
  unfold wkI
  exact ⟨u21, u262, u263, u264, u265, u266, u267, u268, u269, u270, u271, u272, u273, u274, u275, hrel, rfl⟩
end Go.Proofs.Ytghaajmalhcgbaa

namespace Go.Proofs.Ytghaajmalhcgbaa
open Go.RowKit
theorem Chg.drop {l m : List Nat} {w w' : World} (h : Chg (l ++ m) w w') (hm : ∀ k ∈ m, w.heap.size ≤ k) : Chg l w w' :=
  ⟨h.low, fun b hb hn => h.rest b hb (by
    rw [List.mem_append]
    rintro (e | e)
    · exact hn e
    · have := hm b e; omega)⟩
theorem Chg.trans' {l m : List Nat} {w w' w'' : World} (h : Chg l w w') (h' : Chg m w' w'') (hm : ∀ k ∈ m, k ∈ l ∨ w.heap.size ≤ k) : Chg l w w'' :=
  ⟨h.low.trans h'.low, fun b hb hn => (h'.rest b (Nat.lt_of_lt_of_le hb h.size) (fun e => by
    rcases hm b e with e | e
    · exact hn e
    · omega)).trans (h.rest b hb hn)⟩
theorem bod_cell {w : World} {X : List Nat} {u : Value} {l : List UInt8} (h : Bod w X u l) : u.oneCell' = true := by
  obtain ⟨a, c, rfl⟩ := h.form; rfl
theorem run_appO (w : World) (B B' : Nat) (ty : TypeId) (v u : Value) (L M : List (Sg × Value)) (h : OwnS w B v L) (hu : OwnS w B' u M) (h1 : ∀ x ∈ M, x.2.oneCell' = true)
    (hn : L.length + M.length ≤ 1000000) (hB : B ≤ w.heap.size) :
    ∃ v' w', (Builtin.append_ #[88, 88] ty #[v, u]).run Try.prog w = .ok v' w' ∧ OwnS w' B v' (L ++ M) ∧ w.grownBy w' v.ownBlock ∧ ∀ g, v'.ownBlock = some g → v.ownBlock = some g ∨ w.heap.size ≤ g := by
  obtain ⟨i0, hi, hz0, hz1, hz2⟩ := infoS
  obtain ⟨ua, uc, rfl⟩ := hu.form
  cases hub : (Value.slice ua M.length uc).ownBlock with
  | none =>
    rcases hu.2 with ⟨e, h0⟩ | ⟨g, cap, cur, e, _⟩
    · simp only [Value.slice.injEq] at e
      obtain ⟨rfl, h00, rfl⟩ := e
      obtain rfl := List.length_eq_zero_iff.1 h00
      have := run_append_owned_none (P := Try.prog) (w := w) B 88 ty 94 i0 3 Try.underlying88 hi v L.length _ h
      exact ⟨v, w, this, by simpa using h, ⟨rfl, rfl, rfl, Nat.le_refl _, fun _ _ _ => rfl⟩, fun g hg => .inl hg⟩
    · simp only [Value.slice.injEq] at e
      obtain ⟨rfl, _, _⟩ := e
      simp [Value.ownBlock] at hub
  | some g =>
    rcases hu.2 with ⟨e, _⟩ | ⟨g', cap, cur, e, _⟩
    · rw [e] at hub; simp [Value.ownBlock] at hub
    · simp only [Value.slice.injEq] at e
      obtain ⟨rfl, _, rfl⟩ := e
      have hcells := hu.cells (g := g') rfl
      obtain ⟨v', w', hr, ho, _, hg⟩ := run_appSs w B ty v L M ⟨g', 0, none⟩ uc h hcells h1 hn hB
      refine ⟨v', w', hr, ho, hg, fun k hk => app_fresh (w := w) B 88 ty 94 i0 _ 3 40 Try.underlying88 hi hz0 hz1 hz2 rfl (by decide) v L.length _ h ⟨g', 0, none⟩ M.length uc (sc M) (sc_length M) hcells
        (by
          intro u hu
          simp only [sc, List.mem_flatMap] at hu
          obtain ⟨x, hx, hu⟩ := hu
          simp at hu
          rcases hu with rfl | rfl | rfl
          · rfl
          · rfl
          · exact h1 x hx) (by unfold maxLen; omega) (by omega) hr k hk⟩
section
variable {w0 : World} {P : Bool → Nat} {eb fb : Nat} {A G : Bool → Nat} {X : List Nat} {V : Bool → Value} {R : Bool → Bool → Value} {σ : Wn} {w w' : World}
theorem WM.both (h : WM w0 P eb fb A G X V R σ w) (d : Bool) {s' : Sm} {g' : Nat} {v' : Value} {F' : List Sg} {M : List (Sg × Value)} {L : List Nat} (hP : PSm (P d) g' X s' w') (hg : g' = G d ∨ w.heap.size ≤ g')
    (hf : BlkAt 89 fb (pr2 (upB V d v')) w') (hM : M.map (·.1) = F') (hO : OwnS w' w0.heap.size v' M) (hB : Bods w' X M)
    (hc : Chg L w w') (hL : ∀ g ∈ L, g = P d ∨ g = G d ∨ g = fb ∨ (V d).ownBlock = some g) (hv : ∀ g, v'.ownBlock = some g → (V d).ownBlock = some g ∨ w.heap.size ≤ g) :
    WM w0 P eb fb A (upB G d g') X (upB V d v') R (outW σ d s' F') w' := by
  obtain ⟨tp, tg⟩ := psm_ty (h.s d)
  obtain ⟨M0, q1, q2, q3⟩ := h.fm d
  obtain ⟨M1, r1, r2, r3⟩ := h.fm (!d)
  have hln := (h.s (!d)).lt
  have tl : ∀ g ∈ L, ty w g = some 137 ∨ ty w g = some 90 ∨ ty w g = some 89 ∨ ty w g = some 94 := by
    intro g hg
    rcases hL g hg with e | e | e | e
    · rw [e]; exact .inl tp
    · rw [e]
      rcases tg with e | e
      · rw [e]; exact .inl tp
      · exact .inr (.inl e)
    · rw [e]; exact .inr (.inr (.inl (blk_ty h.f)))
    · exact .inr (.inr (.inr (own_ty q2 e)))
  have out : ∀ b t, ty w b = some t → t ≠ 137 → t ≠ 90 → t ≠ 89 → t ≠ 94 → b ∉ L := by
    intro b t hb h1 h2 h3 h4 hm
    rcases tl b hm with e | e | e | e <;> rw [hb] at e
    · exact h1 (Option.some.inj e)
    · exact h2 (Option.some.inj e)
    · exact h3 (Option.some.inj e)
    · exact h4 (Option.some.inj e)
  have nob : ∀ k ∈ L, NoB w k ∨ k ∈ X := fun k hk => by
    rcases tl k hk with e | e | e | e <;> exact .inl (ty_noB e (by decide))
  have hpl : P (!d) ∉ L := by
    intro hm
    obtain ⟨tp', _⟩ := psm_ty (h.s (!d))
    rcases hL _ hm with e | e | e | e
    · exact h.pp d e.symm
    · exact h.gp d e.symm
    · exact ne_ty tp' (blk_ty h.f) (by decide) e
    · exact ne_ty tp' (own_ty q2 e) (by decide) rfl
  have hgl : G (!d) ∉ L := by
    intro hm
    obtain ⟨tp', tg'⟩ := psm_ty (h.s (!d))
    have hgp := h.gp (!d)
    rw [Bool.not_not] at hgp
    rcases hL _ hm with e | e | e | e
    · exact hgp e
    · exact h.gg d e.symm
    · rcases tg' with e2 | e2
      · rw [e2] at e; exact ne_ty tp' (blk_ty h.f) (by decide) e
      · exact ne_ty e2 (blk_ty h.f) (by decide) e
    · rcases tg' with e2 | e2
      · rw [e2] at e; exact ne_ty tp' (own_ty q2 e) (by decide) rfl
      · exact ne_ty e2 (own_ty q2 e) (by decide) rfl
  have hvl : ∀ g, (V (!d)).ownBlock = some g → g ∉ L := by
    intro g hg hm
    rcases hL _ hm with e | e | e | e
    · exact ne_ty (own_ty r2 hg) tp (by decide) e
    · rcases tg with e2 | e2
      · rw [e2] at e; exact ne_ty (own_ty r2 hg) tp (by decide) e
      · exact ne_ty (own_ty r2 hg) e2 (by decide) e
    · exact ne_ty (own_ty r2 hg) (blk_ty h.f) (by decide) e
    · exact h.vv d g e hg
  refine ⟨hc.blk h.e (out _ _ (blk_ty h.e) (by decide) (by decide) (by decide) (by decide)), fun b => ?_, hf, fun b => ?_, fun k => hc.blk (h.a k) (out _ _ (blk_ty (h.a k)) (by decide) (by decide) (by decide) (by decide)), fun k b => hc.owns (h.r k b) (fun g hg => out _ _ (own_ty (h.r k b) hg) (by decide) (by decide) (by decide) (by decide)), h.rx, fun g hg => Nat.lt_of_lt_of_le (h.xl g hg) hc.size, h.pp, fun b => ?_, fun b => ?_, fun b g hg => ?_, h.rr, h.aa, fun b => ?_, h.lf, h.bel.trans (hc.below h.bel.size (fun g hg => ?_))⟩
  · rcases key2 b d with rfl | rfl
    · simp only [outW, upB_self]; exact hP
    · simp only [outW, upB_not]
      exact (h.s (!d)).chg hc hpl hgl nob
  · rcases key2 b d with rfl | rfl
    · simp only [outW, upB_self]; exact ⟨M, hM, hO, hB⟩
    · simp only [outW, upB_not]
      exact ⟨M1, r1, hc.owns r2 hvl, r3.chg hc nob⟩
  · rcases key2 b d with rfl | rfl
    · simp only [upB_self]
      have := h.gp b
      have := (h.s (!b)).lt.1
      rcases hg with e | e <;> omega
    · simp only [upB_not]; exact h.gp (!d)
  · rcases key2 b d with rfl | rfl
    · simp only [upB_self, upB_not]
      have := h.gg b
      rcases hg with e | e <;> omega
    · simp only [upB_not, Bool.not_not, upB_self]
      have := h.gg d
      rcases hg with e | e <;> omega
  · rcases key2 b d with rfl | rfl
    · simp only [upB_self, upB_not] at hg ⊢
      rcases hv g hg with e | e
      · exact h.vv b g e
      · intro e2
        have := (r2.lt g e2).2
        omega
    · simp only [upB_not, Bool.not_not, upB_self] at hg ⊢
      intro e2
      rcases hv g e2 with e | e
      · exact h.vv d g e hg
      · have := (r2.lt g hg).2
        omega
  · rcases key2 b d with rfl | rfl
    · simp only [upB_self]
      have := h.lo b
      refine ⟨this.1, ?_, this.2.2⟩
      have := h.bel.size
      rcases hg with e | e <;> omega
    · simp only [upB_not]; exact h.lo _
  · rcases hL g hg with e | e | e | e
    · rw [e]; exact (h.lo d).1
    · rw [e]; exact (h.lo d).2.1
    · rw [e]; exact h.lf
    · exact (q2.lt g e).1
end
end Go.Proofs.Ytghaajmalhcgbaa

namespace Go.Proofs.Ytghaajmalhcgbaa
open Go.RowKit
structure AS (w0 : World) (P : Bool → Nat) (G : Bool → Nat) (X : List Nat) (V : Bool → Value) (d : Bool) (W0 : World) (s : Sm) (v : Value) (M : List (Sg × Value)) (w : World) : Prop where
  o : OwnS w w0.heap.size v M
  b : Bods w X M
  p : PSm (P d) (G d) X s w
  c : Chg (P d :: (V d).ownBlock.toList) W0 w
  f : ∀ g, v.ownBlock = some g → (V d).ownBlock = some g ∨ W0.heap.size ≤ g
section
variable {w0 : World} {P : Bool → Nat} {eb fb : Nat} {A G : Bool → Nat} {X : List Nat} {V : Bool → Value} {R : Bool → Bool → Value} {σ : Wn} {w w' W0 : World} {d : Bool} {s s' : Sm} {v v' v1 : Value} {M M1 : List (Sg × Value)}
theorem AS.start (h : WM w0 P eb fb A G X V R σ W0) {M : List (Sg × Value)} (hO : OwnS W0 w0.heap.size (V d) M) (hB : Bods W0 X M) : AS w0 P G X V d W0 (σ.s d) (V d) M W0 :=
  ⟨hO, hB, h.s d, Chg.refl _ _, fun _ hg => .inl hg⟩
theorem AS.call (h : AS w0 P G X V d W0 s v M w) (hP : PSm (P d) (G d) X s' w') (hc : Chg [P d] w w') : AS w0 P G X V d W0 s' v M w' :=
  have nob : ∀ k ∈ [P d], NoB w k ∨ k ∈ X := fun k hk => by simp at hk; subst hk; exact .inl h.p.noB.1
  ⟨hc.owns h.o (fun g hg => by
    have := ne_ty (own_ty h.o hg) (psm_ty h.p).1 (by decide)
    simpa using this), h.b.chg hc nob, hP, h.c.trans (hc.mono (by simp)), h.f⟩
theorem AS.app (h : AS w0 P G X V d W0 s v M w) (hO : OwnS w' w0.heap.size v' (M ++ M1)) (hg : w.grownBy w' v.ownBlock) (hf : ∀ g, v'.ownBlock = some g → v.ownBlock = some g ∨ w.heap.size ≤ g) (hB : Bods w X M1) :
    AS w0 P G X V d W0 s v' (M ++ M1) w' := by
  have hc := Chg.of_grown hg
  have nob : ∀ k ∈ v.ownBlock.toList, NoB w k ∨ k ∈ X := fun k hk => .inl (own_noB h.o (by simpa using hk))
  have tl : ∀ k ∈ v.ownBlock.toList, ty w k = some 94 := fun k hk => own_ty h.o (by simpa using hk)
  have hp : P d ∉ v.ownBlock.toList := fun hk => ne_ty (psm_ty h.p).1 (tl _ hk) (by decide) rfl
  have hgg : G d ∉ v.ownBlock.toList := fun hk => by
    rcases (psm_ty h.p).2 with e | e
    · rw [e] at hk; exact hp hk
    · exact ne_ty e (tl _ hk) (by decide) rfl
  refine ⟨hO, ?_, h.p.chg hc hp hgg nob, ?_, fun g hg1 => ?_⟩
  · intro x hx
    rcases List.mem_append.1 hx with e | e
    · exact (h.b x e).chg hc nob
    · exact (hB x e).chg hc nob
  · refine (h.c.trans' hc (fun k hk => ?_))
    rcases h.f k (by simpa using hk) with e | e
    · left; simp [e]
    · exact .inr e
  · rcases hf g hg1 with e | e
    · exact h.f g e
    · exact .inr (Nat.le_trans h.c.size e)
theorem AS.blk (h : AS w0 P G X V d W0 s v M w) (hw : WM w0 P eb fb A G X V R σ W0) {t : TypeId} {b : Nat} {cs : List Value} (hb : BlkAt t b cs W0) (h1 : t ≠ 137) (h2 : t ≠ 94) : BlkAt t b cs w := by
  refine h.c.blk hb (fun hm => ?_)
  obtain ⟨M0, _, q2, _⟩ := hw.fm d
  rcases List.mem_cons.1 hm with e | e
  · exact ne_ty (blk_ty hb) (psm_ty (hw.s d)).1 h1 e
  · exact ne_ty (blk_ty hb) (own_ty q2 (by simpa using e)) h2 rfl
theorem AS.cells (h : AS w0 P G X V d W0 s v M w) (hw : WM w0 P eb fb A G X V R σ W0) (b : Bool) : BlkAt 87 eb (pr2 fun d => .pointer (some ⟨P d, 0, none⟩)) w ∧ BlkAt 89 fb (pr2 V) w :=
  ⟨h.blk hw hw.e (by decide) (by decide), h.blk hw hw.f (by decide) (by decide)⟩
/-- The end: the fly's cell is written. -/
theorem AS.stop (h : AS w0 P G X V d W0 s v M w) (hw : WM w0 P eb fb A G X V R σ W0) {v' : Value} {M' : List (Sg × Value)} (hf : BlkAt 89 fb (pr2 (upB V d v')) w') (hc : Chg [fb] w w') (hO : OwnS w w0.heap.size v' M') (hB : Bods w X M') (hv : ∀ g, v'.ownBlock = some g → (V d).ownBlock = some g ∨ W0.heap.size ≤ g) :
    WM w0 P eb fb A (upB G d (G d)) X (upB V d v') R (outW σ d s (M'.map (·.1))) w' := by
  have hfb := (h.cells hw true).2
  have tf := blk_ty hfb
  have nob : ∀ k ∈ [fb], NoB w k ∨ k ∈ X := fun k hk => by simp at hk; subst hk; exact .inl (ty_noB tf (by decide))
  have hp : P d ∉ [fb] := by
    have := ne_ty (psm_ty h.p).1 tf (by decide)
    simpa using this
  have hg : G d ∉ [fb] := by
    rcases (psm_ty h.p).2 with e | e
    · rw [e]; exact hp
    · have := ne_ty e tf (by decide)
      simpa using this
  refine hw.both d (L := fb :: P d :: (V d).ownBlock.toList) (h.p.chg hc hp hg nob) (.inl rfl) hf rfl (hc.owns hO (fun g hg => ?_)) (hB.chg hc nob) ((h.c.mono (by intro b hb; simp at hb ⊢; exact .inr hb)).trans (hc.mono (by simp))) (fun g hg => ?_) hv
  · have := ne_ty (own_ty hO hg) tf (by decide)
    simpa using this
  · rcases List.mem_cons.1 hg with e | e
    · exact .inr (.inr (.inl e))
    · rcases List.mem_cons.1 e with e | e
      · exact .inl e
      · exact .inr (.inr (.inr (by simpa using e)))
end
end Go.Proofs.Ytghaajmalhcgbaa

namespace Go.Proofs.Ytghaajmalhcgbaa
open Go.RowKit
attribute [local go_sem ↓] Go.wp_at_zero Go.wp_at_succ

theorem map_at {M : List (Sg × Value)} {L : List Sg} (h : M.map (·.1) = L) {j : Nat} {x : Sg} (hx : L[j]? = some x) : ∃ u, M[j]? = some (x, u) := by
  rw [← h, List.getElem?_map, Option.map_eq_some_iff] at hx
  obtain ⟨⟨y, u⟩, h1, h2⟩ := hx
  exact ⟨u, by rw [h1]; simp at h2; rw [h2]⟩
theorem map_len {M : List (Sg × Value)} {L : List Sg} (h : M.map (·.1) = L) : M.length = L.length := by rw [← h, List.length_map]
/-- So many bytes, a message each. -/
def kn (k : Nat) : Sm := { smN 5 with line := (List.range k).map fun i => [UInt8.ofNat i] }
theorem kn_ok (k : Nat) (h : k ≤ 10) : (kn k).Ok k := ⟨by simp [kn, smN], by simp [kn, smN], by simp [kn, smN], by simp [kn, smN], by simp [kn, smN], by simp [kn, smN], by simp [kn, smN], by simp [kn, smN], by simp [kn, smN], by omega, by intro b hb; simp [kn] at hb; obtain ⟨i, _, rfl⟩ := hb; simp⟩
theorem kn_len (k : Nat) : (kn k).line.length = k := by simp [kn]
theorem kn_succ (k : Nat) : sendM (kn k) [UInt8.ofNat k] = kn (k + 1) := by simp [kn, sendM, List.range_succ]
theorem one_lit (w : World) (k : Nat) (hk : k < 256) : Bytes (w.alloc (.cells #[.int .u8 (k : Int)] 5)) (.slice (some ⟨w.heap.size, 0, none⟩) 1 1) [UInt8.ofNat k] := by
  have h := bytes_lit w [UInt8.ofNat k]
  have e : (UInt8.ofNat k).toNat = k := by simp; omega
  simp only [bv, List.map_cons, List.map_nil, List.length_cons, List.length_nil, e] at h
  exact h
def k2 : Sm := dueM (kn 10)
def k3 : Sm := takeM k2 0 3
set_option maxHeartbeats 8000000 in
set_option maxRecDepth 100000 in
theorem knownR (w : World) : Calls Try.prog 26 #[] w fun e w' => e = .returned (.bool true) ∧ Below w.heap.size w w' := by
  have HN := Lib.hid (newM 5 w (by omega) (by omega))
  go_enter Try.func26, Try.ntmps26
  go_wp2_with fail
  refine HN.out.mono ?_
  rintro e w1 ⟨rfl, hP, hb1⟩
  have HP1 := Lib.hid (hP [])
  have HB1 := Lib.hid hb1
  clear hP hb1 HN
  go_wp2_with fail
  go_loopw [3] (fun x wr => ∃ k : Nat, k ≤ 10 ∧ x = .int .i64 k ∧ ∃ g, Hid (PSm w.heap.size g [] (kn k) wr) ∧ Hid (w.heap.size ≤ g) ∧ Hid (Below w.heap.size w wr)) (fun x _ => 10 - (intOf x).toNat)
  case atStart => exact ⟨0, by omega, rfl, w.heap.size, HP1.out, Nat.le_refl _, HB1.out⟩
  case round =>
    obtain ⟨k, hk, rfl, g, HP, HG, HB⟩ := hrel
    rcases Nat.lt_or_ge k 10 with hlt | hge
    · have g1 : (k : Int) < 10 := by omega
      have e0 : IntKind.u8.wrap (k : Int) = k := IntWalk.u8_in _ ⟨by omega, by omega⟩
      have e00 : (k : Int) % 256 = k := by omega
      obtain ⟨w2, hw2⟩ : ∃ w2, w2 = wr.alloc (.cells #[.int .u8 (k : Int)] 5) := ⟨_, rfl⟩
      have hb2 : Below wr.heap.size wr w2 := by rw [hw2]; exact ba1 _ _
      have hby : Bytes w2 (.slice (some ⟨wr.heap.size, 0, none⟩) 1 1) [UInt8.ofNat k] := by rw [hw2]; exact one_lit wr k (by omega)
      have HS := sendC (HP.out.later hb2) (kn_ok k hk) (by simp) _ _ hby (by simp) (by rw [kn_len]; omega)
      unfold SnA at HS
      rw [kn_succ, kn_len] at HS
      have HS := Lib.hid HS
      have HW2 := Lib.hid hw2
      have HB2 := Lib.hid (below_of HB.out hb2)
      have e1 : ((kn k).ac + k + 1 : Nat) = k + 1 := by simp [kn, smN]
      rw [e1] at HS
      clear hw2 hb2 hby e1
      go_wp2_with fail
      rw [← HW2.out]
      refine HS.out.mono ?_
      rintro e w3 ⟨rfl, g3, hP, hg, hC⟩
      have HP3 := Lib.hid hP
      have HG3 : Hid (w.heap.size ≤ g3) := by
        have h1 := HG.out; have h2 := HB2.out.size
        rcases hg with e | e
        · rw [e]; exact h1
        · show _ ≤ _; omega
      have HB3 : Hid (Below w.heap.size w w3) := HB2.out.trans (hC.below HB2.out.size (by have := HG.out; simp; omega))
      have f1 : IntKind.u64.wrap ((k : Int) + 1) = ((k + 1 : Nat) : Int) := by rw [IntWalk.u64_in _ ⟨by omega, by omega⟩]; omega
      clear hP hg hC HS
      go_wp2_with fail
      go_roundw
      case rel => exact ⟨k + 1, by omega, by go_num, g3, HP3, HG3, HB3⟩
      case measure => simp [intOf]; omega
    · have e : k = 10 := by omega
      subst e
      have HD := Lib.hid (dueC HP.out (kn_ok 10 (by omega)) (by simp))
      go_wp2_with fail
      refine HD.out.mono ?_
      rintro e w2 ⟨v, M, rfl, hM, hO, hB, hP, hC⟩
      have HP2 : Hid (PSm w.heap.size g [] k2 w2) := hP
      have hl := map_len hM
      rw [show (dueL (kn 10)).length = 8 by decide] at hl
      obtain ⟨a, c, rfl⟩ := hO.form
      rw [hl] at hO ⊢
      obtain ⟨u7, hu7⟩ := map_at hM (j := 7) (x := ⟨8, 0, [7]⟩) (by rfl)
      obtain ⟨h, rfl, hh, d7, _⟩ := hO.at hu7
      have HO2 := Lib.hid d7
      have HH2 : Hid (wr.heap.size ≤ h) := hh
      have HPL := Lib.hid HP.out.lt
      have HC2 := Lib.hid hC
      have HT := takeC HP2.out (dueM_ok (kn_ok 10 (by omega))) (by simp) 0 3 (by omega) (by omega) (.slice none 0 0) [] (fun W _ => Bytes.nil _ none 0 (fun _ => rfl)) (by simp)
      unfold TkA at HT
      rw [show (takeM k2 0 3).ac = 3 by decide, show decide (0 = k2.tk + 1) = false by decide] at HT
      have HT := Lib.hid HT
      clear hM hO hB hP hC hl hu7 hh d7 HD
      go_wp2_with fail
      refine HT.out.mono ?_
      rintro e w3 ⟨u, rfl, hu, hP, hC⟩
      have HP3 : Hid (PSm w.heap.size g [] k3 w3) := hP
      have HC3 := Lib.hid (HC2.out.mono (l' := [w.heap.size, g]) (by simp) |>.trans hC)
      have HO3 := Lib.hid (hC.cell HO2.out (by have := HPL.out; have := HH2.out; simp; omega))
      have HD := Lib.hid (dueC HP3.out (takeM_ok (dueM_ok (kn_ok 10 (by omega))) (by omega) 0 3) (by simp))
      clear hu hP hC HT
      go_wp2_with fail
      refine HD.out.mono ?_
      rintro e w4 ⟨v, M, rfl, hM, hO, hB, hP, hC⟩
      have hl := map_len hM
      rw [show (dueL k3).length = 2 by decide] at hl
      obtain ⟨a, c4, rfl⟩ := hO.form
      rw [hl] at hO ⊢
      obtain ⟨u0, hu0⟩ := map_at hM (j := 0) (x := ⟨9, 0, [8]⟩) (by rfl)
      obtain ⟨h4, rfl, hh, d0, _⟩ := hO.at hu0
      obtain ⟨u1, hu1⟩ := map_at hM (j := 1) (x := ⟨10, 0, [9]⟩) (by rfl)
      obtain ⟨h5, hh5, _, d1, _⟩ := hO.at hu1
      simp at hh5; subst hh5
      have d7 := hC.cell HO3.out (by have := HPL.out; have := HH2.out; simp; omega)
      have HL := leftM (hP.smB (by decide))
      rw [show (dueM k3).line.length = 7 by decide] at HL
      have HL := Lib.hid HL
      have HBF : Hid (Below w.heap.size w w4) := by
        have h1 : Chg [w.heap.size, g] wr w4 := HC3.out.trans (hC.mono (by simp))
        exact HB.out.trans (h1.below HB.out.size (by have := HG.out; simp; omega))
      clear hM hO hB hP hC hl hu0 hu1 hh HD
      go_wp2_with fail
      refine HL.out.mono ?_
      rintro e w5 ⟨rfl, rfl⟩
      go_wp2_with fail
      go_ret
      exact ⟨rfl, HBF.out⟩
end Go.Proofs.Ytghaajmalhcgbaa

namespace Go.Proofs.Ytghaajmalhcgbaa
open Go.RowKit
attribute [local go_sem ↓] Go.wp_at_zero Go.wp_at_succ

def stW (σ : Wn) (k : Nat) : Wn := if k = 0 then σ else if k = 1 then stepW σ false else twoW false σ
def RdR (w0 : World) (P : Bool → Nat) (eb fb : Nat) (A : Bool → Nat) (σ : Wn) (x : Value) (wr : World) : Prop :=
  ∃ (k : Nat) (G : Bool → Nat) (X : List Nat) (V : Bool → Value) (R : Bool → Bool → Value), k ≤ 2 ∧ x = .int .i64 k ∧ Hid (WM w0 P eb fb A G X V R (stW σ k) wr)
theorem tkW_step {τ : Wn} {d : Bool} {L : List (Sg × Value)} {ln : Nat} (h : L.map (·.1) = τ.f d ++ stL (τ.s d)) (hl : ln = L.length) : tkW d L ln (outW τ d (stM (τ.s d)) []) = stepW τ d := by
  unfold tkW stepW
  rw [hl, List.take_of_length_le (by simp), h]
theorem out_le {s : Sm} {L : List Sg} {ms : Nat} (h : OutOk s L ms) : L.length ≤ 8 := by
  rcases h with ⟨_, e, _⟩ | ⟨_, _, e, _, h9, _⟩
  · rw [e]; simp
  · rw [e, segL_len]; omega
theorem tickL_le {s : Sm} {N : Nat} (ok : s.Ok N) : (tickL s).length ≤ 8 := out_le (out_tick ok)
theorem dueL_le {s : Sm} {N : Nat} (ok : s.Ok N) : (dueL s).length ≤ 8 := out_le (out_due ok)
noncomputable def rdBody : Code := ((((Try.f10.body.map loops).getD [])[3]?).getD .skip)
set_option maxRecDepth 1000000 in
def rdI (w0 : World) (P : Bool → Nat) (eb fb : Nat) (A : Bool → Nat) (σ : Wn) (kk0 kk1 kk2 kk3 kk4 kk5 kk6 kk9 kk10 kk12 kk13 kk14 kk15 kk16 kk17 kk18 kk22 kk23 kk24 kk25 kk26 kk27 kk28 kk29 kk30 kk31 kk32 kk33 kk34 kk35 kk36 kk37 kk38 kk39 kk40 kk41 kk42 kk43 kk44 kk45 kk46 kk47 kk48 kk49 kk50 kk51 kk52 kk53 kk54 kk55 kk56 kk57 kk58 kk59 kk60 kk61 kk62 kk63 kk64 kk65 kk66 kk67 kk68 kk69 kk70 kk71 kk72 kk73 kk74 kk75 kk76 kk77 kk78 kk79 kk80 kk81 kk82 kk83 kk84 kk85 kk86 kk87 kk88 kk89 kk90 kk91 kk92 kk93 kk94 kk95 kk96 kk97 kk98 kk99 kk100 kk101 kk102 kk103 kk104 kk105 kk106 kk107 kk108 kk109 kk110 kk111 kk112 kk113 kk114 kk115 kk116 kk117 kk118 kk119 kk120 kk121 kk122 kk123 kk124 kk125 kk126 kk127 kk128 kk129 kk130 kk131 kk132 kk133 kk134 kk135 kk136 kk137 kk138 kk139 kk140 kk141 kk142 kk143 kk144 kk145 kk146 kk147 kk148 kk149 kk150 kk151 kk152 kk153 kk154 kk155 kk156 kk157 kk158 kk159 kk160 kk161 kk162 kk163 kk164 kk165 kk166 kk167 kk168 kk169 kk170 kk171 kk172 kk173 kk174 kk175 kk176 kk177 kk178 kk179 kk180 kk181 kk182 kk183 kk184 kk185 kk186 kk187 kk188 kk189 kk190 kk191 kk192 kk193 kk194 kk195 kk196 kk197 kk198 kk199 kk200 kk201 kk202 kk203 kk204 kk205 kk206 kk207 kk208 kk209 kk210 kk211 kk212 kk213 kk214 kk215 kk216 kk217 kk218 kk219 kk220 kk221 kk222 kk223 kk224 kk225 kk226 kk227 kk228 kk229 kk230 kk231 kk232 kk233 kk234 kk235 kk236 kk237 kk238 kk239 kk240 kk241 kk242 kk276 kk277 kk278 kk279 kk280 kk281 kk282 kk283 kk284 kk285 kk286 kk287 kk288 kk289 kk290 kk291 kk292 kk293 kk294 kk295 kk296 kk297 kk298 kk299 kk300 kk301 kk302 kk303 kk304 : Value) (a : Act) (w' : World) : Prop := ∃ u19 : Value, ∃ u20 : Value, ∃ u21 : Value, ∃ u243 : Value, ∃ u244 : Value, ∃ u245 : Value, ∃ u246 : Value, ∃ u247 : Value, ∃ u248 : Value, ∃ u249 : Value, ∃ u250 : Value, ∃ u251 : Value, ∃ u252 : Value, ∃ u253 : Value, ∃ u254 : Value, ∃ u255 : Value, ∃ u256 : Value, ∃ u257 : Value, ∃ u258 : Value, ∃ u259 : Value, ∃ u260 : Value, ∃ u261 : Value, ∃ u262 : Value, ∃ u263 : Value, ∃ u264 : Value, ∃ u265 : Value, ∃ u266 : Value, ∃ u267 : Value, ∃ u268 : Value, ∃ u269 : Value, ∃ u270 : Value, ∃ u271 : Value, ∃ u272 : Value, ∃ u273 : Value, ∃ u274 : Value, ∃ u275 : Value, RdR w0 P eb fb A σ u19 w' ∧ a = ⟨#[kk0, kk1, kk2, kk3, kk4, kk5, kk6, .pointer (some ⟨eb, 0, none⟩), .pointer (some ⟨fb, 0, none⟩), kk9, kk10, .func (.func 28) #[] #[.pointer (some ⟨eb, 0, none⟩), .pointer (some ⟨A true, 0, none⟩)], kk12, kk13, kk14, kk15, kk16, kk17, kk18, u19, u20, u21, kk22, kk23, kk24, kk25, kk26, kk27, kk28, kk29, kk30, kk31, kk32, kk33, kk34, kk35, kk36, kk37, kk38, kk39, kk40, kk41, kk42, kk43, kk44, kk45, kk46, kk47, kk48, kk49, kk50, kk51, kk52, kk53, kk54, kk55, kk56, kk57, kk58, kk59, kk60, kk61, kk62, kk63, kk64, kk65, kk66, kk67, kk68, kk69, kk70, kk71, kk72, kk73, kk74, kk75, kk76, kk77, kk78, kk79, kk80, kk81, kk82, kk83, kk84, kk85, kk86, kk87, kk88, kk89, kk90, kk91, kk92, kk93, kk94, kk95, kk96, kk97, kk98, kk99, kk100, kk101, kk102, kk103, kk104, kk105, kk106, kk107, kk108, kk109, kk110, kk111, kk112, kk113, kk114, kk115, kk116, kk117, kk118, kk119, kk120, kk121, kk122, kk123, kk124, kk125, kk126, kk127, kk128, kk129, kk130, kk131, kk132, kk133, kk134, kk135, kk136, kk137, kk138, kk139, kk140, kk141, kk142, kk143, kk144, kk145, kk146, kk147, kk148, kk149, kk150, kk151, kk152, kk153, kk154, kk155, kk156, kk157, kk158, kk159, kk160, kk161, kk162, kk163, kk164, kk165, kk166, kk167, kk168, kk169, kk170, kk171, kk172, kk173, kk174, kk175, kk176, kk177, kk178, kk179, kk180, kk181, kk182, kk183, kk184, kk185, kk186, kk187, kk188, kk189, kk190, kk191, kk192, kk193, kk194, kk195, kk196, kk197, kk198, kk199, kk200, kk201, kk202, kk203, kk204, kk205, kk206, kk207, kk208, kk209, kk210, kk211, kk212, kk213, kk214, kk215, kk216, kk217, kk218, kk219, kk220, kk221, kk222, kk223, kk224, kk225, kk226, kk227, kk228, kk229, kk230, kk231, kk232, kk233, kk234, kk235, kk236, kk237, kk238, kk239, kk240, kk241, kk242, u243, u244, u245, u246, u247, u248, u249, u250, u251, u252, u253, u254, u255, u256, u257, u258, u259, u260, u261, u262, u263, u264, u265, u266, u267, u268, u269, u270, u271, u272, u273, u274, u275, kk276, kk277, kk278, kk279, kk280, kk281, kk282, kk283, kk284, kk285, kk286, kk287, kk288, kk289, kk290, kk291, kk292, kk293, kk294, kk295, kk296, kk297, kk298, kk299, kk300, kk301, kk302, kk303, kk304], []⟩
def rdMu (n : Nat) (a : Act) (_ : World) : Nat := n - (intOf (a.tmps.getD 19 undef)).toNat
end Go.Proofs.Ytghaajmalhcgbaa

namespace Go.Proofs.Ytghaajmalhcgbaa
open Go.ChangeShapes Go.WideShapes Go.ChangeAt Go.RowKit

theorem lt_u8 {a : Int} (h : 0 ≤ a ∧ a ≤ 255) : a < 256 := by omega
theorem lt_u16 {a : Int} (h : 0 ≤ a ∧ a ≤ 65535) : a < 65536 := by omega
theorem lt_u32 {a : Int} (h : 0 ≤ a ∧ a ≤ 4294967295) : a < 4294967296 := by omega
theorem lt_u64 {a : Int} (h : 0 ≤ a ∧ a ≤ 18446744073709551615) : a < 18446744073709551616 := by omega

theorem own : ownKnob Try.prog.godebug = none := by kernel_rfl
theorem laidOut : laidOutB Try.prog = true := by kernel_rfl


theorem spot_none {W : World} {a : Addr} {v : Value} (h : W.cell? (a.add 0) = some v) : a.spot = none := by
  obtain ⟨b, o, sp⟩ := a
  cases sp with
  | none => rfl
  | some s =>
    simp [World.cell?, Addr.add] at h
    split at h <;> cases h
theorem bytes_of_ints {W : World} {A : Option Addr} {len cap : Nat} {zs : List Int} (hl : len ≤ cap) (hz : zs.length = cap) (hwz : ∀ n ∈ zs, (Lit.int .u8 n).wf = true) (h0 : A = none → cap = 0)
    (hc : ∀ a, A = some a → ∀ c, c < cap → W.cell? (a.add c) = some (.int .u8 (zs.getD c 0))) : Bytes W (.slice A len cap) ((zs.take len).map fun z => UInt8.ofNat z.toNat) := by
  have hlen : ((zs.take len).map fun z => UInt8.ofNat z.toNat).length = len := by simp; omega
  rcases Nat.eq_zero_or_pos len with hp | hp
  · subst hp
    exact .inl ⟨by simp, A, cap, rfl, h0⟩
  · cases A with
    | none => have := h0 rfl; omega
    | some x =>
      have hcell := hc x rfl
      have hc0 := hcell 0 (by omega)
      have hsp := spot_none hc0
      obtain ⟨b, o, sp⟩ := x
      simp only at hsp
      subst hsp
      refine .inr ⟨b, o, cap, by rw [hlen], ?_, by rw [hlen]; exact hl, ?_⟩
      · have := World.block_lt_of_cell? _ _ hc0
        simpa [Addr.add] using this
      · intro j y hy
        simp only [List.getElem?_map, Option.map_eq_some_iff] at hy
        obtain ⟨z, hz1, rfl⟩ := hy
        have hj : j < len := by
          have := (List.getElem?_eq_some_iff.1 hz1).1
          simp at this; omega
        have hz2 : zs[j]? = some z := by rw [List.getElem?_take, if_pos hj] at hz1; exact hz1
        have hb := bounds_u8 (hwz z (List.mem_of_getElem? hz2))
        have hcj := hcell j (by omega)
        have he : zs.getD j 0 = z := by simp [List.getD, hz2]
        rw [he] at hcj
        have hn : ((UInt8.ofNat z.toNat).toNat : Int) = z := by rw [UInt8.toNat_ofNat']; omega
        rw [hn]
        cases j with
        | zero => simpa [Addr.add] using hcj
        | succ j => simpa [Addr.add] using hcj

set_option maxRecDepth 100000 in
theorem open_bytes {H : Type} {enc : TypeId × Value → H} {W : World} {base : Nat} {v : Value} {d : DataW H} {p : List MemPlace}
    (hv : Value.okWide Try.prog W .any base 90 v) (h : DataW.Trod enc Try.prog W 0 (fun _ => true) true 90 v d p) : ∃ l : List UInt8, Bytes W v l ∧ l.length ≤ 9223372036854775807 := by
  obtain ⟨a, len, cap, rfl⟩ := okWide_slice Try.underlying90 hv
  obtain ⟨fuel, hf⟩ := h
  rcases open_ints Try.underlying90 Try.underlying5 (by kernel_rfl) hf with ⟨hcs, _⟩ | ⟨x, l, c, zs, hcs, _, hl, hm, hz, _, hcell, hwz⟩
  · simp [Value.cells] at hcs
    obtain ⟨rfl, rfl, rfl⟩ := hcs
    exact ⟨[], Bytes.nil _ _ _, by simp⟩
  · simp [Value.cells] at hcs
    obtain ⟨rfl, rfl, rfl⟩ := hcs
    unfold maxLen at hm
    have hzl : zs.length = cap := by simpa using hz
    exact ⟨_, bytes_of_ints hl hzl hwz (fun h => by cases h) (fun a ha c hc => by cases ha; exact hcell c (by omega)), by simp; omega⟩

set_option maxRecDepth 100000 in
theorem open_lists {H : Type} {enc : TypeId × Value → H} {W : World} {base : Nat} {v : Value} {d : DataW H} {p : List MemPlace}
    (hv : Value.okWide Try.prog W .any base 135 v) (h : DataW.Trod enc Try.prog W 0 (fun _ => true) true 135 v d p) :
    ∃ L : List (List UInt8), Lists W v L ∧ L.length ≤ 9223372036854775807 ∧ ∀ l ∈ L, l.length ≤ 9223372036854775807 := by
  obtain ⟨a, len, cap, rfl⟩ := okWide_slice Try.underlying135 hv
  obtain ⟨fuel, hf⟩ := h
  rcases Deep.open_int_rows Try.underlying135 Try.underlying90 Try.underlying5 (by kernel_rfl) (by kernel_rfl) hf with ⟨hcs, _⟩ | ⟨x, l, c, A, Ln, C, Z, hcs, _, hl, hm, _, hr⟩
  · simp [Value.cells] at hcs
    obtain ⟨rfl, rfl, rfl⟩ := hcs
    exact ⟨[], Lists.nil _ _ _, by simp, by simp⟩
  · simp [Value.cells] at hcs
    obtain ⟨rfl, rfl, rfl⟩ := hcs
    unfold maxLen at hm hr
    have each : ∀ r, r < cap → Bytes W (.slice (A r) (Ln r) (C r)) (((Z r).take (Ln r)).map fun z => UInt8.ofNat z.toNat) := fun r hrr => by
      obtain ⟨_, h1, h2, h3, h4, h5, h6⟩ := hr r hrr
      exact bytes_of_ints h1 h3 h4 h5 (fun a ha c hc => (h6 a ha).2 c hc)
    refine ⟨(List.range len).map fun r => ((Z r).take (Ln r)).map fun z => UInt8.ofNat z.toNat, ?_, by simp; omega, ?_⟩
    · rcases Nat.eq_zero_or_pos len with hp | hp
      · subst hp
        exact .inl ⟨by simp, _, _, rfl, fun h => by cases h⟩
      · have hc0 := (hr 0 (by omega)).1
        have hsp := spot_none hc0
        obtain ⟨b, o, sp⟩ := x
        simp only at hsp
        subst hsp
        refine .inr ⟨b, o, cap, by simp, ?_, by simpa using hl, ?_⟩
        · have := World.block_lt_of_cell? _ _ hc0
          simpa [Addr.add] using this
        · intro j l hjl
          simp only [List.getElem?_map, Option.map_eq_some_iff] at hjl
          obtain ⟨r, hr1, rfl⟩ := hjl
          have hj : j < len := by
            have := (List.getElem?_eq_some_iff.1 hr1).1
            simpa using this
          have hr2 : r = j := by rw [List.getElem?_range hj] at hr1; cases hr1; rfl
          subst hr2
          refine ⟨_, ?_, each r (by omega)⟩
          have := (hr r (by omega)).1
          cases r with
          | zero => simpa [Addr.add] using this
          | succ r => simpa [Addr.add] using this
    · intro l hl2
      simp only [List.mem_map, List.mem_range] at hl2
      obtain ⟨r, hr1, rfl⟩ := hl2
      obtain ⟨_, h1, h2, h3, _⟩ := hr r (by omega)
      simp; omega

set_option maxRecDepth 100000 in
theorem open_introw {H : Type} {enc : TypeId × Value → H} {W : World} {base : Nat} {v : Value} {d : DataW H} {p : List MemPlace}
    (hv : Value.okWide Try.prog W .any base 62 v) (h : DataW.Trod enc Try.prog W 0 (fun _ => true) true 62 v d p) :
    ∃ zs : List Int, Row W v (iv zs) ∧ zs.length ≤ 9223372036854775807 ∧ ∀ z ∈ zs, -9223372036854775808 ≤ z ∧ z ≤ 9223372036854775807 := by
  obtain ⟨a, len, cap, rfl⟩ := okWide_slice Try.underlying62 hv
  obtain ⟨fuel, hf⟩ := h
  rcases open_ints Try.underlying62 Try.underlying3 (by kernel_rfl) hf with ⟨hcs, _⟩ | ⟨x, l, c, zs, hcs, _, hl, hm, hz, _, hcell, hwz⟩
  · simp [Value.cells] at hcs
    obtain ⟨rfl, rfl, rfl⟩ := hcs
    exact ⟨[], .inl ⟨rfl, _, _, rfl, fun _ => rfl⟩, by simp, by simp⟩
  · simp [Value.cells] at hcs
    obtain ⟨rfl, rfl, rfl⟩ := hcs
    unfold maxLen at hm
    have hzl : zs.length = cap := by simpa using hz
    refine ⟨zs.take len, ?_, by simp; omega, fun z hz2 => bounds_i64 (hwz z (List.mem_of_mem_take hz2))⟩
    rcases Nat.eq_zero_or_pos len with hp | hp
    · subst hp
      exact .inl ⟨by simp [iv], _, _, rfl, fun h => by cases h⟩
    · have hc0 := hcell 0 (by omega)
      have hsp := spot_none hc0
      obtain ⟨b, o, sp⟩ := x
      simp only at hsp
      subst hsp
      have hlen : (iv (zs.take len)).length = len := by simp [iv]; omega
      refine .inr ⟨b, o, cap, by rw [hlen], ?_, by rw [hlen]; exact hl, ?_⟩
      · have := World.block_lt_of_cell? _ _ hc0
        simpa [Addr.add] using this
      · intro j y hy
        simp only [iv, List.getElem?_map, Option.map_eq_some_iff] at hy
        obtain ⟨z, hz1, rfl⟩ := hy
        have hj : j < len := by
          have := (List.getElem?_eq_some_iff.1 hz1).1
          simp at this; omega
        have hz2 : zs[j]? = some z := by rw [List.getElem?_take, if_pos hj] at hz1; exact hz1
        have hcj := hcell j (by omega)
        have he : zs.getD j 0 = z := by simp [List.getD, hz2]
        rw [he] at hcj
        cases j with
        | zero => simpa [Addr.add] using hcj
        | succ j => simpa [Addr.add] using hcj

end Go.Proofs.Ytghaajmalhcgbaa
