/- RelWhole: the acts (in a round: hpan). -/
import Derived.Test.YtghaajmalhcgbaaZ12
import Derived.Test.YtghaajmalhcgbaaZ13
import Derived.Test.YtghaajmalhcgbaaZ14
import Derived.Test.YtghaajmalhcgbaaZ15
import Derived.Test.YtghaajmalhcgbaaZ16
import Derived.Test.YtghaajmalhcgbaaZ17
import Derived.Test.YtghaajmalhcgbaaZ18
import Derived.Test.YtghaajmalhcgbaaZ19
import Derived.Test.YtghaajmalhcgbaaZ20
import Derived.Test.YtghaajmalhcgbaaZ21
import Derived.Test.YtghaajmalhcgbaaZ22
import Derived.Test.YtghaajmalhcgbaaZ23

set_option linter.unusedSimpArgs false
set_option linter.unusedVariables false
namespace Go.Proofs.Ytghaajmalhcgbaa
open Go.RowKit
attribute [local go_sem ↓] Go.wp_at_zero Go.wp_at_succ

set_option maxHeartbeats 4000000 in
set_option maxRecDepth 1000000 in
theorem acRound {w : World} {P : Bool → Nat} {eb fb : Nat} {A : Bool → Nat} {nl : Nat} {a0 : Option Addr} {c0 : Nat} {l : List Wy} (kk1 kk2 kk3 kk4 kk5 kk6 kk18 kk19 kk20 kk21 kk22 kk23 kk24 kk25 kk26 kk27 kk28 kk29 kk30 kk31 kk32 kk33 kk34 kk35 kk36 kk37 kk38 kk39 kk40 kk41 kk42 kk43 kk239 kk240 kk241 kk242 kk243 kk244 kk245 kk246 kk247 kk248 kk249 kk250 kk251 kk252 kk253 kk254 kk255 kk256 kk257 kk258 kk259 kk260 kk261 kk262 kk263 kk264 kk265 kk266 kk267 kk268 kk269 kk270 kk271 kk272 kk273 kk274 kk275 kk276 kk277 kk278 kk279 kk280 kk281 kk282 kk283 kk284 kk285 kk286 kk287 kk288 kk289 kk290 kk291 kk292 kk293 kk294 kk295 kk296 kk297 kk298 kk299 kk300 kk301 kk302 kk303 kk304 : Value) {Q0 : Exit → Act → World → Prop} (HV : Hid (Rds 3 Wy.cs w (.slice a0 nl c0) l)) (HS : Hid (∀ x ∈ l, x.Ok)) (HNN : Hid (nl = l.length)) (g0 : (nl : Int) ≤ 200) (hpan : ∀ x (a : Act) (d : Option Nat) v w', Q0 (.panic x) (a.put d v) w' → Q0 (.panic x) a w') (a : Act) (wr : World) (hI : acI w P eb fb A nl a0 c0 kk1 kk2 kk3 kk4 kk5 kk6 kk18 kk19 kk20 kk21 kk22 kk23 kk24 kk25 kk26 kk27 kk28 kk29 kk30 kk31 kk32 kk33 kk34 kk35 kk36 kk37 kk38 kk39 kk40 kk41 kk42 kk43 kk239 kk240 kk241 kk242 kk243 kk244 kk245 kk246 kk247 kk248 kk249 kk250 kk251 kk252 kk253 kk254 kk255 kk256 kk257 kk258 kk259 kk260 kk261 kk262 kk263 kk264 kk265 kk266 kk267 kk268 kk269 kk270 kk271 kk272 kk273 kk274 kk275 kk276 kk277 kk278 kk279 kk280 kk281 kk282 kk283 kk284 kk285 kk286 kk287 kk288 kk289 kk290 kk291 kk292 kk293 kk294 kk295 kk296 kk297 kk298 kk299 kk300 kk301 kk302 kk303 kk304 a wr) (hexit : ∀ a' w'', acI w P eb fb A nl a0 c0 kk1 kk2 kk3 kk4 kk5 kk6 kk18 kk19 kk20 kk21 kk22 kk23 kk24 kk25 kk26 kk27 kk28 kk29 kk30 kk31 kk32 kk33 kk34 kk35 kk36 kk37 kk38 kk39 kk40 kk41 kk42 kk43 kk239 kk240 kk241 kk242 kk243 kk244 kk245 kk246 kk247 kk248 kk249 kk250 kk251 kk252 kk253 kk254 kk255 kk256 kk257 kk258 kk259 kk260 kk261 kk262 kk263 kk264 kk265 kk266 kk267 kk268 kk269 kk270 kk271 kk272 kk273 kk274 kk275 kk276 kk277 kk278 kk279 kk280 kk281 kk282 kk283 kk284 kk285 kk286 kk287 kk288 kk289 kk290 kk291 kk292 kk293 kk294 kk295 kk296 kk297 kk298 kk299 kk300 kk301 kk302 kk303 kk304 a' w'' → acMu nl a' w'' = 0 → Q0 (.exit 0) a' w'') :
    Code.wp Try.prog acBody (Exit.then (fun a' w'' => acI w P eb fb A nl a0 c0 kk1 kk2 kk3 kk4 kk5 kk6 kk18 kk19 kk20 kk21 kk22 kk23 kk24 kk25 kk26 kk27 kk28 kk29 kk30 kk31 kk32 kk33 kk34 kk35 kk36 kk37 kk38 kk39 kk40 kk41 kk42 kk43 kk239 kk240 kk241 kk242 kk243 kk244 kk245 kk246 kk247 kk248 kk249 kk250 kk251 kk252 kk253 kk254 kk255 kk256 kk257 kk258 kk259 kk260 kk261 kk262 kk263 kk264 kk265 kk266 kk267 kk268 kk269 kk270 kk271 kk272 kk273 kk274 kk275 kk276 kk277 kk278 kk279 kk280 kk281 kk282 kk283 kk284 kk285 kk286 kk287 kk288 kk289 kk290 kk291 kk292 kk293 kk294 kk295 kk296 kk297 kk298 kk299 kk300 kk301 kk302 kk303 kk304 a' w'' ∧ acMu nl a' w'' < acMu nl a wr) Q0) a wr := by
  unfold acI at hI
  obtain ⟨u12, hI⟩ := hI
  obtain ⟨u13, hI⟩ := hI
  obtain ⟨u14, hI⟩ := hI
  obtain ⟨u15, hI⟩ := hI
  obtain ⟨u16, hI⟩ := hI
  obtain ⟨u17, hI⟩ := hI
  obtain ⟨u44, hI⟩ := hI
  obtain ⟨u45, hI⟩ := hI
  obtain ⟨u46, hI⟩ := hI
  obtain ⟨u47, hI⟩ := hI
  obtain ⟨u48, hI⟩ := hI
  obtain ⟨u49, hI⟩ := hI
  obtain ⟨u50, hI⟩ := hI
  obtain ⟨u51, hI⟩ := hI
  obtain ⟨u52, hI⟩ := hI
  obtain ⟨u53, hI⟩ := hI
  obtain ⟨u54, hI⟩ := hI
  obtain ⟨u55, hI⟩ := hI
  obtain ⟨u56, hI⟩ := hI
  obtain ⟨u57, hI⟩ := hI
  obtain ⟨u58, hI⟩ := hI
  obtain ⟨u59, hI⟩ := hI
  obtain ⟨u60, hI⟩ := hI
  obtain ⟨u61, hI⟩ := hI
  obtain ⟨u62, hI⟩ := hI
  obtain ⟨u63, hI⟩ := hI
  obtain ⟨u64, hI⟩ := hI
  obtain ⟨u65, hI⟩ := hI
  obtain ⟨u66, hI⟩ := hI
  obtain ⟨u67, hI⟩ := hI
  obtain ⟨u68, hI⟩ := hI
  obtain ⟨u69, hI⟩ := hI
  obtain ⟨u70, hI⟩ := hI
  obtain ⟨u71, hI⟩ := hI
  obtain ⟨u72, hI⟩ := hI
  obtain ⟨u73, hI⟩ := hI
  obtain ⟨u74, hI⟩ := hI
  obtain ⟨u75, hI⟩ := hI
  obtain ⟨u76, hI⟩ := hI
  obtain ⟨u77, hI⟩ := hI
  obtain ⟨u78, hI⟩ := hI
  obtain ⟨u79, hI⟩ := hI
  obtain ⟨u80, hI⟩ := hI
  obtain ⟨u81, hI⟩ := hI
  obtain ⟨u82, hI⟩ := hI
  obtain ⟨u83, hI⟩ := hI
  obtain ⟨u84, hI⟩ := hI
  obtain ⟨u85, hI⟩ := hI
  obtain ⟨u86, hI⟩ := hI
  obtain ⟨u87, hI⟩ := hI
  obtain ⟨u88, hI⟩ := hI
  obtain ⟨u89, hI⟩ := hI
  obtain ⟨u90, hI⟩ := hI
  obtain ⟨u91, hI⟩ := hI
  obtain ⟨u92, hI⟩ := hI
  obtain ⟨u93, hI⟩ := hI
  obtain ⟨u94, hI⟩ := hI
  obtain ⟨u95, hI⟩ := hI
  obtain ⟨u96, hI⟩ := hI
  obtain ⟨u97, hI⟩ := hI
  obtain ⟨u98, hI⟩ := hI
  obtain ⟨u99, hI⟩ := hI
  obtain ⟨u100, hI⟩ := hI
  obtain ⟨u101, hI⟩ := hI
  obtain ⟨u102, hI⟩ := hI
  obtain ⟨u103, hI⟩ := hI
  obtain ⟨u104, hI⟩ := hI
  obtain ⟨u105, hI⟩ := hI
  obtain ⟨u106, hI⟩ := hI
  obtain ⟨u107, hI⟩ := hI
  obtain ⟨u108, hI⟩ := hI
  obtain ⟨u109, hI⟩ := hI
  obtain ⟨u110, hI⟩ := hI
  obtain ⟨u111, hI⟩ := hI
  obtain ⟨u112, hI⟩ := hI
  obtain ⟨u113, hI⟩ := hI
  obtain ⟨u114, hI⟩ := hI
  obtain ⟨u115, hI⟩ := hI
  obtain ⟨u116, hI⟩ := hI
  obtain ⟨u117, hI⟩ := hI
  obtain ⟨u118, hI⟩ := hI
  obtain ⟨u119, hI⟩ := hI
  obtain ⟨u120, hI⟩ := hI
  obtain ⟨u121, hI⟩ := hI
  obtain ⟨u122, hI⟩ := hI
  obtain ⟨u123, hI⟩ := hI
  obtain ⟨u124, hI⟩ := hI
  obtain ⟨u125, hI⟩ := hI
  obtain ⟨u126, hI⟩ := hI
  obtain ⟨u127, hI⟩ := hI
  obtain ⟨u128, hI⟩ := hI
  obtain ⟨u129, hI⟩ := hI
  obtain ⟨u130, hI⟩ := hI
  obtain ⟨u131, hI⟩ := hI
  obtain ⟨u132, hI⟩ := hI
  obtain ⟨u133, hI⟩ := hI
  obtain ⟨u134, hI⟩ := hI
  obtain ⟨u135, hI⟩ := hI
  obtain ⟨u136, hI⟩ := hI
  obtain ⟨u137, hI⟩ := hI
  obtain ⟨u138, hI⟩ := hI
  obtain ⟨u139, hI⟩ := hI
  obtain ⟨u140, hI⟩ := hI
  obtain ⟨u141, hI⟩ := hI
  obtain ⟨u142, hI⟩ := hI
  obtain ⟨u143, hI⟩ := hI
  obtain ⟨u144, hI⟩ := hI
  obtain ⟨u145, hI⟩ := hI
  obtain ⟨u146, hI⟩ := hI
  obtain ⟨u147, hI⟩ := hI
  obtain ⟨u148, hI⟩ := hI
  obtain ⟨u149, hI⟩ := hI
  obtain ⟨u150, hI⟩ := hI
  obtain ⟨u151, hI⟩ := hI
  obtain ⟨u152, hI⟩ := hI
  obtain ⟨u153, hI⟩ := hI
  obtain ⟨u154, hI⟩ := hI
  obtain ⟨u155, hI⟩ := hI
  obtain ⟨u156, hI⟩ := hI
  obtain ⟨u157, hI⟩ := hI
  obtain ⟨u158, hI⟩ := hI
  obtain ⟨u159, hI⟩ := hI
  obtain ⟨u160, hI⟩ := hI
  obtain ⟨u161, hI⟩ := hI
  obtain ⟨u162, hI⟩ := hI
  obtain ⟨u163, hI⟩ := hI
  obtain ⟨u164, hI⟩ := hI
  obtain ⟨u165, hI⟩ := hI
  obtain ⟨u166, hI⟩ := hI
  obtain ⟨u167, hI⟩ := hI
  obtain ⟨u168, hI⟩ := hI
  obtain ⟨u169, hI⟩ := hI
  obtain ⟨u170, hI⟩ := hI
  obtain ⟨u171, hI⟩ := hI
  obtain ⟨u172, hI⟩ := hI
  obtain ⟨u173, hI⟩ := hI
  obtain ⟨u174, hI⟩ := hI
  obtain ⟨u175, hI⟩ := hI
  obtain ⟨u176, hI⟩ := hI
  obtain ⟨u177, hI⟩ := hI
  obtain ⟨u178, hI⟩ := hI
  obtain ⟨u179, hI⟩ := hI
  obtain ⟨u180, hI⟩ := hI
  obtain ⟨u181, hI⟩ := hI
  obtain ⟨u182, hI⟩ := hI
  obtain ⟨u183, hI⟩ := hI
  obtain ⟨u184, hI⟩ := hI
  obtain ⟨u185, hI⟩ := hI
  obtain ⟨u186, hI⟩ := hI
  obtain ⟨u187, hI⟩ := hI
  obtain ⟨u188, hI⟩ := hI
  obtain ⟨u189, hI⟩ := hI
  obtain ⟨u190, hI⟩ := hI
  obtain ⟨u191, hI⟩ := hI
  obtain ⟨u192, hI⟩ := hI
  obtain ⟨u193, hI⟩ := hI
  obtain ⟨u194, hI⟩ := hI
  obtain ⟨u195, hI⟩ := hI
  obtain ⟨u196, hI⟩ := hI
  obtain ⟨u197, hI⟩ := hI
  obtain ⟨u198, hI⟩ := hI
  obtain ⟨u199, hI⟩ := hI
  obtain ⟨u200, hI⟩ := hI
  obtain ⟨u201, hI⟩ := hI
  obtain ⟨u202, hI⟩ := hI
  obtain ⟨u203, hI⟩ := hI
  obtain ⟨u204, hI⟩ := hI
  obtain ⟨u205, hI⟩ := hI
  obtain ⟨u206, hI⟩ := hI
  obtain ⟨u207, hI⟩ := hI
  obtain ⟨u208, hI⟩ := hI
  obtain ⟨u209, hI⟩ := hI
  obtain ⟨u210, hI⟩ := hI
  obtain ⟨u211, hI⟩ := hI
  obtain ⟨u212, hI⟩ := hI
  obtain ⟨u213, hI⟩ := hI
  obtain ⟨u214, hI⟩ := hI
  obtain ⟨u215, hI⟩ := hI
  obtain ⟨u216, hI⟩ := hI
  obtain ⟨u217, hI⟩ := hI
  obtain ⟨u218, hI⟩ := hI
  obtain ⟨u219, hI⟩ := hI
  obtain ⟨u220, hI⟩ := hI
  obtain ⟨u221, hI⟩ := hI
  obtain ⟨u222, hI⟩ := hI
  obtain ⟨u223, hI⟩ := hI
  obtain ⟨u224, hI⟩ := hI
  obtain ⟨u225, hI⟩ := hI
  obtain ⟨u226, hI⟩ := hI
  obtain ⟨u227, hI⟩ := hI
  obtain ⟨u228, hI⟩ := hI
  obtain ⟨u229, hI⟩ := hI
  obtain ⟨u230, hI⟩ := hI
  obtain ⟨u231, hI⟩ := hI
  obtain ⟨u232, hI⟩ := hI
  obtain ⟨u233, hI⟩ := hI
  obtain ⟨u234, hI⟩ := hI
  obtain ⟨u235, hI⟩ := hI
  obtain ⟨u236, hI⟩ := hI
  obtain ⟨u237, hI⟩ := hI
  obtain ⟨u238, hI⟩ := hI
  obtain ⟨hrel, ha⟩ := hI
  subst ha
  obtain ⟨i, G, X, V, R, σ, hi, rfl, HM, HA⟩ := hrel
  rcases Nat.lt_or_ge i nl with hlt | hge
  · obtain ⟨x0, hx0⟩ : ∃ x, l[i]? = some x := ⟨l[i]'(by have := HNN.out; omega), List.getElem?_eq_getElem _⟩
    have hx : ∀ (Pr : Wy → Prop), Pr x0 → ∀ x, l[i]? = some x → Pr x := fun Pr h x hx => by rw [hx0] at hx; cases hx; exact h
    rcases hb : x0.back with _ | _
    · skip
      by_cases k1 : x0.k = 1
      · exact acCaseA1 HV HS HNN g0 HM HA hlt (hx (fun x => x.back = false ∧ x.k = 1) ⟨hb, k1⟩) kk1 kk2 kk3 kk4 kk5 kk6 kk18 kk19 kk20 kk21 kk22 kk23 kk24 kk25 kk26 kk27 kk28 kk29 kk30 kk31 kk32 kk33 kk34 kk35 kk36 kk37 kk38 kk39 kk40 kk41 kk42 kk43 kk239 kk240 kk241 kk242 kk243 kk244 kk245 kk246 kk247 kk248 kk249 kk250 kk251 kk252 kk253 kk254 kk255 kk256 kk257 kk258 kk259 kk260 kk261 kk262 kk263 kk264 kk265 kk266 kk267 kk268 kk269 kk270 kk271 kk272 kk273 kk274 kk275 kk276 kk277 kk278 kk279 kk280 kk281 kk282 kk283 kk284 kk285 kk286 kk287 kk288 kk289 kk290 kk291 kk292 kk293 kk294 kk295 kk296 kk297 kk298 kk299 kk300 kk301 kk302 kk303 kk304 u13 u14 u15 u16 u17 u44 u45 u46 u47 u48 u49 u50 u51 u52 u53 u54 u55 u56 u57 u58 u59 u60 u61 u62 u63 u64 u65 u66 u67 u68 u69 u70 u71 u72 u73 u74 u75 u76 u77 u78 u79 u80 u81 u82 u83 u84 u85 u86 u87 u88 u89 u90 u91 u92 u93 u94 u95 u96 u97 u98 u99 u100 u101 u102 u103 u104 u105 u106 u107 u108 u109 u110 u111 u112 u113 u114 u115 u116 u117 u118 u119 u120 u121 u122 u123 u124 u125 u126 u127 u128 u129 u130 u131 u132 u133 u134 u135 u136 u137 u138 u139 u140 u141 u142 u143 u144 u145 u146 u147 u148 u149 u150 u151 u152 u153 u154 u155 u156 u157 u158 u159 u160 u161 u162 u163 u164 u165 u166 u167 u168 u169 u170 u171 u172 u173 u174 u175 u176 u177 u178 u179 u180 u181 u182 u183 u184 u185 u186 u187 u188 u189 u190 u191 u192 u193 u194 u195 u196 u197 u198 u199 u200 u201 u202 u203 u204 u205 u206 u207 u208 u209 u210 u211 u212 u213 u214 u215 u216 u217 u218 u219 u220 u221 u222 u223 u224 u225 u226 u227 u228 u229 u230 u231 u232 u233 u234 u235 u236 u237 u238 hpan
      by_cases k2 : x0.k = 2
      · exact acCaseA2 HV HS HNN g0 HM HA hlt (hx (fun x => x.back = false ∧ x.k = 2) ⟨hb, k2⟩) kk1 kk2 kk3 kk4 kk5 kk6 kk18 kk19 kk20 kk21 kk22 kk23 kk24 kk25 kk26 kk27 kk28 kk29 kk30 kk31 kk32 kk33 kk34 kk35 kk36 kk37 kk38 kk39 kk40 kk41 kk42 kk43 kk239 kk240 kk241 kk242 kk243 kk244 kk245 kk246 kk247 kk248 kk249 kk250 kk251 kk252 kk253 kk254 kk255 kk256 kk257 kk258 kk259 kk260 kk261 kk262 kk263 kk264 kk265 kk266 kk267 kk268 kk269 kk270 kk271 kk272 kk273 kk274 kk275 kk276 kk277 kk278 kk279 kk280 kk281 kk282 kk283 kk284 kk285 kk286 kk287 kk288 kk289 kk290 kk291 kk292 kk293 kk294 kk295 kk296 kk297 kk298 kk299 kk300 kk301 kk302 kk303 kk304 u13 u14 u15 u16 u17 u44 u45 u46 u47 u48 u49 u50 u51 u52 u53 u54 u55 u56 u57 u58 u59 u60 u61 u62 u63 u64 u65 u66 u67 u68 u69 u70 u71 u72 u73 u74 u75 u76 u77 u78 u79 u80 u81 u82 u83 u84 u85 u86 u87 u88 u89 u90 u91 u92 u93 u94 u95 u96 u97 u98 u99 u100 u101 u102 u103 u104 u105 u106 u107 u108 u109 u110 u111 u112 u113 u114 u115 u116 u117 u118 u119 u120 u121 u122 u123 u124 u125 u126 u127 u128 u129 u130 u131 u132 u133 u134 u135 u136 u137 u138 u139 u140 u141 u142 u143 u144 u145 u146 u147 u148 u149 u150 u151 u152 u153 u154 u155 u156 u157 u158 u159 u160 u161 u162 u163 u164 u165 u166 u167 u168 u169 u170 u171 u172 u173 u174 u175 u176 u177 u178 u179 u180 u181 u182 u183 u184 u185 u186 u187 u188 u189 u190 u191 u192 u193 u194 u195 u196 u197 u198 u199 u200 u201 u202 u203 u204 u205 u206 u207 u208 u209 u210 u211 u212 u213 u214 u215 u216 u217 u218 u219 u220 u221 u222 u223 u224 u225 u226 u227 u228 u229 u230 u231 u232 u233 u234 u235 u236 u237 u238 hpan
      by_cases k3 : x0.k = 3
      · exact acCaseA3 HV HS HNN g0 HM HA hlt (hx (fun x => x.back = false ∧ x.k = 3) ⟨hb, k3⟩) kk1 kk2 kk3 kk4 kk5 kk6 kk18 kk19 kk20 kk21 kk22 kk23 kk24 kk25 kk26 kk27 kk28 kk29 kk30 kk31 kk32 kk33 kk34 kk35 kk36 kk37 kk38 kk39 kk40 kk41 kk42 kk43 kk239 kk240 kk241 kk242 kk243 kk244 kk245 kk246 kk247 kk248 kk249 kk250 kk251 kk252 kk253 kk254 kk255 kk256 kk257 kk258 kk259 kk260 kk261 kk262 kk263 kk264 kk265 kk266 kk267 kk268 kk269 kk270 kk271 kk272 kk273 kk274 kk275 kk276 kk277 kk278 kk279 kk280 kk281 kk282 kk283 kk284 kk285 kk286 kk287 kk288 kk289 kk290 kk291 kk292 kk293 kk294 kk295 kk296 kk297 kk298 kk299 kk300 kk301 kk302 kk303 kk304 u13 u14 u15 u16 u17 u44 u45 u46 u47 u48 u49 u50 u51 u52 u53 u54 u55 u56 u57 u58 u59 u60 u61 u62 u63 u64 u65 u66 u67 u68 u69 u70 u71 u72 u73 u74 u75 u76 u77 u78 u79 u80 u81 u82 u83 u84 u85 u86 u87 u88 u89 u90 u91 u92 u93 u94 u95 u96 u97 u98 u99 u100 u101 u102 u103 u104 u105 u106 u107 u108 u109 u110 u111 u112 u113 u114 u115 u116 u117 u118 u119 u120 u121 u122 u123 u124 u125 u126 u127 u128 u129 u130 u131 u132 u133 u134 u135 u136 u137 u138 u139 u140 u141 u142 u143 u144 u145 u146 u147 u148 u149 u150 u151 u152 u153 u154 u155 u156 u157 u158 u159 u160 u161 u162 u163 u164 u165 u166 u167 u168 u169 u170 u171 u172 u173 u174 u175 u176 u177 u178 u179 u180 u181 u182 u183 u184 u185 u186 u187 u188 u189 u190 u191 u192 u193 u194 u195 u196 u197 u198 u199 u200 u201 u202 u203 u204 u205 u206 u207 u208 u209 u210 u211 u212 u213 u214 u215 u216 u217 u218 u219 u220 u221 u222 u223 u224 u225 u226 u227 u228 u229 u230 u231 u232 u233 u234 u235 u236 u237 u238 hpan
      by_cases k4 : x0.k = 4
      · exact acCaseA4 HV HS HNN g0 HM HA hlt (hx (fun x => x.back = false ∧ x.k = 4) ⟨hb, k4⟩) kk1 kk2 kk3 kk4 kk5 kk6 kk18 kk19 kk20 kk21 kk22 kk23 kk24 kk25 kk26 kk27 kk28 kk29 kk30 kk31 kk32 kk33 kk34 kk35 kk36 kk37 kk38 kk39 kk40 kk41 kk42 kk43 kk239 kk240 kk241 kk242 kk243 kk244 kk245 kk246 kk247 kk248 kk249 kk250 kk251 kk252 kk253 kk254 kk255 kk256 kk257 kk258 kk259 kk260 kk261 kk262 kk263 kk264 kk265 kk266 kk267 kk268 kk269 kk270 kk271 kk272 kk273 kk274 kk275 kk276 kk277 kk278 kk279 kk280 kk281 kk282 kk283 kk284 kk285 kk286 kk287 kk288 kk289 kk290 kk291 kk292 kk293 kk294 kk295 kk296 kk297 kk298 kk299 kk300 kk301 kk302 kk303 kk304 u13 u14 u15 u16 u17 u44 u45 u46 u47 u48 u49 u50 u51 u52 u53 u54 u55 u56 u57 u58 u59 u60 u61 u62 u63 u64 u65 u66 u67 u68 u69 u70 u71 u72 u73 u74 u75 u76 u77 u78 u79 u80 u81 u82 u83 u84 u85 u86 u87 u88 u89 u90 u91 u92 u93 u94 u95 u96 u97 u98 u99 u100 u101 u102 u103 u104 u105 u106 u107 u108 u109 u110 u111 u112 u113 u114 u115 u116 u117 u118 u119 u120 u121 u122 u123 u124 u125 u126 u127 u128 u129 u130 u131 u132 u133 u134 u135 u136 u137 u138 u139 u140 u141 u142 u143 u144 u145 u146 u147 u148 u149 u150 u151 u152 u153 u154 u155 u156 u157 u158 u159 u160 u161 u162 u163 u164 u165 u166 u167 u168 u169 u170 u171 u172 u173 u174 u175 u176 u177 u178 u179 u180 u181 u182 u183 u184 u185 u186 u187 u188 u189 u190 u191 u192 u193 u194 u195 u196 u197 u198 u199 u200 u201 u202 u203 u204 u205 u206 u207 u208 u209 u210 u211 u212 u213 u214 u215 u216 u217 u218 u219 u220 u221 u222 u223 u224 u225 u226 u227 u228 u229 u230 u231 u232 u233 u234 u235 u236 u237 u238 hpan
      by_cases k5 : x0.k = 5
      · exact acCaseA5 HV HS HNN g0 HM HA hlt (hx (fun x => x.back = false ∧ x.k = 5) ⟨hb, k5⟩) kk1 kk2 kk3 kk4 kk5 kk6 kk18 kk19 kk20 kk21 kk22 kk23 kk24 kk25 kk26 kk27 kk28 kk29 kk30 kk31 kk32 kk33 kk34 kk35 kk36 kk37 kk38 kk39 kk40 kk41 kk42 kk43 kk239 kk240 kk241 kk242 kk243 kk244 kk245 kk246 kk247 kk248 kk249 kk250 kk251 kk252 kk253 kk254 kk255 kk256 kk257 kk258 kk259 kk260 kk261 kk262 kk263 kk264 kk265 kk266 kk267 kk268 kk269 kk270 kk271 kk272 kk273 kk274 kk275 kk276 kk277 kk278 kk279 kk280 kk281 kk282 kk283 kk284 kk285 kk286 kk287 kk288 kk289 kk290 kk291 kk292 kk293 kk294 kk295 kk296 kk297 kk298 kk299 kk300 kk301 kk302 kk303 kk304 u13 u14 u15 u16 u17 u44 u45 u46 u47 u48 u49 u50 u51 u52 u53 u54 u55 u56 u57 u58 u59 u60 u61 u62 u63 u64 u65 u66 u67 u68 u69 u70 u71 u72 u73 u74 u75 u76 u77 u78 u79 u80 u81 u82 u83 u84 u85 u86 u87 u88 u89 u90 u91 u92 u93 u94 u95 u96 u97 u98 u99 u100 u101 u102 u103 u104 u105 u106 u107 u108 u109 u110 u111 u112 u113 u114 u115 u116 u117 u118 u119 u120 u121 u122 u123 u124 u125 u126 u127 u128 u129 u130 u131 u132 u133 u134 u135 u136 u137 u138 u139 u140 u141 u142 u143 u144 u145 u146 u147 u148 u149 u150 u151 u152 u153 u154 u155 u156 u157 u158 u159 u160 u161 u162 u163 u164 u165 u166 u167 u168 u169 u170 u171 u172 u173 u174 u175 u176 u177 u178 u179 u180 u181 u182 u183 u184 u185 u186 u187 u188 u189 u190 u191 u192 u193 u194 u195 u196 u197 u198 u199 u200 u201 u202 u203 u204 u205 u206 u207 u208 u209 u210 u211 u212 u213 u214 u215 u216 u217 u218 u219 u220 u221 u222 u223 u224 u225 u226 u227 u228 u229 u230 u231 u232 u233 u234 u235 u236 u237 u238 hpan
      exact acCaseA0 HV HS HNN g0 HM HA hlt (hx (fun x => x.back = false ∧ ¬ (x.k = 1 ∨ x.k = 2 ∨ x.k = 3 ∨ x.k = 4 ∨ x.k = 5)) ⟨hb, by omega⟩) kk1 kk2 kk3 kk4 kk5 kk6 kk18 kk19 kk20 kk21 kk22 kk23 kk24 kk25 kk26 kk27 kk28 kk29 kk30 kk31 kk32 kk33 kk34 kk35 kk36 kk37 kk38 kk39 kk40 kk41 kk42 kk43 kk239 kk240 kk241 kk242 kk243 kk244 kk245 kk246 kk247 kk248 kk249 kk250 kk251 kk252 kk253 kk254 kk255 kk256 kk257 kk258 kk259 kk260 kk261 kk262 kk263 kk264 kk265 kk266 kk267 kk268 kk269 kk270 kk271 kk272 kk273 kk274 kk275 kk276 kk277 kk278 kk279 kk280 kk281 kk282 kk283 kk284 kk285 kk286 kk287 kk288 kk289 kk290 kk291 kk292 kk293 kk294 kk295 kk296 kk297 kk298 kk299 kk300 kk301 kk302 kk303 kk304 u13 u14 u15 u16 u17 u44 u45 u46 u47 u48 u49 u50 u51 u52 u53 u54 u55 u56 u57 u58 u59 u60 u61 u62 u63 u64 u65 u66 u67 u68 u69 u70 u71 u72 u73 u74 u75 u76 u77 u78 u79 u80 u81 u82 u83 u84 u85 u86 u87 u88 u89 u90 u91 u92 u93 u94 u95 u96 u97 u98 u99 u100 u101 u102 u103 u104 u105 u106 u107 u108 u109 u110 u111 u112 u113 u114 u115 u116 u117 u118 u119 u120 u121 u122 u123 u124 u125 u126 u127 u128 u129 u130 u131 u132 u133 u134 u135 u136 u137 u138 u139 u140 u141 u142 u143 u144 u145 u146 u147 u148 u149 u150 u151 u152 u153 u154 u155 u156 u157 u158 u159 u160 u161 u162 u163 u164 u165 u166 u167 u168 u169 u170 u171 u172 u173 u174 u175 u176 u177 u178 u179 u180 u181 u182 u183 u184 u185 u186 u187 u188 u189 u190 u191 u192 u193 u194 u195 u196 u197 u198 u199 u200 u201 u202 u203 u204 u205 u206 u207 u208 u209 u210 u211 u212 u213 u214 u215 u216 u217 u218 u219 u220 u221 u222 u223 u224 u225 u226 u227 u228 u229 u230 u231 u232 u233 u234 u235 u236 u237 u238 hpan
    · skip
      by_cases k1 : x0.k = 1
      · exact acCaseB1 HV HS HNN g0 HM HA hlt (hx (fun x => x.back = true ∧ x.k = 1) ⟨hb, k1⟩) kk1 kk2 kk3 kk4 kk5 kk6 kk18 kk19 kk20 kk21 kk22 kk23 kk24 kk25 kk26 kk27 kk28 kk29 kk30 kk31 kk32 kk33 kk34 kk35 kk36 kk37 kk38 kk39 kk40 kk41 kk42 kk43 kk239 kk240 kk241 kk242 kk243 kk244 kk245 kk246 kk247 kk248 kk249 kk250 kk251 kk252 kk253 kk254 kk255 kk256 kk257 kk258 kk259 kk260 kk261 kk262 kk263 kk264 kk265 kk266 kk267 kk268 kk269 kk270 kk271 kk272 kk273 kk274 kk275 kk276 kk277 kk278 kk279 kk280 kk281 kk282 kk283 kk284 kk285 kk286 kk287 kk288 kk289 kk290 kk291 kk292 kk293 kk294 kk295 kk296 kk297 kk298 kk299 kk300 kk301 kk302 kk303 kk304 u13 u14 u15 u16 u17 u44 u45 u46 u47 u48 u49 u50 u51 u52 u53 u54 u55 u56 u57 u58 u59 u60 u61 u62 u63 u64 u65 u66 u67 u68 u69 u70 u71 u72 u73 u74 u75 u76 u77 u78 u79 u80 u81 u82 u83 u84 u85 u86 u87 u88 u89 u90 u91 u92 u93 u94 u95 u96 u97 u98 u99 u100 u101 u102 u103 u104 u105 u106 u107 u108 u109 u110 u111 u112 u113 u114 u115 u116 u117 u118 u119 u120 u121 u122 u123 u124 u125 u126 u127 u128 u129 u130 u131 u132 u133 u134 u135 u136 u137 u138 u139 u140 u141 u142 u143 u144 u145 u146 u147 u148 u149 u150 u151 u152 u153 u154 u155 u156 u157 u158 u159 u160 u161 u162 u163 u164 u165 u166 u167 u168 u169 u170 u171 u172 u173 u174 u175 u176 u177 u178 u179 u180 u181 u182 u183 u184 u185 u186 u187 u188 u189 u190 u191 u192 u193 u194 u195 u196 u197 u198 u199 u200 u201 u202 u203 u204 u205 u206 u207 u208 u209 u210 u211 u212 u213 u214 u215 u216 u217 u218 u219 u220 u221 u222 u223 u224 u225 u226 u227 u228 u229 u230 u231 u232 u233 u234 u235 u236 u237 u238 hpan
      by_cases k2 : x0.k = 2
      · exact acCaseB2 HV HS HNN g0 HM HA hlt (hx (fun x => x.back = true ∧ x.k = 2) ⟨hb, k2⟩) kk1 kk2 kk3 kk4 kk5 kk6 kk18 kk19 kk20 kk21 kk22 kk23 kk24 kk25 kk26 kk27 kk28 kk29 kk30 kk31 kk32 kk33 kk34 kk35 kk36 kk37 kk38 kk39 kk40 kk41 kk42 kk43 kk239 kk240 kk241 kk242 kk243 kk244 kk245 kk246 kk247 kk248 kk249 kk250 kk251 kk252 kk253 kk254 kk255 kk256 kk257 kk258 kk259 kk260 kk261 kk262 kk263 kk264 kk265 kk266 kk267 kk268 kk269 kk270 kk271 kk272 kk273 kk274 kk275 kk276 kk277 kk278 kk279 kk280 kk281 kk282 kk283 kk284 kk285 kk286 kk287 kk288 kk289 kk290 kk291 kk292 kk293 kk294 kk295 kk296 kk297 kk298 kk299 kk300 kk301 kk302 kk303 kk304 u13 u14 u15 u16 u17 u44 u45 u46 u47 u48 u49 u50 u51 u52 u53 u54 u55 u56 u57 u58 u59 u60 u61 u62 u63 u64 u65 u66 u67 u68 u69 u70 u71 u72 u73 u74 u75 u76 u77 u78 u79 u80 u81 u82 u83 u84 u85 u86 u87 u88 u89 u90 u91 u92 u93 u94 u95 u96 u97 u98 u99 u100 u101 u102 u103 u104 u105 u106 u107 u108 u109 u110 u111 u112 u113 u114 u115 u116 u117 u118 u119 u120 u121 u122 u123 u124 u125 u126 u127 u128 u129 u130 u131 u132 u133 u134 u135 u136 u137 u138 u139 u140 u141 u142 u143 u144 u145 u146 u147 u148 u149 u150 u151 u152 u153 u154 u155 u156 u157 u158 u159 u160 u161 u162 u163 u164 u165 u166 u167 u168 u169 u170 u171 u172 u173 u174 u175 u176 u177 u178 u179 u180 u181 u182 u183 u184 u185 u186 u187 u188 u189 u190 u191 u192 u193 u194 u195 u196 u197 u198 u199 u200 u201 u202 u203 u204 u205 u206 u207 u208 u209 u210 u211 u212 u213 u214 u215 u216 u217 u218 u219 u220 u221 u222 u223 u224 u225 u226 u227 u228 u229 u230 u231 u232 u233 u234 u235 u236 u237 u238 hpan
      by_cases k3 : x0.k = 3
      · exact acCaseB3 HV HS HNN g0 HM HA hlt (hx (fun x => x.back = true ∧ x.k = 3) ⟨hb, k3⟩) kk1 kk2 kk3 kk4 kk5 kk6 kk18 kk19 kk20 kk21 kk22 kk23 kk24 kk25 kk26 kk27 kk28 kk29 kk30 kk31 kk32 kk33 kk34 kk35 kk36 kk37 kk38 kk39 kk40 kk41 kk42 kk43 kk239 kk240 kk241 kk242 kk243 kk244 kk245 kk246 kk247 kk248 kk249 kk250 kk251 kk252 kk253 kk254 kk255 kk256 kk257 kk258 kk259 kk260 kk261 kk262 kk263 kk264 kk265 kk266 kk267 kk268 kk269 kk270 kk271 kk272 kk273 kk274 kk275 kk276 kk277 kk278 kk279 kk280 kk281 kk282 kk283 kk284 kk285 kk286 kk287 kk288 kk289 kk290 kk291 kk292 kk293 kk294 kk295 kk296 kk297 kk298 kk299 kk300 kk301 kk302 kk303 kk304 u13 u14 u15 u16 u17 u44 u45 u46 u47 u48 u49 u50 u51 u52 u53 u54 u55 u56 u57 u58 u59 u60 u61 u62 u63 u64 u65 u66 u67 u68 u69 u70 u71 u72 u73 u74 u75 u76 u77 u78 u79 u80 u81 u82 u83 u84 u85 u86 u87 u88 u89 u90 u91 u92 u93 u94 u95 u96 u97 u98 u99 u100 u101 u102 u103 u104 u105 u106 u107 u108 u109 u110 u111 u112 u113 u114 u115 u116 u117 u118 u119 u120 u121 u122 u123 u124 u125 u126 u127 u128 u129 u130 u131 u132 u133 u134 u135 u136 u137 u138 u139 u140 u141 u142 u143 u144 u145 u146 u147 u148 u149 u150 u151 u152 u153 u154 u155 u156 u157 u158 u159 u160 u161 u162 u163 u164 u165 u166 u167 u168 u169 u170 u171 u172 u173 u174 u175 u176 u177 u178 u179 u180 u181 u182 u183 u184 u185 u186 u187 u188 u189 u190 u191 u192 u193 u194 u195 u196 u197 u198 u199 u200 u201 u202 u203 u204 u205 u206 u207 u208 u209 u210 u211 u212 u213 u214 u215 u216 u217 u218 u219 u220 u221 u222 u223 u224 u225 u226 u227 u228 u229 u230 u231 u232 u233 u234 u235 u236 u237 u238 hpan
      by_cases k4 : x0.k = 4
      · exact acCaseB4 HV HS HNN g0 HM HA hlt (hx (fun x => x.back = true ∧ x.k = 4) ⟨hb, k4⟩) kk1 kk2 kk3 kk4 kk5 kk6 kk18 kk19 kk20 kk21 kk22 kk23 kk24 kk25 kk26 kk27 kk28 kk29 kk30 kk31 kk32 kk33 kk34 kk35 kk36 kk37 kk38 kk39 kk40 kk41 kk42 kk43 kk239 kk240 kk241 kk242 kk243 kk244 kk245 kk246 kk247 kk248 kk249 kk250 kk251 kk252 kk253 kk254 kk255 kk256 kk257 kk258 kk259 kk260 kk261 kk262 kk263 kk264 kk265 kk266 kk267 kk268 kk269 kk270 kk271 kk272 kk273 kk274 kk275 kk276 kk277 kk278 kk279 kk280 kk281 kk282 kk283 kk284 kk285 kk286 kk287 kk288 kk289 kk290 kk291 kk292 kk293 kk294 kk295 kk296 kk297 kk298 kk299 kk300 kk301 kk302 kk303 kk304 u13 u14 u15 u16 u17 u44 u45 u46 u47 u48 u49 u50 u51 u52 u53 u54 u55 u56 u57 u58 u59 u60 u61 u62 u63 u64 u65 u66 u67 u68 u69 u70 u71 u72 u73 u74 u75 u76 u77 u78 u79 u80 u81 u82 u83 u84 u85 u86 u87 u88 u89 u90 u91 u92 u93 u94 u95 u96 u97 u98 u99 u100 u101 u102 u103 u104 u105 u106 u107 u108 u109 u110 u111 u112 u113 u114 u115 u116 u117 u118 u119 u120 u121 u122 u123 u124 u125 u126 u127 u128 u129 u130 u131 u132 u133 u134 u135 u136 u137 u138 u139 u140 u141 u142 u143 u144 u145 u146 u147 u148 u149 u150 u151 u152 u153 u154 u155 u156 u157 u158 u159 u160 u161 u162 u163 u164 u165 u166 u167 u168 u169 u170 u171 u172 u173 u174 u175 u176 u177 u178 u179 u180 u181 u182 u183 u184 u185 u186 u187 u188 u189 u190 u191 u192 u193 u194 u195 u196 u197 u198 u199 u200 u201 u202 u203 u204 u205 u206 u207 u208 u209 u210 u211 u212 u213 u214 u215 u216 u217 u218 u219 u220 u221 u222 u223 u224 u225 u226 u227 u228 u229 u230 u231 u232 u233 u234 u235 u236 u237 u238 hpan
      by_cases k5 : x0.k = 5
      · exact acCaseB5 HV HS HNN g0 HM HA hlt (hx (fun x => x.back = true ∧ x.k = 5) ⟨hb, k5⟩) kk1 kk2 kk3 kk4 kk5 kk6 kk18 kk19 kk20 kk21 kk22 kk23 kk24 kk25 kk26 kk27 kk28 kk29 kk30 kk31 kk32 kk33 kk34 kk35 kk36 kk37 kk38 kk39 kk40 kk41 kk42 kk43 kk239 kk240 kk241 kk242 kk243 kk244 kk245 kk246 kk247 kk248 kk249 kk250 kk251 kk252 kk253 kk254 kk255 kk256 kk257 kk258 kk259 kk260 kk261 kk262 kk263 kk264 kk265 kk266 kk267 kk268 kk269 kk270 kk271 kk272 kk273 kk274 kk275 kk276 kk277 kk278 kk279 kk280 kk281 kk282 kk283 kk284 kk285 kk286 kk287 kk288 kk289 kk290 kk291 kk292 kk293 kk294 kk295 kk296 kk297 kk298 kk299 kk300 kk301 kk302 kk303 kk304 u13 u14 u15 u16 u17 u44 u45 u46 u47 u48 u49 u50 u51 u52 u53 u54 u55 u56 u57 u58 u59 u60 u61 u62 u63 u64 u65 u66 u67 u68 u69 u70 u71 u72 u73 u74 u75 u76 u77 u78 u79 u80 u81 u82 u83 u84 u85 u86 u87 u88 u89 u90 u91 u92 u93 u94 u95 u96 u97 u98 u99 u100 u101 u102 u103 u104 u105 u106 u107 u108 u109 u110 u111 u112 u113 u114 u115 u116 u117 u118 u119 u120 u121 u122 u123 u124 u125 u126 u127 u128 u129 u130 u131 u132 u133 u134 u135 u136 u137 u138 u139 u140 u141 u142 u143 u144 u145 u146 u147 u148 u149 u150 u151 u152 u153 u154 u155 u156 u157 u158 u159 u160 u161 u162 u163 u164 u165 u166 u167 u168 u169 u170 u171 u172 u173 u174 u175 u176 u177 u178 u179 u180 u181 u182 u183 u184 u185 u186 u187 u188 u189 u190 u191 u192 u193 u194 u195 u196 u197 u198 u199 u200 u201 u202 u203 u204 u205 u206 u207 u208 u209 u210 u211 u212 u213 u214 u215 u216 u217 u218 u219 u220 u221 u222 u223 u224 u225 u226 u227 u228 u229 u230 u231 u232 u233 u234 u235 u236 u237 u238 hpan
      exact acCaseB0 HV HS HNN g0 HM HA hlt (hx (fun x => x.back = true ∧ ¬ (x.k = 1 ∨ x.k = 2 ∨ x.k = 3 ∨ x.k = 4 ∨ x.k = 5)) ⟨hb, by omega⟩) kk1 kk2 kk3 kk4 kk5 kk6 kk18 kk19 kk20 kk21 kk22 kk23 kk24 kk25 kk26 kk27 kk28 kk29 kk30 kk31 kk32 kk33 kk34 kk35 kk36 kk37 kk38 kk39 kk40 kk41 kk42 kk43 kk239 kk240 kk241 kk242 kk243 kk244 kk245 kk246 kk247 kk248 kk249 kk250 kk251 kk252 kk253 kk254 kk255 kk256 kk257 kk258 kk259 kk260 kk261 kk262 kk263 kk264 kk265 kk266 kk267 kk268 kk269 kk270 kk271 kk272 kk273 kk274 kk275 kk276 kk277 kk278 kk279 kk280 kk281 kk282 kk283 kk284 kk285 kk286 kk287 kk288 kk289 kk290 kk291 kk292 kk293 kk294 kk295 kk296 kk297 kk298 kk299 kk300 kk301 kk302 kk303 kk304 u13 u14 u15 u16 u17 u44 u45 u46 u47 u48 u49 u50 u51 u52 u53 u54 u55 u56 u57 u58 u59 u60 u61 u62 u63 u64 u65 u66 u67 u68 u69 u70 u71 u72 u73 u74 u75 u76 u77 u78 u79 u80 u81 u82 u83 u84 u85 u86 u87 u88 u89 u90 u91 u92 u93 u94 u95 u96 u97 u98 u99 u100 u101 u102 u103 u104 u105 u106 u107 u108 u109 u110 u111 u112 u113 u114 u115 u116 u117 u118 u119 u120 u121 u122 u123 u124 u125 u126 u127 u128 u129 u130 u131 u132 u133 u134 u135 u136 u137 u138 u139 u140 u141 u142 u143 u144 u145 u146 u147 u148 u149 u150 u151 u152 u153 u154 u155 u156 u157 u158 u159 u160 u161 u162 u163 u164 u165 u166 u167 u168 u169 u170 u171 u172 u173 u174 u175 u176 u177 u178 u179 u180 u181 u182 u183 u184 u185 u186 u187 u188 u189 u190 u191 u192 u193 u194 u195 u196 u197 u198 u199 u200 u201 u202 u203 u204 u205 u206 u207 u208 u209 u210 u211 u212 u213 u214 u215 u216 u217 u218 u219 u220 u221 u222 u223 u224 u225 u226 u227 u228 u229 u230 u231 u232 u233 u234 u235 u236 u237 u238 hpan
  · obtain rfl : i = nl := by omega
    conv => arg 2; whnf
    have g1 : ¬ ((i : Int) < i) := by omega
    clear HV HS HNN
    go_wp2_with fail
    refine hexit _ _ ?_ ?_
    · unfold acI
      exact ⟨_, _, _, _, _, _, _, _, _, _, _, _, _, _, _, _, _, _, _, _, _, _, _, _, _, _, _, _, _, _, _, _, _, _, _, _, _, _, _, _, _, _, _, _, _, _, _, _, _, _, _, _, _, _, _, _, _, _, _, _, _, _, _, _, _, _, _, _, _, _, _, _, _, _, _, _, _, _, _, _, _, _, _, _, _, _, _, _, _, _, _, _, _, _, _, _, _, _, _, _, _, _, _, _, _, _, _, _, _, _, _, _, _, _, _, _, _, _, _, _, _, _, _, _, _, _, _, _, _, _, _, _, _, _, _, _, _, _, _, _, _, _, _, _, _, _, _, _, _, _, _, _, _, _, _, _, _, _, _, _, _, _, _, _, _, _, _, _, _, _, _, _, _, _, _, _, _, _, _, _, _, _, _, _, _, _, _, _, _, _, _, _, _, _, _, _, _, _, _, _, _, ⟨i, G, X, V, R, σ, Nat.le_refl _, rfl, HM, HA⟩, rfl⟩
    · simp [acMu, intOf]
set_option maxHeartbeats 4000000 in
set_option maxRecDepth 1000000 in
theorem acLoop {w : World} {P : Bool → Nat} {eb fb : Nat} {A : Bool → Nat} {nl : Nat} {a0 : Option Addr} {c0 : Nat} {l : List Wy} (kk1 kk2 kk3 kk4 kk5 kk6 kk18 kk19 kk20 kk21 kk22 kk23 kk24 kk25 kk26 kk27 kk28 kk29 kk30 kk31 kk32 kk33 kk34 kk35 kk36 kk37 kk38 kk39 kk40 kk41 kk42 kk43 kk239 kk240 kk241 kk242 kk243 kk244 kk245 kk246 kk247 kk248 kk249 kk250 kk251 kk252 kk253 kk254 kk255 kk256 kk257 kk258 kk259 kk260 kk261 kk262 kk263 kk264 kk265 kk266 kk267 kk268 kk269 kk270 kk271 kk272 kk273 kk274 kk275 kk276 kk277 kk278 kk279 kk280 kk281 kk282 kk283 kk284 kk285 kk286 kk287 kk288 kk289 kk290 kk291 kk292 kk293 kk294 kk295 kk296 kk297 kk298 kk299 kk300 kk301 kk302 kk303 kk304 : Value) {Q0 : Exit → Act → World → Prop} (HV : Hid (Rds 3 Wy.cs w (.slice a0 nl c0) l)) (HS : Hid (∀ x ∈ l, x.Ok)) (HNN : Hid (nl = l.length)) (g0 : (nl : Int) ≤ 200) (hpan : ∀ x (a : Act) (d : Option Nat) v w', Q0 (.panic x) (a.put d v) w' → Q0 (.panic x) a w') (u12 u13 u14 u15 u16 u17 u44 u45 u46 u47 u48 u49 u50 u51 u52 u53 u54 u55 u56 u57 u58 u59 u60 u61 u62 u63 u64 u65 u66 u67 u68 u69 u70 u71 u72 u73 u74 u75 u76 u77 u78 u79 u80 u81 u82 u83 u84 u85 u86 u87 u88 u89 u90 u91 u92 u93 u94 u95 u96 u97 u98 u99 u100 u101 u102 u103 u104 u105 u106 u107 u108 u109 u110 u111 u112 u113 u114 u115 u116 u117 u118 u119 u120 u121 u122 u123 u124 u125 u126 u127 u128 u129 u130 u131 u132 u133 u134 u135 u136 u137 u138 u139 u140 u141 u142 u143 u144 u145 u146 u147 u148 u149 u150 u151 u152 u153 u154 u155 u156 u157 u158 u159 u160 u161 u162 u163 u164 u165 u166 u167 u168 u169 u170 u171 u172 u173 u174 u175 u176 u177 u178 u179 u180 u181 u182 u183 u184 u185 u186 u187 u188 u189 u190 u191 u192 u193 u194 u195 u196 u197 u198 u199 u200 u201 u202 u203 u204 u205 u206 u207 u208 u209 u210 u211 u212 u213 u214 u215 u216 u217 u218 u219 u220 u221 u222 u223 u224 u225 u226 u227 u228 u229 u230 u231 u232 u233 u234 u235 u236 u237 u238 : Value) (w' : World) (hrel : AcR w P eb fb A nl a0 c0 u12 w') (hexit : ∀ a' w'', acI w P eb fb A nl a0 c0 kk1 kk2 kk3 kk4 kk5 kk6 kk18 kk19 kk20 kk21 kk22 kk23 kk24 kk25 kk26 kk27 kk28 kk29 kk30 kk31 kk32 kk33 kk34 kk35 kk36 kk37 kk38 kk39 kk40 kk41 kk42 kk43 kk239 kk240 kk241 kk242 kk243 kk244 kk245 kk246 kk247 kk248 kk249 kk250 kk251 kk252 kk253 kk254 kk255 kk256 kk257 kk258 kk259 kk260 kk261 kk262 kk263 kk264 kk265 kk266 kk267 kk268 kk269 kk270 kk271 kk272 kk273 kk274 kk275 kk276 kk277 kk278 kk279 kk280 kk281 kk282 kk283 kk284 kk285 kk286 kk287 kk288 kk289 kk290 kk291 kk292 kk293 kk294 kk295 kk296 kk297 kk298 kk299 kk300 kk301 kk302 kk303 kk304 a' w'' → acMu nl a' w'' = 0 → Q0 (.exit 0) a' w'') : Code.wp Try.prog (Code.loop acBody) Q0 ⟨#[.slice a0 nl c0, kk1, kk2, kk3, kk4, kk5, kk6, .pointer (some ⟨eb, 0, none⟩), .pointer (some ⟨fb, 0, none⟩), .pointer (some ⟨A false, 0, none⟩), .pointer (some ⟨A true, 0, none⟩), .func (.func 28) #[] #[.pointer (some ⟨eb, 0, none⟩), .pointer (some ⟨A true, 0, none⟩)], u12, u13, u14, u15, u16, u17, kk18, kk19, kk20, kk21, kk22, kk23, kk24, kk25, kk26, kk27, kk28, kk29, kk30, kk31, kk32, kk33, kk34, kk35, kk36, kk37, kk38, kk39, kk40, kk41, kk42, kk43, u44, u45, u46, u47, u48, u49, u50, u51, u52, u53, u54, u55, u56, u57, u58, u59, u60, u61, u62, u63, u64, u65, u66, u67, u68, u69, u70, u71, u72, u73, u74, u75, u76, u77, u78, u79, u80, u81, u82, u83, u84, u85, u86, u87, u88, u89, u90, u91, u92, u93, u94, u95, u96, u97, u98, u99, u100, u101, u102, u103, u104, u105, u106, u107, u108, u109, u110, u111, u112, u113, u114, u115, u116, u117, u118, u119, u120, u121, u122, u123, u124, u125, u126, u127, u128, u129, u130, u131, u132, u133, u134, u135, u136, u137, u138, u139, u140, u141, u142, u143, u144, u145, u146, u147, u148, u149, u150, u151, u152, u153, u154, u155, u156, u157, u158, u159, u160, u161, u162, u163, u164, u165, u166, u167, u168, u169, u170, u171, u172, u173, u174, u175, u176, u177, u178, u179, u180, u181, u182, u183, u184, u185, u186, u187, u188, u189, u190, u191, u192, u193, u194, u195, u196, u197, u198, u199, u200, u201, u202, u203, u204, u205, u206, u207, u208, u209, u210, u211, u212, u213, u214, u215, u216, u217, u218, u219, u220, u221, u222, u223, u224, u225, u226, u227, u228, u229, u230, u231, u232, u233, u234, u235, u236, u237, u238, kk239, kk240, kk241, kk242, kk243, kk244, kk245, kk246, kk247, kk248, kk249, kk250, kk251, kk252, kk253, kk254, kk255, kk256, kk257, kk258, kk259, kk260, kk261, kk262, kk263, kk264, kk265, kk266, kk267, kk268, kk269, kk270, kk271, kk272, kk273, kk274, kk275, kk276, kk277, kk278, kk279, kk280, kk281, kk282, kk283, kk284, kk285, kk286, kk287, kk288, kk289, kk290, kk291, kk292, kk293, kk294, kk295, kk296, kk297, kk298, kk299, kk300, kk301, kk302, kk303, kk304], []⟩ w' := by
  refine wp_loop (acI w P eb fb A nl a0 c0 kk1 kk2 kk3 kk4 kk5 kk6 kk18 kk19 kk20 kk21 kk22 kk23 kk24 kk25 kk26 kk27 kk28 kk29 kk30 kk31 kk32 kk33 kk34 kk35 kk36 kk37 kk38 kk39 kk40 kk41 kk42 kk43 kk239 kk240 kk241 kk242 kk243 kk244 kk245 kk246 kk247 kk248 kk249 kk250 kk251 kk252 kk253 kk254 kk255 kk256 kk257 kk258 kk259 kk260 kk261 kk262 kk263 kk264 kk265 kk266 kk267 kk268 kk269 kk270 kk271 kk272 kk273 kk274 kk275 kk276 kk277 kk278 kk279 kk280 kk281 kk282 kk283 kk284 kk285 kk286 kk287 kk288 kk289 kk290 kk291 kk292 kk293 kk294 kk295 kk296 kk297 kk298 kk299 kk300 kk301 kk302 kk303 kk304) (acMu nl) ?_ (fun a w'' hI => acRound kk1 kk2 kk3 kk4 kk5 kk6 kk18 kk19 kk20 kk21 kk22 kk23 kk24 kk25 kk26 kk27 kk28 kk29 kk30 kk31 kk32 kk33 kk34 kk35 kk36 kk37 kk38 kk39 kk40 kk41 kk42 kk43 kk239 kk240 kk241 kk242 kk243 kk244 kk245 kk246 kk247 kk248 kk249 kk250 kk251 kk252 kk253 kk254 kk255 kk256 kk257 kk258 kk259 kk260 kk261 kk262 kk263 kk264 kk265 kk266 kk267 kk268 kk269 kk270 kk271 kk272 kk273 kk274 kk275 kk276 kk277 kk278 kk279 kk280 kk281 kk282 kk283 kk284 kk285 kk286 kk287 kk288 kk289 kk290 kk291 kk292 kk293 kk294 kk295 kk296 kk297 kk298 kk299 kk300 kk301 kk302 kk303 kk304 HV HS HNN g0 hpan a w'' hI hexit)
  unfold acI
  exact ⟨u12, u13, u14, u15, u16, u17, u44, u45, u46, u47, u48, u49, u50, u51, u52, u53, u54, u55, u56, u57, u58, u59, u60, u61, u62, u63, u64, u65, u66, u67, u68, u69, u70, u71, u72, u73, u74, u75, u76, u77, u78, u79, u80, u81, u82, u83, u84, u85, u86, u87, u88, u89, u90, u91, u92, u93, u94, u95, u96, u97, u98, u99, u100, u101, u102, u103, u104, u105, u106, u107, u108, u109, u110, u111, u112, u113, u114, u115, u116, u117, u118, u119, u120, u121, u122, u123, u124, u125, u126, u127, u128, u129, u130, u131, u132, u133, u134, u135, u136, u137, u138, u139, u140, u141, u142, u143, u144, u145, u146, u147, u148, u149, u150, u151, u152, u153, u154, u155, u156, u157, u158, u159, u160, u161, u162, u163, u164, u165, u166, u167, u168, u169, u170, u171, u172, u173, u174, u175, u176, u177, u178, u179, u180, u181, u182, u183, u184, u185, u186, u187, u188, u189, u190, u191, u192, u193, u194, u195, u196, u197, u198, u199, u200, u201, u202, u203, u204, u205, u206, u207, u208, u209, u210, u211, u212, u213, u214, u215, u216, u217, u218, u219, u220, u221, u222, u223, u224, u225, u226, u227, u228, u229, u230, u231, u232, u233, u234, u235, u236, u237, u238, hrel, rfl⟩
end Go.Proofs.Ytghaajmalhcgbaa
