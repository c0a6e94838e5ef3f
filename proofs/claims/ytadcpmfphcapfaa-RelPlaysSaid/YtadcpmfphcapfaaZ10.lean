/- RelPlays: a round, act 2 (in a round: hpan). -/
import Derived.Test.YtadcpmfphcapfaaZ08

set_option linter.unusedSimpArgs false
set_option linter.unusedVariables false
namespace Go.Proofs.Ytadcpmfphcapfaa
open Go.RowKit
attribute [local go_sem ↓] Go.wp_at_zero Go.wp_at_succ

set_option maxHeartbeats 64000000 in
set_option maxRecDepth 1000000 in
theorem plCase2 {w wr : World} {p q n : Nat} {a0 : Option Addr} {c0 : Nat} {l : List Av} {k g r : Nat} {s : Sm} {pre : List (List UInt8)} (HV : Hid (Rds 5 Av.cs w (.slice a0 n c0) l)) (HS : Hid (∀ x ∈ l, x.Ok w)) (HNN : Hid (n = l.length)) (g0 : (n : Int) ≤ 150) (HRB : Hid (RB w p q g r s s pre wr)) (HOK : Hid (s.Ok k)) (hlt : k < n) (hK : ∀ x, l[k]? = some x → x.k = 2) (kk0 kk2 kk3 kk6 kk21 kk22 kk23 kk24 kk25 kk26 kk27 kk28 kk29 kk30 kk31 kk32 kk33 kk34 kk35 kk36 kk37 kk38 kk39 kk40 kk41 kk42 kk43 kk44 kk45 kk46 kk47 kk48 kk49 kk209 : Value) (u4 u9 u10 u11 u12 u13 u14 u15 u16 u17 u18 u19 u20 u50 u51 u52 u53 u54 u55 u56 u57 u58 u59 u60 u61 u62 u63 u64 u65 u66 u67 u68 u69 u70 u71 u72 u73 u74 u75 u76 u77 u78 u79 u80 u81 u82 u83 u84 u85 u86 u87 u88 u89 u90 u91 u92 u93 u94 u95 u96 u97 u98 u99 u100 u101 u102 u103 u104 u105 u106 u107 u108 u109 u110 u111 u112 u113 u114 u115 u116 u117 u118 u119 u120 u121 u122 u123 u124 u125 u126 u127 u128 u129 u130 u131 u132 u133 u134 u135 u136 u137 u138 u139 u140 u141 u142 u143 u144 u145 u146 u147 u148 u149 u150 u151 u152 u153 u154 u155 u156 u157 u158 u159 u160 u161 u162 u163 u164 u165 u166 u167 u168 u169 u170 u171 u172 u173 u174 u175 u176 u177 u178 u179 u180 u181 u182 u183 u184 u185 u186 u187 u188 u189 u190 u191 u192 u193 u194 u195 u196 u197 u198 u199 u200 u201 u202 u203 u204 u205 u206 u207 u208 : Value) {Q0 : Exit → Act → World → Prop} (hpan : ∀ x (a : Act) (d : Option Nat) v w', Q0 (.panic x) (a.put d v) w' → Q0 (.panic x) a w')  :
    Code.wp Try.prog plBody (Exit.then (fun a' w'' => plI w p q n a0 c0 kk0 kk2 kk3 kk6 kk21 kk22 kk23 kk24 kk25 kk26 kk27 kk28 kk29 kk30 kk31 kk32 kk33 kk34 kk35 kk36 kk37 kk38 kk39 kk40 kk41 kk42 kk43 kk44 kk45 kk46 kk47 kk48 kk49 kk209 a' w'' ∧ plMu n a' w'' < plMu n ⟨#[kk0, .slice a0 n c0, kk2, kk3, u4, .pointer (some ⟨p, 0, none⟩), kk6, .pointer (some ⟨q, 0, none⟩), .int .i64 k, u9, u10, u11, u12, u13, u14, u15, u16, u17, u18, u19, u20, kk21, kk22, kk23, kk24, kk25, kk26, kk27, kk28, kk29, kk30, kk31, kk32, kk33, kk34, kk35, kk36, kk37, kk38, kk39, kk40, kk41, kk42, kk43, kk44, kk45, kk46, kk47, kk48, kk49, u50, u51, u52, u53, u54, u55, u56, u57, u58, u59, u60, u61, u62, u63, u64, u65, u66, u67, u68, u69, u70, u71, u72, u73, u74, u75, u76, u77, u78, u79, u80, u81, u82, u83, u84, u85, u86, u87, u88, u89, u90, u91, u92, u93, u94, u95, u96, u97, u98, u99, u100, u101, u102, u103, u104, u105, u106, u107, u108, u109, u110, u111, u112, u113, u114, u115, u116, u117, u118, u119, u120, u121, u122, u123, u124, u125, u126, u127, u128, u129, u130, u131, u132, u133, u134, u135, u136, u137, u138, u139, u140, u141, u142, u143, u144, u145, u146, u147, u148, u149, u150, u151, u152, u153, u154, u155, u156, u157, u158, u159, u160, u161, u162, u163, u164, u165, u166, u167, u168, u169, u170, u171, u172, u173, u174, u175, u176, u177, u178, u179, u180, u181, u182, u183, u184, u185, u186, u187, u188, u189, u190, u191, u192, u193, u194, u195, u196, u197, u198, u199, u200, u201, u202, u203, u204, u205, u206, u207, u208, kk209], []⟩ wr) Q0) ⟨#[kk0, .slice a0 n c0, kk2, kk3, u4, .pointer (some ⟨p, 0, none⟩), kk6, .pointer (some ⟨q, 0, none⟩), .int .i64 k, u9, u10, u11, u12, u13, u14, u15, u16, u17, u18, u19, u20, kk21, kk22, kk23, kk24, kk25, kk26, kk27, kk28, kk29, kk30, kk31, kk32, kk33, kk34, kk35, kk36, kk37, kk38, kk39, kk40, kk41, kk42, kk43, kk44, kk45, kk46, kk47, kk48, kk49, u50, u51, u52, u53, u54, u55, u56, u57, u58, u59, u60, u61, u62, u63, u64, u65, u66, u67, u68, u69, u70, u71, u72, u73, u74, u75, u76, u77, u78, u79, u80, u81, u82, u83, u84, u85, u86, u87, u88, u89, u90, u91, u92, u93, u94, u95, u96, u97, u98, u99, u100, u101, u102, u103, u104, u105, u106, u107, u108, u109, u110, u111, u112, u113, u114, u115, u116, u117, u118, u119, u120, u121, u122, u123, u124, u125, u126, u127, u128, u129, u130, u131, u132, u133, u134, u135, u136, u137, u138, u139, u140, u141, u142, u143, u144, u145, u146, u147, u148, u149, u150, u151, u152, u153, u154, u155, u156, u157, u158, u159, u160, u161, u162, u163, u164, u165, u166, u167, u168, u169, u170, u171, u172, u173, u174, u175, u176, u177, u178, u179, u180, u181, u182, u183, u184, u185, u186, u187, u188, u189, u190, u191, u192, u193, u194, u195, u196, u197, u198, u199, u200, u201, u202, u203, u204, u205, u206, u207, u208, kk209], []⟩ wr := by
  conv => arg 2; whnf
  have g1 : (k : Int) < n := by omega
  obtain ⟨x, hx⟩ : ∃ x, l[k]? = some x := ⟨l[k]'(by have := HNN.out; omega), List.getElem?_eq_getElem _⟩
  obtain ⟨bl, bo, rfl, hbl, hcell⟩ := HV.out.at hx
  have hok := HS.out x (List.mem_of_getElem? hx)
  obtain ⟨ua, uc, hu⟩ := hok.by_.form
  obtain ⟨va, vc, hv⟩ := hok.g.by_.form
  have hKx : x.k = 2 := hK x hx
  clear hK
  obtain ⟨K, b, u, ⟨qq, aa, c, v⟩⟩ := x
  simp only at hKx
  have HKX := Lib.hid hKx
  clear hKx
  simp only at hu hv
  subst hu hv
  obtain ⟨_, _, h3, h4, ⟨h5, h6, h7, h8⟩⟩ := hok
  simp only at h3 h4 h5 h6 h7 h8
  obtain ⟨m, hm⟩ : ∃ m, m = b.length := ⟨_, rfl⟩
  obtain ⟨mc, hmc⟩ : ∃ m, m = c.length := ⟨_, rfl⟩
  rw [← hm] at h4 hcell hx
  rw [← hmc] at h8 hcell hx
  have hB := HRB.out.bel
  have d0 := cell_later hB (hcell 0 _ rfl)
  have d1 := cell_later hB (hcell 1 _ rfl)
  have d2 := cell_later hB (hcell 2 _ rfl)
  have d3 := cell_later hB (hcell 3 _ rfl)
  have d4 := cell_later hB (hcell 4 _ rfl)
  simp only [Nat.add_zero] at d0
  have HH : Hid ((qq : Int) ≤ 18446744073709551615 ∧ (aa : Int) ≤ 18446744073709551615 ∧ m = b.length ∧ (m : Int) ≤ 9223372036854775807 ∧ mc = c.length ∧ (mc : Int) ≤ 9223372036854775807) := ⟨h5, h6, hm, by omega, hmc, by omega⟩
  have HBY : Hid (Kn w (.slice ua m uc) b ∧ Kn w (.slice va mc vc) c) := ⟨fun W hW => h4.later hW, fun W hW => h8.later hW⟩
  obtain ⟨Q, hQ⟩ : ∃ Q : Int, Q = qq := ⟨_, rfl⟩
  obtain ⟨A, hA⟩ : ∃ A : Int, A = aa := ⟨_, rfl⟩
  obtain ⟨w3, hw3⟩ : ∃ w3, w3 = wr.alloc (.cells #[.int .i64 K, .slice ua m uc, .int .u64 (qq : Int), .int .u64 (aa : Int), .slice va mc vc] 37) := ⟨_, rfl⟩
  have hb3 : Below wr.heap.size wr w3 := by rw [hw3]; exact ba1 _ _
  obtain ⟨z, hz⟩ : ∃ z, z = wr.heap.size := ⟨_, rfl⟩
  have HZ3 : Hid (BlkAt 37 z [.int .i64 K, .slice ua m uc, .int .u64 (qq : Int), .int .u64 (aa : Int), .slice va mc vc] w3) := by rw [hw3, hz]; exact BlkAt.new wr _
  have hll := HRB.out.P.lt
  have hlr := HRB.out.R.lt
  have HZN : Hid (z ≠ p ∧ z ≠ g ∧ z ≠ q ∧ z ≠ r ∧ p < z ∧ g < z ∧ q < z ∧ r < z) := ⟨by omega, by omega, by omega, by omega, by omega, by omega, by omega, by omega⟩
  have HRB3 := Lib.hid (HRB.out.later hb3)
  have HCP := Lib.hid (copyC HRB3.out.P HOK.out)
  have HW3 := Lib.hid hw3
  have HS3 : Hid (wr.heap.size = z) := hz.symm
  have HSL : Hid (w3.heap.size = z + 1) := by show _ = _; rw [hw3, hz]; simp
  clear hx hcell hbl h3 h4 h5 h6 h7 h8 hm hmc hB hw3 hb3 hll hlr hQ hA hz
  go_wp2_with fail
  rw [← HW3.out]
  refine HCP.out.mono ?_
  rintro e w4 ⟨p', g', rfl, hp', hPc, _, hbc⟩
  have HZ4 := Lib.hid (BlkAt.later HZ3.out hbc)
  have HRB4 := Lib.hid (HRB3.out.later hbc)
  have HCB4 : Hid (CpB p' s.line.length s p q g r w4) := ⟨hPc.smB HOK.out.ag1, by have := HZN.out; have := HSL.out; omega, by have := HZN.out; have := HSL.out; omega, by have := HZN.out; have := HSL.out; omega, by have := HZN.out; have := HSL.out; omega⟩
  have HZP : Hid (z < w4.heap.size) := BlkAt.lt HZ4.out
  have HLF := Lib.hid (leftM (HRB4.out.P.smB HOK.out.ag1))
  obtain ⟨n0, hn0⟩ : ∃ n0, n0 = s.line.length := ⟨_, rfl⟩
  rw [← hn0] at HLF HCB4
  have c0 := BlkAt.cell HZ4.out (j := 0) rfl
  have c1 := BlkAt.cell HZ4.out (j := 1) rfl
  have c2 := BlkAt.cell HZ4.out (j := 2) rfl
  have c3 := BlkAt.cell HZ4.out (j := 3) rfl
  have c4 := BlkAt.cell HZ4.out (j := 4) rfl
  clear hp' hPc hbc hn0 d0 d1 d2 d3 d4 HCP
  rw [HS3.out]
  go_wp2_with fail
  refine HLF.out.mono ?_
  rintro e w5 ⟨rfl, rfl⟩
  clear HLF
  have hK : K = 2 := HKX.out
  have q1 : (K == 1) = false := by rw [beq_eq_false_iff_ne]; omega
  have q2 : (K == 2) = true := by rw [beq_iff_eq]; omega
  have q3 : (K == 3) = false := by rw [beq_eq_false_iff_ne]; omega
  have q4 : (K == 4) = false := by rw [beq_eq_false_iff_ne]; omega
  clear hK
  by_cases hlong : 1024 < mc
  · have HT := Lib.hid (takeLong (q := qq) (a := aa) (HRB4.out.P.smB HOK.out.ag1) va mc vc HH.out.2.2.2.2.2 hlong)
    have k9 : decide ((1024 : Int) < mc) = true := by simp; omega
    clear hlong
    go_wp2_with fail
    refine HT.out.mono ?_
    rintro e w5 ⟨rfl, hb5⟩
    have HRB5 := Lib.hid (HRB4.out.later hb5)
    have HZ5 := Lib.hid (BlkAt.later HZ4.out hb5)
    have c4 := BlkAt.cell HZ5.out (j := 4) rfl
    have HOK5 : Hid (s.Ok (k + 1)) := HOK.out.more (by omega) (by omega)
    clear hb5 HT c0 c1 c2 c3
    go_wp2_with fail
    refine ⟨?_, ?_⟩
    · unfold plI
      refine ⟨_, _, _, _, _, _, _, _, _, _, _, _, _, _, _, _, _, _, _, _, _, _, _, _, _, _, _, _, _, _, _, _, _, _, _, _, _, _, _, _, _, _, _, _, _, _, _, _, _, _, _, _, _, _, _, _, _, _, _, _, _, _, _, _, _, _, _, _, _, _, _, _, _, _, _, _, _, _, _, _, _, _, _, _, _, _, _, _, _, _, _, _, _, _, _, _, _, _, _, _, _, _, _, _, _, _, _, _, _, _, _, _, _, _, _, _, _, _, _, _, _, _, _, _, _, _, _, _, _, _, _, _, _, _, _, _, _, _, _, _, _, _, _, _, _, _, _, _, _, _, _, _, _, _, _, _, _, _, _, _, _, _, _, _, _, _, _, _, _, _, _, _, _, ?_, rfl⟩
      unfold PlR
      exact ⟨k + 1, g, r, s, pre, by omega, by go_num, HRB5, HOK5⟩
    · simp [plMu, intOf]; omega
  · have HT := takeC HRB4.out.P HOK.out (by simp) qq aa HH.out.1 HH.out.2.1 (.slice va mc vc) c (fun W hW => HBY.out.2 W (HRB4.out.bel.trans (hW.below HRB4.out.bel.size (by have h1 := HRB4.out.h1; have h3 := HRB4.out.h3; simp; omega)))) (by have := HH.out; omega)
    unfold TkA at HT
    obtain ⟨AC, hAC⟩ : ∃ AC : Int, AC = (takeM s qq aa).ac := ⟨_, rfl⟩
    obtain ⟨IS, hIS⟩ : ∃ IS : Bool, IS = decide (qq = s.tk + 1) := ⟨_, rfl⟩
    obtain ⟨TB, hTB⟩ : ∃ TB : List UInt8, TB = (if qq = s.tk + 1 then c else []) := ⟨_, rfl⟩
    rw [← hAC, ← hIS, ← hTB] at HT
    have HT := Lib.hid HT
    have k9 : decide ((1024 : Int) < mc) = false := by simp; omega
    have HTK : Hid (AC = (takeM s qq aa).ac ∧ IS = decide (qq = s.tk + 1) ∧ TB = (if qq = s.tk + 1 then c else [])) := ⟨hAC, hIS, hTB⟩
    clear hlong hAC hIS hTB
    go_wp2_with fail
    refine HT.out.mono ?_
    rintro e w5 ⟨u5, rfl, hu5, hP5, hC5⟩
    obtain ⟨ya, yc, rfl⟩ := hu5.form
    obtain ⟨ym, hym⟩ : ∃ ym, ym = TB.length := ⟨_, rfl⟩
    rw [← hym] at hu5 ⊢
    have HU5 := Lib.hid hu5
    have HRB5 := Lib.hid (HRB4.out.prog hP5 hC5 (.inl rfl))
    have HCB5 := Lib.hid (HCB4.out.prog hC5 (.inl rfl))
    have HZ5 := Lib.hid (hC5.blk HZ4.out (by have := HZN.out; simp; omega))
    have c2 := BlkAt.cell HZ5.out (j := 2) rfl
    have c3 := BlkAt.cell HZ5.out (j := 3) rfl
    have c4 := BlkAt.cell HZ5.out (j := 4) rfl
    have HSR := takeR HRB5.out.R HOK.out qq aa HH.out.1 HH.out.2.1 _ c HBY.out.2 HRB5.out.bel
    unfold TrA at HSR
    rw [← HTK.out.2.1, ← HTK.out.2.2] at HSR
    have HSR := Lib.hid HSR
    clear hu5 hP5 hC5 HT hym c0 c1
    go_wp2_with fail
    refine HSR.out.mono ?_
    rintro e w6 ⟨x6, rfl, hx6, pre', hR6, hC6⟩
    have hC6' : Chg [q, r] w5 w6 := hC6.mono (by simp)
    have HRB6 := Lib.hid (HRB5.out.ref hR6 hC6' (.inl rfl))
    have HCB6 := Lib.hid (HCB5.out.ref hC6' (.inl rfl))
    have HOK6 : Hid ((takeM s qq aa).Ok (k + 1)) := takeM_ok HOK.out (by omega) qq aa
    have hx6' := hx6 w6 HRB6.out.bel
    obtain ⟨xa, xc, rfl⟩ := hx6'.form
    have hu6 : Bytes w6 (.slice ya ym yc) TB := (HU5.out.chg hC6 (fun j hj => by simp at hj; subst hj; exact .inl HRB5.out.R.noB.1)).bytes
    have hz1 := hu6.str (P := Try.prog) (src := 33) (dst := 9) Try.underlying33 Try.underlying5 Try.underlying9
    have hz2 := hx6'.str (P := Try.prog) (src := 33) (dst := 9) Try.underlying33 Try.underlying5 Try.underlying9
    obtain ⟨vR, hbR, _, _⟩ := HRB6.out.R
    have d2 : w6.cell? ⟨q, 2, none⟩ = some (.int .i64 AC) := by rw [HTK.out.1]; exact BlkAt.cell hbR (j := 2) rfl
    have i9 : IntKind.u64.wrap AC = AC := IntWalk.u64_in _ ⟨by rw [HTK.out.1]; omega, by rw [HTK.out.1]; have := HOK6.out.few; omega⟩
    have j9 : (AC != AC) = false := by simp
    have j8 : (IS != IS) = false := by simp
    obtain ⟨xm, hxm⟩ : ∃ xm, xm = TB.length := ⟨_, rfl⟩
    rw [← hxm] at hz2 hx6' ⊢
    clear hx6 hR6 hC6 hC6' HSR c2 c3 c4 hx6' hu6 hbR hxm
    obtain ⟨g8, hg8⟩ : ∃ x, x = g := ⟨_, rfl⟩
    obtain ⟨r8, hr8⟩ : ∃ x, x = r := ⟨_, rfl⟩
    obtain ⟨pre8, hpre8⟩ : ∃ x, x = pre' := ⟨_, rfl⟩
    obtain ⟨s1, hs1⟩ : ∃ x, x = takeM s qq aa := ⟨_, rfl⟩
    obtain ⟨w8, hw8⟩ : ∃ x, x = w6 := ⟨_, rfl⟩
    have HR8 : Hid (RB w p q g8 r8 s1 s1 pre8 w8) := by rw [hg8, hr8, hpre8, hs1, hw8]; exact HRB6.out
    have HC8 : Hid (CpB p' n0 s p q g8 r8 w8) := by rw [hg8, hr8, hw8]; exact HCB6.out
    have HOK8 : Hid (s1.Ok (k + 1)) := by rw [hs1]; exact HOK6.out
    rw [← hw8] at hz1 hz2 d2 ⊢
    clear hg8 hr8 hpre8 hs1 hw8
    obtain ⟨vR, hbR, hAR, hpR⟩ := HR8.out.R
    obtain ⟨ra, rc, rfl⟩ := hAR.form
    obtain ⟨AL, hAL⟩ : ∃ AL, AL = (pre8 ++ s1.line).length := ⟨_, rfl⟩
    rw [← hAL] at hbR
    obtain ⟨N1, hN1⟩ : ∃ N1 : Nat, N1 = s1.line.length := ⟨_, rfl⟩
    obtain ⟨X1, hX1⟩ : ∃ X1 : Int, X1 = s1.ac := ⟨_, rfl⟩
    obtain ⟨T1, hT1⟩ : ∃ T1 : Int, T1 = s1.tk := ⟨_, rfl⟩
    have hfew := HOK8.out.few
    have hALs : (AL : Int) = X1 + N1 := by rw [hAL, hX1, hN1]; simp; omega
    have i1 : IntKind.i64.wrap ((AL : Int) - X1) = (N1 : Int) := by rw [IntWalk.i64_in _ ⟨by omega, by omega⟩]; omega
    have i2 : IntKind.u64.wrap X1 = X1 := IntWalk.u64_in _ ⟨by omega, by omega⟩
    have j1 : ((N1 : Int) != N1) = false := by simp
    have j2 : (X1 != X1) = false := by simp
    have j3 : (T1 != T1) = false := by simp
    have j4 : ((n0 : Int) != n0) = false := by simp
    have HCE : Hid (∀ W, Below w8.heap.size w8 W → W.cell? ⟨q, 1, none⟩ = some (.slice ra AL rc) ∧ W.cell? ⟨q, 2, none⟩ = some (.int .i64 X1) ∧ W.cell? ⟨q, 4, none⟩ = some (.int .u64 T1)) := by
      have : ∀ W, Below w8.heap.size w8 W → W.cell? ⟨q, 1, none⟩ = some (.slice ra AL rc) ∧ W.cell? ⟨q, 2, none⟩ = some (.int .i64 X1) ∧ W.cell? ⟨q, 4, none⟩ = some (.int .u64 T1) := fun W hW => by
        rw [hX1, hT1]; exact ⟨BlkAt.cell (hbR.later hW) (j := 1) rfl, BlkAt.cell (hbR.later hW) (j := 2) rfl, BlkAt.cell (hbR.later hW) (j := 4) rfl⟩
      exact this
    have HCA : Hid (∀ W, Below w8.heap.size w8 W → (Calls Try.prog 11 #[.pointer (some ⟨p, 0, none⟩)] W fun e w' => e = .returned (.int .i64 (N1 : Int)) ∧ W = w') ∧ (Calls Try.prog 21 #[.pointer (some ⟨p, 0, none⟩)] W fun e w' => e = .returned (.int .u64 X1) ∧ W = w') ∧ (Calls Try.prog 22 #[.pointer (some ⟨p, 0, none⟩)] W fun e w' => e = .returned (.int .u64 T1) ∧ W = w') ∧ (Calls Try.prog 11 #[.pointer (some ⟨p', 0, none⟩)] W fun e w' => e = .returned (.int .i64 (n0 : Int)) ∧ W = w')) := by
      have : ∀ W, Below w8.heap.size w8 W → (Calls Try.prog 11 #[.pointer (some ⟨p, 0, none⟩)] W fun e w' => e = .returned (.int .i64 (N1 : Int)) ∧ W = w') ∧ (Calls Try.prog 21 #[.pointer (some ⟨p, 0, none⟩)] W fun e w' => e = .returned (.int .u64 X1) ∧ W = w') ∧ (Calls Try.prog 22 #[.pointer (some ⟨p, 0, none⟩)] W fun e w' => e = .returned (.int .u64 T1) ∧ W = w') ∧ (Calls Try.prog 11 #[.pointer (some ⟨p', 0, none⟩)] W fun e w' => e = .returned (.int .i64 (n0 : Int)) ∧ W = w') := fun W hW => by
        have hm := (HR8.out.P.later hW).smB HOK8.out.ag1
        rw [hX1, hT1, hN1]
        exact ⟨leftM hm, ackedM hm, takenM hm, leftM (HC8.out.later hW).1⟩
      exact this
    clear hbR hAR hpR hAL hN1 hX1 hT1 hfew hALs
    go_wp2_with fail
    (refine wp_region_held_drew (S := (fun w' => Below w8.heap.size w8 w')) (by kernel_rfl) ?_ (fun hHeld => ?_); (focus ((try dsimp only); (exact (Below.refl _ _).drew))))
    (try dsimp only at hHeld)
    (refine wpAnyH_take (i := 0) (v := ?_) rfl (by kernel_rfl) (by kernel_rfl) (by kernel_rfl) (fun _ _ _ h => hpan _ _ _ _ _ h) (Or.inl ⟨by rfl, ?_⟩) hHeld ?_; rotate_left; (focus (intro w hSw; (try dsimp only at hSw); go_simp; try with_reducible rfl)); (try simp only [Act.put, List.setIfInBounds_toArray, List.set_cons_zero, List.set_cons_succ, List.getElem_toArray, List.getElem_cons_zero])); (refine wpAnyH_take (i := 2) (v := ?_) rfl (by kernel_rfl) (by kernel_rfl) (by kernel_rfl) (fun _ _ _ h => hpan _ _ _ _ _ h) (Or.inl ⟨by rfl, ?_⟩) hHeld ?_; rotate_left; (focus (intro w hSw; (try dsimp only at hSw); go_simp; try with_reducible rfl)); (try simp only [Act.put, List.setIfInBounds_toArray, List.set_cons_zero, List.set_cons_succ, List.getElem_toArray, List.getElem_cons_zero, List.getElem_cons_succ])); (refine wpAnyH_take (i := 3) (v := ?_) rfl (by kernel_rfl) (by kernel_rfl) (by kernel_rfl) (fun _ _ _ h => hpan _ _ _ _ _ h) (Or.inl ⟨by rfl, ?_⟩) hHeld ?_; rotate_left; (focus (intro w hSw; (try dsimp only at hSw); go_simp; try with_reducible rfl)); (try simp only [Act.put, List.setIfInBounds_toArray, List.set_cons_zero, List.set_cons_succ, List.getElem_toArray, List.getElem_cons_zero, List.getElem_cons_succ])); (refine wpAnyH_take (i := 4) (v := ?_) rfl (by kernel_rfl) (by kernel_rfl) (by kernel_rfl) (fun _ _ _ h => hpan _ _ _ _ _ h) (Or.inl ⟨by rfl, ?_⟩) hHeld ?_; rotate_left; (focus (intro w hSw; (try dsimp only at hSw); go_simp; try with_reducible rfl)); (try simp only [Act.put, List.setIfInBounds_toArray, List.set_cons_zero, List.set_cons_succ, List.getElem_toArray, List.getElem_cons_zero, List.getElem_cons_succ]))
    (refine wpAnyH_take (i := 5) (v := ?_) rfl (by kernel_rfl) (by kernel_rfl) (by kernel_rfl) (fun _ _ _ h => hpan _ _ _ _ _ h) (Or.inl ⟨by rfl, ?_⟩) hHeld ?_; rotate_left; (focus (intro w hSw; (try dsimp only at hSw); go_simp; (have cc := (HCE.out _ hSw).1; go_simp; try with_reducible rfl))); (try simp only [Act.put, List.setIfInBounds_toArray, List.set_cons_zero, List.set_cons_succ, List.getElem_toArray, List.getElem_cons_zero, List.getElem_cons_succ]))
    (refine wpAnyH_take (i := 6) (v := ?_) rfl (by kernel_rfl) (by kernel_rfl) (by kernel_rfl) (fun _ _ _ h => hpan _ _ _ _ _ h) (Or.inl ⟨by rfl, ?_⟩) hHeld ?_; rotate_left; (focus (intro w hSw; (try dsimp only at hSw); go_simp; try with_reducible rfl)); (try simp only [Act.put, List.setIfInBounds_toArray, List.set_cons_zero, List.set_cons_succ, List.getElem_toArray, List.getElem_cons_zero, List.getElem_cons_succ])); (refine wpAnyH_take (i := 7) (v := ?_) rfl (by kernel_rfl) (by kernel_rfl) (by kernel_rfl) (fun _ _ _ h => hpan _ _ _ _ _ h) (Or.inl ⟨by rfl, ?_⟩) hHeld ?_; rotate_left; (focus (intro w hSw; (try dsimp only at hSw); go_simp; try with_reducible rfl)); (try simp only [Act.put, List.setIfInBounds_toArray, List.set_cons_zero, List.set_cons_succ, List.getElem_toArray, List.getElem_cons_zero, List.getElem_cons_succ])); (refine wpAnyH_take (i := 8) (v := ?_) rfl (by kernel_rfl) (by kernel_rfl) (by kernel_rfl) (fun _ _ _ h => hpan _ _ _ _ _ h) (Or.inl ⟨by rfl, ?_⟩) hHeld ?_; rotate_left; (focus (intro w hSw; (try dsimp only at hSw); go_simp; try with_reducible rfl)); (try simp only [Act.put, List.setIfInBounds_toArray, List.set_cons_zero, List.set_cons_succ, List.getElem_toArray, List.getElem_cons_zero, List.getElem_cons_succ])); (refine wpAnyH_take (i := 9) (v := ?_) rfl (by kernel_rfl) (by kernel_rfl) (by kernel_rfl) (fun _ _ _ h => hpan _ _ _ _ _ h) (Or.inl ⟨by rfl, ?_⟩) hHeld ?_; rotate_left; (focus (intro w hSw; (try dsimp only at hSw); go_simp; try with_reducible rfl)); (try simp only [Act.put, List.setIfInBounds_toArray, List.set_cons_zero, List.set_cons_succ, List.getElem_toArray, List.getElem_cons_zero, List.getElem_cons_succ]))
    (refine wpAnyH_take (i := 10) (v := ?_) rfl (by kernel_rfl) (by kernel_rfl) (by kernel_rfl) (fun _ _ _ h => hpan _ _ _ _ _ h) (Or.inl ⟨by rfl, ?_⟩) hHeld ?_; rotate_left; (focus (intro w hSw; (try dsimp only at hSw); go_simp; (have cc := (HCE.out _ hSw).2.1; go_simp; try with_reducible rfl))); (try simp only [Act.put, List.setIfInBounds_toArray, List.set_cons_zero, List.set_cons_succ, List.getElem_toArray, List.getElem_cons_zero, List.getElem_cons_succ]))
    (refine wpAnyH_take (i := 11) (v := ?_) rfl (by kernel_rfl) (by kernel_rfl) (by kernel_rfl) (fun _ _ _ h => hpan _ _ _ _ _ h) (Or.inl ⟨by rfl, ?_⟩) hHeld ?_; rotate_left; (focus (intro w hSw; (try dsimp only at hSw); go_simp; try with_reducible rfl)); (try simp only [Act.put, List.setIfInBounds_toArray, List.set_cons_zero, List.set_cons_succ, List.getElem_toArray, List.getElem_cons_zero, List.getElem_cons_succ]))
    (refine wpAnyH_ready (rs := [1]) (by kernel_rfl) (by simp) ?_; refine AllReadyH.cons rfl (fun K hK => ?_) AllReadyH.nil; go_simp; refine (HCA.out _ hHeld).1.mono ?_; rintro e y1 ⟨rfl, rfl⟩; refine hK.out _ _ ?_ (fun hHeldN => ?_); (focus ((try dsimp only); (exact hHeld))); clear hK K hHeld; have hHeld := hHeldN; clear hHeldN; (try simp only [Act.put, List.setIfInBounds_toArray, List.set_cons_zero, List.set_cons_succ, List.getElem_toArray, List.getElem_cons_zero, List.getElem_cons_succ]))
    (refine wpAnyH_take (i := 12) (v := ?_) rfl (by kernel_rfl) (by kernel_rfl) (by kernel_rfl) (fun _ _ _ h => hpan _ _ _ _ _ h) (Or.inl ⟨by rfl, ?_⟩) hHeld ?_; rotate_left; (focus (intro w hSw; (try dsimp only at hSw); go_simp; try with_reducible rfl)); (try simp only [Act.put, List.setIfInBounds_toArray, List.set_cons_zero, List.set_cons_succ, List.getElem_toArray, List.getElem_cons_zero, List.getElem_cons_succ])); (refine wpAnyH_take (i := 13) (v := ?_) rfl (by kernel_rfl) (by kernel_rfl) (by kernel_rfl) (fun _ _ _ h => hpan _ _ _ _ _ h) (Or.inl ⟨by rfl, ?_⟩) hHeld ?_; rotate_left; (focus (intro w hSw; (try dsimp only at hSw); go_simp; try with_reducible rfl)); (try simp only [Act.put, List.setIfInBounds_toArray, List.set_cons_zero, List.set_cons_succ, List.getElem_toArray, List.getElem_cons_zero, List.getElem_cons_succ])); (refine wpAnyH_take (i := 14) (v := ?_) rfl (by kernel_rfl) (by kernel_rfl) (by kernel_rfl) (fun _ _ _ h => hpan _ _ _ _ _ h) (Or.inl ⟨by rfl, ?_⟩) hHeld ?_; rotate_left; (focus (intro w hSw; (try dsimp only at hSw); go_simp; try with_reducible rfl)); (try simp only [Act.put, List.setIfInBounds_toArray, List.set_cons_zero, List.set_cons_succ, List.getElem_toArray, List.getElem_cons_zero, List.getElem_cons_succ])); (refine wpAnyH_take (i := 16) (v := ?_) rfl (by kernel_rfl) (by kernel_rfl) (by kernel_rfl) (fun _ _ _ h => hpan _ _ _ _ _ h) (Or.inl ⟨by rfl, ?_⟩) hHeld ?_; rotate_left; (focus (intro w hSw; (try dsimp only at hSw); go_simp; try with_reducible rfl)); (try simp only [Act.put, List.setIfInBounds_toArray, List.set_cons_zero, List.set_cons_succ, List.getElem_toArray, List.getElem_cons_zero, List.getElem_cons_succ])); (refine wpAnyH_take (i := 17) (v := ?_) rfl (by kernel_rfl) (by kernel_rfl) (by kernel_rfl) (fun _ _ _ h => hpan _ _ _ _ _ h) (Or.inl ⟨by rfl, ?_⟩) hHeld ?_; rotate_left; (focus (intro w hSw; (try dsimp only at hSw); go_simp; try with_reducible rfl)); (try simp only [Act.put, List.setIfInBounds_toArray, List.set_cons_zero, List.set_cons_succ, List.getElem_toArray, List.getElem_cons_zero, List.getElem_cons_succ])); (refine wpAnyH_take (i := 18) (v := ?_) rfl (by kernel_rfl) (by kernel_rfl) (by kernel_rfl) (fun _ _ _ h => hpan _ _ _ _ _ h) (Or.inl ⟨by rfl, ?_⟩) hHeld ?_; rotate_left; (focus (intro w hSw; (try dsimp only at hSw); go_simp; try with_reducible rfl)); (try simp only [Act.put, List.setIfInBounds_toArray, List.set_cons_zero, List.set_cons_succ, List.getElem_toArray, List.getElem_cons_zero, List.getElem_cons_succ]))
    (refine wpAnyH_take (i := 19) (v := ?_) rfl (by kernel_rfl) (by kernel_rfl) (by kernel_rfl) (fun _ _ _ h => hpan _ _ _ _ _ h) (Or.inl ⟨by rfl, ?_⟩) hHeld ?_; rotate_left; (focus (intro w hSw; (try dsimp only at hSw); go_simp; (have cc := (HCE.out _ hSw).2.1; go_simp; try with_reducible rfl))); (try simp only [Act.put, List.setIfInBounds_toArray, List.set_cons_zero, List.set_cons_succ, List.getElem_toArray, List.getElem_cons_zero, List.getElem_cons_succ]))
    (refine wpAnyH_take (i := 20) (v := ?_) rfl (by kernel_rfl) (by kernel_rfl) (by kernel_rfl) (fun _ _ _ h => hpan _ _ _ _ _ h) (Or.inl ⟨by rfl, ?_⟩) hHeld ?_; rotate_left; (focus (intro w hSw; (try dsimp only at hSw); go_simp; try with_reducible rfl)); (try simp only [Act.put, List.setIfInBounds_toArray, List.set_cons_zero, List.set_cons_succ, List.getElem_toArray, List.getElem_cons_zero, List.getElem_cons_succ]))
    (refine wpAnyH_ready (rs := [15]) (by kernel_rfl) (by simp) ?_; refine AllReadyH.cons rfl (fun K hK => ?_) AllReadyH.nil; go_simp; refine (HCA.out _ hHeld).2.1.mono ?_; rintro e y15 ⟨rfl, rfl⟩; refine hK.out _ _ ?_ (fun hHeldN => ?_); (focus ((try dsimp only); (exact hHeld))); clear hK K hHeld; have hHeld := hHeldN; clear hHeldN; (try simp only [Act.put, List.setIfInBounds_toArray, List.set_cons_zero, List.set_cons_succ, List.getElem_toArray, List.getElem_cons_zero, List.getElem_cons_succ]))
    (refine wpAnyH_take (i := 21) (v := ?_) rfl (by kernel_rfl) (by kernel_rfl) (by kernel_rfl) (fun _ _ _ h => hpan _ _ _ _ _ h) (Or.inl ⟨by rfl, ?_⟩) hHeld ?_; rotate_left; (focus (intro w hSw; (try dsimp only at hSw); go_simp; try with_reducible rfl)); (try simp only [Act.put, List.setIfInBounds_toArray, List.set_cons_zero, List.set_cons_succ, List.getElem_toArray, List.getElem_cons_zero, List.getElem_cons_succ])); (refine wpAnyH_take (i := 22) (v := ?_) rfl (by kernel_rfl) (by kernel_rfl) (by kernel_rfl) (fun _ _ _ h => hpan _ _ _ _ _ h) (Or.inl ⟨by rfl, ?_⟩) hHeld ?_; rotate_left; (focus (intro w hSw; (try dsimp only at hSw); go_simp; try with_reducible rfl)); (try simp only [Act.put, List.setIfInBounds_toArray, List.set_cons_zero, List.set_cons_succ, List.getElem_toArray, List.getElem_cons_zero, List.getElem_cons_succ])); (refine wpAnyH_take (i := 23) (v := ?_) rfl (by kernel_rfl) (by kernel_rfl) (by kernel_rfl) (fun _ _ _ h => hpan _ _ _ _ _ h) (Or.inl ⟨by rfl, ?_⟩) hHeld ?_; rotate_left; (focus (intro w hSw; (try dsimp only at hSw); go_simp; try with_reducible rfl)); (try simp only [Act.put, List.setIfInBounds_toArray, List.set_cons_zero, List.set_cons_succ, List.getElem_toArray, List.getElem_cons_zero, List.getElem_cons_succ])); (refine wpAnyH_take (i := 24) (v := ?_) rfl (by kernel_rfl) (by kernel_rfl) (by kernel_rfl) (fun _ _ _ h => hpan _ _ _ _ _ h) (Or.inl ⟨by rfl, ?_⟩) hHeld ?_; rotate_left; (focus (intro w hSw; (try dsimp only at hSw); go_simp; try with_reducible rfl)); (try simp only [Act.put, List.setIfInBounds_toArray, List.set_cons_zero, List.set_cons_succ, List.getElem_toArray, List.getElem_cons_zero, List.getElem_cons_succ])); (refine wpAnyH_take (i := 26) (v := ?_) rfl (by kernel_rfl) (by kernel_rfl) (by kernel_rfl) (fun _ _ _ h => hpan _ _ _ _ _ h) (Or.inl ⟨by rfl, ?_⟩) hHeld ?_; rotate_left; (focus (intro w hSw; (try dsimp only at hSw); go_simp; try with_reducible rfl)); (try simp only [Act.put, List.setIfInBounds_toArray, List.set_cons_zero, List.set_cons_succ, List.getElem_toArray, List.getElem_cons_zero, List.getElem_cons_succ])); (refine wpAnyH_take (i := 27) (v := ?_) rfl (by kernel_rfl) (by kernel_rfl) (by kernel_rfl) (fun _ _ _ h => hpan _ _ _ _ _ h) (Or.inl ⟨by rfl, ?_⟩) hHeld ?_; rotate_left; (focus (intro w hSw; (try dsimp only at hSw); go_simp; try with_reducible rfl)); (try simp only [Act.put, List.setIfInBounds_toArray, List.set_cons_zero, List.set_cons_succ, List.getElem_toArray, List.getElem_cons_zero, List.getElem_cons_succ])); (refine wpAnyH_take (i := 28) (v := ?_) rfl (by kernel_rfl) (by kernel_rfl) (by kernel_rfl) (fun _ _ _ h => hpan _ _ _ _ _ h) (Or.inl ⟨by rfl, ?_⟩) hHeld ?_; rotate_left; (focus (intro w hSw; (try dsimp only at hSw); go_simp; try with_reducible rfl)); (try simp only [Act.put, List.setIfInBounds_toArray, List.set_cons_zero, List.set_cons_succ, List.getElem_toArray, List.getElem_cons_zero, List.getElem_cons_succ]))
    (refine wpAnyH_take (i := 29) (v := ?_) rfl (by kernel_rfl) (by kernel_rfl) (by kernel_rfl) (fun _ _ _ h => hpan _ _ _ _ _ h) (Or.inl ⟨by rfl, ?_⟩) hHeld ?_; rotate_left; (focus (intro w hSw; (try dsimp only at hSw); go_simp; (have cc := (HCE.out _ hSw).2.2; go_simp; try with_reducible rfl))); (try simp only [Act.put, List.setIfInBounds_toArray, List.set_cons_zero, List.set_cons_succ, List.getElem_toArray, List.getElem_cons_zero, List.getElem_cons_succ]))
    (refine wpAnyH_ready (rs := [25]) (by kernel_rfl) (by simp) ?_; refine AllReadyH.cons rfl (fun K hK => ?_) AllReadyH.nil; go_simp; refine (HCA.out _ hHeld).2.2.1.mono ?_; rintro e y25 ⟨rfl, rfl⟩; refine hK.out _ _ ?_ (fun hHeldN => ?_); (focus ((try dsimp only); (exact hHeld))); clear hK K hHeld; have hHeld := hHeldN; clear hHeldN; (try simp only [Act.put, List.setIfInBounds_toArray, List.set_cons_zero, List.set_cons_succ, List.getElem_toArray, List.getElem_cons_zero, List.getElem_cons_succ]))
    (refine wpAnyH_take (i := 30) (v := ?_) rfl (by kernel_rfl) (by kernel_rfl) (by kernel_rfl) (fun _ _ _ h => hpan _ _ _ _ _ h) (Or.inl ⟨by rfl, ?_⟩) hHeld ?_; rotate_left; (focus (intro w hSw; (try dsimp only at hSw); go_simp; try with_reducible rfl)); (try simp only [Act.put, List.setIfInBounds_toArray, List.set_cons_zero, List.set_cons_succ, List.getElem_toArray, List.getElem_cons_zero, List.getElem_cons_succ])); (refine wpAnyH_take (i := 31) (v := ?_) rfl (by kernel_rfl) (by kernel_rfl) (by kernel_rfl) (fun _ _ _ h => hpan _ _ _ _ _ h) (Or.inl ⟨by rfl, ?_⟩) hHeld ?_; rotate_left; (focus (intro w hSw; (try dsimp only at hSw); go_simp; try with_reducible rfl)); (try simp only [Act.put, List.setIfInBounds_toArray, List.set_cons_zero, List.set_cons_succ, List.getElem_toArray, List.getElem_cons_zero, List.getElem_cons_succ])); (refine wpAnyH_take (i := 32) (v := ?_) rfl (by kernel_rfl) (by kernel_rfl) (by kernel_rfl) (fun _ _ _ h => hpan _ _ _ _ _ h) (Or.inl ⟨by rfl, ?_⟩) hHeld ?_; rotate_left; (focus (intro w hSw; (try dsimp only at hSw); go_simp; try with_reducible rfl)); (try simp only [Act.put, List.setIfInBounds_toArray, List.set_cons_zero, List.set_cons_succ, List.getElem_toArray, List.getElem_cons_zero, List.getElem_cons_succ])); (refine wpAnyH_take (i := 33) (v := ?_) rfl (by kernel_rfl) (by kernel_rfl) (by kernel_rfl) (fun _ _ _ h => hpan _ _ _ _ _ h) (Or.inl ⟨by rfl, ?_⟩) hHeld ?_; rotate_left; (focus (intro w hSw; (try dsimp only at hSw); go_simp; try with_reducible rfl)); (try simp only [Act.put, List.setIfInBounds_toArray, List.set_cons_zero, List.set_cons_succ, List.getElem_toArray, List.getElem_cons_zero, List.getElem_cons_succ])); (refine wpAnyH_take (i := 34) (v := ?_) rfl (by kernel_rfl) (by kernel_rfl) (by kernel_rfl) (fun _ _ _ h => hpan _ _ _ _ _ h) (Or.inl ⟨by rfl, ?_⟩) hHeld ?_; rotate_left; (focus (intro w hSw; (try dsimp only at hSw); go_simp; try with_reducible rfl)); (try simp only [Act.put, List.setIfInBounds_toArray, List.set_cons_zero, List.set_cons_succ, List.getElem_toArray, List.getElem_cons_zero, List.getElem_cons_succ])); (refine wpAnyH_take (i := 35) (v := ?_) rfl (by kernel_rfl) (by kernel_rfl) (by kernel_rfl) (fun _ _ _ h => hpan _ _ _ _ _ h) (Or.inl ⟨by rfl, ?_⟩) hHeld ?_; rotate_left; (focus (intro w hSw; (try dsimp only at hSw); go_simp; try with_reducible rfl)); (try simp only [Act.put, List.setIfInBounds_toArray, List.set_cons_zero, List.set_cons_succ, List.getElem_toArray, List.getElem_cons_zero, List.getElem_cons_succ])); (refine wpAnyH_take (i := 36) (v := ?_) rfl (by kernel_rfl) (by kernel_rfl) (by kernel_rfl) (fun _ _ _ h => hpan _ _ _ _ _ h) (Or.inl ⟨by rfl, ?_⟩) hHeld ?_; rotate_left; (focus (intro w hSw; (try dsimp only at hSw); go_simp; try with_reducible rfl)); (try simp only [Act.put, List.setIfInBounds_toArray, List.set_cons_zero, List.set_cons_succ, List.getElem_toArray, List.getElem_cons_zero, List.getElem_cons_succ])); (refine wpAnyH_take (i := 37) (v := ?_) rfl (by kernel_rfl) (by kernel_rfl) (by kernel_rfl) (fun _ _ _ h => hpan _ _ _ _ _ h) (Or.inl ⟨by rfl, ?_⟩) hHeld ?_; rotate_left; (focus (intro w hSw; (try dsimp only at hSw); go_simp; try with_reducible rfl)); (try simp only [Act.put, List.setIfInBounds_toArray, List.set_cons_zero, List.set_cons_succ, List.getElem_toArray, List.getElem_cons_zero, List.getElem_cons_succ])); (refine wpAnyH_take (i := 39) (v := ?_) rfl (by kernel_rfl) (by kernel_rfl) (by kernel_rfl) (fun _ _ _ h => hpan _ _ _ _ _ h) (Or.inl ⟨by rfl, ?_⟩) hHeld ?_; rotate_left; (focus (intro w hSw; (try dsimp only at hSw); go_simp; try with_reducible rfl)); (try simp only [Act.put, List.setIfInBounds_toArray, List.set_cons_zero, List.set_cons_succ, List.getElem_toArray, List.getElem_cons_zero, List.getElem_cons_succ]))
    (refine wpAnyH_ready (rs := [38]) (by kernel_rfl) (by simp) ?_; refine AllReadyH.cons rfl (fun K hK => ?_) AllReadyH.nil; go_simp; refine (HCA.out _ hHeld).2.2.2.mono ?_; rintro e y38 ⟨rfl, rfl⟩; refine hK.out _ _ ?_ (fun hHeldN => ?_); (focus ((try dsimp only); (exact hHeld))); clear hK K hHeld; have hHeld := hHeldN; clear hHeldN; (try simp only [Act.put, List.setIfInBounds_toArray, List.set_cons_zero, List.set_cons_succ, List.getElem_toArray, List.getElem_cons_zero, List.getElem_cons_succ]))
    (refine wpAnyH_take (i := 40) (v := ?_) rfl (by kernel_rfl) (by kernel_rfl) (by kernel_rfl) (fun _ _ _ h => hpan _ _ _ _ _ h) (Or.inl ⟨by rfl, ?_⟩) hHeld ?_; rotate_left; (focus (intro w hSw; (try dsimp only at hSw); go_simp; try with_reducible rfl)); (try simp only [Act.put, List.setIfInBounds_toArray, List.set_cons_zero, List.set_cons_succ, List.getElem_toArray, List.getElem_cons_zero, List.getElem_cons_succ])); (refine wpAnyH_take (i := 41) (v := ?_) rfl (by kernel_rfl) (by kernel_rfl) (by kernel_rfl) (fun _ _ _ h => hpan _ _ _ _ _ h) (Or.inl ⟨by rfl, ?_⟩) hHeld ?_; rotate_left; (focus (intro w hSw; (try dsimp only at hSw); go_simp; try with_reducible rfl)); (try simp only [Act.put, List.setIfInBounds_toArray, List.set_cons_zero, List.set_cons_succ, List.getElem_toArray, List.getElem_cons_zero, List.getElem_cons_succ]))
    refine wpAnyH_done (by kernel_rfl) ?_ _
    have HR9 := Lib.hid (HR8.out.later hHeld)
    clear hHeld
    go_wp2_with fail
    refine ⟨?_, ?_⟩
    · unfold plI
      refine ⟨_, _, _, _, _, _, _, _, _, _, _, _, _, _, _, _, _, _, _, _, _, _, _, _, _, _, _, _, _, _, _, _, _, _, _, _, _, _, _, _, _, _, _, _, _, _, _, _, _, _, _, _, _, _, _, _, _, _, _, _, _, _, _, _, _, _, _, _, _, _, _, _, _, _, _, _, _, _, _, _, _, _, _, _, _, _, _, _, _, _, _, _, _, _, _, _, _, _, _, _, _, _, _, _, _, _, _, _, _, _, _, _, _, _, _, _, _, _, _, _, _, _, _, _, _, _, _, _, _, _, _, _, _, _, _, _, _, _, _, _, _, _, _, _, _, _, _, _, _, _, _, _, _, _, _, _, _, _, _, _, _, _, _, _, _, _, _, _, _, _, _, _, _, ?_, rfl⟩
      unfold PlR
      exact ⟨k + 1, g8, r8, s1, pre8, by omega, by go_num, HR9, HOK8⟩
    · simp [plMu, intOf]; omega
end Go.Proofs.Ytadcpmfphcapfaa
