/-
  A piece of laws.FnPassPairs, from region 23 on. Conditions: stated at the theorem.
-/
import Derived.Test.YtllfmjnniagjfaaJv33
namespace Go.Proofs.Ytllfmjnniagjfaa
open Go.Joins Go.ChangeShapes Go.WideShapes Go.ChangeAt Go.RowKit Go.Deep
set_option linter.unusedVariables false

set_option maxRecDepth 20000 in
set_option maxHeartbeats 12800000 in
theorem tailV23 {c0 : Code} (hc0 : Try.f4.body.bind (restAt 23) = some c0) (A : Option Addr) (n c : Nat) (w W0 : World) (hr : CodeRow w.heap.size A n w) (hb0 : Below w.heap.size w W0) (u1 u2 u3 u4 u5 u6 u7 u8 u9 u10 u11 u12 u13 u14 u15 u16 u17 u18 u19 u20 u21 u22 u23 u24 u25 u26 u27 u28 u29 u30 u31 u32 u33 u34 u35 u36 u37 u38 u39 u40 u41 u42 u43 u44 u45 u46 u47 u48 u49 u50 u51 u52 u53 u54 u55 u56 u57 u58 u59 u60 u61 u62 u63 u64 u65 u66 u67 u68 u69 u70 u71 u72 u73 u74 u75 u76 u77 u78 u79 u80 u81 u82 u83 u84 u85 u86 u87 u88 u89 u90 u91 u92 u93 u94 u95 u96 u97 u98 u99 u100 u101 u102 u103 u104 u105 u106 u107 u108 u109 u110 u111 u112 u113 u114 u115 u116 u117 u118 u119 u120 u121 u122 u123 u124 u125 u126 u127 u128 u129 u130 u131 u132 u133 u134 u135 u136 u137 u138 u139 u140 u141 u142 u143 u144 u145 u146 u147 u148 u149 u150 u151 u152 u153 u154 u155 u156 u157 u158 u159 u160 u161 u162 u163 u164 u165 u166 u167 u168 u169 u170 u171 u172 u173 u174 u175 u176 u177 u178 u179 u180 u181 u182 u183 u184 u185 u186 u187 u188 u189 u190 u191 u192 u193 u194 u195 u196 u197 u198 u199 u200 u201 u202 u203 u204 u205 u206 u207 u208 u209 u210 u211 u212 u213 u214 u215 u216 u217 u218 u219 u220 u221 u222 u223 u224 u225 u226 u227 u228 u229 u230 u231 u232 u233 u234 u235 u236 u237 u238 u239 u240 u241 u242 : Value) :
    c0.wp Try.prog (bodyPost Try.prog Try.f4 fun e w' => e = .returned (.bool true) ∧ Below w.heap.size w w') { tmps := #[.slice A n c, u1, u2, u3, u4, u5, u6, u7, u8, u9, u10, u11, u12, u13, u14, u15, u16, u17, u18, u19, u20, u21, u22, u23, u24, u25, u26, u27, u28, u29, u30, u31, u32, u33, u34, u35, u36, u37, u38, u39, u40, u41, u42, u43, u44, u45, u46, u47, u48, u49, u50, u51, u52, u53, u54, u55, u56, u57, u58, u59, u60, u61, u62, u63, u64, u65, u66, u67, u68, u69, u70, u71, u72, u73, u74, u75, u76, u77, u78, u79, u80, u81, u82, u83, u84, u85, u86, u87, u88, u89, u90, u91, u92, u93, u94, u95, u96, u97, u98, u99, u100, u101, u102, u103, u104, u105, u106, u107, u108, u109, u110, u111, u112, u113, u114, u115, u116, u117, u118, u119, u120, u121, u122, u123, u124, u125, u126, u127, u128, u129, u130, u131, u132, u133, u134, u135, u136, u137, u138, u139, u140, u141, u142, u143, u144, u145, u146, u147, u148, u149, u150, u151, u152, u153, u154, u155, u156, u157, u158, u159, u160, u161, u162, u163, u164, u165, u166, u167, u168, u169, u170, u171, u172, u173, u174, u175, u176, u177, u178, u179, u180, u181, u182, u183, u184, u185, u186, u187, u188, u189, u190, u191, u192, u193, u194, u195, u196, u197, u198, u199, u200, u201, u202, u203, u204, u205, u206, u207, u208, u209, u210, u211, u212, u213, u214, u215, u216, u217, u218, u219, u220, u221, u222, u223, u224, u225, u226, u227, u228, u229, u230, u231, u232, u233, u234, u235, u236, u237, u238, u239, u240, u241, u242], defers := [] } W0 := by
  cases (show Try.f4.body.bind (restAt 23) = some _ from rfl).symm.trans hc0
  have HRW := Lib.hid hr
  have HB0 := Lib.hid hb0
  clear hc0 hb0 hr
  go_wp2_with fail
  refine (draw_put A n c _ (HRW.out.below HB0.out HB0.out.size)).mono ?_
  rintro e w1 ⟨L, gb, cap, p, rfl, hl1, hcap1, hcm1, hS, hb⟩
  have HS1 := Lib.hid hS
  have HB1 := Lib.hid (bthen HB0.out hb HB0.out.size)
  have hm1 : L.length ≤ maxLen := by unfold maxLen; omega
  clear hS hb
  obtain ⟨R, HR⟩ : ∃ R, Hid (ppR L p = R) := ⟨_, Lib.hid rfl⟩
  obtain ⟨K, HK⟩ : ∃ K, Hid (ppG L p = K) := ⟨_, Lib.hid rfl⟩
  have hrl : R.length ≤ 13 := by rw [← HR.out]; exact ppR_len L p
  have hmR : R.length ≤ maxLen := by unfold maxLen; omega
  obtain ⟨X, hX⟩ : ∃ W, W = w1.alloc (.cells #[.int .i64 p.ln, .int .i64 p.bg, .int .i64 p.en, .int .i64 p.pi, .int .i64 p.bd, .int .i64 p.co] 40) := ⟨_, rfl⟩
  have HX1 : Hid (Below w1.heap.size w1 X ∧ Has X w1.heap.size [.int .i64 p.ln, .int .i64 p.bg, .int .i64 p.en, .int .i64 p.pi, .int .i64 p.bd, .int .i64 p.co]) := by rw [hX]; exact box1 (Below.refl _ _)
  have HE := Lib.hid hX
  have HBX := Lib.hid (bthen HB1.out HX1.out.1 HB1.out.size)
  have HSX := Lib.hid (sds_atJ HS1.out HX1.out.1)
  have HXX := Lib.hid HX1.out.2
  obtain ⟨q, hq⟩ : ∃ q, q = w1.heap.size := ⟨_, rfl⟩
  rw [← hq] at HXX
  clear hX
  go_upto_region 24 with fail
  rw [← HE.out, ← hq]
  clear HE hq HX1
  have a0 := HXX.out.at_ 0 _ rfl
  have a1 := HXX.out.at_ 1 _ rfl
  have a2 := HXX.out.at_ 2 _ rfl
  have a3 := HXX.out.at_ 3 _ rfl
  have a4 := HXX.out.at_ 4 _ rfl
  have a5 := HXX.out.at_ 5 _ rfl
  go_wp2_with fail
  refine (put_impl _ _ _ _ L p _ HSX.out hm1 hcap1 hcm1).mono ?_
  unfold PpPost
  rw [HR.out, HK.out]
  rintro e w2 ⟨A2, c2, rfl, ho, hb⟩
  have HB2 := Lib.hid (bthen HBX.out hb HBX.out.size)
  have HS2 := Lib.hid (sds_atJ HSX.out hb)
  have HX2 := Lib.hid (HXX.out.next hb)
  have HO2 := Lib.hid ho.sds
  clear hb ho
  clear a0 a1 a2 a3 a4 a5
  have a0 := HX2.out.at_ 0 _ rfl
  have a1 := HX2.out.at_ 1 _ rfl
  have a2 := HX2.out.at_ 2 _ rfl
  have a3 := HX2.out.at_ 3 _ rfl
  have a4 := HX2.out.at_ 4 _ rfl
  have a5 := HX2.out.at_ 5 _ rfl
  go_wp2_with fail
  refine (put_spec _ _ _ _ L p _ HS2.out hm1 hcap1 hcm1).mono ?_
  unfold PpPost
  rw [HR.out, HK.out]
  rintro e w3 ⟨A3, c3, rfl, ho, hb⟩
  have HB3 := Lib.hid (bthen HB2.out hb HB2.out.size)
  have HS3 := Lib.hid (sds_atJ HS2.out hb)
  have HO3 := Lib.hid (sds_atJ HO2.out hb)
  have HX3 := Lib.hid (HX2.out.next hb)
  have HW3 := Lib.hid ho.sds
  clear hb ho
  clear a0 a1 a2 a3 a4 a5
  go_wp2_with fail
  refine (rP_same _ _ _ _ _ R _ HO3.out HW3.out hmR).mono ?_
  rintro e w4 ⟨rfl, hb⟩
  have HB4 := Lib.hid (bthen HB3.out hb HB3.out.size)
  have HS4 := Lib.hid (sds_atJ HS3.out hb)
  have HO4 := Lib.hid (sds_atJ HO3.out hb)
  have HX4 := Lib.hid (HX3.out.next hb)
  clear hb
  rcases K with _ | _
  · go_upto_if 174 with fail
    rename (Act → World → Prop) => KK
    rename (∀ (a : Act) (w : World), _ → KK a w) => aK
    have HKK := Lib.hid aK
    clear aK
    go_wp2_with fail
    exact HKK.out _ _ (tailV33 rfl A n c w _ HRW.out HB4.out _ _ _ _ _ _ _ _ _ _ _ _ _ _ _ _ _ _ _ _ _ _ _ _ _ _ _ _ _ _ _ _ _ _ _ _ _ _ _ _ _ _ _ _ _ _ _ _ _ _ _ _ _ _ _ _ _ _ _ _ _ _ _ _ _ _ _ _ _ _ _ _ _ _ _ _ _ _ _ _ _ _ _ _ _ _ _ _ _ _ _ _ _ _ _ _ _ _ _ _ _ _ _ _ _ _ _ _ _ _ _ _ _ _ _ _ _ _ _ _ _ _ _ _ _ _ _ _ _ _ _ _ _ _ _ _ _ _ _ _ _ _ _ _ _ _ _ _ _ _ _ _ _ _ _ _ _ _ _ _ _ _ _ _ _ _ _ _ _ _ _ _ _ _ _ _ _ _ _ _ _ _ _ _ _ _ _ _ _ _ _ _ _ _ _ _ _ _ _ _ _ _ _ _ _ _ _ _ _ _ _ _ _ _ _ _ _ _ _ _ _ _ _ _ _ _ _ _ _ _ _ _ _ _ _ _ _ _ _ _ _ _)
  have hto := pp_told HK.out
  rw [HR.out] at hto
  obtain ⟨hp, hk1, hk2, hmm, hx9, hy9, p0, p1, p2⟩ := hto
  have HPB := Lib.hid hp
  have HK1 := Lib.hid hk1
  have HK2 := Lib.hid hk2
  clear hp hk1 hk2
  obtain ⟨x, Hx⟩ : ∃ x, Hid (mtR L p.ln = x) := ⟨_, Lib.hid rfl⟩
  obtain ⟨y, Hy⟩ : ∃ y, Hid (mtR R p.ln = y) := ⟨_, Lib.hid rfl⟩
  rw [Hy.out] at hmm hy9
  rw [Hx.out] at hmm hx9
  obtain ⟨x0, x1⟩ := hx9
  obtain ⟨y0, y1⟩ := hy9
  have hq : y - x = p.en - p.bg := by omega
  clear hmm
  go_upto_if 174 with fail
  rename (Act → World → Prop) => KK
  rename (∀ (a : Act) (w : World), _ → KK a w) => aK
  have HKK := Lib.hid aK
  clear aK
  have a0 := HX4.out.at_ 0 _ rfl
  have a1 := HX4.out.at_ 1 _ rfl
  have a2 := HX4.out.at_ 2 _ rfl
  have a3 := HX4.out.at_ 3 _ rfl
  have a4 := HX4.out.at_ 4 _ rfl
  have a5 := HX4.out.at_ 5 _ rfl
  go_wp2_with fail
  refine (minutes_impl _ _ _ L p.ln _ HS4.out hm1).mono ?_
  unfold Num2J
  rw [Hx.out, HK1.out]
  rintro e w5 ⟨rfl, hb⟩
  have HB5 := Lib.hid (bthen HB4.out hb HB4.out.size)
  have HO5 := Lib.hid (sds_atJ HO4.out hb)
  have HX5 := Lib.hid (HX4.out.next hb)
  clear hb
  clear a0 a1 a2 a3 a4 a5
  have a0 := HX5.out.at_ 0 _ rfl
  have a1 := HX5.out.at_ 1 _ rfl
  have a2 := HX5.out.at_ 2 _ rfl
  have a3 := HX5.out.at_ 3 _ rfl
  have a4 := HX5.out.at_ 4 _ rfl
  have a5 := HX5.out.at_ 5 _ rfl
  go_wp2_with fail
  refine (minutes_impl _ _ _ R p.ln _ HO5.out hmR).mono ?_
  unfold Num2J
  rw [Hy.out, HK2.out]
  rintro e w6 ⟨rfl, hb⟩
  have HB6 := Lib.hid (bthen HB5.out hb HB5.out.size)
  have HX6 := Lib.hid (HX5.out.next hb)
  clear hb
  clear a0 a1 a2 a3 a4 a5
  have a0 := HX6.out.at_ 0 _ rfl
  have a1 := HX6.out.at_ 1 _ rfl
  have a2 := HX6.out.at_ 2 _ rfl
  have a3 := HX6.out.at_ 3 _ rfl
  have a4 := HX6.out.at_ 4 _ rfl
  have a5 := HX6.out.at_ 5 _ rfl
  go_wp2_with fail
  refine (ps_impl p _ HPB.out _).mono ?_
  rintro e w7 ⟨rfl, hb⟩
  have HB7 := Lib.hid (bthen HB6.out hb HB6.out.size)
  clear hb
  clear a0 a1 a2 a3 a4 a5
  go_wp2_with fail
  exact HKK.out _ _ (tailV33 rfl A n c w _ HRW.out HB7.out _ _ _ _ _ _ _ _ _ _ _ _ _ _ _ _ _ _ _ _ _ _ _ _ _ _ _ _ _ _ _ _ _ _ _ _ _ _ _ _ _ _ _ _ _ _ _ _ _ _ _ _ _ _ _ _ _ _ _ _ _ _ _ _ _ _ _ _ _ _ _ _ _ _ _ _ _ _ _ _ _ _ _ _ _ _ _ _ _ _ _ _ _ _ _ _ _ _ _ _ _ _ _ _ _ _ _ _ _ _ _ _ _ _ _ _ _ _ _ _ _ _ _ _ _ _ _ _ _ _ _ _ _ _ _ _ _ _ _ _ _ _ _ _ _ _ _ _ _ _ _ _ _ _ _ _ _ _ _ _ _ _ _ _ _ _ _ _ _ _ _ _ _ _ _ _ _ _ _ _ _ _ _ _ _ _ _ _ _ _ _ _ _ _ _ _ _ _ _ _ _ _ _ _ _ _ _ _ _ _ _ _ _ _ _ _ _ _ _ _ _ _ _ _ _ _ _ _ _ _ _ _ _ _ _ _ _ _ _ _ _ _)
end Go.Proofs.Ytllfmjnniagjfaa
