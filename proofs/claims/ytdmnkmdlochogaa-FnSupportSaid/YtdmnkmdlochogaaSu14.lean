/-
  A piece of laws.FnSupport, from region 14 on. Conditions: stated at the theorem.
-/
import Derived.Test.YtdmnkmdlochogaaSu24
namespace Go.Proofs.Ytdmnkmdlochogaa
open Go.Joins Go.ChangeShapes Go.WideShapes Go.ChangeAt Go.RowKit Go.Deep
set_option linter.unusedVariables false

set_option maxRecDepth 20000 in
set_option maxHeartbeats 12800000 in
theorem tailS14 {c0 : Code} (hc0 : Try.f6.body.bind (restAt 14) = some c0) (A : Option Addr) (n c : Nat) (w W0 : World) (hr : CodeRow w.heap.size A n w) (hb0 : Below w.heap.size w W0) (u1 u2 u3 u4 u5 u6 u7 u8 u9 u10 u11 u12 u13 u14 u15 u16 u17 u18 u19 u20 u21 u22 u23 u24 u25 u26 u27 u28 u29 u30 u31 u32 u33 u34 u35 u36 u37 u38 u39 u40 u41 u42 u43 u44 u45 u46 u47 u48 u49 u50 u51 u52 u53 u54 u55 u56 u57 u58 u59 u60 u61 u62 u63 u64 u65 u66 u67 u68 u69 u70 u71 u72 u73 u74 u75 u76 u77 u78 u79 u80 u81 u82 u83 u84 u85 u86 u87 u88 u89 u90 u91 u92 u93 u94 u95 u96 u97 u98 u99 u100 u101 u102 u103 u104 u105 u106 u107 u108 u109 u110 u111 u112 u113 u114 u115 u116 u117 u118 u119 u120 u121 u122 u123 u124 u125 u126 u127 u128 u129 u130 u131 u132 u133 u134 u135 u136 u137 u138 u139 u140 u141 u142 u143 u144 u145 u146 u147 u148 u149 u150 u151 u152 u153 u154 u155 u156 u157 u158 u159 u160 u161 u162 u163 u164 u165 u166 u167 u168 u169 u170 u171 u172 u173 u174 u175 u176 u177 u178 u179 u180 u181 u182 u183 u184 u185 u186 u187 u188 u189 u190 u191 u192 u193 u194 u195 u196 u197 u198 u199 u200 u201 u202 u203 u204 u205 u206 u207 u208 u209 u210 u211 u212 u213 u214 u215 u216 u217 u218 u219 u220 u221 u222 u223 u224 u225 u226 u227 : Value) :
    c0.wp Try.prog (bodyPost Try.prog Try.f6 fun e w' => e = .returned (.bool true) ∧ Below w.heap.size w w') { tmps := #[.slice A n c, u1, u2, u3, u4, u5, u6, u7, u8, u9, u10, u11, u12, u13, u14, u15, u16, u17, u18, u19, u20, u21, u22, u23, u24, u25, u26, u27, u28, u29, u30, u31, u32, u33, u34, u35, u36, u37, u38, u39, u40, u41, u42, u43, u44, u45, u46, u47, u48, u49, u50, u51, u52, u53, u54, u55, u56, u57, u58, u59, u60, u61, u62, u63, u64, u65, u66, u67, u68, u69, u70, u71, u72, u73, u74, u75, u76, u77, u78, u79, u80, u81, u82, u83, u84, u85, u86, u87, u88, u89, u90, u91, u92, u93, u94, u95, u96, u97, u98, u99, u100, u101, u102, u103, u104, u105, u106, u107, u108, u109, u110, u111, u112, u113, u114, u115, u116, u117, u118, u119, u120, u121, u122, u123, u124, u125, u126, u127, u128, u129, u130, u131, u132, u133, u134, u135, u136, u137, u138, u139, u140, u141, u142, u143, u144, u145, u146, u147, u148, u149, u150, u151, u152, u153, u154, u155, u156, u157, u158, u159, u160, u161, u162, u163, u164, u165, u166, u167, u168, u169, u170, u171, u172, u173, u174, u175, u176, u177, u178, u179, u180, u181, u182, u183, u184, u185, u186, u187, u188, u189, u190, u191, u192, u193, u194, u195, u196, u197, u198, u199, u200, u201, u202, u203, u204, u205, u206, u207, u208, u209, u210, u211, u212, u213, u214, u215, u216, u217, u218, u219, u220, u221, u222, u223, u224, u225, u226, u227], defers := [] } W0 := by
  cases (show Try.f6.body.bind (restAt 14) = some _ from rfl).symm.trans hc0
  have HRW := Lib.hid hr
  have HB0 := Lib.hid hb0
  clear hc0 hb0 hr
  go_wp2_with fail
  refine (draw_shin A n c _ (HRW.out.below HB0.out HB0.out.size)).mono ?_
  rintro e w1 ⟨L, gb, cap, x, y, z, u, rfl, hl, hI, hcap, hS, hb⟩
  have HS1 := Lib.hid hS
  have HB1 := Lib.hid (bthen HB0.out hb HB0.out.size)
  have hmL : L.length ≤ maxLen := by unfold maxLen; omega
  clear hS hb hI
  obtain ⟨V, HV⟩ : ∃ V, Hid (siV L x y z u = V) := ⟨_, Lib.hid rfl⟩
  obtain ⟨K, HK⟩ : ∃ K, Hid (siK L x y z u = K) := ⟨_, Lib.hid rfl⟩
  obtain ⟨W1, hW1⟩ : ∃ W1, W1 = w1.alloc (.cells #[.int .i64 x, .int .i64 y, .int .i64 z, .int .i64 u] 77) := ⟨_, rfl⟩
  have HX : Hid (Below w1.heap.size w1 W1 ∧ Has W1 w1.heap.size [.int .i64 x, .int .i64 y, .int .i64 z, .int .i64 u]) := by rw [hW1]; exact box1 (Below.refl _ _)
  have HE := Lib.hid hW1
  have HB2 := Lib.hid (bthen HB1.out HX.out.1 HB1.out.size)
  have HS2 := Lib.hid (sds_at HS1.out HX.out.1)
  clear hW1
  go_upto_region 15 with fail
  rw [← HE.out]
  clear HE
  have e0 := HX.out.2.at_ 0 _ rfl
  have e1 := HX.out.2.at_ 1 _ rfl
  have e2 := HX.out.2.at_ 2 _ rfl
  have e3 := HX.out.2.at_ 3 _ rfl
  go_wp2_with fail
  refine (shin_impl _ _ _ L x y z u _ HS2.out hmL).mono ?_
  unfold NbPost
  rw [HV.out, HK.out]
  rintro e w2 ⟨rfl, hb⟩
  have HB3 := Lib.hid (bthen HB2.out hb HB2.out.size)
  have HS3 := Lib.hid (sds_at HS2.out hb)
  have HX3 := Lib.hid (HX.out.2.next hb)
  clear hb e0 e1 e2 e3
  have e0 := HX3.out.at_ 0 _ rfl
  have e1 := HX3.out.at_ 1 _ rfl
  have e2 := HX3.out.at_ 2 _ rfl
  have e3 := HX3.out.at_ 3 _ rfl
  go_wp2_with fail
  refine (shin_spec _ _ _ L x y z u _ HS3.out hmL).mono ?_
  unfold NbPost
  rw [HV.out, HK.out]
  rintro e w3 ⟨rfl, hb⟩
  have HB4 := Lib.hid (bthen HB3.out hb HB3.out.size)
  clear hb e0 e1 e2 e3
  go_wp2_with fail
  refine (draw_mean A n c _ (HRW.out.below HB4.out HB4.out.size)).mono ?_
  rintro e w4 ⟨M, gb2, cap2, rfl, hl2, hI2, hcap2, hS, hb⟩
  have HS5 := Lib.hid hS
  have HB5 := Lib.hid (bthen HB4.out hb HB4.out.size)
  have hmM : M.length ≤ maxLen := by unfold maxLen; omega
  clear hS hb hI2
  obtain ⟨a, HA⟩ : ∃ a, Hid (mnN M = a) := ⟨_, Lib.hid rfl⟩
  obtain ⟨d, HD⟩ : ∃ d, Hid (mnD M = d) := ⟨_, Lib.hid rfl⟩
  obtain ⟨q, HQ⟩ : ∃ q, Hid (mnK M = q) := ⟨_, Lib.hid rfl⟩
  go_wp2_with fail
  refine (mean_impl _ _ _ M _ HS5.out hmM).mono ?_
  unfold AgPost
  rw [HA.out, HD.out, HQ.out]
  rintro e w5 ⟨rfl, hb⟩
  have HB6 := Lib.hid (bthen HB5.out hb HB5.out.size)
  have HS6 := Lib.hid (sds_at HS5.out hb)
  clear hb
  go_wp2_with fail
  refine (mean_spec _ _ _ M _ HS6.out hmM).mono ?_
  unfold AgPost
  rw [HA.out, HD.out, HQ.out]
  rintro e w6 ⟨rfl, hb⟩
  have HB7 := Lib.hid (bthen HB6.out hb HB6.out.size)
  clear hb
  go_upto_if 163 with fail
  rename (Act → World → Prop) => KK
  rename (∀ (a : Act) (w : World), _ → KK a w) => aK
  have HKK := Lib.hid aK
  clear aK
  go_wp2_with fail
  exact HKK.out _ _ (tailS24 rfl A n c w _ HRW.out HB7.out _ _ _ _ _ _ _ _ _ _ _ _ _ _ _ _ _ _ _ _ _ _ _ _ _ _ _ _ _ _ _ _ _ _ _ _ _ _ _ _ _ _ _ _ _ _ _ _ _ _ _ _ _ _ _ _ _ _ _ _ _ _ _ _ _ _ _ _ _ _ _ _ _ _ _ _ _ _ _ _ _ _ _ _ _ _ _ _ _ _ _ _ _ _ _ _ _ _ _ _ _ _ _ _ _ _ _ _ _ _ _ _ _ _ _ _ _ _ _ _ _ _ _ _ _ _ _ _ _ _ _ _ _ _ _ _ _ _ _ _ _ _ _ _ _ _ _ _ _ _ _ _ _ _ _ _ _ _ _ _ _ _ _ _ _ _ _ _ _ _ _ _ _ _ _ _ _ _ _ _ _ _ _ _ _ _ _ _ _ _ _ _ _ _ _ _ _ _ _ _ _ _ _ _ _ _ _ _ _ _ _ _ _ _ _ _ _ _ _ _ _ _ _ _ _ _ _)
end Go.Proofs.Ytdmnkmdlochogaa
