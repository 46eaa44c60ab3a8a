/-
  A piece of laws.FnTideLevels, from region 19 on. Conditions: stated at the theorem.
-/
import Derived.Test.YtdmnkmdlochogaaFt33
namespace Go.Proofs.Ytdmnkmdlochogaa
open Go.Joins Go.ChangeShapes Go.WideShapes Go.ChangeAt Go.RowKit Go.Deep
set_option linter.unusedVariables false

set_option maxRecDepth 20000 in
set_option maxHeartbeats 12800000 in
theorem tail19 {c0 : Code} (hc0 : Try.f4.body.bind (restAt 19) = some c0) (A : Option Addr) (n c : Nat) (w W0 : World) (hr : CodeRow w.heap.size A n w) (hb0 : Below w.heap.size w W0) (u1 u2 u3 u4 u5 u6 u7 u8 u9 u10 u11 u12 u13 u14 u15 u16 u17 u18 u19 u20 u21 u22 u23 u24 u25 u26 u27 u28 u29 u30 u31 u32 u33 u34 u35 u36 u37 u38 u39 u40 u41 u42 u43 u44 u45 u46 u47 u48 u49 u50 u51 u52 u53 u54 u55 u56 u57 u58 u59 u60 u61 u62 u63 u64 u65 u66 u67 u68 u69 u70 u71 u72 u73 u74 u75 u76 u77 u78 u79 u80 u81 u82 u83 u84 u85 u86 u87 u88 u89 u90 u91 u92 u93 u94 u95 u96 u97 u98 u99 u100 u101 u102 u103 u104 u105 u106 u107 u108 u109 u110 u111 u112 u113 u114 u115 u116 u117 u118 u119 u120 u121 u122 u123 u124 u125 u126 u127 u128 u129 u130 u131 u132 u133 u134 u135 u136 u137 u138 u139 u140 u141 u142 u143 u144 u145 u146 u147 u148 u149 u150 u151 u152 u153 u154 u155 u156 u157 u158 u159 u160 u161 u162 u163 u164 u165 u166 u167 u168 u169 u170 u171 u172 u173 u174 u175 u176 u177 u178 u179 u180 u181 u182 u183 u184 u185 u186 u187 u188 u189 u190 u191 u192 u193 u194 u195 u196 u197 u198 u199 u200 u201 u202 u203 u204 u205 u206 u207 u208 u209 u210 u211 u212 u213 u214 u215 u216 u217 u218 u219 u220 u221 u222 u223 u224 u225 u226 u227 u228 u229 u230 u231 u232 u233 u234 u235 u236 u237 u238 u239 u240 u241 u242 u243 u244 u245 u246 u247 u248 u249 u250 u251 u252 u253 u254 u255 u256 u257 u258 u259 u260 u261 u262 u263 u264 u265 u266 u267 u268 u269 u270 u271 u272 u273 u274 u275 u276 u277 u278 u279 u280 u281 u282 u283 u284 u285 u286 u287 u288 u289 u290 u291 u292 u293 u294 u295 u296 u297 u298 u299 u300 u301 u302 : Value) :
    c0.wp Try.prog (bodyPost Try.prog Try.f4 fun e w' => e = .returned (.bool true) ∧ Below w.heap.size w w') { tmps := #[.slice A n c, u1, u2, u3, u4, u5, u6, u7, u8, u9, u10, u11, u12, u13, u14, u15, u16, u17, u18, u19, u20, u21, u22, u23, u24, u25, u26, u27, u28, u29, u30, u31, u32, u33, u34, u35, u36, u37, u38, u39, u40, u41, u42, u43, u44, u45, u46, u47, u48, u49, u50, u51, u52, u53, u54, u55, u56, u57, u58, u59, u60, u61, u62, u63, u64, u65, u66, u67, u68, u69, u70, u71, u72, u73, u74, u75, u76, u77, u78, u79, u80, u81, u82, u83, u84, u85, u86, u87, u88, u89, u90, u91, u92, u93, u94, u95, u96, u97, u98, u99, u100, u101, u102, u103, u104, u105, u106, u107, u108, u109, u110, u111, u112, u113, u114, u115, u116, u117, u118, u119, u120, u121, u122, u123, u124, u125, u126, u127, u128, u129, u130, u131, u132, u133, u134, u135, u136, u137, u138, u139, u140, u141, u142, u143, u144, u145, u146, u147, u148, u149, u150, u151, u152, u153, u154, u155, u156, u157, u158, u159, u160, u161, u162, u163, u164, u165, u166, u167, u168, u169, u170, u171, u172, u173, u174, u175, u176, u177, u178, u179, u180, u181, u182, u183, u184, u185, u186, u187, u188, u189, u190, u191, u192, u193, u194, u195, u196, u197, u198, u199, u200, u201, u202, u203, u204, u205, u206, u207, u208, u209, u210, u211, u212, u213, u214, u215, u216, u217, u218, u219, u220, u221, u222, u223, u224, u225, u226, u227, u228, u229, u230, u231, u232, u233, u234, u235, u236, u237, u238, u239, u240, u241, u242, u243, u244, u245, u246, u247, u248, u249, u250, u251, u252, u253, u254, u255, u256, u257, u258, u259, u260, u261, u262, u263, u264, u265, u266, u267, u268, u269, u270, u271, u272, u273, u274, u275, u276, u277, u278, u279, u280, u281, u282, u283, u284, u285, u286, u287, u288, u289, u290, u291, u292, u293, u294, u295, u296, u297, u298, u299, u300, u301, u302], defers := [] } W0 := by
  cases (show Try.f4.body.bind (restAt 19) = some _ from rfl).symm.trans hc0
  have HBb := Lib.hid hb0
  clear hc0 hb0
  go_wp2_with fail
  refine (draw_depth _ n c _ (hr.below HBb.out HBb.out.size)).mono ?_
  rintro e w1 ⟨Rx, mx, px, v2, a2, rfl, hi_v2, hi_a2, hD⟩
  obtain ⟨hmx, ⟨lx, hsx⟩, hb⟩ := hD
  obtain ⟨v2_lo, v2_hi⟩ := hi_v2
  obtain ⟨a2_lo, a2_hi⟩ := hi_a2
  have HB2 := Lib.hid (bthen HBb.out hb HBb.out.size)
  have HSx_1 := Lib.hid hsx
  clear hsx hb
  have hlx : mx ≤ maxLen := by unfold maxLen; omega
  obtain ⟨NV, hNV⟩ : ∃ z, z = rpV lx v2 a2 := ⟨_, rfl⟩
  obtain ⟨K2, hK2⟩ : ∃ z, z = rpK lx v2 a2 := ⟨_, rfl⟩
  have HV2 := Lib.hid (And.intro hNV hK2)
  clear hNV hK2
  go_wp2_with fail
  refine (depth_impl _ _ _ lx v2 a2 _ HSx_1.out hlx).mono ?_
  rintro e w3 ⟨he, hb⟩
  rw [← HV2.out.1, ← HV2.out.2] at he
  subst he
  have HB4 := Lib.hid (bthen HB2.out hb HB2.out.size)
  have HSx_5 := Lib.hid (spots_at HSx_1.out hb)
  clear hb
  go_wp2_with fail
  refine (depth_spec _ _ _ lx v2 a2 _ HSx_5.out hlx).mono ?_
  rintro e w6 ⟨he, hb⟩
  rw [← HV2.out.1, ← HV2.out.2] at he
  subst he
  have HB7 := Lib.hid (bthen HB4.out hb HB4.out.size)
  have HSx_8 := Lib.hid (spots_at HSx_5.out hb)
  clear hb
  go_upto_if 160 with fail
  rename_i KK aK
  have HKK := Lib.hid aK
  clear aK
  rcases K2 with _ | _
  · skip
    go_wp2_with fail
    exact HKK.out _ _ (tail33 rfl A n c w _ hr HB7.out _ _ _ _ _ _ _ _ _ _ _ _ _ _ _ _ _ _ _ _ _ _ _ _ _ _ _ _ _ _ _ _ _ _ _ _ _ _ _ _ _ _ _ _ _ _ _ _ _ _ _ _ _ _ _ _ _ _ _ _ _ _ _ _ _ _ _ _ _ _ _ _ _ _ _ _ _ _ _ _ _ _ _ _ _ _ _ _ _ _ _ _ _ _ _ _ _ _ _ _ _ _ _ _ _ _ _ _ _ _ _ _ _ _ _ _ _ _ _ _ _ _ _ _ _ _ _ _ _ _ _ _ _ _ _ _ _ _ _ _ _ _ _ _ _ _ _ _ _ _ _ _ _ _ _ _ _ _ _ _ _ _ _ _ _ _ _ _ _ _ _ _ _ _ _ _ _ _ _ _ _ _ _ _ _ _ _ _ _ _ _ _ _ _ _ _ _ _ _ _ _ _ _ _ _ _ _ _ _ _ _ _ _ _ _ _ _ _ _ _ _ _ _ _ _ _ _ _ _ _ _ _ _ _ _ _ _ _ _ _ _ _ _ _ _ _ _ _ _ _ _ _ _ _ _ _ _ _ _ _ _ _ _ _ _ _ _ _ _ _ _ _ _ _ _ _ _ _ _ _ _ _ _ _ _ _ _ _ _ _ _ _ _ _ _ _ _ _ _ _ _ _)
  · skip
    have hk2 := HV2.out.2.symm
    have hNV := HV2.out.1
    obtain ⟨⟨g1, g2⟩, g3, g4⟩ := rp_level hk2
    have hp := rp_parts hk2
    have hp1 := lo_parts hp.1
    have nbd := rl_bd hp1.1 hp1.2.1
    have HRT : Hid (∀ h : tideB (rsL lx 10) = true, rpK (rsL lx 10) v2 a2 = true ∧ rpV (rsL lx 10) v2 a2 = rpV lx v2 a2 - 10) := Lib.hid fun h => rp_raise hk2 h
    obtain ⟨N2, hN2⟩ : ∃ z, z = rlN lx a2 := ⟨_, rfl⟩
    obtain ⟨D2, hD2⟩ : ∃ z, z = rlD lx a2 := ⟨_, rfl⟩
    have HL2 : Hid (loN lx a2 = N2 ∧ loD lx a2 = (D2 : Int) ∧ loK lx a2 = true) := Lib.hid ⟨hp1.2.2.1.trans hN2.symm, hp1.2.2.2.trans (by rw [hD2]), hp.1⟩
    rw [← hNV, ← hN2, ← hD2] at g1 g2
    rw [← hNV] at g3 g4 HRT
    rw [← hN2, ← hD2] at nbd
    have b1 := dep_bd (x := v2) (d := D2) hp.2 nbd.1.2
    obtain ⟨b11, b12⟩ := b1
    have b2 := nv_bd (q := NV) (d := D2) g3 g4 nbd.1.2
    have b3 : (NV + 1) * (D2 : Int) = NV * (D2 : Int) + D2 := by rw [Int.add_mul, Int.one_mul]
    have b4 : -12001000 ≤ (NV + 1) * (D2 : Int) ∧ (NV + 1) * (D2 : Int) ≤ 12001000 := by omega
    obtain ⟨b21, b22⟩ := b2
    obtain ⟨b41, b42⟩ := b4
    obtain ⟨⟨n1, n2⟩, n3, n4⟩ := nbd
    have hd1 : decide (v2 * (D2 : Int) - N2 < NV * (D2 : Int)) = false := decide_eq_false (by omega)
    have hd2 : decide ((NV + 1) * (D2 : Int) ≤ v2 * (D2 : Int) - N2) = false := decide_eq_false (by omega)
    clear hk2 hp hp1 hN2 hD2 hNV b3
    go_wp2_with fail
    refine (levelAt_v _ _ _ lx a2 _ _ _ HL2.out.1 HL2.out.2.1 HL2.out.2.2 _ HSx_8.out hlx).mono ?_
    rintro e w9 ⟨rfl, hb⟩
    have HB10 := Lib.hid (bthen HB7.out hb HB7.out.size)
    have HSx_11 := Lib.hid (spots_at HSx_8.out hb)
    clear hb
    go_wp2_with fail
    refine (raise_impl _ _ _ lx 10 _ HSx_11.out hlx (by omega) (by omega)).mono ?_
    rintro e w12 ⟨A8, c8, rfl, hO, hb⟩
    have HB13 := Lib.hid (bthen HB10.out hb HB10.out.size)
    have HO8 := Lib.hid hO
    clear hO hb hd1 hd2
    rcases hk3 : rsK lx 10 with _ | _
    · skip
      clear hk3
      go_wp2_with fail
      exact HKK.out _ _ (tail33 rfl A n c w _ hr HB13.out _ _ _ _ _ _ _ _ _ _ _ _ _ _ _ _ _ _ _ _ _ _ _ _ _ _ _ _ _ _ _ _ _ _ _ _ _ _ _ _ _ _ _ _ _ _ _ _ _ _ _ _ _ _ _ _ _ _ _ _ _ _ _ _ _ _ _ _ _ _ _ _ _ _ _ _ _ _ _ _ _ _ _ _ _ _ _ _ _ _ _ _ _ _ _ _ _ _ _ _ _ _ _ _ _ _ _ _ _ _ _ _ _ _ _ _ _ _ _ _ _ _ _ _ _ _ _ _ _ _ _ _ _ _ _ _ _ _ _ _ _ _ _ _ _ _ _ _ _ _ _ _ _ _ _ _ _ _ _ _ _ _ _ _ _ _ _ _ _ _ _ _ _ _ _ _ _ _ _ _ _ _ _ _ _ _ _ _ _ _ _ _ _ _ _ _ _ _ _ _ _ _ _ _ _ _ _ _ _ _ _ _ _ _ _ _ _ _ _ _ _ _ _ _ _ _ _ _ _ _ _ _ _ _ _ _ _ _ _ _ _ _ _ _ _ _ _ _ _ _ _ _ _ _ _ _ _ _ _ _ _ _ _ _ _ _ _ _ _ _ _ _ _ _ _ _ _ _ _ _ _ _ _ _ _ _ _ _ _ _ _ _ _ _ _ _ _ _ _ _ _ _)
    · skip
      have hrs : rsR lx 10 = rsL lx 10 := by unfold rsR; rw [hk3]; rfl
      have hr10 : tideB (rsL lx 10) = true := by unfold rsK at hk3; rw [Bool.and_eq_true] at hk3; exact hk3.2
      have HS8 := Lib.hid (HO8.out.spots (Nat.le_refl _))
      have hln := rsR_len lx 10
      obtain ⟨q1, q2⟩ := HRT.out hr10
      rw [← hrs] at q1 q2
      clear hrs hr10 hk3
      go_wp2_with fail
      refine (depth_impl _ _ _ (rsR lx 10) v2 a2 _ HS8.out (by unfold maxLen; omega)).mono ?_
      rintro e w14 ⟨he8, hb⟩
      rw [q1, q2] at he8
      subst he8
      have HB15 := Lib.hid (bthen HB13.out hb HB13.out.size)
      clear hb q1 q2 hln
      go_wp2_with fail
      exact HKK.out _ _ (tail33 rfl A n c w _ hr HB15.out _ _ _ _ _ _ _ _ _ _ _ _ _ _ _ _ _ _ _ _ _ _ _ _ _ _ _ _ _ _ _ _ _ _ _ _ _ _ _ _ _ _ _ _ _ _ _ _ _ _ _ _ _ _ _ _ _ _ _ _ _ _ _ _ _ _ _ _ _ _ _ _ _ _ _ _ _ _ _ _ _ _ _ _ _ _ _ _ _ _ _ _ _ _ _ _ _ _ _ _ _ _ _ _ _ _ _ _ _ _ _ _ _ _ _ _ _ _ _ _ _ _ _ _ _ _ _ _ _ _ _ _ _ _ _ _ _ _ _ _ _ _ _ _ _ _ _ _ _ _ _ _ _ _ _ _ _ _ _ _ _ _ _ _ _ _ _ _ _ _ _ _ _ _ _ _ _ _ _ _ _ _ _ _ _ _ _ _ _ _ _ _ _ _ _ _ _ _ _ _ _ _ _ _ _ _ _ _ _ _ _ _ _ _ _ _ _ _ _ _ _ _ _ _ _ _ _ _ _ _ _ _ _ _ _ _ _ _ _ _ _ _ _ _ _ _ _ _ _ _ _ _ _ _ _ _ _ _ _ _ _ _ _ _ _ _ _ _ _ _ _ _ _ _ _ _ _ _ _ _ _ _ _ _ _ _ _ _ _ _ _ _ _ _ _ _ _ _ _ _ _ _)
end Go.Proofs.Ytdmnkmdlochogaa
