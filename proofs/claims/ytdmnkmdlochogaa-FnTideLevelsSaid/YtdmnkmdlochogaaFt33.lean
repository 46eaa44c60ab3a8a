/-
  A piece of laws.FnTideLevels, from region 33 on. Conditions: stated at the theorem.
-/
import Derived.Test.YtdmnkmdlochogaaFz
import Derived.Test.YtdmnkmdlochogaaDb
import Derived.Deep.DeepCutAuto
namespace Go.Proofs.Ytdmnkmdlochogaa
open Go.Joins Go.ChangeShapes Go.WideShapes Go.ChangeAt Go.RowKit Go.Deep
set_option linter.unusedVariables false

/-- The code from the region with a number on. -/
def restAt (i : Nat) : Code → Option Code
  | .seq (.region j ops d) b => if j = i then some (.seq (.region j ops d) b) else restAt i b
  | .seq a b => match restAt i a with | some c => some c | none => restAt i b
  | .cond _ a b => match restAt i a with | some c => some c | none => restAt i b
  | _ => none
theorem nv_bd {q : Int} {d : Nat} (h1 : -200000 ≤ q) (h2 : q ≤ 200000) (h3 : d ≤ 60) : -12000000 ≤ q * (d : Int) ∧ q * (d : Int) ≤ 12000000 := by
  have a := Int.mul_le_mul_of_nonneg_right h1 (Int.natCast_nonneg d)
  have b := Int.mul_le_mul_of_nonneg_right h2 (Int.natCast_nonneg d)
  omega
set_option maxRecDepth 20000 in
set_option maxHeartbeats 12800000 in
theorem tail33 {c0 : Code} (hc0 : Try.f4.body.bind (restAt 33) = some c0) (A : Option Addr) (n c : Nat) (w W0 : World) (hr : CodeRow w.heap.size A n w) (hb0 : Below w.heap.size w W0) (u1 u2 u3 u4 u5 u6 u7 u8 u9 u10 u11 u12 u13 u14 u15 u16 u17 u18 u19 u20 u21 u22 u23 u24 u25 u26 u27 u28 u29 u30 u31 u32 u33 u34 u35 u36 u37 u38 u39 u40 u41 u42 u43 u44 u45 u46 u47 u48 u49 u50 u51 u52 u53 u54 u55 u56 u57 u58 u59 u60 u61 u62 u63 u64 u65 u66 u67 u68 u69 u70 u71 u72 u73 u74 u75 u76 u77 u78 u79 u80 u81 u82 u83 u84 u85 u86 u87 u88 u89 u90 u91 u92 u93 u94 u95 u96 u97 u98 u99 u100 u101 u102 u103 u104 u105 u106 u107 u108 u109 u110 u111 u112 u113 u114 u115 u116 u117 u118 u119 u120 u121 u122 u123 u124 u125 u126 u127 u128 u129 u130 u131 u132 u133 u134 u135 u136 u137 u138 u139 u140 u141 u142 u143 u144 u145 u146 u147 u148 u149 u150 u151 u152 u153 u154 u155 u156 u157 u158 u159 u160 u161 u162 u163 u164 u165 u166 u167 u168 u169 u170 u171 u172 u173 u174 u175 u176 u177 u178 u179 u180 u181 u182 u183 u184 u185 u186 u187 u188 u189 u190 u191 u192 u193 u194 u195 u196 u197 u198 u199 u200 u201 u202 u203 u204 u205 u206 u207 u208 u209 u210 u211 u212 u213 u214 u215 u216 u217 u218 u219 u220 u221 u222 u223 u224 u225 u226 u227 u228 u229 u230 u231 u232 u233 u234 u235 u236 u237 u238 u239 u240 u241 u242 u243 u244 u245 u246 u247 u248 u249 u250 u251 u252 u253 u254 u255 u256 u257 u258 u259 u260 u261 u262 u263 u264 u265 u266 u267 u268 u269 u270 u271 u272 u273 u274 u275 u276 u277 u278 u279 u280 u281 u282 u283 u284 u285 u286 u287 u288 u289 u290 u291 u292 u293 u294 u295 u296 u297 u298 u299 u300 u301 u302 : Value) :
    c0.wp Try.prog (bodyPost Try.prog Try.f4 fun e w' => e = .returned (.bool true) ∧ Below w.heap.size w w') { tmps := #[.slice A n c, u1, u2, u3, u4, u5, u6, u7, u8, u9, u10, u11, u12, u13, u14, u15, u16, u17, u18, u19, u20, u21, u22, u23, u24, u25, u26, u27, u28, u29, u30, u31, u32, u33, u34, u35, u36, u37, u38, u39, u40, u41, u42, u43, u44, u45, u46, u47, u48, u49, u50, u51, u52, u53, u54, u55, u56, u57, u58, u59, u60, u61, u62, u63, u64, u65, u66, u67, u68, u69, u70, u71, u72, u73, u74, u75, u76, u77, u78, u79, u80, u81, u82, u83, u84, u85, u86, u87, u88, u89, u90, u91, u92, u93, u94, u95, u96, u97, u98, u99, u100, u101, u102, u103, u104, u105, u106, u107, u108, u109, u110, u111, u112, u113, u114, u115, u116, u117, u118, u119, u120, u121, u122, u123, u124, u125, u126, u127, u128, u129, u130, u131, u132, u133, u134, u135, u136, u137, u138, u139, u140, u141, u142, u143, u144, u145, u146, u147, u148, u149, u150, u151, u152, u153, u154, u155, u156, u157, u158, u159, u160, u161, u162, u163, u164, u165, u166, u167, u168, u169, u170, u171, u172, u173, u174, u175, u176, u177, u178, u179, u180, u181, u182, u183, u184, u185, u186, u187, u188, u189, u190, u191, u192, u193, u194, u195, u196, u197, u198, u199, u200, u201, u202, u203, u204, u205, u206, u207, u208, u209, u210, u211, u212, u213, u214, u215, u216, u217, u218, u219, u220, u221, u222, u223, u224, u225, u226, u227, u228, u229, u230, u231, u232, u233, u234, u235, u236, u237, u238, u239, u240, u241, u242, u243, u244, u245, u246, u247, u248, u249, u250, u251, u252, u253, u254, u255, u256, u257, u258, u259, u260, u261, u262, u263, u264, u265, u266, u267, u268, u269, u270, u271, u272, u273, u274, u275, u276, u277, u278, u279, u280, u281, u282, u283, u284, u285, u286, u287, u288, u289, u290, u291, u292, u293, u294, u295, u296, u297, u298, u299, u300, u301, u302], defers := [] } W0 := by
  cases (show Try.f4.body.bind (restAt 33) = some _ from rfl).symm.trans hc0
  have HBb := Lib.hid hb0
  clear hc0 hb0
  go_wp2_with fail
  refine (draw_raise _ n c _ (hr.below HBb.out HBb.out.size)).mono ?_
  rintro e w1 ⟨Ry, my, py, b4, rfl, hi_b4, hD⟩
  obtain ⟨hmy, ⟨ly, hsy⟩, hb⟩ := hD
  obtain ⟨b4_lo, b4_hi⟩ := hi_b4
  have HB2 := Lib.hid (bthen HBb.out hb HBb.out.size)
  have HSy_1 := Lib.hid hsy
  clear hsy hb
  have hly : my ≤ maxLen := by unfold maxLen; omega
  go_wp2_with fail
  refine (raise_impl _ _ _ ly b4 _ HSy_1.out hly (by omega) (by omega)).mono ?_
  rintro e w3 ⟨Aimpl, cimpl, rfl, hO, hb⟩
  have HB4 := Lib.hid (bthen HB2.out hb HB2.out.size)
  have HSy_5 := Lib.hid (spots_at HSy_1.out hb)
  have HOi := Lib.hid hO
  clear hO hb
  go_wp2_with fail
  refine (raise_spec _ _ _ ly b4 _ HSy_5.out hly).mono ?_
  rintro e w6 ⟨Aspec, cspec, rfl, hO, hb⟩
  have HOi2 := Lib.hid (HOi.out.on hb (Nat.le_refl _))
  have HOz := Lib.hid hb.size
  have HB7 := Lib.hid (bthen HB4.out hb HB4.out.size)
  have HSy_8 := Lib.hid (spots_at HSy_5.out hb)
  have HOs := Lib.hid hO
  clear hO hb
  have hln := rsR_len ly b4
  go_wp2_with fail
  refine (vT_same _ _ _ _ _ _ _ (HOi2.out.spots HOz.out) (HOs.out.spots (Nat.le_refl _)) (by unfold maxLen; omega)).mono ?_
  rintro e w9 ⟨rfl, hb⟩
  have HB10 := Lib.hid (bthen HB7.out hb HB7.out.size)
  clear hb hln
  go_wp2_with fail
  refine (draw_between _ n c _ (hr.below HB10.out HB10.out.size)).mono ?_
  rintro e w11 ⟨Rp, mp, pp, Rs, ms, ps, x5, y5, t5, rfl, hmp, hms, ⟨lp, hsp⟩, ⟨ls, hss⟩, hb⟩
  have HB12 := Lib.hid (bthen HB10.out hb HB10.out.size)
  have HSp_11 := Lib.hid hsp
  have HSs_11 := Lib.hid hss
  clear hsp hss hb
  have hlp : mp ≤ maxLen := by unfold maxLen; omega
  have hls : ms ≤ maxLen := by unfold maxLen; omega
  go_wp2_with fail
  refine (between_impl _ _ _ lp _ _ _ ls x5 y5 t5 _ HSp_11.out hlp HSs_11.out hls).mono ?_
  rintro e w13 ⟨rfl, hb⟩
  have HB14 := Lib.hid (bthen HB12.out hb HB12.out.size)
  have HSp_15 := Lib.hid (spots_at HSp_11.out hb)
  have HSs_16 := Lib.hid (spots_at HSs_11.out hb)
  clear hb
  go_wp2_with fail
  refine (between_spec _ _ _ lp _ _ _ ls x5 y5 t5 _ HSp_15.out hlp HSs_16.out hls).mono ?_
  rintro e w17 ⟨rfl, hb⟩
  have HB18 := Lib.hid (bthen HB14.out hb HB14.out.size)
  have HSp_19 := Lib.hid (spots_at HSp_15.out hb)
  have HSs_20 := Lib.hid (spots_at HSs_16.out hb)
  clear hb
  rcases hk5 : bwK lp ls x5 y5 t5 with _ | _
  · skip
    clear hk5
    go_wp2_with fail
    go_ret
    exact ⟨rfl, HB18.out⟩
  · skip
    have HSY := Lib.hid (bw_sym lp ls x5 y5 t5)
    have HK5 := Lib.hid hk5
    clear hk5
    go_wp2_with fail
    refine (between_impl _ _ _ ls _ _ _ lp y5 x5 t5 _ HSs_20.out hls HSp_19.out hlp).mono ?_
    rintro e w21 ⟨he5, hb⟩
    rw [HSY.out.1, HSY.out.2.1, HSY.out.2.2, HK5.out] at he5
    subst he5
    have HB22 := Lib.hid (bthen HB18.out hb HB18.out.size)
    clear hb
    go_wp2_with fail
    go_ret
    exact ⟨rfl, HB22.out⟩
end Go.Proofs.Ytdmnkmdlochogaa
