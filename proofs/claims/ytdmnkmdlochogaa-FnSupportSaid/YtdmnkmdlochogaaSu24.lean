/-
  A piece of laws.FnSupport, from region 24 on. Conditions: stated at the theorem.
-/
import Derived.Test.YtdmnkmdlochogaaRm
import Derived.Test.YtdmnkmdlochogaaQx
import Derived.Test.YtdmnkmdlochogaaVb
import Derived.Test.YtdmnkmdlochogaaOc
import Derived.Deep.DeepCutAuto
namespace Go.Proofs.Ytdmnkmdlochogaa
open Go.Joins Go.ChangeShapes Go.WideShapes Go.ChangeAt Go.RowKit Go.Deep
set_option linter.unusedVariables false

/-- The code from the region with a number on. -/
def restAt (i : Nat) : Code → Option Code
  | .seq (.region j ops d) b => if j = i then some (.seq (.region j ops d) b) else restAt i b
  | .seq a b => match restAt i a with | some c => some c | none => restAt i b
  | .cond _ a b => match restAt i a with | some c => some c | none => restAt i b
  | _ => none
set_option maxRecDepth 20000 in
set_option maxHeartbeats 12800000 in
theorem tailS24 {c0 : Code} (hc0 : Try.f6.body.bind (restAt 24) = some c0) (A : Option Addr) (n c : Nat) (w W0 : World) (hr : CodeRow w.heap.size A n w) (hb0 : Below w.heap.size w W0) (u1 u2 u3 u4 u5 u6 u7 u8 u9 u10 u11 u12 u13 u14 u15 u16 u17 u18 u19 u20 u21 u22 u23 u24 u25 u26 u27 u28 u29 u30 u31 u32 u33 u34 u35 u36 u37 u38 u39 u40 u41 u42 u43 u44 u45 u46 u47 u48 u49 u50 u51 u52 u53 u54 u55 u56 u57 u58 u59 u60 u61 u62 u63 u64 u65 u66 u67 u68 u69 u70 u71 u72 u73 u74 u75 u76 u77 u78 u79 u80 u81 u82 u83 u84 u85 u86 u87 u88 u89 u90 u91 u92 u93 u94 u95 u96 u97 u98 u99 u100 u101 u102 u103 u104 u105 u106 u107 u108 u109 u110 u111 u112 u113 u114 u115 u116 u117 u118 u119 u120 u121 u122 u123 u124 u125 u126 u127 u128 u129 u130 u131 u132 u133 u134 u135 u136 u137 u138 u139 u140 u141 u142 u143 u144 u145 u146 u147 u148 u149 u150 u151 u152 u153 u154 u155 u156 u157 u158 u159 u160 u161 u162 u163 u164 u165 u166 u167 u168 u169 u170 u171 u172 u173 u174 u175 u176 u177 u178 u179 u180 u181 u182 u183 u184 u185 u186 u187 u188 u189 u190 u191 u192 u193 u194 u195 u196 u197 u198 u199 u200 u201 u202 u203 u204 u205 u206 u207 u208 u209 u210 u211 u212 u213 u214 u215 u216 u217 u218 u219 u220 u221 u222 u223 u224 u225 u226 u227 : Value) :
    c0.wp Try.prog (bodyPost Try.prog Try.f6 fun e w' => e = .returned (.bool true) ∧ Below w.heap.size w w') { tmps := #[.slice A n c, u1, u2, u3, u4, u5, u6, u7, u8, u9, u10, u11, u12, u13, u14, u15, u16, u17, u18, u19, u20, u21, u22, u23, u24, u25, u26, u27, u28, u29, u30, u31, u32, u33, u34, u35, u36, u37, u38, u39, u40, u41, u42, u43, u44, u45, u46, u47, u48, u49, u50, u51, u52, u53, u54, u55, u56, u57, u58, u59, u60, u61, u62, u63, u64, u65, u66, u67, u68, u69, u70, u71, u72, u73, u74, u75, u76, u77, u78, u79, u80, u81, u82, u83, u84, u85, u86, u87, u88, u89, u90, u91, u92, u93, u94, u95, u96, u97, u98, u99, u100, u101, u102, u103, u104, u105, u106, u107, u108, u109, u110, u111, u112, u113, u114, u115, u116, u117, u118, u119, u120, u121, u122, u123, u124, u125, u126, u127, u128, u129, u130, u131, u132, u133, u134, u135, u136, u137, u138, u139, u140, u141, u142, u143, u144, u145, u146, u147, u148, u149, u150, u151, u152, u153, u154, u155, u156, u157, u158, u159, u160, u161, u162, u163, u164, u165, u166, u167, u168, u169, u170, u171, u172, u173, u174, u175, u176, u177, u178, u179, u180, u181, u182, u183, u184, u185, u186, u187, u188, u189, u190, u191, u192, u193, u194, u195, u196, u197, u198, u199, u200, u201, u202, u203, u204, u205, u206, u207, u208, u209, u210, u211, u212, u213, u214, u215, u216, u217, u218, u219, u220, u221, u222, u223, u224, u225, u226, u227], defers := [] } W0 := by
  cases (show Try.f6.body.bind (restAt 24) = some _ from rfl).symm.trans hc0
  have HRW := Lib.hid hr
  have HB0 := Lib.hid hb0
  clear hc0 hb0 hr
  go_wp2_with fail
  refine (draw_lower A n c _ (HRW.out.below HB0.out HB0.out.size)).mono ?_
  rintro e w1 ⟨L, gb, cap, x, y, rfl, hl, hI, hcap, hS, hb⟩
  have HS1 := Lib.hid hS
  have HB1 := Lib.hid (bthen HB0.out hb HB0.out.size)
  have hmL : L.length ≤ maxLen := by unfold maxLen; omega
  clear hS hb hI
  obtain ⟨R, HR⟩ : ∃ R, Hid (lwR L x y = R) := ⟨_, Lib.hid rfl⟩
  obtain ⟨K, HK⟩ : ∃ K, Hid (lwK L x y = K) := ⟨_, Lib.hid rfl⟩
  have hRl : R.length ≤ 13 := by have := lwR_short L x y; rw [HR.out] at this; omega
  have hmR : R.length ≤ maxLen := by unfold maxLen; omega
  go_wp2_with fail
  refine (lower_impl _ _ _ L x y _ HS1.out hmL).mono ?_
  unfold LwPost
  rw [HR.out, HK.out]
  rintro e w2 ⟨A2, c2, rfl, ho, hb⟩
  have HO2 := Lib.hid ho.sds
  have HB2 := Lib.hid (bthen HB1.out hb HB1.out.size)
  have HS2 := Lib.hid (sds_at HS1.out hb)
  clear hb ho
  go_wp2_with fail
  refine (lower_spec _ _ _ L x y _ HS2.out hmL).mono ?_
  unfold LwPost
  rw [HR.out, HK.out]
  rintro e w3 ⟨A3, c3, rfl, ho, hb⟩
  have HO3 := Lib.hid ho.sds
  have HO23 := Lib.hid (sds_at HO2.out hb)
  have HB3 := Lib.hid (bthen HB2.out hb HB2.out.size)
  have HS3 := Lib.hid (sds_at HS2.out hb)
  clear hb ho
  go_wp2_with fail
  refine (vS_same _ _ _ _ _ R _ HO23.out HO3.out hmR).mono ?_
  rintro e w4 ⟨rfl, hb⟩
  have HB4 := Lib.hid (bthen HB3.out hb HB3.out.size)
  have HS4 := Lib.hid (sds_at HS3.out hb)
  have HO4 := Lib.hid (sds_at HO23.out hb)
  clear hb
  rcases K with _ | _
  · go_wp2_with fail
    go_ret
    exact ⟨rfl, HB4.out⟩
  by_cases h0 : L.length = 0
  · have HZ := Lib.hid h0
    have hd : ¬ 0 < L.length := by omega
    clear h0
    go_wp2_with fail
    go_ret
    exact ⟨rfl, HB4.out⟩
  have hd : 0 < L.length := by omega
  obtain ⟨q1, q2, q3, q4⟩ := lwK_is HK.out
  obtain ⟨q21, q22⟩ := q2
  rw [HR.out] at q3
  have hml := mean_low q1 q4 (show 0 < L.length by omega)
  have hb1 := mn_bd q1 (by omega)
  have hb2 := mn_bd q4 (by rw [lwL_len]; omega)
  have hk1 : mnK L = true := (mn_yes q1 (by omega)).2.2
  have hk2 : mnK (lwL L x y) = true := (mn_yes q4 (by rw [lwL_len]; omega)).2.2
  rw [← q3] at hml hb2 hk2
  obtain ⟨a, ha⟩ : ∃ a, mnN L = a := ⟨_, rfl⟩
  obtain ⟨d, hdd⟩ : ∃ d, mnD L = d := ⟨_, rfl⟩
  obtain ⟨p, hp⟩ : ∃ p, mnN R = p := ⟨_, rfl⟩
  obtain ⟨f, hf⟩ : ∃ f, mnD R = f := ⟨_, rfl⟩
  have HM1 := Lib.hid (And.intro ha (And.intro hdd hk1))
  have HM2 := Lib.hid (And.intro hp (And.intro hf hk2))
  rw [ha, hdd, hp, hf] at hml
  rw [ha, hdd] at hb1
  rw [hp, hf] at hb2
  obtain ⟨b11, b12, b13⟩ := hb1
  obtain ⟨b21, b22, b23⟩ := hb2
  have m1 := mul_in p d 240000 12 b21 (by omega)
  have m2 := mul_in x d 30000 12 (by omega) (by omega)
  have m3 := mul_in (a + x * d) f 600000 12 (by omega) (by omega)
  obtain ⟨m11, m12⟩ := m1
  obtain ⟨m21, m22⟩ := m2
  obtain ⟨m31, m32⟩ := m3
  have HML := Lib.hid hml
  clear q1 q4 q3 hk1 hk2 ha hdd hp hf hml h0
  go_wp2_with fail
  refine (mean_impl _ _ _ L _ HS4.out hmL).mono ?_
  unfold AgPost
  rw [HM1.out.1, HM1.out.2.1, HM1.out.2.2]
  rintro e w5 ⟨rfl, hb⟩
  have HB5 := Lib.hid (bthen HB4.out hb HB4.out.size)
  have HO5 := Lib.hid (sds_at HO4.out hb)
  clear hb
  go_wp2_with fail
  refine (mean_impl _ _ _ R _ HO5.out hmR).mono ?_
  unfold AgPost
  rw [HM2.out.1, HM2.out.2.1, HM2.out.2.2]
  rintro e w6 ⟨rfl, hb⟩
  have HB6 := Lib.hid (bthen HB5.out hb HB5.out.size)
  clear hb
  go_wp2_with fail
  go_ret
  exact ⟨ret_bool (beq_iff_eq.2 HML.out), HB6.out⟩
end Go.Proofs.Ytdmnkmdlochogaa
