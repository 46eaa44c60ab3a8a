/-
  A piece of laws.FnLinePlans, from region 17 on. Conditions: stated at the theorem.
-/
import Derived.Test.YtdmnkmdlochogabPl26
namespace Go.Proofs.Ytdmnkmdlochogab
open Go.Joins Go.ChangeShapes Go.WideShapes Go.ChangeAt Go.RowKit Go.Deep
set_option linter.unusedVariables false

set_option maxRecDepth 20000 in
set_option maxHeartbeats 12800000 in
theorem tailP17 {c0 : Code} (hc0 : Try.f3.body.bind (restAt 17) = some c0) (A : Option Addr) (n c : Nat) (w W0 : World) (hr : CodeRow w.heap.size A n w) (hb0 : Below w.heap.size w W0) (u1 u2 u3 u4 u5 u6 u7 u8 u9 u10 u11 u12 u13 u14 u15 u16 u17 u18 u19 u20 u21 u22 u23 u24 u25 u26 u27 u28 u29 u30 u31 u32 u33 u34 u35 u36 u37 u38 u39 u40 u41 u42 u43 u44 u45 u46 u47 u48 u49 u50 u51 u52 u53 u54 u55 u56 u57 u58 u59 u60 u61 u62 u63 u64 u65 u66 u67 u68 u69 u70 u71 u72 u73 u74 u75 u76 u77 u78 u79 u80 u81 u82 u83 u84 u85 u86 u87 u88 u89 u90 u91 u92 u93 u94 u95 u96 u97 u98 u99 u100 u101 u102 u103 u104 u105 u106 u107 u108 u109 u110 u111 u112 u113 u114 u115 u116 u117 u118 u119 u120 u121 u122 u123 u124 u125 u126 u127 u128 u129 u130 u131 u132 u133 u134 u135 u136 u137 u138 u139 u140 u141 u142 u143 u144 u145 u146 u147 u148 u149 u150 u151 u152 u153 u154 u155 u156 u157 u158 u159 u160 u161 u162 u163 u164 u165 u166 u167 u168 u169 u170 u171 u172 u173 u174 u175 u176 u177 u178 u179 u180 u181 u182 u183 u184 u185 u186 u187 u188 u189 u190 u191 u192 u193 u194 u195 u196 u197 u198 u199 u200 u201 u202 u203 u204 u205 u206 u207 u208 u209 u210 u211 u212 u213 u214 u215 u216 u217 u218 u219 u220 u221 u222 u223 u224 u225 u226 u227 u228 u229 u230 u231 u232 u233 u234 u235 u236 u237 u238 u239 u240 u241 u242 u243 u244 u245 u246 u247 u248 u249 u250 u251 u252 u253 : Value) :
    c0.wp Try.prog (bodyPost Try.prog Try.f3 fun e w' => e = .returned (.bool true) ∧ Below w.heap.size w w') { tmps := #[.slice A n c, u1, u2, u3, u4, u5, u6, u7, u8, u9, u10, u11, u12, u13, u14, u15, u16, u17, u18, u19, u20, u21, u22, u23, u24, u25, u26, u27, u28, u29, u30, u31, u32, u33, u34, u35, u36, u37, u38, u39, u40, u41, u42, u43, u44, u45, u46, u47, u48, u49, u50, u51, u52, u53, u54, u55, u56, u57, u58, u59, u60, u61, u62, u63, u64, u65, u66, u67, u68, u69, u70, u71, u72, u73, u74, u75, u76, u77, u78, u79, u80, u81, u82, u83, u84, u85, u86, u87, u88, u89, u90, u91, u92, u93, u94, u95, u96, u97, u98, u99, u100, u101, u102, u103, u104, u105, u106, u107, u108, u109, u110, u111, u112, u113, u114, u115, u116, u117, u118, u119, u120, u121, u122, u123, u124, u125, u126, u127, u128, u129, u130, u131, u132, u133, u134, u135, u136, u137, u138, u139, u140, u141, u142, u143, u144, u145, u146, u147, u148, u149, u150, u151, u152, u153, u154, u155, u156, u157, u158, u159, u160, u161, u162, u163, u164, u165, u166, u167, u168, u169, u170, u171, u172, u173, u174, u175, u176, u177, u178, u179, u180, u181, u182, u183, u184, u185, u186, u187, u188, u189, u190, u191, u192, u193, u194, u195, u196, u197, u198, u199, u200, u201, u202, u203, u204, u205, u206, u207, u208, u209, u210, u211, u212, u213, u214, u215, u216, u217, u218, u219, u220, u221, u222, u223, u224, u225, u226, u227, u228, u229, u230, u231, u232, u233, u234, u235, u236, u237, u238, u239, u240, u241, u242, u243, u244, u245, u246, u247, u248, u249, u250, u251, u252, u253], defers := [] } W0 := by
  cases (show Try.f3.body.bind (restAt 17) = some _ from rfl).symm.trans hc0
  have HRW := Lib.hid hr
  have HB0 := Lib.hid hb0
  clear hc0 hb0 hr
  go_wp2_with fail
  refine (draw_sailed A n c _ (HRW.out.below HB0.out HB0.out.size)).mono ?_
  rintro e w1 ⟨L, gb, cap, rfl, hl, hcap, hS, hb⟩
  have HS1 := Lib.hid hS
  have HB1 := Lib.hid (bthen HB0.out hb HB0.out.size)
  have hmL : L.length ≤ maxLen := by unfold maxLen; omega
  clear hS hb
  have hRl0 := soR_len L
  obtain ⟨R, HR⟩ : ∃ R, Hid (soR L = R) := ⟨_, Lib.hid rfl⟩
  obtain ⟨K, HK⟩ : ∃ K, Hid (soK L = K) := ⟨_, Lib.hid rfl⟩
  rw [HR.out] at hRl0
  go_wp2_with fail
  refine (so_impl _ _ _ L _ HS1.out hmL).mono ?_
  unfold SoPost IntsPost
  rw [HR.out, HK.out]
  rintro e w2 ⟨A2, c2, rfl, ho2, hb⟩
  have HB2 := Lib.hid (bthen HB1.out hb HB1.out.size)
  have HS2 := Lib.hid (sds_atN HS1.out hb)
  clear hb
  have HO2 := Lib.hid ho2
  clear ho2
  go_wp2_with fail
  refine (so_spec _ _ _ L _ HS2.out hmL).mono ?_
  unfold SoPost IntsPost
  rw [HR.out, HK.out]
  rintro e w3 ⟨A3, c3, rfl, ho3, hb⟩
  have HB3 := Lib.hid (bthen HB2.out hb HB2.out.size)
  have HS3 := Lib.hid (sds_atN HS2.out hb)
  have HP3 := Lib.hid (HO2.out.on hb (Nat.le_refl _))
  have HO3 := Lib.hid ho3
  clear hb ho3
  rcases K with _ | _
  · go_wp2_with fail
    refine (vI_same _ _ _ _ _ _ _ _ _ _ _ HP3.out HO3.out (by omega)).mono ?_
    rintro e w4 ⟨rfl, dk, rfl⟩
    have HB4 := Lib.hid (bdrewN HB3.out dk)
    have HS4 := Lib.hid (sds_atN HS3.out (bdrewN (Below.refl w3.heap.size w3) dk))
    obtain ⟨W4, hW4⟩ : ∃ W, W = w3.drewN dk := ⟨_, rfl⟩
    rw [← hW4] at HB4 HS4
    rw [← hW4]
    clear hW4
    obtain ⟨V, HV⟩ : ∃ V, Hid (tuR L = V) := ⟨_, Lib.hid rfl⟩
    obtain ⟨Z, HZ⟩ : ∃ Z, Hid (lnsB L = Z) := ⟨_, Lib.hid rfl⟩
    go_wp2_with fail
    refine (turns_impl _ _ _ L _ HS4.out hmL).mono ?_
    unfold NumPost
    rw [HV.out, HZ.out]
    rintro e w5 ⟨rfl, hb⟩
    have HB5 := Lib.hid (bthen HB4.out hb HB4.out.size)
    have HS5 := Lib.hid (sds_atN HS4.out hb)
    clear hb
    go_wp2_with fail
    refine (turns_spec _ _ _ L _ HS5.out hmL).mono ?_
    unfold NumPost
    rw [HV.out, HZ.out]
    rintro e w6 ⟨rfl, hb⟩
    have HB6 := Lib.hid (bthen HB5.out hb HB5.out.size)
    clear hb
    rcases Z with _ | _
    · go_upto_if 188 with fail
      rename (Act → World → Prop) => KK
      rename (∀ (a : Act) (w : World), _ → KK a w) => aK
      have HKK := Lib.hid aK
      clear aK
      go_wp2_with fail
      exact HKK.out _ _ (tailP26 rfl A n c w _ HRW.out HB6.out _ _ _ _ _ _ _ _ _ _ _ _ _ _ _ _ _ _ _ _ _ _ _ _ _ _ _ _ _ _ _ _ _ _ _ _ _ _ _ _ _ _ _ _ _ _ _ _ _ _ _ _ _ _ _ _ _ _ _ _ _ _ _ _ _ _ _ _ _ _ _ _ _ _ _ _ _ _ _ _ _ _ _ _ _ _ _ _ _ _ _ _ _ _ _ _ _ _ _ _ _ _ _ _ _ _ _ _ _ _ _ _ _ _ _ _ _ _ _ _ _ _ _ _ _ _ _ _ _ _ _ _ _ _ _ _ _ _ _ _ _ _ _ _ _ _ _ _ _ _ _ _ _ _ _ _ _ _ _ _ _ _ _ _ _ _ _ _ _ _ _ _ _ _ _ _ _ _ _ _ _ _ _ _ _ _ _ _ _ _ _ _ _ _ _ _ _ _ _ _ _ _ _ _ _ _ _ _ _ _ _ _ _ _ _ _ _ _ _ _ _ _ _ _ _ _ _ _ _ _ _ _ _ _ _ _ _ _ _ _ _ _ _ _ _ _ _ _ _ _ _ _ _)
    have hv0 : 0 ≤ V := by rw [← HV.out]; exact tu_pos HZ.out
    have hvd : decide (V < 0) = false := decide_eq_false (by omega)
    go_upto_if 188 with fail
    rename (Act → World → Prop) => KK
    rename (∀ (a : Act) (w : World), _ → KK a w) => aK
    have HKK := Lib.hid aK
    clear aK
    go_wp2_with fail
    exact HKK.out _ _ (tailP26 rfl A n c w _ HRW.out HB6.out _ _ _ _ _ _ _ _ _ _ _ _ _ _ _ _ _ _ _ _ _ _ _ _ _ _ _ _ _ _ _ _ _ _ _ _ _ _ _ _ _ _ _ _ _ _ _ _ _ _ _ _ _ _ _ _ _ _ _ _ _ _ _ _ _ _ _ _ _ _ _ _ _ _ _ _ _ _ _ _ _ _ _ _ _ _ _ _ _ _ _ _ _ _ _ _ _ _ _ _ _ _ _ _ _ _ _ _ _ _ _ _ _ _ _ _ _ _ _ _ _ _ _ _ _ _ _ _ _ _ _ _ _ _ _ _ _ _ _ _ _ _ _ _ _ _ _ _ _ _ _ _ _ _ _ _ _ _ _ _ _ _ _ _ _ _ _ _ _ _ _ _ _ _ _ _ _ _ _ _ _ _ _ _ _ _ _ _ _ _ _ _ _ _ _ _ _ _ _ _ _ _ _ _ _ _ _ _ _ _ _ _ _ _ _ _ _ _ _ _ _ _ _ _ _ _ _ _ _ _ _ _ _ _ _ _ _ _ _ _ _ _ _ _ _ _ _ _ _ _ _ _ _)
  go_wp2_with fail
  refine (vI_same _ _ _ _ _ _ _ _ _ _ _ HP3.out HO3.out (by omega)).mono ?_
  rintro e w4 ⟨rfl, dk, rfl⟩
  have HB4 := Lib.hid (bdrewN HB3.out dk)
  have HS4 := Lib.hid (sds_atN HS3.out (bdrewN (Below.refl w3.heap.size w3) dk))
  obtain ⟨W4, hW4⟩ : ∃ W, W = w3.drewN dk := ⟨_, rfl⟩
  rw [← hW4] at HB4 HS4
  rw [← hW4]
  clear hW4
  have hso : R.length = L.length := by rw [← HR.out]; exact so_full HK.out
  have hsd : ((R.length : Int) == (L.length : Int)) = true := beq_iff_eq.2 (by omega)
  obtain ⟨V, HV⟩ : ∃ V, Hid (tuR L = V) := ⟨_, Lib.hid rfl⟩
  obtain ⟨Z, HZ⟩ : ∃ Z, Hid (lnsB L = Z) := ⟨_, Lib.hid rfl⟩
  go_wp2_with fail
  refine (turns_impl _ _ _ L _ HS4.out hmL).mono ?_
  unfold NumPost
  rw [HV.out, HZ.out]
  rintro e w5 ⟨rfl, hb⟩
  have HB5 := Lib.hid (bthen HB4.out hb HB4.out.size)
  have HS5 := Lib.hid (sds_atN HS4.out hb)
  clear hb
  go_wp2_with fail
  refine (turns_spec _ _ _ L _ HS5.out hmL).mono ?_
  unfold NumPost
  rw [HV.out, HZ.out]
  rintro e w6 ⟨rfl, hb⟩
  have HB6 := Lib.hid (bthen HB5.out hb HB5.out.size)
  clear hb
  rcases Z with _ | _
  · go_upto_if 188 with fail
    rename (Act → World → Prop) => KK
    rename (∀ (a : Act) (w : World), _ → KK a w) => aK
    have HKK := Lib.hid aK
    clear aK
    go_wp2_with fail
    exact HKK.out _ _ (tailP26 rfl A n c w _ HRW.out HB6.out _ _ _ _ _ _ _ _ _ _ _ _ _ _ _ _ _ _ _ _ _ _ _ _ _ _ _ _ _ _ _ _ _ _ _ _ _ _ _ _ _ _ _ _ _ _ _ _ _ _ _ _ _ _ _ _ _ _ _ _ _ _ _ _ _ _ _ _ _ _ _ _ _ _ _ _ _ _ _ _ _ _ _ _ _ _ _ _ _ _ _ _ _ _ _ _ _ _ _ _ _ _ _ _ _ _ _ _ _ _ _ _ _ _ _ _ _ _ _ _ _ _ _ _ _ _ _ _ _ _ _ _ _ _ _ _ _ _ _ _ _ _ _ _ _ _ _ _ _ _ _ _ _ _ _ _ _ _ _ _ _ _ _ _ _ _ _ _ _ _ _ _ _ _ _ _ _ _ _ _ _ _ _ _ _ _ _ _ _ _ _ _ _ _ _ _ _ _ _ _ _ _ _ _ _ _ _ _ _ _ _ _ _ _ _ _ _ _ _ _ _ _ _ _ _ _ _ _ _ _ _ _ _ _ _ _ _ _ _ _ _ _ _ _ _ _ _ _ _ _ _ _ _)
  have hv0 : 0 ≤ V := by rw [← HV.out]; exact tu_pos HZ.out
  have hvd : decide (V < 0) = false := decide_eq_false (by omega)
  go_upto_if 188 with fail
  rename (Act → World → Prop) => KK
  rename (∀ (a : Act) (w : World), _ → KK a w) => aK
  have HKK := Lib.hid aK
  clear aK
  go_wp2_with fail
  exact HKK.out _ _ (tailP26 rfl A n c w _ HRW.out HB6.out _ _ _ _ _ _ _ _ _ _ _ _ _ _ _ _ _ _ _ _ _ _ _ _ _ _ _ _ _ _ _ _ _ _ _ _ _ _ _ _ _ _ _ _ _ _ _ _ _ _ _ _ _ _ _ _ _ _ _ _ _ _ _ _ _ _ _ _ _ _ _ _ _ _ _ _ _ _ _ _ _ _ _ _ _ _ _ _ _ _ _ _ _ _ _ _ _ _ _ _ _ _ _ _ _ _ _ _ _ _ _ _ _ _ _ _ _ _ _ _ _ _ _ _ _ _ _ _ _ _ _ _ _ _ _ _ _ _ _ _ _ _ _ _ _ _ _ _ _ _ _ _ _ _ _ _ _ _ _ _ _ _ _ _ _ _ _ _ _ _ _ _ _ _ _ _ _ _ _ _ _ _ _ _ _ _ _ _ _ _ _ _ _ _ _ _ _ _ _ _ _ _ _ _ _ _ _ _ _ _ _ _ _ _ _ _ _ _ _ _ _ _ _ _ _ _ _ _ _ _ _ _ _ _ _ _ _ _ _ _ _ _ _ _ _ _ _ _ _ _ _ _ _)
end Go.Proofs.Ytdmnkmdlochogab
