/-
  A piece of laws.FnSpikes, from region 21 on. Conditions: stated at the theorem.
-/
import Derived.Test.YtjekmmekkfmplaaSk30
namespace Go.Proofs.Ytjekmmekkfmplaa
open Go.Joins Go.ChangeShapes Go.WideShapes Go.ChangeAt Go.RowKit Go.Deep
set_option linter.unusedVariables false

set_option maxRecDepth 20000 in
set_option maxHeartbeats 12800000 in
theorem tailS21 {c0 : Code} (hc0 : Try.f3.body.bind (restAt 21) = some c0) (A : Option Addr) (n c : Nat) (w W0 : World) (hr : CodeRow w.heap.size A n w) (hb0 : Below w.heap.size w W0) (u1 u2 u3 u4 u5 u6 u7 u8 u9 u10 u11 u12 u13 u14 u15 u16 u17 u18 u19 u20 u21 u22 u23 u24 u25 u26 u27 u28 u29 u30 u31 u32 u33 u34 u35 u36 u37 u38 u39 u40 u41 u42 u43 u44 u45 u46 u47 u48 u49 u50 u51 u52 u53 u54 u55 u56 u57 u58 u59 u60 u61 u62 u63 u64 u65 u66 u67 u68 u69 u70 u71 u72 u73 u74 u75 u76 u77 u78 u79 u80 u81 u82 u83 u84 u85 u86 u87 u88 u89 u90 u91 u92 u93 u94 u95 u96 u97 u98 u99 u100 u101 u102 u103 u104 u105 u106 u107 u108 u109 u110 u111 u112 u113 u114 u115 u116 u117 u118 u119 u120 u121 u122 u123 u124 u125 u126 u127 u128 u129 u130 u131 u132 u133 u134 u135 u136 u137 u138 u139 u140 u141 u142 u143 u144 u145 u146 u147 u148 u149 u150 u151 u152 u153 u154 u155 u156 u157 u158 u159 u160 u161 u162 u163 u164 u165 u166 u167 u168 u169 u170 u171 u172 u173 u174 u175 u176 u177 u178 u179 u180 u181 u182 u183 u184 u185 u186 u187 u188 u189 u190 u191 u192 u193 u194 u195 u196 u197 u198 u199 u200 u201 u202 u203 u204 u205 u206 u207 u208 u209 u210 u211 u212 u213 u214 u215 u216 u217 u218 u219 u220 u221 u222 u223 u224 u225 u226 u227 u228 u229 u230 u231 u232 u233 u234 u235 u236 u237 u238 u239 u240 u241 u242 u243 u244 u245 u246 u247 : Value) :
    c0.wp Try.prog (bodyPost Try.prog Try.f3 fun e w' => e = .returned (.bool true) ∧ Below w.heap.size w w') { tmps := #[.slice A n c, u1, u2, u3, u4, u5, u6, u7, u8, u9, u10, u11, u12, u13, u14, u15, u16, u17, u18, u19, u20, u21, u22, u23, u24, u25, u26, u27, u28, u29, u30, u31, u32, u33, u34, u35, u36, u37, u38, u39, u40, u41, u42, u43, u44, u45, u46, u47, u48, u49, u50, u51, u52, u53, u54, u55, u56, u57, u58, u59, u60, u61, u62, u63, u64, u65, u66, u67, u68, u69, u70, u71, u72, u73, u74, u75, u76, u77, u78, u79, u80, u81, u82, u83, u84, u85, u86, u87, u88, u89, u90, u91, u92, u93, u94, u95, u96, u97, u98, u99, u100, u101, u102, u103, u104, u105, u106, u107, u108, u109, u110, u111, u112, u113, u114, u115, u116, u117, u118, u119, u120, u121, u122, u123, u124, u125, u126, u127, u128, u129, u130, u131, u132, u133, u134, u135, u136, u137, u138, u139, u140, u141, u142, u143, u144, u145, u146, u147, u148, u149, u150, u151, u152, u153, u154, u155, u156, u157, u158, u159, u160, u161, u162, u163, u164, u165, u166, u167, u168, u169, u170, u171, u172, u173, u174, u175, u176, u177, u178, u179, u180, u181, u182, u183, u184, u185, u186, u187, u188, u189, u190, u191, u192, u193, u194, u195, u196, u197, u198, u199, u200, u201, u202, u203, u204, u205, u206, u207, u208, u209, u210, u211, u212, u213, u214, u215, u216, u217, u218, u219, u220, u221, u222, u223, u224, u225, u226, u227, u228, u229, u230, u231, u232, u233, u234, u235, u236, u237, u238, u239, u240, u241, u242, u243, u244, u245, u246, u247], defers := [] } W0 := by
  cases (show Try.f3.body.bind (restAt 21) = some _ from rfl).symm.trans hc0
  have HRW := Lib.hid hr
  have HB0 := Lib.hid hb0
  clear hc0 hb0 hr
  go_wp2_with fail
  refine (drawE_flat A n c _ (HRW.out.below HB0.out HB0.out.size)).mono ?_
  rintro e w1 ⟨P, gp, cp, l, rfl, ⟨hlP, hiP⟩, hx, hb⟩
  have HP1 : Hid (IFun w1 0 w1.heap.size (some ⟨gp, 0, none⟩) P.length (fun j => P.getD j 0)) := Lib.hid (hiP.wide (Nat.zero_le _) (Nat.le_refl _))
  have HB1 := Lib.hid (bthen HB0.out hb HB0.out.size)
  clear hb hiP
  obtain ⟨AP1, hAA⟩ : ∃ AA : Option Addr, AA = some ⟨gp, 0, none⟩ := ⟨_, rfl⟩
  rw [← hAA] at HP1 ⊢
  clear hAA
  clear hx
  obtain ⟨R, HR⟩ : ∃ R, Hid (flL P l = R) := ⟨_, Lib.hid rfl⟩
  obtain ⟨N, HN⟩ : ∃ N, Hid (flN P l = N) := ⟨_, Lib.hid rfl⟩
  obtain ⟨K, HK⟩ : ∃ K, Hid (akB P l = K) := ⟨_, Lib.hid rfl⟩
  have hrl : R.length ≤ 30 := by rw [← HR.out]; exact flL_len P l
  go_wp2_with fail
  refine (flat_impl _ _ _ _ P l _ HP1.out (Nat.le_refl _) (by omega)).mono ?_
  unfold FlPost
  rw [HR.out, HN.out, HK.out]
  rintro e w2 ⟨A2, c2, rfl, ho, hb⟩
  have HB2 := Lib.hid (bthen HB1.out hb HB1.out.size)
  have HP2 := Lib.hid (ifun_at HP1.out hb)
  have HO2 := Lib.hid (ho.wide (Nat.zero_le _) (Nat.le_refl _))
  clear hb ho
  go_wp2_with fail
  refine (flat_spec _ _ _ _ P l _ HP2.out (Nat.le_refl _) (by omega)).mono ?_
  unfold FlPost
  rw [HR.out, HN.out, HK.out]
  rintro e w3 ⟨A3, c3, rfl, ho, hb⟩
  have HB3 := Lib.hid (bthen HB2.out hb HB2.out.size)
  have HO3 := Lib.hid (ifun_at HO2.out hb)
  have HW3 := Lib.hid ho
  clear hb ho
  go_wp2_with fail
  refine (vI_b _ _ _ _ _ _ _ _ _ _ _ HO3.out HW3.out (by omega)).mono ?_
  rintro e w4 ⟨rfl, hb⟩
  have HB4 := Lib.hid (bthen HB3.out hb HB3.out.size)
  have HO4 := Lib.hid (ifun_at HO3.out hb)
  clear hb
  rcases K with _ | _
  · go_upto_if 184 with fail
    rename (Act → World → Prop) => KK
    rename (∀ (a : Act) (w : World), _ → KK a w) => aK
    have HKK := Lib.hid aK
    clear aK
    go_wp2_with fail
    exact HKK.out _ _ (tailS30 rfl A n c w _ HRW.out HB4.out _ _ _ _ _ _ _ _ _ _ _ _ _ _ _ _ _ _ _ _ _ _ _ _ _ _ _ _ _ _ _ _ _ _ _ _ _ _ _ _ _ _ _ _ _ _ _ _ _ _ _ _ _ _ _ _ _ _ _ _ _ _ _ _ _ _ _ _ _ _ _ _ _ _ _ _ _ _ _ _ _ _ _ _ _ _ _ _ _ _ _ _ _ _ _ _ _ _ _ _ _ _ _ _ _ _ _ _ _ _ _ _ _ _ _ _ _ _ _ _ _ _ _ _ _ _ _ _ _ _ _ _ _ _ _ _ _ _ _ _ _ _ _ _ _ _ _ _ _ _ _ _ _ _ _ _ _ _ _ _ _ _ _ _ _ _ _ _ _ _ _ _ _ _ _ _ _ _ _ _ _ _ _ _ _ _ _ _ _ _ _ _ _ _ _ _ _ _ _ _ _ _ _ _ _ _ _ _ _ _ _ _ _ _ _ _ _ _ _ _ _ _ _ _ _ _ _ _ _ _ _ _ _ _ _ _ _ _ _ _ _ _ _ _ _ _ _)
  obtain ⟨ha, n0, hn0, hn30, hq⟩ := fl_ok HK.out
  rw [HR.out] at ha hq
  rw [HN.out] at hn0
  obtain rfl : N = n0 := hn0
  have HA := Lib.hid ha
  have HQQ := Lib.hid hq
  clear ha hq HR HN
  by_cases hlt : n0 < 30
  rotate_left
  · go_upto_if 184 with fail
    rename (Act → World → Prop) => KK
    rename (∀ (a : Act) (w : World), _ → KK a w) => aK
    have HKK := Lib.hid aK
    clear aK
    go_wp2_with fail
    exact HKK.out _ _ (tailS30 rfl A n c w _ HRW.out HB4.out _ _ _ _ _ _ _ _ _ _ _ _ _ _ _ _ _ _ _ _ _ _ _ _ _ _ _ _ _ _ _ _ _ _ _ _ _ _ _ _ _ _ _ _ _ _ _ _ _ _ _ _ _ _ _ _ _ _ _ _ _ _ _ _ _ _ _ _ _ _ _ _ _ _ _ _ _ _ _ _ _ _ _ _ _ _ _ _ _ _ _ _ _ _ _ _ _ _ _ _ _ _ _ _ _ _ _ _ _ _ _ _ _ _ _ _ _ _ _ _ _ _ _ _ _ _ _ _ _ _ _ _ _ _ _ _ _ _ _ _ _ _ _ _ _ _ _ _ _ _ _ _ _ _ _ _ _ _ _ _ _ _ _ _ _ _ _ _ _ _ _ _ _ _ _ _ _ _ _ _ _ _ _ _ _ _ _ _ _ _ _ _ _ _ _ _ _ _ _ _ _ _ _ _ _ _ _ _ _ _ _ _ _ _ _ _ _ _ _ _ _ _ _ _ _ _ _ _ _ _ _ _ _ _ _ _ _ _ _ _ _ _ _ _ _ _ _)
  go_upto_if 184 with fail
  rename (Act → World → Prop) => KK
  rename (∀ (a : Act) (w : World), _ → KK a w) => aK
  have HKK := Lib.hid aK
  clear aK
  go_wp2_with fail
  refine (spikesIn_impl _ _ _ _ R l _ HO4.out (Nat.le_refl _) (by omega)).mono ?_
  rintro e w5 ⟨g1, n1, C1, g2, m1, C2, rfl, htw⟩
  have hn1 := col_lenJ htw.up
  have hm1 := col_lenJ htw.dn
  have hz := HQQ.out hlt
  obtain rfl : n1 = 0 := by omega
  obtain rfl : m1 = 0 := by omega
  have HB5 := Lib.hid (bthen HB4.out htw.up.2 HB4.out.size)
  rw [HA.out]
  clear htw hn1 hm1 hz
  go_wp2_with fail
  exact HKK.out _ _ (tailS30 rfl A n c w _ HRW.out HB5.out _ _ _ _ _ _ _ _ _ _ _ _ _ _ _ _ _ _ _ _ _ _ _ _ _ _ _ _ _ _ _ _ _ _ _ _ _ _ _ _ _ _ _ _ _ _ _ _ _ _ _ _ _ _ _ _ _ _ _ _ _ _ _ _ _ _ _ _ _ _ _ _ _ _ _ _ _ _ _ _ _ _ _ _ _ _ _ _ _ _ _ _ _ _ _ _ _ _ _ _ _ _ _ _ _ _ _ _ _ _ _ _ _ _ _ _ _ _ _ _ _ _ _ _ _ _ _ _ _ _ _ _ _ _ _ _ _ _ _ _ _ _ _ _ _ _ _ _ _ _ _ _ _ _ _ _ _ _ _ _ _ _ _ _ _ _ _ _ _ _ _ _ _ _ _ _ _ _ _ _ _ _ _ _ _ _ _ _ _ _ _ _ _ _ _ _ _ _ _ _ _ _ _ _ _ _ _ _ _ _ _ _ _ _ _ _ _ _ _ _ _ _ _ _ _ _ _ _ _ _ _ _ _ _ _ _ _ _ _ _ _ _ _ _ _ _ _)
end Go.Proofs.Ytjekmmekkfmplaa
