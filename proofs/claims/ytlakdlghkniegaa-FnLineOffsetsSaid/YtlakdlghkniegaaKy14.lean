/-
  A piece of laws.FnLineOffsets, from region 14 on. Conditions: stated at the theorem.
-/
import Derived.Test.YtlakdlghkniegaaKy29
namespace Go.Proofs.Ytlakdlghkniegaa
open Go.Joins Go.ChangeShapes Go.WideShapes Go.ChangeAt Go.RowKit Go.Deep
set_option linter.unusedVariables false

set_option maxRecDepth 20000 in
set_option maxHeartbeats 12800000 in
theorem tailY14 {c0 : Code} (hc0 : Try.f4.body.bind (restAt 14) = some c0) (A : Option Addr) (n c : Nat) (w W0 : World) (hr : CodeRow w.heap.size A n w) (hb0 : Below w.heap.size w W0) (u1 u2 u3 u4 u5 u6 u7 u8 u9 u10 u11 u12 u13 u14 u15 u16 u17 u18 u19 u20 u21 u22 u23 u24 u25 u26 u27 u28 u29 u30 u31 u32 u33 u34 u35 u36 u37 u38 u39 u40 u41 u42 u43 u44 u45 u46 u47 u48 u49 u50 u51 u52 u53 u54 u55 u56 u57 u58 u59 u60 u61 u62 u63 u64 u65 u66 u67 u68 u69 u70 u71 u72 u73 u74 u75 u76 u77 u78 u79 u80 u81 u82 u83 u84 u85 u86 u87 u88 u89 u90 u91 u92 u93 u94 u95 u96 u97 u98 u99 u100 u101 u102 u103 u104 u105 u106 u107 u108 u109 u110 u111 u112 u113 u114 u115 u116 u117 u118 u119 u120 u121 u122 u123 u124 u125 u126 u127 u128 u129 u130 u131 u132 u133 u134 u135 u136 u137 u138 u139 u140 u141 u142 u143 u144 u145 u146 u147 u148 u149 u150 u151 u152 u153 u154 u155 u156 u157 u158 u159 u160 u161 u162 u163 u164 u165 u166 u167 u168 u169 u170 u171 u172 u173 u174 u175 u176 u177 u178 u179 u180 u181 u182 u183 u184 u185 u186 u187 u188 u189 u190 u191 u192 u193 u194 u195 u196 u197 u198 u199 u200 u201 u202 u203 u204 u205 u206 u207 u208 u209 u210 u211 u212 u213 u214 u215 u216 u217 u218 u219 u220 u221 u222 u223 u224 : Value) :
    c0.wp Try.prog (bodyPost Try.prog Try.f4 fun e w' => e = .returned (.bool true) ∧ Below w.heap.size w w') { tmps := #[.slice A n c, u1, u2, u3, u4, u5, u6, u7, u8, u9, u10, u11, u12, u13, u14, u15, u16, u17, u18, u19, u20, u21, u22, u23, u24, u25, u26, u27, u28, u29, u30, u31, u32, u33, u34, u35, u36, u37, u38, u39, u40, u41, u42, u43, u44, u45, u46, u47, u48, u49, u50, u51, u52, u53, u54, u55, u56, u57, u58, u59, u60, u61, u62, u63, u64, u65, u66, u67, u68, u69, u70, u71, u72, u73, u74, u75, u76, u77, u78, u79, u80, u81, u82, u83, u84, u85, u86, u87, u88, u89, u90, u91, u92, u93, u94, u95, u96, u97, u98, u99, u100, u101, u102, u103, u104, u105, u106, u107, u108, u109, u110, u111, u112, u113, u114, u115, u116, u117, u118, u119, u120, u121, u122, u123, u124, u125, u126, u127, u128, u129, u130, u131, u132, u133, u134, u135, u136, u137, u138, u139, u140, u141, u142, u143, u144, u145, u146, u147, u148, u149, u150, u151, u152, u153, u154, u155, u156, u157, u158, u159, u160, u161, u162, u163, u164, u165, u166, u167, u168, u169, u170, u171, u172, u173, u174, u175, u176, u177, u178, u179, u180, u181, u182, u183, u184, u185, u186, u187, u188, u189, u190, u191, u192, u193, u194, u195, u196, u197, u198, u199, u200, u201, u202, u203, u204, u205, u206, u207, u208, u209, u210, u211, u212, u213, u214, u215, u216, u217, u218, u219, u220, u221, u222, u223, u224], defers := [] } W0 := by
  cases (show Try.f4.body.bind (restAt 14) = some _ from rfl).symm.trans hc0
  have HRW := Lib.hid hr
  have HB0 := Lib.hid hb0
  clear hc0 hb0 hr
  go_wp2_with fail
  refine (draw_worst A n c _ (HRW.out.below HB0.out HB0.out.size)).mono ?_
  rintro e w1 ⟨L, gb, cap, rfl, hl1, hcap1, hS, hb⟩
  have HS1 := Lib.hid hS
  have HB1 := Lib.hid (bthen HB0.out hb HB0.out.size)
  have hm1 : L.length ≤ maxLen := by unfold maxLen; omega
  clear hS hb
  obtain ⟨AA1, hAA⟩ : ∃ AA : Option Addr, AA = some ⟨gb, 0, none⟩ := ⟨_, rfl⟩
  rw [← hAA] at HS1 ⊢
  clear hAA
  obtain ⟨V, HV⟩ : ∃ V, Hid (wlR L = V) := ⟨_, Lib.hid rfl⟩
  obtain ⟨K, HK⟩ : ∃ K, Hid (mdK L = K) := ⟨_, Lib.hid rfl⟩
  go_wp2_with fail
  refine (worst_impl _ _ _ L _ HS1.out hm1 hcap1).mono ?_
  unfold Num2X
  rw [HV.out, HK.out]
  rintro e w2 ⟨rfl, hb⟩
  have HB2 := Lib.hid (bthen HB1.out hb HB1.out.size)
  have HS2 := Lib.hid (sds_atX HS1.out hb)
  clear hb
  go_wp2_with fail
  refine (worst_spec _ _ _ L _ HS2.out hm1).mono ?_
  unfold Num2X
  rw [HV.out, HK.out]
  rintro e w3 ⟨rfl, hb⟩
  have HB3 := Lib.hid (bthen HB2.out hb HB2.out.size)
  have HS3 := Lib.hid (sds_atX HS2.out hb)
  clear hb
  rcases K with _ | _
  · go_upto_if 126 with fail
    rename (Act → World → Prop) => KK
    rename (∀ (a : Act) (w : World), _ → KK a w) => aK
    have HKK := Lib.hid aK
    clear aK
    go_wp2_with fail
    exact HKK.out _ _ (tailY29 rfl A n c w _ HRW.out HB3.out _ _ _ _ _ _ _ _ _ _ _ _ _ _ _ _ _ _ _ _ _ _ _ _ _ _ _ _ _ _ _ _ _ _ _ _ _ _ _ _ _ _ _ _ _ _ _ _ _ _ _ _ _ _ _ _ _ _ _ _ _ _ _ _ _ _ _ _ _ _ _ _ _ _ _ _ _ _ _ _ _ _ _ _ _ _ _ _ _ _ _ _ _ _ _ _ _ _ _ _ _ _ _ _ _ _ _ _ _ _ _ _ _ _ _ _ _ _ _ _ _ _ _ _ _ _ _ _ _ _ _ _ _ _ _ _ _ _ _ _ _ _ _ _ _ _ _ _ _ _ _ _ _ _ _ _ _ _ _ _ _ _ _ _ _ _ _ _ _ _ _ _ _ _ _ _ _ _ _ _ _ _ _ _ _ _ _ _ _ _ _ _ _ _ _ _ _ _ _ _ _ _ _ _ _ _ _ _ _ _ _ _ _ _ _ _ _ _ _ _ _ _ _ _)
  have HOC : Hid (ofK L V = true) := by rw [← HV.out]; exact Lib.hid (wl_occ HK.out)
  have hobd := of_bd HOC.out
  have HOL : Hid (∀ k, k < L.length → ofK L (xdAt L k).ln = true) := Lib.hid fun k hk => wl_line HK.out hk
  have HOM : Hid (∀ k, k < L.length → szI (ofN L (xdAt L k).ln) * ofD L V ≤ szI (ofN L V) * ofD L (xdAt L k).ln) := Lib.hid fun k hk => by rw [← HV.out]; exact wl_most HK.out hk
  obtain ⟨P, HP⟩ : ∃ P, Hid (ofN L V = P) := ⟨_, Lib.hid rfl⟩
  obtain ⟨Q, HQ⟩ : ∃ Q, Hid (ofD L V = Q) := ⟨_, Lib.hid rfl⟩
  rw [HP.out, HQ.out] at hobd
  rw [HP.out, HQ.out] at HOM
  obtain ⟨⟨pb1, pb2⟩, qb1, qb2⟩ := hobd
  obtain ⟨s2, hs2⟩ : ∃ s, szI P = s := ⟨_, rfl⟩
  have HS2V := Lib.hid hs2
  have hsb : 0 ≤ s2 ∧ s2 ≤ 210000 := by rw [← hs2]; unfold szI; omega
  obtain ⟨sb1, sb2⟩ := hsb
  rw [hs2] at HOM
  clear hs2
  go_upto_if 126 with fail
  rename (Act → World → Prop) => KK
  rename (∀ (a : Act) (w : World), _ → KK a w) => aK
  have HKK := Lib.hid aK
  clear aK
  go_wp2_with fail
  refine (offset_impl _ _ _ L V _ HS3.out hm1 hcap1).mono ?_
  unfold Num3X
  rw [HP.out, HQ.out, HOC.out]
  rintro e w4 ⟨rfl, hb⟩
  have HB4 := Lib.hid (bthen HB3.out hb HB3.out.size)
  have HS4 := Lib.hid (sds_atX HS3.out hb)
  clear hb
  obtain ⟨W4, rfl⟩ : ∃ W : World, W = w4 := ⟨_, rfl⟩
  go_wp2_with fail
  go_loopw [24] (fun i wr => ∃ k : Nat, k ≤ L.length ∧ i = .int .i64 k ∧ Hid (Below W4.heap.size W4 wr)) (fun i _ => L.length - (intOf i).toNat)
  case atStart => exact ⟨0, Nat.zero_le _, rfl, Lib.hid (Below.refl _ _)⟩
  case round =>
    obtain ⟨k, hk, rfl, hB⟩ := hrel
    have HBT := Lib.hid (bthen HB4.out hB.out HB4.out.size)
    by_cases hlt : k < L.length
    rotate_left
    · go_wp2_with fail
      exact HKK.out _ _ (tailY29 rfl A n c w _ HRW.out HBT.out _ _ _ _ _ _ _ _ _ _ _ _ _ _ _ _ _ _ _ _ _ _ _ _ _ _ _ _ _ _ _ _ _ _ _ _ _ _ _ _ _ _ _ _ _ _ _ _ _ _ _ _ _ _ _ _ _ _ _ _ _ _ _ _ _ _ _ _ _ _ _ _ _ _ _ _ _ _ _ _ _ _ _ _ _ _ _ _ _ _ _ _ _ _ _ _ _ _ _ _ _ _ _ _ _ _ _ _ _ _ _ _ _ _ _ _ _ _ _ _ _ _ _ _ _ _ _ _ _ _ _ _ _ _ _ _ _ _ _ _ _ _ _ _ _ _ _ _ _ _ _ _ _ _ _ _ _ _ _ _ _ _ _ _ _ _ _ _ _ _ _ _ _ _ _ _ _ _ _ _ _ _ _ _ _ _ _ _ _ _ _ _ _ _ _ _ _ _ _ _ _ _ _ _ _ _ _ _ _ _ _ _ _ _ _ _ _ _ _ _ _ _ _ _)
    obtain ⟨b', o', v, rfl, hbl, hL, c0, c1, c2, c3⟩ := (sds_atX HS4.out hB.out).2 k hlt
    have HSR := Lib.hid (sds_atX HS4.out hB.out)
    have hat := xdAt_at hL
    have HOK : Hid (ofK L v.ln = true) := by have := HOL.out k hlt; rw [hat] at this; exact Lib.hid this
    have hob := of_bd HOK.out
    have hom := HOM.out k hlt
    rw [hat] at hom
    obtain ⟨X, HX⟩ : ∃ X, Hid (ofN L v.ln = X) := ⟨_, Lib.hid rfl⟩
    obtain ⟨Y, HY⟩ : ∃ Y, Hid (ofD L v.ln = Y) := ⟨_, Lib.hid rfl⟩
    rw [HX.out, HY.out] at hob hom
    obtain ⟨⟨xb1, xb2⟩, yb1, yb2⟩ := hob
    obtain ⟨s1, hs1⟩ : ∃ s, szI X = s := ⟨_, rfl⟩
    have HS1V := Lib.hid hs1
    have hsc : 0 ≤ s1 ∧ s1 ≤ 210000 := by rw [← hs1]; unfold szI; omega
    obtain ⟨sc1, sc2⟩ := hsc
    rw [hs1] at hom
    obtain ⟨p1, p2⟩ := mul_bdK (x := s1) (y := Q) sc1 sc2 (by omega) qb2
    obtain ⟨p3, p4⟩ := mul_bdK (x := s2) (y := Y) sb1 sb2 (by omega) yb2
    have hdd : decide (s1 * Q > s2 * Y) = false := decide_eq_false (by omega)
    clear hs1 hL hat
    go_wp2_with fail
    refine (offset_impl _ _ _ L v.ln _ HSR.out hm1 hcap1).mono ?_
    unfold Num3X
    rw [HX.out, HY.out, HOK.out]
    rintro e w5 ⟨rfl, hb⟩
    have HB5 := Lib.hid (bthen hB.out hb hB.out.size)
    clear hb
    go_wp2_with fail
    refine (vSize_v X s1 HS1V.out _ (by omega) (by omega)).mono ?_
    rintro e w' ⟨rfl, rfl⟩
    go_wp2_with fail
    refine (vSize_v P s2 HS2V.out _ (by omega) (by omega)).mono ?_
    rintro e w' ⟨rfl, rfl⟩
    go_wp2_with fail
    go_roundw
    case rel => exact ⟨k + 1, by omega, by go_num, HB5⟩
    case measure => simp [intOf]; omega
end Go.Proofs.Ytlakdlghkniegaa
