/-
  A piece of laws.FnLevels, from region 18 on. Conditions: stated at the theorem.
-/
import Derived.Test.YtdmnkmdlochogaaGw
import Derived.Test.YtdmnkmdlochogaaGz
import Derived.Test.YtdmnkmdlochogaaRk
import Derived.Test.YtdmnkmdlochogaaRb
import Derived.Test.YtdmnkmdlochogaaOc
import Derived.Deep.DeepCutAuto
namespace Go.Proofs.Ytdmnkmdlochogaa
open Go.Joins Go.ChangeShapes Go.WideShapes Go.ChangeAt Go.RowKit Go.Deep
set_option linter.unusedVariables false

/-- The code from the region with a number on. -/
def restAt (i : Nat) : Code → Option Code
  | .seq (.region j ops d) b => if j = i then some (.seq (.region j ops d) b) else restAt i b
  | .seq a b => match restAt i a with | some c => some c | none => restAt i b
  | .cond _ a b => match restAt i a with | some c => some c | none => restAt i b
  | _ => none
theorem grow_cap {base m cap : Nat} {l : List (Int × Int)} {R : Option Addr} {W : World} (h : GRow base l (.slice R m cap) W) (hl : l.length = m) : m ≤ cap := by
  unfold GRow at h
  rcases h.2 with ⟨e, h0⟩ | ⟨g, cap', cur, hv, _, _, hc, _⟩
  · injection e with e1 e2 e3
    omega
  · injection hv with e1 e2 e3
    omega
theorem areGs_v (A : Option Addr) (n c : Nat) (L : List GG) (v : Bool) (h : areB L = v) (w : World) (hs : Gauges w w.heap.size A n L) (hm : n ≤ maxLen) :
    Calls Try.prog 30 #[.slice A n c] w fun e w' => e = .returned (.bool v) ∧ Below w.heap.size w w' := h ▸ areG_spec A n c L w hs hm
set_option maxRecDepth 20000 in
set_option maxHeartbeats 12800000 in
theorem tail18 {c0 : Code} (hc0 : Try.f3.body.bind (restAt 18) = some c0) (A : Option Addr) (n c : Nat) (w W0 : World) (hr : CodeRow w.heap.size A n w) (hb0 : Below w.heap.size w W0) (u1 u2 u3 u4 u5 u6 u7 u8 u9 u10 u11 u12 u13 u14 u15 u16 u17 u18 u19 u20 u21 u22 u23 u24 u25 u26 u27 u28 u29 u30 u31 u32 u33 u34 u35 u36 u37 u38 u39 u40 u41 u42 u43 u44 u45 u46 u47 u48 u49 u50 u51 u52 u53 u54 u55 u56 u57 u58 u59 u60 u61 u62 u63 u64 u65 u66 u67 u68 u69 u70 u71 u72 u73 u74 u75 u76 u77 u78 u79 u80 u81 u82 u83 u84 u85 u86 u87 u88 u89 u90 u91 u92 u93 u94 u95 u96 u97 u98 u99 u100 u101 u102 u103 u104 u105 u106 u107 u108 u109 u110 u111 u112 u113 u114 u115 u116 u117 u118 u119 u120 u121 u122 u123 u124 u125 u126 u127 u128 u129 u130 u131 u132 u133 u134 u135 u136 u137 u138 u139 u140 u141 u142 u143 u144 u145 u146 u147 u148 u149 u150 u151 u152 u153 u154 u155 u156 u157 u158 u159 u160 u161 u162 u163 u164 u165 u166 u167 u168 u169 u170 u171 u172 u173 u174 u175 u176 u177 u178 u179 u180 u181 u182 u183 u184 u185 u186 u187 u188 u189 u190 u191 u192 u193 u194 u195 u196 u197 u198 u199 u200 u201 u202 u203 u204 u205 u206 u207 u208 u209 u210 u211 u212 u213 u214 u215 u216 u217 u218 u219 u220 u221 u222 u223 : Value) :
    c0.wp Try.prog (bodyPost Try.prog Try.f3 fun e w' => e = .returned (.bool true) ∧ Below w.heap.size w w') { tmps := #[.slice A n c, u1, u2, u3, u4, u5, u6, u7, u8, u9, u10, u11, u12, u13, u14, u15, u16, u17, u18, u19, u20, u21, u22, u23, u24, u25, u26, u27, u28, u29, u30, u31, u32, u33, u34, u35, u36, u37, u38, u39, u40, u41, u42, u43, u44, u45, u46, u47, u48, u49, u50, u51, u52, u53, u54, u55, u56, u57, u58, u59, u60, u61, u62, u63, u64, u65, u66, u67, u68, u69, u70, u71, u72, u73, u74, u75, u76, u77, u78, u79, u80, u81, u82, u83, u84, u85, u86, u87, u88, u89, u90, u91, u92, u93, u94, u95, u96, u97, u98, u99, u100, u101, u102, u103, u104, u105, u106, u107, u108, u109, u110, u111, u112, u113, u114, u115, u116, u117, u118, u119, u120, u121, u122, u123, u124, u125, u126, u127, u128, u129, u130, u131, u132, u133, u134, u135, u136, u137, u138, u139, u140, u141, u142, u143, u144, u145, u146, u147, u148, u149, u150, u151, u152, u153, u154, u155, u156, u157, u158, u159, u160, u161, u162, u163, u164, u165, u166, u167, u168, u169, u170, u171, u172, u173, u174, u175, u176, u177, u178, u179, u180, u181, u182, u183, u184, u185, u186, u187, u188, u189, u190, u191, u192, u193, u194, u195, u196, u197, u198, u199, u200, u201, u202, u203, u204, u205, u206, u207, u208, u209, u210, u211, u212, u213, u214, u215, u216, u217, u218, u219, u220, u221, u222, u223], defers := [] } W0 := by
  cases (show Try.f3.body.bind (restAt 18) = some _ from rfl).symm.trans hc0
  have HRW := Lib.hid hr
  have HB0 := Lib.hid hb0
  clear hc0 hb0 hr
  go_wp2_with fail
  refine (draw_zero _ n c _ (HRW.out.below HB0.out HB0.out.size)).mono ?_
  rintro e w1 ⟨L, gb, cap, a, b, rfl, hl, hs, hcp, hb⟩
  have HB1 := Lib.hid (bthen HB0.out hb HB0.out.size)
  obtain ⟨M, hM⟩ : ∃ M, M = L.map GV.g := ⟨_, rfl⟩
  rw [← hM] at hs
  have HS1 := Lib.hid hs
  have HM := Lib.hid (show L.length ≤ maxLen by unfold maxLen; omega)
  have HCP := Lib.hid hcp
  obtain ⟨N, hN⟩ : ∃ N, N = zeN M a b := ⟨_, rfl⟩
  obtain ⟨Dn, hD⟩ : ∃ Dn, Dn = zeD M a b := ⟨_, rfl⟩
  obtain ⟨K, hK⟩ : ∃ K, K = zeK M a b := ⟨_, rfl⟩
  obtain ⟨T, hT⟩ : ∃ T, T = twoK M a b := ⟨_, rfl⟩
  obtain ⟨X, hX⟩ : ∃ X, X = comR M a b := ⟨_, rfl⟩
  have HN := Lib.hid hN
  have HD := Lib.hid hD
  have HK := Lib.hid hK
  have HT := Lib.hid hT
  have HX := Lib.hid hX
  have hbd : -67500 ≤ N ∧ N ≤ 67500 := by rw [hN]; exact zeN_bd M a b
  obtain ⟨n1, n2⟩ := hbd
  have HXL : Hid (X.length ≤ 1048576) := by rw [hX]; exact Lib.hid (by have := comR_len M a b; omega)
  have htold : K = decide (0 < X.length) := by rw [hK, hX]; exact ze_told M a b
  have HTO := Lib.hid htold
  clear hM hs hcp hb hl hN hD hK hT hX htold
  go_wp2_with fail
  refine (zero_impl _ L.length cap M a b _ HS1.out HM.out HCP.out).mono ?_
  rintro e w2 ⟨he, hb⟩
  rw [← HN.out, ← HD.out, ← HK.out] at he
  subst he
  have HB2 := Lib.hid (bthen HB1.out hb HB1.out.size)
  have HS2 := Lib.hid (gauges_at HS1.out hb)
  clear hb
  go_wp2_with fail
  refine (zero_spec _ L.length cap M a b _ HS2.out HM.out).mono ?_
  rintro e w3 ⟨he, hb⟩
  rw [← HN.out, ← HD.out, ← HK.out] at he
  subst he
  have HB3 := Lib.hid (bthen HB2.out hb HB2.out.size)
  have HS3 := Lib.hid (gauges_at HS2.out hb)
  clear hb
  go_wp2_with fail
  refine (zero_impl _ L.length cap M b a _ HS3.out HM.out HCP.out).mono ?_
  rintro e w4 ⟨he, hb⟩
  rw [zeN_swap M a b, zeD_swap M a b, zeK_swap M a b, ← HN.out, ← HD.out, ← HK.out] at he
  subst he
  have HB4 := Lib.hid (bthen HB3.out hb HB3.out.size)
  have HS4 := Lib.hid (gauges_at HS3.out hb)
  clear hb HS1 HS2 HS3 HN HD HK
  go_upto_region 24 with fail
  rcases K with _ | _
  · have hxl : ¬ (0 < X.length) := by have := HTO.out; simpa using this
    go_wp2_with fail
    refine (com_impl _ L.length cap M a b _ HS4.out HM.out HCP.out).mono ?_
    rintro e w5 ⟨A5, c5, he, hI, hb⟩
    rw [← HX.out, ← HT.out] at he
    rw [← HX.out] at hI
    subst he
    have HB5 := Lib.hid (bthen HB4.out hb HB4.out.size)
    have HS5 := Lib.hid (gauges_at HS4.out hb)
    have HI5 := Lib.hid hI
    clear hb hI
    go_wp2_with fail
    refine (com_impl _ L.length cap M b a _ HS5.out HM.out HCP.out).mono ?_
    rintro e w6 ⟨A6, c6, he, hI, hb⟩
    rw [com_swap M a b, two_swap M a b, ← HX.out, ← HT.out] at he
    rw [com_swap M a b, ← HX.out] at hI
    subst he
    have HB6 := Lib.hid (bthen HB5.out hb HB5.out.size)
    have HS6 := Lib.hid (gauges_at HS5.out hb)
    have HI56 := Lib.hid (HI5.out.on hb (Nat.le_refl _))
    have HI6 := Lib.hid hI
    have HZ6 := Lib.hid hb.size
    clear hb hI
    go_wp2_with fail
    refine (com_spec _ L.length cap M a b _ HS6.out HM.out).mono ?_
    rintro e w7 ⟨A7, c7, he, hI, hb⟩
    rw [← HX.out, ← HT.out] at he
    rw [← HX.out] at hI
    subst he
    have HB7 := Lib.hid (bthen HB6.out hb HB6.out.size)
    have HI57 := Lib.hid (HI56.out.on hb HZ6.out)
    have HI67 := Lib.hid (HI6.out.on hb (Nat.le_refl _))
    have HI7 := Lib.hid hI
    have HZ7 := Lib.hid hb.size
    clear hb hI HS4 HS5 HS6
    go_wp2_with fail
    refine (rI_b A5 A7 X.length c5 c7 _ _ _ _ _ _ HI57.out HI7.out HXL.out).mono ?_
    rintro e w8 ⟨rfl, hb⟩
    have HB8 := Lib.hid (bthen HB7.out hb HB7.out.size)
    have HI58 := Lib.hid (HI57.out.on hb (Nat.le_trans HZ6.out HZ7.out))
    have HI68 := Lib.hid (HI67.out.on hb HZ7.out)
    clear hb
    go_wp2_with fail
    refine (rI_b A6 A5 X.length c6 c5 _ _ _ _ _ _ HI68.out HI58.out HXL.out).mono ?_
    rintro e w9 ⟨rfl, hb⟩
    have HB9 := Lib.hid (bthen HB8.out hb HB8.out.size)
    clear hb HI5 HI56 HI57 HI58 HI6 HI67 HI68 HI7
    go_wp2_with fail
    refine (draw_areG _ n c _ (HRW.out.below HB9.out HB9.out.size)).mono ?_
    rintro e w10 ⟨L2, gb2, cap2, rfl, hl2, hs2, hcp2, hb⟩
    have HB10 := Lib.hid (bthen HB9.out hb HB9.out.size)
    obtain ⟨M2, hM2⟩ : ∃ M2, M2 = L2.map GV.g := ⟨_, rfl⟩
    rw [← hM2] at hs2
    obtain ⟨V, hV⟩ : ∃ V, areB M2 = V := ⟨_, rfl⟩
    have HV := Lib.hid hV
    have HS10 := Lib.hid hs2
    have HM2 := Lib.hid (show L2.length ≤ maxLen by unfold maxLen; omega)
    have HCP2 := Lib.hid hcp2
    clear hb hM2 hs2 hcp2 hl2 hV
    go_wp2_with fail
    refine (areG_v _ L2.length cap2 M2 V HV.out _ HS10.out HM2.out HCP2.out).mono ?_
    rintro e w11 ⟨rfl, hb⟩
    have HB11 := Lib.hid (bthen HB10.out hb HB10.out.size)
    have HS11 := Lib.hid (gauges_at HS10.out hb)
    clear hb
    go_wp2_with fail
    refine (areGs_v _ L2.length cap2 M2 V HV.out _ HS11.out HM2.out).mono ?_
    rintro e w12 ⟨rfl, hb⟩
    have HB12 := Lib.hid (bthen HB11.out hb HB11.out.size)
    clear hb
    go_wp2_with fail
    go_ret
    exact ⟨by simp, HB12.out⟩
  · have hxl : 0 < X.length := by have := HTO.out; simpa using this
    go_wp2_with fail
    refine (com_impl _ L.length cap M a b _ HS4.out HM.out HCP.out).mono ?_
    rintro e w5 ⟨A5, c5, he, hI, hb⟩
    rw [← HX.out, ← HT.out] at he
    rw [← HX.out] at hI
    subst he
    have HB5 := Lib.hid (bthen HB4.out hb HB4.out.size)
    have HS5 := Lib.hid (gauges_at HS4.out hb)
    have HI5 := Lib.hid hI
    clear hb hI
    go_wp2_with fail
    refine (com_impl _ L.length cap M b a _ HS5.out HM.out HCP.out).mono ?_
    rintro e w6 ⟨A6, c6, he, hI, hb⟩
    rw [com_swap M a b, two_swap M a b, ← HX.out, ← HT.out] at he
    rw [com_swap M a b, ← HX.out] at hI
    subst he
    have HB6 := Lib.hid (bthen HB5.out hb HB5.out.size)
    have HS6 := Lib.hid (gauges_at HS5.out hb)
    have HI56 := Lib.hid (HI5.out.on hb (Nat.le_refl _))
    have HI6 := Lib.hid hI
    have HZ6 := Lib.hid hb.size
    clear hb hI
    go_wp2_with fail
    refine (com_spec _ L.length cap M a b _ HS6.out HM.out).mono ?_
    rintro e w7 ⟨A7, c7, he, hI, hb⟩
    rw [← HX.out, ← HT.out] at he
    rw [← HX.out] at hI
    subst he
    have HB7 := Lib.hid (bthen HB6.out hb HB6.out.size)
    have HI57 := Lib.hid (HI56.out.on hb HZ6.out)
    have HI67 := Lib.hid (HI6.out.on hb (Nat.le_refl _))
    have HI7 := Lib.hid hI
    have HZ7 := Lib.hid hb.size
    clear hb hI HS4 HS5 HS6
    go_wp2_with fail
    refine (rI_b A5 A7 X.length c5 c7 _ _ _ _ _ _ HI57.out HI7.out HXL.out).mono ?_
    rintro e w8 ⟨rfl, hb⟩
    have HB8 := Lib.hid (bthen HB7.out hb HB7.out.size)
    have HI58 := Lib.hid (HI57.out.on hb (Nat.le_trans HZ6.out HZ7.out))
    have HI68 := Lib.hid (HI67.out.on hb HZ7.out)
    clear hb
    go_wp2_with fail
    refine (rI_b A6 A5 X.length c6 c5 _ _ _ _ _ _ HI68.out HI58.out HXL.out).mono ?_
    rintro e w9 ⟨rfl, hb⟩
    have HB9 := Lib.hid (bthen HB8.out hb HB8.out.size)
    clear hb HI5 HI56 HI57 HI58 HI6 HI67 HI68 HI7
    go_wp2_with fail
    refine (draw_areG _ n c _ (HRW.out.below HB9.out HB9.out.size)).mono ?_
    rintro e w10 ⟨L2, gb2, cap2, rfl, hl2, hs2, hcp2, hb⟩
    have HB10 := Lib.hid (bthen HB9.out hb HB9.out.size)
    obtain ⟨M2, hM2⟩ : ∃ M2, M2 = L2.map GV.g := ⟨_, rfl⟩
    rw [← hM2] at hs2
    obtain ⟨V, hV⟩ : ∃ V, areB M2 = V := ⟨_, rfl⟩
    have HV := Lib.hid hV
    have HS10 := Lib.hid hs2
    have HM2 := Lib.hid (show L2.length ≤ maxLen by unfold maxLen; omega)
    have HCP2 := Lib.hid hcp2
    clear hb hM2 hs2 hcp2 hl2 hV
    go_wp2_with fail
    refine (areG_v _ L2.length cap2 M2 V HV.out _ HS10.out HM2.out HCP2.out).mono ?_
    rintro e w11 ⟨rfl, hb⟩
    have HB11 := Lib.hid (bthen HB10.out hb HB10.out.size)
    have HS11 := Lib.hid (gauges_at HS10.out hb)
    clear hb
    go_wp2_with fail
    refine (areGs_v _ L2.length cap2 M2 V HV.out _ HS11.out HM2.out).mono ?_
    rintro e w12 ⟨rfl, hb⟩
    have HB12 := Lib.hid (bthen HB11.out hb HB11.out.size)
    clear hb
    go_wp2_with fail
    go_ret
    exact ⟨by simp, HB12.out⟩
end Go.Proofs.Ytdmnkmdlochogaa
