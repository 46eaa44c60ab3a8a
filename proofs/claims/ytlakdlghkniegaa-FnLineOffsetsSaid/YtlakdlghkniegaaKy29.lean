/-
  A piece of laws.FnLineOffsets, from region 29 on. Conditions: stated at the theorem.
-/
import Derived.Test.YtlakdlghkniegaaKm
import Derived.Test.YtlakdlghkniegaaKo
import Derived.Test.YtlakdlghkniegaaVk
import Derived.Test.YtlakdlghkniegaaVb
import Derived.Test.YtlakdlghkniegaaOc
import Derived.Deep.DeepCutAuto
namespace Go.Proofs.Ytlakdlghkniegaa
open Go.Joins Go.ChangeShapes Go.WideShapes Go.ChangeAt Go.RowKit Go.Deep
set_option linter.unusedVariables false

/-- The code from the region with a number on. -/
def restAt (i : Nat) : Code → Option Code
  | .seq (.region j ops d) b => if j = i then some (.seq (.region j ops d) b) else restAt i b
  | .seq a b => match restAt i a with | some c => some c | none => restAt i b
  | .cond _ a b => match restAt i a with | some c => some c | none => restAt i b
  | _ => none
/-! ### Plain facts -/
theorem of_is {L : List XD} {l : Int} (h : ofK L l = true) : Good10 L ∧ 0 < loN L l L.length ∧ ofN L l = mfN (crF L l) ∧ ofD L l = mfD (crF L l) ∧ 0 < (crF L l).length := by
  have hh := h
  unfold ofK at hh
  rw [Bool.and_eq_true] at hh
  have h0 := of_decide_eq_true hh.2
  have hy := of_yes h
  have := (lo_all L l).2
  exact ⟨good10_of hh.1, h0, hy.1, hy.2.1, by omega⟩
theorem of_bd {L : List XD} {l : Int} (h : ofK L l = true) : (-210000 ≤ ofN L l ∧ ofN L l ≤ 210000) ∧ 1 ≤ ofD L l ∧ ofD L l ≤ 10 := by
  obtain ⟨h1, h2, h3, h4, h5⟩ := of_is h
  rw [h3, h4]
  exact mf_bd (smX_line h1 l) h5
theorem of_small (L : List XD) (l : Int) : -210000 ≤ ofN L l ∧ ofN L l ≤ 210000 := by
  rcases h : ofK L l with _ | _
  · rw [(of_no h).1]; omega
  · exact (of_bd h).1
theorem cc_is {L : List XD} {l b : Int} (h : ccK L l b = true) : xdsB L = true ∧ 0 < loN L l L.length ∧ xdsB (crL L l b) = true ∧ ccR L l b = crL L l b := by
  have hh := h
  unfold ccK ccG at hh
  simp only [Bool.and_eq_true] at hh
  exact ⟨hh.1.1.1, of_decide_eq_true hh.1.1.2, hh.2, by unfold ccR; rw [h]; rfl⟩
theorem ccR_short {L : List XD} (l b : Int) : (ccR L l b).length ≤ L.length := by
  unfold ccR
  split
  · rw [crL_len]; exact Nat.le_refl _
  · simp
/-- Corrected by its whole offset a line has none. -/
theorem cc_zero {L : List XD} {l : Int} (h : ofK L l = true) (h1 : ofD L l = 1) (hc : ccK L l (ofN L l) = true) : ofN (ccR L l (ofN L l)) l = 0 ∧ ofD (ccR L l (ofN L l)) l = 1 ∧ ofK (ccR L l (ofN L l)) l = true := by
  obtain ⟨g1, g2, g3, g4⟩ := cc_is hc
  obtain ⟨h2, h3, h4, h5, h6⟩ := of_is h
  rw [g4]
  have hlo := lo_all L l
  obtain ⟨g, hg, e1, e2, _⟩ := mf_is h6
  rw [← h4] at e1
  rw [← h5, h1, Int.one_mul] at e2
  have hS : loS L l L.length = ofN L l * loN L l L.length := by rw [hlo.1, hlo.2, e1, e2]
  have hz := crL_none hS
  have hn := (crL_off (L := L) (l := l) (b := ofN L l) (Nat.le_refl _)).1
  have hn2 : 0 < loN (crL L l (ofN L l)) l (crL L l (ofN L l)).length := by rw [crL_len, hn]; exact h3
  have hall := lo_all (crL L l (ofN L l)) l
  have hk := of_3 g3 hn2
  obtain ⟨k1, k2, k3⟩ := of_yes hk
  have := mf_none (M := crF (crL L l (ofN L l)) l) (by omega) (by rw [← hall.1]; exact hz)
  exact ⟨k1.trans this.1, k2.trans this.2, k3⟩
theorem wl_is {L : List XD} (h : mdK L = true) : Worst L (wlR L) ∧ Good10 L ∧ xdsB L = true := by
  have hh := h
  unfold mdK at hh
  rw [Bool.and_eq_true] at hh
  have hg := good10_of hh.1
  have e : wlR L = (woK L 99).1 := by unfold wlR; rw [h]; rfl
  rw [e]
  exact ⟨woK_worst hg (of_decide_eq_true hh.2), hg, hh.1⟩
theorem wl_occ {L : List XD} (h : mdK L = true) : ofK L (wlR L) = true := of_3 (wl_is h).2.2 (wl_is h).1.occ
theorem wl_line {L : List XD} (h : mdK L = true) {k : Nat} (hk : k < L.length) : ofK L (xdAt L k).ln = true := of_3 (wl_is h).2.2 (loN_pos hk rfl)
/-- No line is worse than the worst. -/
theorem wl_most {L : List XD} (h : mdK L = true) {k : Nat} (hk : k < L.length) : szI (ofN L (xdAt L k).ln) * ofD L (wlR L) ≤ szI (ofN L (wlR L)) * ofD L (xdAt L k).ln := by
  obtain ⟨_, _, a3, a4, a5⟩ := of_is (wl_occ h)
  obtain ⟨_, b2, b3, b4, b5⟩ := of_is (wl_line h hk)
  rw [a3, a4, b3, b4]
  refine Int.not_lt.1 fun hx => ?_
  have h1 := (mf_lt a5 b5).1 hx
  have h2 := (wl_is h).1.most _ b2
  have e1 := lo_all L (wlR L)
  have e2 := lo_all L (xdAt L k).ln
  rw [← e1.1, ← e1.2, ← e2.1, ← e2.2] at h1
  omega
set_option maxRecDepth 20000 in
set_option maxHeartbeats 12800000 in
theorem tailY29 {c0 : Code} (hc0 : Try.f4.body.bind (restAt 29) = some c0) (A : Option Addr) (n c : Nat) (w W0 : World) (hr : CodeRow w.heap.size A n w) (hb0 : Below w.heap.size w W0) (u1 u2 u3 u4 u5 u6 u7 u8 u9 u10 u11 u12 u13 u14 u15 u16 u17 u18 u19 u20 u21 u22 u23 u24 u25 u26 u27 u28 u29 u30 u31 u32 u33 u34 u35 u36 u37 u38 u39 u40 u41 u42 u43 u44 u45 u46 u47 u48 u49 u50 u51 u52 u53 u54 u55 u56 u57 u58 u59 u60 u61 u62 u63 u64 u65 u66 u67 u68 u69 u70 u71 u72 u73 u74 u75 u76 u77 u78 u79 u80 u81 u82 u83 u84 u85 u86 u87 u88 u89 u90 u91 u92 u93 u94 u95 u96 u97 u98 u99 u100 u101 u102 u103 u104 u105 u106 u107 u108 u109 u110 u111 u112 u113 u114 u115 u116 u117 u118 u119 u120 u121 u122 u123 u124 u125 u126 u127 u128 u129 u130 u131 u132 u133 u134 u135 u136 u137 u138 u139 u140 u141 u142 u143 u144 u145 u146 u147 u148 u149 u150 u151 u152 u153 u154 u155 u156 u157 u158 u159 u160 u161 u162 u163 u164 u165 u166 u167 u168 u169 u170 u171 u172 u173 u174 u175 u176 u177 u178 u179 u180 u181 u182 u183 u184 u185 u186 u187 u188 u189 u190 u191 u192 u193 u194 u195 u196 u197 u198 u199 u200 u201 u202 u203 u204 u205 u206 u207 u208 u209 u210 u211 u212 u213 u214 u215 u216 u217 u218 u219 u220 u221 u222 u223 u224 : Value) :
    c0.wp Try.prog (bodyPost Try.prog Try.f4 fun e w' => e = .returned (.bool true) ∧ Below w.heap.size w w') { tmps := #[.slice A n c, u1, u2, u3, u4, u5, u6, u7, u8, u9, u10, u11, u12, u13, u14, u15, u16, u17, u18, u19, u20, u21, u22, u23, u24, u25, u26, u27, u28, u29, u30, u31, u32, u33, u34, u35, u36, u37, u38, u39, u40, u41, u42, u43, u44, u45, u46, u47, u48, u49, u50, u51, u52, u53, u54, u55, u56, u57, u58, u59, u60, u61, u62, u63, u64, u65, u66, u67, u68, u69, u70, u71, u72, u73, u74, u75, u76, u77, u78, u79, u80, u81, u82, u83, u84, u85, u86, u87, u88, u89, u90, u91, u92, u93, u94, u95, u96, u97, u98, u99, u100, u101, u102, u103, u104, u105, u106, u107, u108, u109, u110, u111, u112, u113, u114, u115, u116, u117, u118, u119, u120, u121, u122, u123, u124, u125, u126, u127, u128, u129, u130, u131, u132, u133, u134, u135, u136, u137, u138, u139, u140, u141, u142, u143, u144, u145, u146, u147, u148, u149, u150, u151, u152, u153, u154, u155, u156, u157, u158, u159, u160, u161, u162, u163, u164, u165, u166, u167, u168, u169, u170, u171, u172, u173, u174, u175, u176, u177, u178, u179, u180, u181, u182, u183, u184, u185, u186, u187, u188, u189, u190, u191, u192, u193, u194, u195, u196, u197, u198, u199, u200, u201, u202, u203, u204, u205, u206, u207, u208, u209, u210, u211, u212, u213, u214, u215, u216, u217, u218, u219, u220, u221, u222, u223, u224], defers := [] } W0 := by
  cases (show Try.f4.body.bind (restAt 29) = some _ from rfl).symm.trans hc0
  have HRW := Lib.hid hr
  have HB0 := Lib.hid hb0
  clear hc0 hb0 hr
  go_wp2_with fail
  refine (draw_corr A n c _ (HRW.out.below HB0.out HB0.out.size)).mono ?_
  rintro e w1 ⟨L, gb, cap, l, b, hbd, rfl, hl1, hcap1, hS, hb⟩
  have HS1 := Lib.hid hS
  have HB1 := Lib.hid (bthen HB0.out hb HB0.out.size)
  have hm1 : L.length ≤ maxLen := by unfold maxLen; omega
  clear hS hb
  obtain ⟨AA1, hAA⟩ : ∃ AA : Option Addr, AA = some ⟨gb, 0, none⟩ := ⟨_, rfl⟩
  rw [← hAA] at HS1 ⊢
  clear hAA
  obtain ⟨R, HR⟩ : ∃ R, Hid (ccR L l b = R) := ⟨_, Lib.hid rfl⟩
  obtain ⟨K, HK⟩ : ∃ K, Hid (ccK L l b = K) := ⟨_, Lib.hid rfl⟩
  obtain ⟨bd1, bd2⟩ := hbd
  have hrl : R.length ≤ L.length := by rw [← HR.out]; exact ccR_short l b
  have hmR : R.length ≤ maxLen := Nat.le_trans hrl hm1
  go_wp2_with fail
  refine (correct_impl _ _ _ L l b _ HS1.out hm1 hcap1 (by omega) (by omega)).mono ?_
  unfold CcPost
  rw [HR.out, HK.out]
  rintro e w2 ⟨A2, c2, hc2, rfl, ho, hb⟩
  have HB2 := Lib.hid (bthen HB1.out hb HB1.out.size)
  have HS2 := Lib.hid (sds_atX HS1.out hb)
  have HO2 := Lib.hid ho.sds
  clear hb ho
  go_wp2_with fail
  refine (correct_spec _ _ _ L l b _ HS2.out hm1).mono ?_
  unfold CcPost
  rw [HR.out, HK.out]
  rintro e w3 ⟨A3, c3, hc3, rfl, ho, hb⟩
  have HB3 := Lib.hid (bthen HB2.out hb HB2.out.size)
  have HO3 := Lib.hid ho.sds
  have HP3 := Lib.hid (sds_atX HO2.out hb)
  clear hb ho
  clear HK
  rcases K with _ | _
  · go_wp2_with fail
    refine (vX_same _ _ _ _ _ R _ HP3.out HO3.out hmR).mono ?_
    rintro e w4 ⟨rfl, hb⟩
    have HB4 := Lib.hid (bthen HB3.out hb HB3.out.size)
    clear hb
    go_wp2_with fail
    refine (draw_mean A n c _ (HRW.out.below HB4.out HB4.out.size)).mono ?_
    rintro e w5 ⟨M, gb2, cap2, rfl, hl5, hcap5, hS, hb⟩
    have HS5 := Lib.hid hS
    have HB5 := Lib.hid (bthen HB4.out hb HB4.out.size)
    have hm5 : M.length ≤ maxLen := by unfold maxLen; omega
    clear hS hb
    obtain ⟨AA5, hAA⟩ : ∃ AA : Option Addr, AA = some ⟨gb2, 0, none⟩ := ⟨_, rfl⟩
    rw [← hAA] at HS5 ⊢
    clear hAA
    obtain ⟨X, HX⟩ : ∃ X, Hid (mdN M = X) := ⟨_, Lib.hid rfl⟩
    obtain ⟨Y, HY⟩ : ∃ Y, Hid (mdD M = Y) := ⟨_, Lib.hid rfl⟩
    obtain ⟨J, HJ⟩ : ∃ J, Hid (mdK M = J) := ⟨_, Lib.hid rfl⟩
    go_wp2_with fail
    refine (meanX_impl _ _ _ M _ HS5.out hm5 hcap5).mono ?_
    unfold Num3X
    rw [HX.out, HY.out, HJ.out]
    rintro e w6 ⟨rfl, hb⟩
    have HB6 := Lib.hid (bthen HB5.out hb HB5.out.size)
    have HS6 := Lib.hid (sds_atX HS5.out hb)
    clear hb
    go_wp2_with fail
    refine (meanX_spec _ _ _ M _ HS6.out hm5).mono ?_
    unfold Num3X
    rw [HX.out, HY.out, HJ.out]
    rintro e w7 ⟨rfl, hb⟩
    have HB7 := Lib.hid (bthen HB6.out hb HB6.out.size)
    clear hb
    clear HJ
    rcases J with _ | _
    · go_wp2_with fail
      go_ret
      exact ⟨ret_bool (by simp), HB7.out⟩
    · go_wp2_with fail
      go_ret
      exact ⟨ret_bool (by simp), HB7.out⟩
  · go_wp2_with fail
    refine (vX_same _ _ _ _ _ R _ HP3.out HO3.out hmR).mono ?_
    rintro e w4 ⟨rfl, hb⟩
    have HB4 := Lib.hid (bthen HB3.out hb HB3.out.size)
    clear hb
    go_wp2_with fail
    refine (draw_mean A n c _ (HRW.out.below HB4.out HB4.out.size)).mono ?_
    rintro e w5 ⟨M, gb2, cap2, rfl, hl5, hcap5, hS, hb⟩
    have HS5 := Lib.hid hS
    have HB5 := Lib.hid (bthen HB4.out hb HB4.out.size)
    have hm5 : M.length ≤ maxLen := by unfold maxLen; omega
    clear hS hb
    obtain ⟨AA5, hAA⟩ : ∃ AA : Option Addr, AA = some ⟨gb2, 0, none⟩ := ⟨_, rfl⟩
    rw [← hAA] at HS5 ⊢
    clear hAA
    obtain ⟨X, HX⟩ : ∃ X, Hid (mdN M = X) := ⟨_, Lib.hid rfl⟩
    obtain ⟨Y, HY⟩ : ∃ Y, Hid (mdD M = Y) := ⟨_, Lib.hid rfl⟩
    obtain ⟨J, HJ⟩ : ∃ J, Hid (mdK M = J) := ⟨_, Lib.hid rfl⟩
    go_wp2_with fail
    refine (meanX_impl _ _ _ M _ HS5.out hm5 hcap5).mono ?_
    unfold Num3X
    rw [HX.out, HY.out, HJ.out]
    rintro e w6 ⟨rfl, hb⟩
    have HB6 := Lib.hid (bthen HB5.out hb HB5.out.size)
    have HS6 := Lib.hid (sds_atX HS5.out hb)
    clear hb
    go_wp2_with fail
    refine (meanX_spec _ _ _ M _ HS6.out hm5).mono ?_
    unfold Num3X
    rw [HX.out, HY.out, HJ.out]
    rintro e w7 ⟨rfl, hb⟩
    have HB7 := Lib.hid (bthen HB6.out hb HB6.out.size)
    clear hb
    clear HJ
    rcases J with _ | _
    · go_wp2_with fail
      go_ret
      exact ⟨ret_bool (by simp), HB7.out⟩
    · go_wp2_with fail
      go_ret
      exact ⟨ret_bool (by simp), HB7.out⟩
end Go.Proofs.Ytlakdlghkniegaa
