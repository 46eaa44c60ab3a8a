/-
  A piece of laws.FnLinePlans, from region 26 on. Conditions: stated at the theorem.
-/
import Derived.Test.YtdmnkmdlochogabDn
import Derived.Test.YtdmnkmdlochogabLq
import Derived.Test.YtdmnkmdlochogabTi9
import Derived.Test.YtdmnkmdlochogabVz9
import Derived.Test.YtdmnkmdlochogabVb
import Derived.Test.YtdmnkmdlochogabOc
import Derived.Deep.DeepCutAuto
namespace Go.Proofs.Ytdmnkmdlochogab
open Go.Joins Go.ChangeShapes Go.WideShapes Go.ChangeAt Go.RowKit Go.Deep
set_option linter.unusedVariables false

/-- The code from the region with a number on. -/
def restAt (i : Nat) : Code → Option Code
  | .seq (.region j ops d) b => if j = i then some (.seq (.region j ops d) b) else restAt i b
  | .seq a b => match restAt i a with | some c => some c | none => restAt i b
  | .cond _ a b => match restAt i a with | some c => some c | none => restAt i b
  | _ => none
/-! ### Plain facts -/
theorem plan_is {a b c d sw : Int} (h : plK a b c d sw = true) : ∃ q : Nat, (plR a b c d sw).length = q + 1 ∧ q ≤ 7 ∧ lnsB (plR a b c d sw) = true ∧ (1 ≤ sw ∧ sw ≤ 300) ∧ (0 ≤ b ∧ b ≤ d ∧ d ≤ 1000) ∧ PlEnd b d sw (q + 1) ∧ ∀ k v, (plR a b c d sw)[k]? = some v → v = plV a c b d sw k ∧ (0 ≤ v.y ∧ v.y ≤ 1000) := by
  have hh := h
  unfold plK at hh
  rw [Bool.and_eq_true] at hh
  obtain ⟨hb, hac, hsw⟩ := plF_parts hh.1
  have hm := of_decide_eq_true hh.2
  obtain ⟨⟨a1, a2, a3⟩, b1, b2, b3⟩ := boxB_yes hb
  have hE := plM_end hsw.1 (show b ≤ d by omega)
  have hR := (plR_yes hh.1 hm).1
  have hg : Good9 (plR a b c d sw) := by
    rw [hR]
    exact plL_good hE hm ⟨a1, by omega⟩ ⟨by omega, a3⟩ (by omega) b1 b3 b2 hsw
  obtain ⟨q, hq⟩ : ∃ q, plM b d sw = q + 1 := ⟨plM b d sw - 1, by have := hE.pos; omega⟩
  rw [hq] at hE hm hR
  have hl : (plR a b c d sw).length = q + 1 := by rw [hR, plL_len]
  refine ⟨q, hl, by omega, good9_mk hg, hsw, ⟨b1, b2, b3⟩, hE, fun k v hv => ?_⟩
  have hk := (List.getElem?_eq_some_iff.1 hv).1
  have hv2 := hv
  rw [hR, plL_at (by omega)] at hv2
  obtain ⟨_, hy, _⟩ := lnB_parts (hg.mem (List.mem_of_getElem? hv))
  exact ⟨(Option.some.inj hv2).symm, hy⟩
theorem plR_short (a b c d sw : Int) : (plR a b c d sw).length ≤ 8 := by
  rcases h : plK a b c d sw with _ | _
  · unfold plR
    rw [h]
    simp
  · obtain ⟨q, h1, h2, _⟩ := plan_is h
    omega
theorem so_full {L : List LN} (h : soK L = true) : (soR L).length = L.length := by
  unfold soK at h
  unfold soR
  rw [h, if_pos rfl, List.length_map, ordS_len]
theorem tu_pos {L : List LN} (h : lnsB L = true) : 0 ≤ tuR L := by
  unfold tuR
  rw [h, if_pos rfl]
  rcases Nat.eq_zero_or_pos L.length with h0 | h0
  · rw [h0]
    simp [tuK]
  · exact tuK_nonneg (ordS_sorted (good9_of h)) _ (by rw [ordS_len]; omega)
theorem ov_swap (L : List LN) (a b : Int) : ovK L b a = ovK L a b ∧ ovR L b a = ovR L a b := by
  have h : ovK L b a = ovK L a b := by
    unfold ovK
    rw [Bool.and_comm (decide (0 ≤ lfS L b))]
  refine ⟨h, ?_⟩
  unfold ovR
  rw [h, ovN_swap]
set_option maxRecDepth 20000 in
set_option maxHeartbeats 12800000 in
theorem tailP26 {c0 : Code} (hc0 : Try.f3.body.bind (restAt 26) = some c0) (A : Option Addr) (n c : Nat) (w W0 : World) (hr : CodeRow w.heap.size A n w) (hb0 : Below w.heap.size w W0) (u1 u2 u3 u4 u5 u6 u7 u8 u9 u10 u11 u12 u13 u14 u15 u16 u17 u18 u19 u20 u21 u22 u23 u24 u25 u26 u27 u28 u29 u30 u31 u32 u33 u34 u35 u36 u37 u38 u39 u40 u41 u42 u43 u44 u45 u46 u47 u48 u49 u50 u51 u52 u53 u54 u55 u56 u57 u58 u59 u60 u61 u62 u63 u64 u65 u66 u67 u68 u69 u70 u71 u72 u73 u74 u75 u76 u77 u78 u79 u80 u81 u82 u83 u84 u85 u86 u87 u88 u89 u90 u91 u92 u93 u94 u95 u96 u97 u98 u99 u100 u101 u102 u103 u104 u105 u106 u107 u108 u109 u110 u111 u112 u113 u114 u115 u116 u117 u118 u119 u120 u121 u122 u123 u124 u125 u126 u127 u128 u129 u130 u131 u132 u133 u134 u135 u136 u137 u138 u139 u140 u141 u142 u143 u144 u145 u146 u147 u148 u149 u150 u151 u152 u153 u154 u155 u156 u157 u158 u159 u160 u161 u162 u163 u164 u165 u166 u167 u168 u169 u170 u171 u172 u173 u174 u175 u176 u177 u178 u179 u180 u181 u182 u183 u184 u185 u186 u187 u188 u189 u190 u191 u192 u193 u194 u195 u196 u197 u198 u199 u200 u201 u202 u203 u204 u205 u206 u207 u208 u209 u210 u211 u212 u213 u214 u215 u216 u217 u218 u219 u220 u221 u222 u223 u224 u225 u226 u227 u228 u229 u230 u231 u232 u233 u234 u235 u236 u237 u238 u239 u240 u241 u242 u243 u244 u245 u246 u247 u248 u249 u250 u251 u252 u253 : Value) :
    c0.wp Try.prog (bodyPost Try.prog Try.f3 fun e w' => e = .returned (.bool true) ∧ Below w.heap.size w w') { tmps := #[.slice A n c, u1, u2, u3, u4, u5, u6, u7, u8, u9, u10, u11, u12, u13, u14, u15, u16, u17, u18, u19, u20, u21, u22, u23, u24, u25, u26, u27, u28, u29, u30, u31, u32, u33, u34, u35, u36, u37, u38, u39, u40, u41, u42, u43, u44, u45, u46, u47, u48, u49, u50, u51, u52, u53, u54, u55, u56, u57, u58, u59, u60, u61, u62, u63, u64, u65, u66, u67, u68, u69, u70, u71, u72, u73, u74, u75, u76, u77, u78, u79, u80, u81, u82, u83, u84, u85, u86, u87, u88, u89, u90, u91, u92, u93, u94, u95, u96, u97, u98, u99, u100, u101, u102, u103, u104, u105, u106, u107, u108, u109, u110, u111, u112, u113, u114, u115, u116, u117, u118, u119, u120, u121, u122, u123, u124, u125, u126, u127, u128, u129, u130, u131, u132, u133, u134, u135, u136, u137, u138, u139, u140, u141, u142, u143, u144, u145, u146, u147, u148, u149, u150, u151, u152, u153, u154, u155, u156, u157, u158, u159, u160, u161, u162, u163, u164, u165, u166, u167, u168, u169, u170, u171, u172, u173, u174, u175, u176, u177, u178, u179, u180, u181, u182, u183, u184, u185, u186, u187, u188, u189, u190, u191, u192, u193, u194, u195, u196, u197, u198, u199, u200, u201, u202, u203, u204, u205, u206, u207, u208, u209, u210, u211, u212, u213, u214, u215, u216, u217, u218, u219, u220, u221, u222, u223, u224, u225, u226, u227, u228, u229, u230, u231, u232, u233, u234, u235, u236, u237, u238, u239, u240, u241, u242, u243, u244, u245, u246, u247, u248, u249, u250, u251, u252, u253], defers := [] } W0 := by
  cases (show Try.f3.body.bind (restAt 26) = some _ from rfl).symm.trans hc0
  have HRW := Lib.hid hr
  have HB0 := Lib.hid hb0
  clear hc0 hb0 hr
  go_wp2_with fail
  refine (draw_over A n c _ (HRW.out.below HB0.out HB0.out.size)).mono ?_
  rintro e w1 ⟨L, gb, cap, x, y, rfl, hl, hcap, hS, hb⟩
  have HS1 := Lib.hid hS
  have HB1 := Lib.hid (bthen HB0.out hb HB0.out.size)
  have hmL : L.length ≤ maxLen := by unfold maxLen; omega
  clear hS hb
  obtain ⟨V, HV⟩ : ∃ V, Hid (ovR L x y = V) := ⟨_, Lib.hid rfl⟩
  obtain ⟨K, HK⟩ : ∃ K, Hid (ovK L x y = K) := ⟨_, Lib.hid rfl⟩
  have HV2 : Hid (ovR L y x = V) := Lib.hid ((ov_swap L x y).2.trans HV.out)
  have HK2 : Hid (ovK L y x = K) := Lib.hid ((ov_swap L x y).1.trans HK.out)
  go_wp2_with fail
  refine (overlap_impl _ _ _ L x y _ HS1.out hmL).mono ?_
  unfold NumPost
  rw [HV.out, HK.out]
  rintro e w2 ⟨rfl, hb⟩
  have HB2 := Lib.hid (bthen HB1.out hb HB1.out.size)
  have HS2 := Lib.hid (sds_atN HS1.out hb)
  clear hb
  go_wp2_with fail
  refine (overlap_impl _ _ _ L y x _ HS2.out hmL).mono ?_
  unfold NumPost
  rw [HV2.out, HK2.out]
  rintro e w3 ⟨rfl, hb⟩
  have HB3 := Lib.hid (bthen HB2.out hb HB2.out.size)
  have HS3 := Lib.hid (sds_atN HS2.out hb)
  clear hb
  go_wp2_with fail
  refine (overlap_spec _ _ _ L x y _ HS3.out hmL).mono ?_
  unfold NumPost
  rw [HV.out, HK.out]
  rintro e w4 ⟨rfl, hb⟩
  have HB4 := Lib.hid (bthen HB3.out hb HB3.out.size)
  clear hb
  go_wp2_with fail
  refine (draw_lengths A n c _ (HRW.out.below HB4.out HB4.out.size)).mono ?_
  rintro e w5 ⟨M, gb2, cap2, rfl, hl2, hcap2, hS, hb⟩
  have HS5 := Lib.hid hS
  have HB5 := Lib.hid (bthen HB4.out hb HB4.out.size)
  have hmM : M.length ≤ maxLen := by unfold maxLen; omega
  clear hS hb
  obtain ⟨N, HN⟩ : ∃ N, Hid (llR M = N) := ⟨_, Lib.hid rfl⟩
  obtain ⟨Z, HZ⟩ : ∃ Z, Hid (lnsB M = Z) := ⟨_, Lib.hid rfl⟩
  go_wp2_with fail
  refine (len_impl _ _ _ M _ HS5.out hmM).mono ?_
  unfold NumPost
  rw [HN.out, HZ.out]
  rintro e w6 ⟨rfl, hb⟩
  have HB6 := Lib.hid (bthen HB5.out hb HB5.out.size)
  have HS6 := Lib.hid (sds_atN HS5.out hb)
  clear hb
  go_wp2_with fail
  refine (len_spec _ _ _ M _ HS6.out hmM).mono ?_
  unfold NumPost
  rw [HN.out, HZ.out]
  rintro e w7 ⟨rfl, hb⟩
  have HB7 := Lib.hid (bthen HB6.out hb HB6.out.size)
  clear hb
  rcases Z with _ | _ <;> (go_wp2_with fail; go_ret; exact ⟨rfl, HB7.out⟩)
end Go.Proofs.Ytdmnkmdlochogab
