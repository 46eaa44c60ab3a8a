/-
  A piece of laws.FnSoundings, from region 26 on. Conditions: stated at the theorem.
-/
import Derived.Test.YtklbefdpfhidkaaDoorRz
import Derived.Test.YtklbefdpfhidkaaDoorQy
import Derived.Test.YtklbefdpfhidkaaDoorVb
import Derived.Test.YtklbefdpfhidkaaDoorOc
import Derived.Deep.DeepCutAuto
namespace Go.Proofs.YtklbefdpfhidkaaDoor
open Go.Joins Go.ChangeShapes Go.WideShapes Go.ChangeAt Go.RowKit Go.Deep
set_option linter.unusedVariables false

/-- The code from the region with a number on. -/
def restAt (i : Nat) : Code → Option Code
  | .seq (.region j ops d) b => if j = i then some (.seq (.region j ops d) b) else restAt i b
  | .seq a b => match restAt i a with | some c => some c | none => restAt i b
  | .cond _ a b => match restAt i a with | some c => some c | none => restAt i b
  | _ => none
set_option maxRecDepth 20000 in
set_option maxHeartbeats 12800000 in
theorem tailG26 {c0 : Code} (hc0 : Tryd.f3.body.bind (restAt 26) = some c0) (A : Option Addr) (n c : Nat) (w W0 : World) (hr : CodeRow w.heap.size A n w) (hb0 : Below w.heap.size w W0) (u1 u2 u3 u4 u5 u6 u7 u8 u9 u10 u11 u12 u13 u14 u15 u16 u17 u18 u19 u20 u21 u22 u23 u24 u25 u26 u27 u28 u29 u30 u31 u32 u33 u34 u35 u36 u37 u38 u39 u40 u41 u42 u43 u44 u45 u46 u47 u48 u49 u50 u51 u52 u53 u54 u55 u56 u57 u58 u59 u60 u61 u62 u63 u64 u65 u66 u67 u68 u69 u70 u71 u72 u73 u74 u75 u76 u77 u78 u79 u80 u81 u82 u83 u84 u85 u86 u87 u88 u89 u90 u91 u92 u93 u94 u95 u96 u97 u98 u99 u100 u101 u102 u103 u104 u105 u106 u107 u108 u109 u110 u111 u112 u113 u114 u115 u116 u117 u118 u119 u120 u121 u122 u123 u124 u125 u126 u127 u128 u129 u130 u131 u132 u133 u134 u135 u136 u137 u138 u139 u140 u141 u142 u143 u144 u145 u146 u147 u148 u149 u150 u151 u152 u153 u154 u155 u156 u157 u158 u159 u160 u161 u162 u163 u164 u165 u166 u167 u168 u169 u170 u171 u172 u173 u174 u175 u176 u177 u178 u179 u180 u181 u182 u183 u184 u185 u186 u187 u188 u189 u190 u191 u192 u193 u194 u195 u196 u197 u198 u199 u200 u201 u202 u203 u204 u205 u206 u207 u208 u209 u210 u211 u212 u213 u214 u215 u216 u217 u218 u219 u220 u221 u222 u223 u224 u225 u226 u227 u228 u229 u230 u231 u232 : Value) :
    c0.wp Tryd.prog (bodyPost Tryd.prog Tryd.f3 fun e w' => e = .returned (.bool true) ∧ Below w.heap.size w w') { tmps := #[.slice A n c, u1, u2, u3, u4, u5, u6, u7, u8, u9, u10, u11, u12, u13, u14, u15, u16, u17, u18, u19, u20, u21, u22, u23, u24, u25, u26, u27, u28, u29, u30, u31, u32, u33, u34, u35, u36, u37, u38, u39, u40, u41, u42, u43, u44, u45, u46, u47, u48, u49, u50, u51, u52, u53, u54, u55, u56, u57, u58, u59, u60, u61, u62, u63, u64, u65, u66, u67, u68, u69, u70, u71, u72, u73, u74, u75, u76, u77, u78, u79, u80, u81, u82, u83, u84, u85, u86, u87, u88, u89, u90, u91, u92, u93, u94, u95, u96, u97, u98, u99, u100, u101, u102, u103, u104, u105, u106, u107, u108, u109, u110, u111, u112, u113, u114, u115, u116, u117, u118, u119, u120, u121, u122, u123, u124, u125, u126, u127, u128, u129, u130, u131, u132, u133, u134, u135, u136, u137, u138, u139, u140, u141, u142, u143, u144, u145, u146, u147, u148, u149, u150, u151, u152, u153, u154, u155, u156, u157, u158, u159, u160, u161, u162, u163, u164, u165, u166, u167, u168, u169, u170, u171, u172, u173, u174, u175, u176, u177, u178, u179, u180, u181, u182, u183, u184, u185, u186, u187, u188, u189, u190, u191, u192, u193, u194, u195, u196, u197, u198, u199, u200, u201, u202, u203, u204, u205, u206, u207, u208, u209, u210, u211, u212, u213, u214, u215, u216, u217, u218, u219, u220, u221, u222, u223, u224, u225, u226, u227, u228, u229, u230, u231, u232], defers := [] } W0 := by
  cases (show Tryd.f3.body.bind (restAt 26) = some _ from rfl).symm.trans hc0
  have HRW := Lib.hid hr
  have HB0 := Lib.hid hb0
  clear hc0 hb0 hr
  go_wp2_with fail
  refine (draw_agree A n c _ (HRW.out.below HB0.out HB0.out.size)).mono ?_
  rintro e w1 ⟨L, gb, cap, a, b, hab1, hab2, rfl, hl, hI, hcap, hS, hb⟩
  obtain ⟨ha1, ha2⟩ := hab1
  obtain ⟨hb1, hb2⟩ := hab2
  have HS1 := Lib.hid hS
  have HB1 := Lib.hid (bthen HB0.out hb HB0.out.size)
  have hmL : L.length ≤ maxLen := by unfold maxLen; omega
  clear hS hb hI
  obtain ⟨V, HV⟩ : ∃ V, Hid (daV L a b = V) := ⟨_, Lib.hid rfl⟩
  obtain ⟨K, HK⟩ : ∃ K, Hid (daOk L a b = K) := ⟨_, Lib.hid rfl⟩
  have HV2 : Hid (daV L b a = V) := by rw [daV_swap]; exact HV
  have HK2 : Hid (daOk L b a = K) := by rw [daOk_swap]; exact HK
  go_wp2_with fail
  refine (agree_impl _ _ _ L a b _ HS1.out hmL (by omega) (by omega) (by omega) (by omega)).mono ?_
  unfold DaPost
  rw [HV.out, HK.out]
  rintro e w2 ⟨rfl, hb⟩
  have HB2 := Lib.hid (bthen HB1.out hb HB1.out.size)
  have HS2 := Lib.hid (sds_at HS1.out hb)
  clear hb
  go_wp2_with fail
  refine (agree_impl _ _ _ L b a _ HS2.out hmL (by omega) (by omega) (by omega) (by omega)).mono ?_
  unfold DaPost
  rw [HV2.out, HK2.out]
  rintro e w3 ⟨rfl, hb⟩
  have HB3 := Lib.hid (bthen HB2.out hb HB2.out.size)
  have HS3 := Lib.hid (sds_at HS2.out hb)
  clear hb
  go_wp2_with fail
  refine (agree_spec _ _ _ L a b _ HS3.out hmL).mono ?_
  unfold DaPost
  rw [HV.out, HK.out]
  rintro e w4 ⟨rfl, hb⟩
  have HB4 := Lib.hid (bthen HB3.out hb HB3.out.size)
  clear hb HV HK HV2 HK2
  cases V <;> cases K <;> (go_wp2_with fail; go_ret; exact ⟨rfl, HB4.out⟩)
end Go.Proofs.YtklbefdpfhidkaaDoor
