/-
  A piece of laws.FnSoundings, from region 15 on. Conditions: stated at the theorem.
-/
import Derived.Test.YtklbefdpfhidkaaDoorSo26
import Derived.Test.YtklbefdpfhidkaaDoorQf
namespace Go.Proofs.YtklbefdpfhidkaaDoor
open Go.Joins Go.ChangeShapes Go.WideShapes Go.ChangeAt Go.RowKit Go.Deep
set_option linter.unusedVariables false

set_option maxRecDepth 20000 in
set_option maxHeartbeats 12800000 in
theorem tailG15 {c0 : Code} (hc0 : Tryd.f3.body.bind (restAt 15) = some c0) (A : Option Addr) (n c : Nat) (w W0 : World) (hr : CodeRow w.heap.size A n w) (hb0 : Below w.heap.size w W0) (u1 u2 u3 u4 u5 u6 u7 u8 u9 u10 u11 u12 u13 u14 u15 u16 u17 u18 u19 u20 u21 u22 u23 u24 u25 u26 u27 u28 u29 u30 u31 u32 u33 u34 u35 u36 u37 u38 u39 u40 u41 u42 u43 u44 u45 u46 u47 u48 u49 u50 u51 u52 u53 u54 u55 u56 u57 u58 u59 u60 u61 u62 u63 u64 u65 u66 u67 u68 u69 u70 u71 u72 u73 u74 u75 u76 u77 u78 u79 u80 u81 u82 u83 u84 u85 u86 u87 u88 u89 u90 u91 u92 u93 u94 u95 u96 u97 u98 u99 u100 u101 u102 u103 u104 u105 u106 u107 u108 u109 u110 u111 u112 u113 u114 u115 u116 u117 u118 u119 u120 u121 u122 u123 u124 u125 u126 u127 u128 u129 u130 u131 u132 u133 u134 u135 u136 u137 u138 u139 u140 u141 u142 u143 u144 u145 u146 u147 u148 u149 u150 u151 u152 u153 u154 u155 u156 u157 u158 u159 u160 u161 u162 u163 u164 u165 u166 u167 u168 u169 u170 u171 u172 u173 u174 u175 u176 u177 u178 u179 u180 u181 u182 u183 u184 u185 u186 u187 u188 u189 u190 u191 u192 u193 u194 u195 u196 u197 u198 u199 u200 u201 u202 u203 u204 u205 u206 u207 u208 u209 u210 u211 u212 u213 u214 u215 u216 u217 u218 u219 u220 u221 u222 u223 u224 u225 u226 u227 u228 u229 u230 u231 u232 : Value) :
    c0.wp Tryd.prog (bodyPost Tryd.prog Tryd.f3 fun e w' => e = .returned (.bool true) ∧ Below w.heap.size w w') { tmps := #[.slice A n c, u1, u2, u3, u4, u5, u6, u7, u8, u9, u10, u11, u12, u13, u14, u15, u16, u17, u18, u19, u20, u21, u22, u23, u24, u25, u26, u27, u28, u29, u30, u31, u32, u33, u34, u35, u36, u37, u38, u39, u40, u41, u42, u43, u44, u45, u46, u47, u48, u49, u50, u51, u52, u53, u54, u55, u56, u57, u58, u59, u60, u61, u62, u63, u64, u65, u66, u67, u68, u69, u70, u71, u72, u73, u74, u75, u76, u77, u78, u79, u80, u81, u82, u83, u84, u85, u86, u87, u88, u89, u90, u91, u92, u93, u94, u95, u96, u97, u98, u99, u100, u101, u102, u103, u104, u105, u106, u107, u108, u109, u110, u111, u112, u113, u114, u115, u116, u117, u118, u119, u120, u121, u122, u123, u124, u125, u126, u127, u128, u129, u130, u131, u132, u133, u134, u135, u136, u137, u138, u139, u140, u141, u142, u143, u144, u145, u146, u147, u148, u149, u150, u151, u152, u153, u154, u155, u156, u157, u158, u159, u160, u161, u162, u163, u164, u165, u166, u167, u168, u169, u170, u171, u172, u173, u174, u175, u176, u177, u178, u179, u180, u181, u182, u183, u184, u185, u186, u187, u188, u189, u190, u191, u192, u193, u194, u195, u196, u197, u198, u199, u200, u201, u202, u203, u204, u205, u206, u207, u208, u209, u210, u211, u212, u213, u214, u215, u216, u217, u218, u219, u220, u221, u222, u223, u224, u225, u226, u227, u228, u229, u230, u231, u232], defers := [] } W0 := by
  cases (show Tryd.f3.body.bind (restAt 15) = some _ from rfl).symm.trans hc0
  have HRW := Lib.hid hr
  have HB0 := Lib.hid hb0
  clear hc0 hb0 hr
  go_wp2_with fail
  refine (draw_all A n c _ (HRW.out.below HB0.out HB0.out.size)).mono ?_
  rintro e w1 ⟨L, gb, cap, rfl, hl, hI, hcap, hS, hb⟩
  have HS1 := Lib.hid hS
  have HB1 := Lib.hid (bthen HB0.out hb HB0.out.size)
  have hmL : L.length ≤ maxLen := by unfold maxLen; omega
  clear hS hb hI
  obtain ⟨LO, HLO⟩ : ∃ x, Hid (alLo L = x) := ⟨_, Lib.hid rfl⟩
  obtain ⟨HI, HHI⟩ : ∃ x, Hid (alHi L = x) := ⟨_, Lib.hid rfl⟩
  obtain ⟨K, HK⟩ : ∃ x, Hid (alOk L = x) := ⟨_, Lib.hid rfl⟩
  obtain ⟨r, HR⟩ : ∃ x, Hid (sdsB L = x) := ⟨_, Lib.hid rfl⟩
  go_wp2_with fail
  refine (all_impl _ _ _ L _ HS1.out hmL hcap).mono ?_
  unfold AgPost
  rw [HLO.out, HHI.out, HK.out]
  rintro e w2 ⟨rfl, hb⟩
  have HB2 := Lib.hid (bthen HB1.out hb HB1.out.size)
  have HS2 := Lib.hid (sds_at HS1.out hb)
  clear hb
  go_wp2_with fail
  refine (all_spec _ _ _ L _ HS2.out hmL hcap).mono ?_
  unfold AgPost
  rw [HLO.out, HHI.out, HK.out]
  rintro e w3 ⟨rfl, hb⟩
  have HB3 := Lib.hid (bthen HB2.out hb HB2.out.size)
  have HS3 := Lib.hid (sds_at HS2.out hb)
  clear hb
  go_wp2_with fail
  refine (sds_impl_v _ _ _ L r HR.out _ HS3.out hmL).mono ?_
  rintro e w4 ⟨rfl, hb⟩
  have HB4 := Lib.hid (bthen HB3.out hb HB3.out.size)
  have HS4 := Lib.hid (sds_at HS3.out hb)
  clear hb
  go_wp2_with fail
  refine (sds_spec _ _ _ L _ HS4.out hmL).mono ?_
  rw [HR.out]
  rintro e W5 ⟨rfl, hb⟩
  have HB5 := Lib.hid (bthen HB4.out hb HB4.out.size)
  have HS5 := Lib.hid (sds_at HS4.out hb)
  clear hb
  go_wp2_with fail
  rename (Act → World → Prop) => KK
  rename (∀ (a : Act) (w : World), _ → KK a w) => aK
  have HKK := Lib.hid aK
  clear aK
  go_loopw [24] (fun i wr => ∃ j : Nat, j ≤ L.length ∧ i = .int .i64 ((j : Int) + 1) ∧ Hid (Below W5.heap.size W5 wr)) (fun i _ => L.length + 1 - (intOf i).toNat)
  case atStart => exact ⟨0, Nat.zero_le _, rfl, Lib.hid (Below.refl _ _)⟩
  case round =>
    obtain ⟨j, hj, rfl, hB⟩ := hrel
    have HBT := Lib.hid (bthen HB5.out hB.out HB5.out.size)
    obtain ⟨W0, rfl⟩ : ∃ W : World, W = wr := ⟨_, rfl⟩
    rcases K with _ | _
    · by_cases hlt : (j : Int) + 1 < (L.length : Int)
      · go_wp2_with fail
        exact HKK.out _ _ (tailG26 rfl A n c w _ HRW.out HBT.out _ _ _ _ _ _ _ _ _ _ _ _ _ _ _ _ _ _ _ _ _ _ _ _ _ _ _ _ _ _ _ _ _ _ _ _ _ _ _ _ _ _ _ _ _ _ _ _ _ _ _ _ _ _ _ _ _ _ _ _ _ _ _ _ _ _ _ _ _ _ _ _ _ _ _ _ _ _ _ _ _ _ _ _ _ _ _ _ _ _ _ _ _ _ _ _ _ _ _ _ _ _ _ _ _ _ _ _ _ _ _ _ _ _ _ _ _ _ _ _ _ _ _ _ _ _ _ _ _ _ _ _ _ _ _ _ _ _ _ _ _ _ _ _ _ _ _ _ _ _ _ _ _ _ _ _ _ _ _ _ _ _ _ _ _ _ _ _ _ _ _ _ _ _ _ _ _ _ _ _ _ _ _ _ _ _ _ _ _ _ _ _ _ _ _ _ _ _ _ _ _ _ _ _ _ _ _ _ _ _ _ _ _ _ _ _ _ _ _ _ _ _ _ _ _ _ _ _ _ _ _ _)
      · go_wp2_with fail
        exact HKK.out _ _ (tailG26 rfl A n c w _ HRW.out HBT.out _ _ _ _ _ _ _ _ _ _ _ _ _ _ _ _ _ _ _ _ _ _ _ _ _ _ _ _ _ _ _ _ _ _ _ _ _ _ _ _ _ _ _ _ _ _ _ _ _ _ _ _ _ _ _ _ _ _ _ _ _ _ _ _ _ _ _ _ _ _ _ _ _ _ _ _ _ _ _ _ _ _ _ _ _ _ _ _ _ _ _ _ _ _ _ _ _ _ _ _ _ _ _ _ _ _ _ _ _ _ _ _ _ _ _ _ _ _ _ _ _ _ _ _ _ _ _ _ _ _ _ _ _ _ _ _ _ _ _ _ _ _ _ _ _ _ _ _ _ _ _ _ _ _ _ _ _ _ _ _ _ _ _ _ _ _ _ _ _ _ _ _ _ _ _ _ _ _ _ _ _ _ _ _ _ _ _ _ _ _ _ _ _ _ _ _ _ _ _ _ _ _ _ _ _ _ _ _ _ _ _ _ _ _ _ _ _ _ _ _ _ _ _ _ _ _ _ _ _ _ _ _)
    by_cases hlt : (j : Int) + 1 < (L.length : Int)
    rotate_left
    · go_wp2_with fail
      exact HKK.out _ _ (tailG26 rfl A n c w _ HRW.out HBT.out _ _ _ _ _ _ _ _ _ _ _ _ _ _ _ _ _ _ _ _ _ _ _ _ _ _ _ _ _ _ _ _ _ _ _ _ _ _ _ _ _ _ _ _ _ _ _ _ _ _ _ _ _ _ _ _ _ _ _ _ _ _ _ _ _ _ _ _ _ _ _ _ _ _ _ _ _ _ _ _ _ _ _ _ _ _ _ _ _ _ _ _ _ _ _ _ _ _ _ _ _ _ _ _ _ _ _ _ _ _ _ _ _ _ _ _ _ _ _ _ _ _ _ _ _ _ _ _ _ _ _ _ _ _ _ _ _ _ _ _ _ _ _ _ _ _ _ _ _ _ _ _ _ _ _ _ _ _ _ _ _ _ _ _ _ _ _ _ _ _ _ _ _ _ _ _ _ _ _ _ _ _ _ _ _ _ _ _ _ _ _ _ _ _ _ _ _ _ _ _ _ _ _ _ _ _ _ _ _ _ _ _ _ _ _ _ _ _ _ _ _ _ _ _ _ _ _ _ _ _ _ _)
    obtain ⟨b1, o1, u, hA1, hbl1, hL1, c0, _⟩ := (sds_at HS5.out hB.out).2 j (by omega)
    obtain ⟨b2, o2, v, hA2, hbl2, hL2, d0, _⟩ := (sds_at HS5.out hB.out).2 (j + 1) (by omega)
    obtain ⟨rfl, rfl⟩ : gb = b1 ∧ 0 = o1 := by injection hA1 with h; injection h with h h'; exact ⟨h, h'⟩
    obtain ⟨rfl, rfl⟩ : gb = b2 ∧ 0 = o2 := by injection hA2 with h; injection h with h h'; exact ⟨h, h'⟩
    simp only [Nat.zero_add] at c0 d0
    clear hA1 hA2
    obtain ⟨q1, q2⟩ := al_pair HK.out hL1 hL2
    have hle := al_le HK.out
    rw [HLO.out, HHI.out] at hle
    have hg := good8_of (al_is HK.out).1
    have hu := (sdB_parts (by have := hg.one j (by omega); rwa [sdAt_at hL1] at this)).1
    have hv := (sdB_parts (by have := hg.one (j + 1) (by omega); rwa [sdAt_at hL2] at this)).1
    have HAG : Hid (∀ W : World, Below W0.heap.size W0 W → Calls Tryd.prog 19 #[.slice (some ⟨gb, 0, none⟩) L.length cap, .int .i64 u.id, .int .i64 v.id] W fun e w' => e = .returned (.tuple #[.bool true, .bool true]) ∧ Below W.heap.size W w') := Lib.hid fun W hW => by
      have := agree_impl (some ⟨gb, 0, none⟩) L.length cap L u.id v.id W (sds_at (sds_at HS5.out hB.out) hW) hmL (by omega) (by omega) (by omega) (by omega)
      unfold DaPost at this
      rwa [q1, q2] at this
    have hdle : decide (HI < LO) = false := decide_eq_false (by omega)
    have e2 : ((j : Int) + 1).toNat = j + 1 := by omega
    have e3 : IntKind.i64.wrap ((j : Int) + 1 - 1) = (j : Int) := by rw [Int.add_sub_cancel]; exact IntWalk.i64_in _ (by omega)
    clear hL1 hL2 q1 q2 hg hu hv
    go_wp2_with fail
    have lc0 := lcell (c0)
    have lc1 := lcell (d0)
    refine region_later (W := W0) (by kernel_rfl) (by kernel_rfl) (Below.refl _ _) ?_
    repeat (go_big_quiet_step (((go_at_call 19; exact later_call (HAG.out _ (Later.below _))))))
    refine wpQuiet_nil ?_
    intro W6 hW1
    have HL : Hid (Below W0.heap.size W0 W6) := by obtain ⟨x, rfl⟩ := hW1; exact Lib.hid x.below
    clear hW1 lc0 lc1
    have HB6 := Lib.hid (bthen hB.out HL.out hB.out.size)
    clear c0 d0 HAG
    go_wp2_with fail
    go_roundw
    case rel => exact ⟨j + 1, by omega, by go_num, HB6⟩
    case measure => simp [intOf]; omega
end Go.Proofs.YtklbefdpfhidkaaDoor
