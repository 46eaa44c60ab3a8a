/-
  A piece of laws.FnCoverage, from region 12 on. Conditions: stated at the theorem.
-/
import Derived.Test.YtagfgaohdpoegaaCv27
namespace Go.Proofs.Ytagfgaohdpoegaa
open Go.Joins Go.ChangeShapes Go.WideShapes Go.ChangeAt Go.RowKit Go.Deep
set_option linter.unusedVariables false

set_option maxRecDepth 20000 in
set_option maxHeartbeats 12800000 in
theorem tailC12 {c0 : Code} (hc0 : Try.f3.body.bind (restAt 12) = some c0) (A : Option Addr) (n c : Nat) (w W0 : World) (hr : CodeRow w.heap.size A n w) (hb0 : Below w.heap.size w W0) (u1 u2 u3 u4 u5 u6 u7 u8 u9 u10 u11 u12 u13 u14 u15 u16 u17 u18 u19 u20 u21 u22 u23 u24 u25 u26 u27 u28 u29 u30 u31 u32 u33 u34 u35 u36 u37 u38 u39 u40 u41 u42 u43 u44 u45 u46 u47 u48 u49 u50 u51 u52 u53 u54 u55 u56 u57 u58 u59 u60 u61 u62 u63 u64 u65 u66 u67 u68 u69 u70 u71 u72 u73 u74 u75 u76 u77 u78 u79 u80 u81 u82 u83 u84 u85 u86 u87 u88 u89 u90 u91 u92 u93 u94 u95 u96 u97 u98 u99 u100 u101 u102 u103 u104 u105 u106 u107 u108 u109 u110 u111 u112 u113 u114 u115 u116 u117 u118 u119 u120 u121 u122 u123 u124 u125 u126 u127 u128 u129 u130 u131 u132 u133 u134 u135 u136 u137 u138 u139 u140 u141 u142 u143 u144 u145 u146 u147 u148 u149 u150 u151 u152 u153 u154 u155 u156 u157 u158 u159 u160 u161 u162 u163 u164 u165 u166 u167 u168 u169 u170 u171 u172 u173 u174 u175 u176 u177 u178 u179 u180 u181 u182 u183 u184 u185 u186 u187 u188 u189 u190 u191 u192 u193 u194 u195 u196 u197 u198 u199 u200 u201 : Value) :
    c0.wp Try.prog (bodyPost Try.prog Try.f3 fun e w' => e = .returned (.bool true) ∧ Below w.heap.size w w') { tmps := #[.slice A n c, u1, u2, u3, u4, u5, u6, u7, u8, u9, u10, u11, u12, u13, u14, u15, u16, u17, u18, u19, u20, u21, u22, u23, u24, u25, u26, u27, u28, u29, u30, u31, u32, u33, u34, u35, u36, u37, u38, u39, u40, u41, u42, u43, u44, u45, u46, u47, u48, u49, u50, u51, u52, u53, u54, u55, u56, u57, u58, u59, u60, u61, u62, u63, u64, u65, u66, u67, u68, u69, u70, u71, u72, u73, u74, u75, u76, u77, u78, u79, u80, u81, u82, u83, u84, u85, u86, u87, u88, u89, u90, u91, u92, u93, u94, u95, u96, u97, u98, u99, u100, u101, u102, u103, u104, u105, u106, u107, u108, u109, u110, u111, u112, u113, u114, u115, u116, u117, u118, u119, u120, u121, u122, u123, u124, u125, u126, u127, u128, u129, u130, u131, u132, u133, u134, u135, u136, u137, u138, u139, u140, u141, u142, u143, u144, u145, u146, u147, u148, u149, u150, u151, u152, u153, u154, u155, u156, u157, u158, u159, u160, u161, u162, u163, u164, u165, u166, u167, u168, u169, u170, u171, u172, u173, u174, u175, u176, u177, u178, u179, u180, u181, u182, u183, u184, u185, u186, u187, u188, u189, u190, u191, u192, u193, u194, u195, u196, u197, u198, u199, u200, u201], defers := [] } W0 := by
  cases (show Try.f3.body.bind (restAt 12) = some _ from rfl).symm.trans hc0
  have HRW := Lib.hid hr
  have HB0 := Lib.hid hb0
  clear hc0 hb0 hr
  go_wp2_with fail
  refine (draw_unc A n c _ (HRW.out.below HB0.out HB0.out.size)).mono ?_
  rintro e w1 ⟨L, gb, cap, x, y, z, u, rfl, hl, hcap, hS, hb⟩
  have HS1 := Lib.hid hS
  have HB1 := Lib.hid (bthen HB0.out hb HB0.out.size)
  have hmL : L.length ≤ maxLen := by unfold maxLen; omega
  clear hS hb
  obtain ⟨R, HR⟩ : ∃ R, Hid (opR L x y z u = R) := ⟨_, Lib.hid rfl⟩
  obtain ⟨K, HK⟩ : ∃ K, Hid (opK L x y z u = K) := ⟨_, Lib.hid rfl⟩
  have hRl : R.length ≤ 400 := by rw [← HR.out]; exact opR_short L x y z u
  have hmR : R.length ≤ maxLen := by unfold maxLen; omega
  obtain ⟨X1, hX1⟩ : ∃ W, W = w1.alloc (.cells #[.int .i64 x, .int .i64 y, .int .i64 z, .int .i64 u] 31) := ⟨_, rfl⟩
  have HX1 : Hid (Below w1.heap.size w1 X1 ∧ Has X1 w1.heap.size [.int .i64 x, .int .i64 y, .int .i64 z, .int .i64 u]) := by rw [hX1]; exact box1 (Below.refl _ _)
  have HE := Lib.hid hX1
  have HBX1 := Lib.hid (bthen HB1.out HX1.out.1 HB1.out.size)
  have HSX := Lib.hid (sds_atN HS1.out HX1.out.1)
  clear hX1
  go_upto_region 13 with fail
  rw [← HE.out]
  clear HE
  have e0 := HX1.out.2.at_ 0 _ rfl
  have e1 := HX1.out.2.at_ 1 _ rfl
  have e2 := HX1.out.2.at_ 2 _ rfl
  have e3 := HX1.out.2.at_ 3 _ rfl
  go_wp2_with fail
  refine (open_impl _ _ _ L x y z u _ HSX.out hmL).mono ?_
  unfold PairsPost
  rw [HR.out, HK.out]
  rintro e w2 ⟨A2, c2, rfl, ho, hb⟩
  have HO2 := Lib.hid (ho.spots (Nat.le_refl _))
  have HB2 := Lib.hid (bthen HBX1.out hb HBX1.out.size)
  have HS2 := Lib.hid (sds_atN HSX.out hb)
  have HX2 := Lib.hid (HX1.out.2.next hb)
  clear hb ho e0 e1 e2 e3
  have e0 := HX2.out.at_ 0 _ rfl
  have e1 := HX2.out.at_ 1 _ rfl
  have e2 := HX2.out.at_ 2 _ rfl
  have e3 := HX2.out.at_ 3 _ rfl
  go_wp2_with fail
  refine (open_spec _ _ _ L x y z u _ HS2.out hmL).mono ?_
  unfold PairsPost
  rw [HR.out, HK.out]
  rintro e w3 ⟨A3, c3, rfl, ho, hb⟩
  have HO3 := Lib.hid (ho.spots (Nat.le_refl _))
  have HP3 := Lib.hid (spots_at HO2.out hb)
  have HB3 := Lib.hid (bthen HB2.out hb HB2.out.size)
  have HS3 := Lib.hid (sds_atN HS2.out hb)
  have HX3 := Lib.hid (HX2.out.next hb)
  clear hb ho e0 e1 e2 e3
  go_wp2_with fail
  refine (vPairs_same _ _ _ _ _ R _ HP3.out HO3.out hmR).mono ?_
  rintro e w4 ⟨rfl, hb⟩
  have HB4 := Lib.hid (bthen HB3.out hb HB3.out.size)
  have HS4 := Lib.hid (sds_atN HS3.out hb)
  have HX4 := Lib.hid (HX3.out.next hb)
  have HP4 := Lib.hid (spots_at HP3.out hb)
  clear hb
  go_upto_if 113 with fail
  rename (Act → World → Prop) => KK
  rename (∀ (a : Act) (w : World), _ → KK a w) => aK
  have HKK := Lib.hid aK
  clear aK
  rcases K with _ | _
  · go_wp2_with fail
    exact HKK.out _ _ (tailC27 rfl A n c w _ HRW.out HB4.out _ _ _ _ _ _ _ _ _ _ _ _ _ _ _ _ _ _ _ _ _ _ _ _ _ _ _ _ _ _ _ _ _ _ _ _ _ _ _ _ _ _ _ _ _ _ _ _ _ _ _ _ _ _ _ _ _ _ _ _ _ _ _ _ _ _ _ _ _ _ _ _ _ _ _ _ _ _ _ _ _ _ _ _ _ _ _ _ _ _ _ _ _ _ _ _ _ _ _ _ _ _ _ _ _ _ _ _ _ _ _ _ _ _ _ _ _ _ _ _ _ _ _ _ _ _ _ _ _ _ _ _ _ _ _ _ _ _ _ _ _ _ _ _ _ _ _ _ _ _ _ _ _ _ _ _ _ _ _ _ _ _ _ _ _ _ _ _ _ _ _ _ _ _ _ _ _ _ _ _ _ _ _ _ _ _ _ _ _ _ _ _ _ _ _ _ _ _ _ _ _)
  have HLE : Hid ((R.length : Int) ≤ inN x y z u) := by rw [← HR.out]; exact Lib.hid (opR_le HK.out)
  have HBK : Hid (boxB x y z u = true) := Lib.hid (opR_is HK.out).2.1
  obtain ⟨N, HN⟩ : ∃ N, Hid (inN x y z u = N) := ⟨_, Lib.hid rfl⟩
  have hle : (R.length : Int) ≤ N := by rw [← HN.out]; exact HLE.out
  have e0 := HX4.out.at_ 0 _ rfl
  have e1 := HX4.out.at_ 1 _ rfl
  have e2 := HX4.out.at_ 2 _ rfl
  have e3 := HX4.out.at_ 3 _ rfl
  go_wp2_with fail
  refine (cellsIn_impl x y z u _).mono ?_
  unfold IntPost
  rw [HN.out, HBK.out]
  rintro e W5 ⟨rfl, hb⟩
  have HB5 := Lib.hid (bthen HB4.out hb HB4.out.size)
  have HS5 := Lib.hid (sds_atN HS4.out hb)
  have HP5 := Lib.hid (spots_at HP4.out hb)
  clear hb e0 e1 e2 e3
  have hng : decide (N < (R.length : Int)) = false := decide_eq_false (by omega)
  go_wp2_with fail
  go_loopw [19] (fun i wr => ∃ k : Nat, k ≤ R.length ∧ i = .int .i64 k ∧ Hid (Below W5.heap.size W5 wr)) (fun i _ => R.length - (intOf i).toNat)
  case atStart => exact ⟨0, Nat.zero_le _, rfl, Lib.hid (Below.refl _ _)⟩
  case round =>
    obtain ⟨k, hk, rfl, hB⟩ := hrel
    have HBT := Lib.hid (bthen HB5.out hB.out HB5.out.size)
    obtain ⟨W0, rfl⟩ : ∃ W : World, W = wr := ⟨_, rfl⟩
    by_cases hlt : k < R.length
    rotate_left
    · go_wp2_with fail
      exact HKK.out _ _ (tailC27 rfl A n c w _ HRW.out HBT.out _ _ _ _ _ _ _ _ _ _ _ _ _ _ _ _ _ _ _ _ _ _ _ _ _ _ _ _ _ _ _ _ _ _ _ _ _ _ _ _ _ _ _ _ _ _ _ _ _ _ _ _ _ _ _ _ _ _ _ _ _ _ _ _ _ _ _ _ _ _ _ _ _ _ _ _ _ _ _ _ _ _ _ _ _ _ _ _ _ _ _ _ _ _ _ _ _ _ _ _ _ _ _ _ _ _ _ _ _ _ _ _ _ _ _ _ _ _ _ _ _ _ _ _ _ _ _ _ _ _ _ _ _ _ _ _ _ _ _ _ _ _ _ _ _ _ _ _ _ _ _ _ _ _ _ _ _ _ _ _ _ _ _ _ _ _ _ _ _ _ _ _ _ _ _ _ _ _ _ _ _ _ _ _ _ _ _ _ _ _ _ _ _ _ _ _ _ _ _ _ _)
    obtain ⟨b', o', p, q, rfl, hbl, hpq, c0, c1⟩ := (spots_at HP5.out hB.out).2 k hlt
    have HBR := Lib.hid (opR_bare HK.out (by rw [HR.out]; exact hpq))
    have HSQ : Hid (∀ W : World, Below W0.heap.size W0 W → Calls Try.prog 26 #[.slice (some ⟨gb, 0, none⟩) L.length cap, .int .i64 p, .int .i64 q] W fun e w' => e = .returned (.tuple #[.int .i64 0, .bool true]) ∧ Below W.heap.size W w') := Lib.hid fun W hW => by
      have := coverage_impl (some ⟨gb, 0, none⟩) L.length cap L p q W (sds_atN (sds_atN HS5.out hB.out) hW) hmL
      unfold IntPost at this
      rwa [HBR.out.1, HBR.out.2] at this
    clear hpq
    go_wp2_with fail
    have lc0 := lcell (c0)
    have lc1 := lcell (c1)
    refine region_later (W := W0) (by kernel_rfl) (by kernel_rfl) (Below.refl _ _) ?_
    repeat (go_big_quiet_step (((go_at_call 26; exact later_call (HSQ.out _ (Later.below _))))))
    refine wpQuiet_nil ?_
    intro W6 hW1
    have HL : Hid (Below W0.heap.size W0 W6) := by obtain ⟨x, rfl⟩ := hW1; exact Lib.hid x.below
    clear hW1 lc0 lc1
    have HB7 := Lib.hid (bthen hB.out HL.out hB.out.size)
    clear c0 c1 HL
    go_wp2_with fail
    go_roundw
    case rel => exact ⟨k + 1, by omega, by go_num, HB7⟩
    case measure => simp [intOf]; omega
end Go.Proofs.Ytagfgaohdpoegaa
