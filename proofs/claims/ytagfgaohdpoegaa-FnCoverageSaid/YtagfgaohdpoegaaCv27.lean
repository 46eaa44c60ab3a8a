/-
  A piece of laws.FnCoverage, from region 27 on. Conditions: stated at the theorem.
-/
import Derived.Test.YtagfgaohdpoegaaDn
import Derived.Test.YtagfgaohdpoegaaCe
import Derived.Test.YtagfgaohdpoegaaPp
import Derived.Test.YtagfgaohdpoegaaVb
import Derived.Test.YtagfgaohdpoegaaOc
import Derived.Deep.DeepCutAuto
namespace Go.Proofs.Ytagfgaohdpoegaa
open Go.Joins Go.ChangeShapes Go.WideShapes Go.ChangeAt Go.RowKit Go.Deep
set_option linter.unusedVariables false

/-- The code from the region with a number on. -/
def restAt (i : Nat) : Code → Option Code
  | .seq (.region j ops d) b => if j = i then some (.seq (.region j ops d) b) else restAt i b
  | .seq a b => match restAt i a with | some c => some c | none => restAt i b
  | .cond _ a b => match restAt i a with | some c => some c | none => restAt i b
  | _ => none
/-! ### Plain facts -/
theorem coN_mono {L : List LN} {t : Int} (h : coK L t = true) (h1 : 1 < t) : coK L (t - 1) = true ∧ coN L t ≤ coN L (t - 1) ∧ t ≤ 8 := by
  have hh := h
  unfold coK at hh
  rw [Bool.and_eq_true] at hh
  have ht := inB_yes hh.2
  have h2 : coK L (t - 1) = true := by
    unfold coK
    rw [hh.1, inB_mk (by omega) (by omega)]
    rfl
  refine ⟨h2, ?_, ht.2⟩
  unfold coN
  rw [h, h2, if_pos rfl, if_pos rfl]
  have := clK_mono (P := coP L t) (Q := coP L (t - 1)) (fun r c hp => by
    unfold coP at hp ⊢
    have := of_decide_eq_true hp
    exact decide_eq_true (by omega)) 20
  omega
theorem opR_is {L : List LN} {a b c d : Int} (h : opK L a b c d = true) : lnsB L = true ∧ boxB a b c d = true ∧ opR L a b c d = clL (opP L a b c d) 20 := by
  have hh := h
  unfold opK at hh
  rw [Bool.and_eq_true] at hh
  exact ⟨hh.1, hh.2, by unfold opR; rw [h, if_pos rfl]⟩
theorem opR_short (L : List LN) (a b c d : Int) : (opR L a b c d).length ≤ 400 := by
  unfold opR
  split
  · rw [clL_len]; exact clK_le _ 20
  · simp
theorem opR_le {L : List LN} {a b c d : Int} (h : opK L a b c d = true) : ((opR L a b c d).length : Int) ≤ inN a b c d := by
  obtain ⟨_, h2, h3⟩ := opR_is h
  rw [h3, clL_len]
  unfold inN
  rw [h2, if_pos rfl]
  have := clK_mono (P := opP L a b c d) (Q := fun r col => whB a b c d r col) (fun r col hp => by
    unfold opP at hp
    rw [Bool.and_eq_true] at hp
    exact hp.1) 20
  omega
theorem opR_bare {L : List LN} {a b c d : Int} (h : opK L a b c d = true) {k : Nat} {p q : Int} (hk : (opR L a b c d)[k]? = some (p, q)) : cvR L p q = 0 ∧ cvK9 L p q = true := by
  obtain ⟨h1, _, h3⟩ := opR_is h
  rw [h3] at hk
  obtain ⟨r, col, hr, hc, hP, he⟩ := clL_mem 20 (List.mem_of_getElem? hk)
  obtain ⟨rfl, rfl⟩ := Prod.mk.inj he
  unfold opP at hP
  rw [Bool.and_eq_true] at hP
  have h0 := of_decide_eq_true hP.2
  have hk9 : cvK9 L (r : Int) (col : Int) = true := by
    unfold cvK9 ceB
    rw [h1, inB_mk (by omega) (by omega), inB_mk (by omega) (by omega)]
    rfl
  refine ⟨?_, hk9⟩
  unfold cvR
  rw [hk9, if_pos rfl]
  exact h0
set_option maxRecDepth 20000 in
set_option maxHeartbeats 12800000 in
theorem tailC27 {c0 : Code} (hc0 : Try.f3.body.bind (restAt 27) = some c0) (A : Option Addr) (n c : Nat) (w W0 : World) (hr : CodeRow w.heap.size A n w) (hb0 : Below w.heap.size w W0) (u1 u2 u3 u4 u5 u6 u7 u8 u9 u10 u11 u12 u13 u14 u15 u16 u17 u18 u19 u20 u21 u22 u23 u24 u25 u26 u27 u28 u29 u30 u31 u32 u33 u34 u35 u36 u37 u38 u39 u40 u41 u42 u43 u44 u45 u46 u47 u48 u49 u50 u51 u52 u53 u54 u55 u56 u57 u58 u59 u60 u61 u62 u63 u64 u65 u66 u67 u68 u69 u70 u71 u72 u73 u74 u75 u76 u77 u78 u79 u80 u81 u82 u83 u84 u85 u86 u87 u88 u89 u90 u91 u92 u93 u94 u95 u96 u97 u98 u99 u100 u101 u102 u103 u104 u105 u106 u107 u108 u109 u110 u111 u112 u113 u114 u115 u116 u117 u118 u119 u120 u121 u122 u123 u124 u125 u126 u127 u128 u129 u130 u131 u132 u133 u134 u135 u136 u137 u138 u139 u140 u141 u142 u143 u144 u145 u146 u147 u148 u149 u150 u151 u152 u153 u154 u155 u156 u157 u158 u159 u160 u161 u162 u163 u164 u165 u166 u167 u168 u169 u170 u171 u172 u173 u174 u175 u176 u177 u178 u179 u180 u181 u182 u183 u184 u185 u186 u187 u188 u189 u190 u191 u192 u193 u194 u195 u196 u197 u198 u199 u200 u201 : Value) :
    c0.wp Try.prog (bodyPost Try.prog Try.f3 fun e w' => e = .returned (.bool true) ∧ Below w.heap.size w w') { tmps := #[.slice A n c, u1, u2, u3, u4, u5, u6, u7, u8, u9, u10, u11, u12, u13, u14, u15, u16, u17, u18, u19, u20, u21, u22, u23, u24, u25, u26, u27, u28, u29, u30, u31, u32, u33, u34, u35, u36, u37, u38, u39, u40, u41, u42, u43, u44, u45, u46, u47, u48, u49, u50, u51, u52, u53, u54, u55, u56, u57, u58, u59, u60, u61, u62, u63, u64, u65, u66, u67, u68, u69, u70, u71, u72, u73, u74, u75, u76, u77, u78, u79, u80, u81, u82, u83, u84, u85, u86, u87, u88, u89, u90, u91, u92, u93, u94, u95, u96, u97, u98, u99, u100, u101, u102, u103, u104, u105, u106, u107, u108, u109, u110, u111, u112, u113, u114, u115, u116, u117, u118, u119, u120, u121, u122, u123, u124, u125, u126, u127, u128, u129, u130, u131, u132, u133, u134, u135, u136, u137, u138, u139, u140, u141, u142, u143, u144, u145, u146, u147, u148, u149, u150, u151, u152, u153, u154, u155, u156, u157, u158, u159, u160, u161, u162, u163, u164, u165, u166, u167, u168, u169, u170, u171, u172, u173, u174, u175, u176, u177, u178, u179, u180, u181, u182, u183, u184, u185, u186, u187, u188, u189, u190, u191, u192, u193, u194, u195, u196, u197, u198, u199, u200, u201], defers := [] } W0 := by
  cases (show Try.f3.body.bind (restAt 27) = some _ from rfl).symm.trans hc0
  have HRW := Lib.hid hr
  have HB0 := Lib.hid hb0
  clear hc0 hb0 hr
  go_wp2_with fail
  refine (draw_cov A n c _ (HRW.out.below HB0.out HB0.out.size)).mono ?_
  rintro e w1 ⟨L, gb, cap, x, y, rfl, hl, hcap, hS, hb⟩
  have HS1 := Lib.hid hS
  have HB1 := Lib.hid (bthen HB0.out hb HB0.out.size)
  have hmL : L.length ≤ maxLen := by unfold maxLen; omega
  clear hS hb
  obtain ⟨V, HV⟩ : ∃ V, Hid (cvR L x y = V) := ⟨_, Lib.hid rfl⟩
  obtain ⟨K, HK⟩ : ∃ K, Hid (cvK9 L x y = K) := ⟨_, Lib.hid rfl⟩
  go_wp2_with fail
  refine (coverage_impl _ _ _ L x y _ HS1.out hmL).mono ?_
  unfold IntPost
  rw [HV.out, HK.out]
  rintro e w2 ⟨rfl, hb⟩
  have HB2 := Lib.hid (bthen HB1.out hb HB1.out.size)
  have HS2 := Lib.hid (sds_atN HS1.out hb)
  clear hb
  go_wp2_with fail
  refine (coverage_spec _ _ _ L x y _ HS2.out hmL).mono ?_
  unfold IntPost
  rw [HV.out, HK.out]
  rintro e w3 ⟨rfl, hb⟩
  have HB3 := Lib.hid (bthen HB2.out hb HB2.out.size)
  have HS3 := Lib.hid (sds_atN HS2.out hb)
  clear hb
  go_wp2_with fail
  refine (draw_cellsIn A n c _ (HRW.out.below HB3.out HB3.out.size)).mono ?_
  rintro e w4 ⟨x2, y2, z2, u2, rfl, hb⟩
  have HB4 := Lib.hid (bthen HB3.out hb HB3.out.size)
  clear hb
  obtain ⟨N, HN⟩ : ∃ N, Hid (inN x2 y2 z2 u2 = N) := ⟨_, Lib.hid rfl⟩
  obtain ⟨M, HM⟩ : ∃ M, Hid (boxB x2 y2 z2 u2 = M) := ⟨_, Lib.hid rfl⟩
  obtain ⟨X4, hX4⟩ : ∃ W, W = w4.alloc (.cells #[.int .i64 x2, .int .i64 y2, .int .i64 z2, .int .i64 u2] 31) := ⟨_, rfl⟩
  have HX4 : Hid (Below w4.heap.size w4 X4 ∧ Has X4 w4.heap.size [.int .i64 x2, .int .i64 y2, .int .i64 z2, .int .i64 u2]) := by rw [hX4]; exact box1 (Below.refl _ _)
  have HE := Lib.hid hX4
  have HBX4 := Lib.hid (bthen HB4.out HX4.out.1 HB4.out.size)
  clear hX4
  go_upto_region 33 with fail
  rw [← HE.out]
  clear HE
  have e0 := HX4.out.2.at_ 0 _ rfl
  have e1 := HX4.out.2.at_ 1 _ rfl
  have e2 := HX4.out.2.at_ 2 _ rfl
  have e3 := HX4.out.2.at_ 3 _ rfl
  go_wp2_with fail
  refine (cellsIn_impl x2 y2 z2 u2 _).mono ?_
  unfold IntPost
  rw [HN.out, HM.out]
  rintro e w5 ⟨rfl, hb⟩
  have HB5 := Lib.hid (bthen HBX4.out hb HBX4.out.size)
  have HX5 := Lib.hid (HX4.out.2.next hb)
  clear hb e0 e1 e2 e3
  have e0 := HX5.out.at_ 0 _ rfl
  have e1 := HX5.out.at_ 1 _ rfl
  have e2 := HX5.out.at_ 2 _ rfl
  have e3 := HX5.out.at_ 3 _ rfl
  go_wp2_with fail
  refine (cellsIn_spec x2 y2 z2 u2 _).mono ?_
  unfold IntPost
  rw [HN.out, HM.out]
  rintro e w6 ⟨rfl, hb⟩
  have HB6 := Lib.hid (bthen HB5.out hb HB5.out.size)
  clear hb e0 e1 e2 e3
  rcases M with _ | _ <;> (go_wp2_with fail; go_ret; exact ⟨rfl, HB6.out⟩)
end Go.Proofs.Ytagfgaohdpoegaa
