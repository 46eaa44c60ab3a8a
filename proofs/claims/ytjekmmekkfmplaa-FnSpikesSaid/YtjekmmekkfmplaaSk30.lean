/-
  A piece of laws.FnSpikes, from region 30 on. Conditions: stated at the theorem.
-/
import Derived.Test.YtjekmmekkfmplaaEe
import Derived.Test.YtjekmmekkfmplaaEx
import Derived.Test.YtjekmmekkfmplaaEz
import Derived.Test.YtjekmmekkfmplaaVi
import Derived.Test.YtjekmmekkfmplaaVb
import Derived.Test.YtjekmmekkfmplaaOc
import Derived.Deep.DeepCutAuto
import Derived.Test.YtjekmmekkfmplaaEi
import Derived.Test.YtjekmmekkfmplaaEr
import Derived.Test.YtjekmmekkfmplaaEt
namespace Go.Proofs.Ytjekmmekkfmplaa
open Go.Joins Go.ChangeShapes Go.WideShapes Go.ChangeAt Go.RowKit Go.Deep
set_option linter.unusedVariables false

/-- The code from the region with a number on. -/
def restAt (i : Nat) : Code → Option Code
  | .seq (.region j ops d) b => if j = i then some (.seq (.region j ops d) b) else restAt i b
  | .seq a b => match restAt i a with | some c => some c | none => restAt i b
  | .cond _ a b => match restAt i a with | some c => some c | none => restAt i b
  | _ => none
/-! ### Plain facts -/
theorem ifun_at {w W : World} {A : Option Addr} {n : Nat} {f : Nat → Int} (h : IFun w 0 w.heap.size A n f) (hb : Below w.heap.size w W) : IFun W 0 W.heap.size A n f := (h.on hb (Nat.le_refl _)).wide (Nat.le_refl _) hb.size
theorem fl_ok {T : List Int} {l : Int} (h : akB T l = true) : akB (flL T l) l = true ∧ ∃ n : Nat, flN T l = n ∧ n ≤ 30 ∧ (n < 30 → (upR (flL T l) l).length = 0 ∧ (dnR (flL T l) l).length = 0) := by
  obtain ⟨hT, h1, h2⟩ := ak_is h
  have e : flL T l = (flR l 30 T).1 := by unfold flL; rw [h, if_pos rfl]
  have e2 : flN T l = ((flR l 30 T).2 : Int) := by unfold flN; rw [h, if_pos rfl]
  have ha : akB (flL T l) l = true := by
    rw [e]
    exact ak_3 (trB_mk (flR_trk l 30 hT)) (by unfold lmB; exact inB_mk h1 h2)
  refine ⟨ha, (flR l 30 T).2, e2, flR_le l 30 T, fun hn => ?_⟩
  have hq := flR_quiet l 30 T hn
  unfold quB at hq
  have hq2 := of_decide_eq_true hq
  unfold upR dnR
  rw [ha, if_pos rfl, if_pos rfl, e]
  omega
theorem sk_in {T : List Int} {l : Int} {k : Nat} (h : akB T l = true) (hk : k < (upR T l).length) : decide ((upR T l).getD k 0 ∈ dnR T l) = false := by
  refine decide_eq_false fun h2 => ?_
  obtain ⟨_, h1, _⟩ := ak_is h
  have e1 : upR T l = upS T l := by unfold upR; rw [h, if_pos rfl]
  have e2 : dnR T l = dnS T l := by unfold dnR; rw [h, if_pos rfl]
  have hm : (upR T l).getD k 0 ∈ upR T l := by
    rw [List.getD_eq_getElem?_getD, List.getElem?_eq_getElem hk]
    exact List.getElem_mem hk
  rw [e2] at h2
  generalize (upR T l).getD k 0 = y at hm h2
  rw [e1] at hm
  exact spikes_apart (by omega) hm h2
theorem rj_kept {T : List Int} {l : Int} (h : akB T l = true) : ktK T (rjR T l) = true ∧ (ktR T (rjR T l)).length + (dnR T l).length = T.length ∧ suS (rjR T l) (rjR T l).length = ((ktR T (rjR T l)).length : Int) ∧ keB (rjR T l) (rjR T l).length = true := by
  obtain ⟨hT, h1, _⟩ := ak_is h
  have e : rjR T l = kpK (dnS T l) T.length := (rj_yes h).1
  have e2 : dnR T l = dnS T l := by unfold dnR; rw [h, if_pos rfl]
  have el : (rjR T l).length = T.length := by rw [e, kpK_len]
  have hke : keB (rjR T l) (rjR T l).length = true := by rw [el, e]; exact keB_kp _ _
  have hk : ktK T (rjR T l) = true := kt_4 (trB_mk hT) el hke
  have er : ktR T (rjR T l) = ktL T (rjR T l) (rjR T l).length := (kt_yes hk).1
  refine ⟨hk, ?_, ?_, hke⟩
  · rw [er, el, e2, e]
    exact kept_down hT.lo
  · rw [er]
    exact (kept_sum hke).symm
set_option maxRecDepth 20000 in
set_option maxHeartbeats 12800000 in
theorem tailS30 {c0 : Code} (hc0 : Try.f3.body.bind (restAt 30) = some c0) (A : Option Addr) (n c : Nat) (w W0 : World) (hr : CodeRow w.heap.size A n w) (hb0 : Below w.heap.size w W0) (u1 u2 u3 u4 u5 u6 u7 u8 u9 u10 u11 u12 u13 u14 u15 u16 u17 u18 u19 u20 u21 u22 u23 u24 u25 u26 u27 u28 u29 u30 u31 u32 u33 u34 u35 u36 u37 u38 u39 u40 u41 u42 u43 u44 u45 u46 u47 u48 u49 u50 u51 u52 u53 u54 u55 u56 u57 u58 u59 u60 u61 u62 u63 u64 u65 u66 u67 u68 u69 u70 u71 u72 u73 u74 u75 u76 u77 u78 u79 u80 u81 u82 u83 u84 u85 u86 u87 u88 u89 u90 u91 u92 u93 u94 u95 u96 u97 u98 u99 u100 u101 u102 u103 u104 u105 u106 u107 u108 u109 u110 u111 u112 u113 u114 u115 u116 u117 u118 u119 u120 u121 u122 u123 u124 u125 u126 u127 u128 u129 u130 u131 u132 u133 u134 u135 u136 u137 u138 u139 u140 u141 u142 u143 u144 u145 u146 u147 u148 u149 u150 u151 u152 u153 u154 u155 u156 u157 u158 u159 u160 u161 u162 u163 u164 u165 u166 u167 u168 u169 u170 u171 u172 u173 u174 u175 u176 u177 u178 u179 u180 u181 u182 u183 u184 u185 u186 u187 u188 u189 u190 u191 u192 u193 u194 u195 u196 u197 u198 u199 u200 u201 u202 u203 u204 u205 u206 u207 u208 u209 u210 u211 u212 u213 u214 u215 u216 u217 u218 u219 u220 u221 u222 u223 u224 u225 u226 u227 u228 u229 u230 u231 u232 u233 u234 u235 u236 u237 u238 u239 u240 u241 u242 u243 u244 u245 u246 u247 : Value) :
    c0.wp Try.prog (bodyPost Try.prog Try.f3 fun e w' => e = .returned (.bool true) ∧ Below w.heap.size w w') { tmps := #[.slice A n c, u1, u2, u3, u4, u5, u6, u7, u8, u9, u10, u11, u12, u13, u14, u15, u16, u17, u18, u19, u20, u21, u22, u23, u24, u25, u26, u27, u28, u29, u30, u31, u32, u33, u34, u35, u36, u37, u38, u39, u40, u41, u42, u43, u44, u45, u46, u47, u48, u49, u50, u51, u52, u53, u54, u55, u56, u57, u58, u59, u60, u61, u62, u63, u64, u65, u66, u67, u68, u69, u70, u71, u72, u73, u74, u75, u76, u77, u78, u79, u80, u81, u82, u83, u84, u85, u86, u87, u88, u89, u90, u91, u92, u93, u94, u95, u96, u97, u98, u99, u100, u101, u102, u103, u104, u105, u106, u107, u108, u109, u110, u111, u112, u113, u114, u115, u116, u117, u118, u119, u120, u121, u122, u123, u124, u125, u126, u127, u128, u129, u130, u131, u132, u133, u134, u135, u136, u137, u138, u139, u140, u141, u142, u143, u144, u145, u146, u147, u148, u149, u150, u151, u152, u153, u154, u155, u156, u157, u158, u159, u160, u161, u162, u163, u164, u165, u166, u167, u168, u169, u170, u171, u172, u173, u174, u175, u176, u177, u178, u179, u180, u181, u182, u183, u184, u185, u186, u187, u188, u189, u190, u191, u192, u193, u194, u195, u196, u197, u198, u199, u200, u201, u202, u203, u204, u205, u206, u207, u208, u209, u210, u211, u212, u213, u214, u215, u216, u217, u218, u219, u220, u221, u222, u223, u224, u225, u226, u227, u228, u229, u230, u231, u232, u233, u234, u235, u236, u237, u238, u239, u240, u241, u242, u243, u244, u245, u246, u247], defers := [] } W0 := by
  cases (show Try.f3.body.bind (restAt 30) = some _ from rfl).symm.trans hc0
  have HRW := Lib.hid hr
  have HB0 := Lib.hid hb0
  clear hc0 hb0 hr
  go_wp2_with fail
  refine (drawE_kept A n c _ (HRW.out.below HB0.out HB0.out.size)).mono ?_
  rintro e w1 ⟨P, gp, cp, Q, gq, cq, rfl, ⟨hlP, hiP⟩, ⟨hlQ, hiQ⟩, hb⟩
  have HP1 : Hid (IFun w1 0 w1.heap.size (some ⟨gp, 0, none⟩) P.length (fun j => P.getD j 0)) := Lib.hid (hiP.wide (Nat.zero_le _) (Nat.le_refl _))
  have HQ1 : Hid (IFun w1 0 w1.heap.size (some ⟨gq, 0, none⟩) Q.length (fun j => Q.getD j 0)) := Lib.hid (hiQ.wide (Nat.zero_le _) (Nat.le_refl _))
  have HB1 := Lib.hid (bthen HB0.out hb HB0.out.size)
  clear hb hiP hiQ
  obtain ⟨AP1, hAA⟩ : ∃ AA : Option Addr, AA = some ⟨gp, 0, none⟩ := ⟨_, rfl⟩
  rw [← hAA] at HP1 ⊢
  clear hAA
  obtain ⟨AQ1, hAA⟩ : ∃ AA : Option Addr, AA = some ⟨gq, 0, none⟩ := ⟨_, rfl⟩
  rw [← hAA] at HQ1 ⊢
  clear hAA
  obtain ⟨R, HR⟩ : ∃ R, Hid (ktR P Q = R) := ⟨_, Lib.hid rfl⟩
  obtain ⟨K, HK⟩ : ∃ K, Hid (ktK P Q = K) := ⟨_, Lib.hid rfl⟩
  have hrl : R.length ≤ 30 := by rw [← HR.out]; exact ktR_len P Q
  go_wp2_with fail
  refine (kept_impl _ _ _ _ _ _ _ _ P Q _ HP1.out (Nat.le_refl _) (by omega) HQ1.out (Nat.le_refl _) (by omega)).mono ?_
  unfold IntsPost
  rw [HR.out, HK.out]
  rintro e w2 ⟨A2, c2, rfl, ho, hb⟩
  have HB2 := Lib.hid (bthen HB1.out hb HB1.out.size)
  have HP2 := Lib.hid (ifun_at HP1.out hb)
  have HQ2 := Lib.hid (ifun_at HQ1.out hb)
  have HO2 := Lib.hid (ho.wide (Nat.zero_le _) (Nat.le_refl _))
  clear hb ho
  go_wp2_with fail
  refine (kept_spec _ _ _ _ _ _ _ _ P Q _ HP2.out (Nat.le_refl _) (by omega) HQ2.out (Nat.le_refl _) (by omega)).mono ?_
  unfold IntsPost
  rw [HR.out, HK.out]
  rintro e w3 ⟨A3, c3, rfl, ho, hb⟩
  have HB3 := Lib.hid (bthen HB2.out hb HB2.out.size)
  have HO3 := Lib.hid (ifun_at HO2.out hb)
  have HW3 := Lib.hid ho
  clear hb ho
  go_wp2_with fail
  refine (vI_b _ _ _ _ _ _ _ _ _ _ _ HO3.out HW3.out (by omega)).mono ?_
  rintro e w4 ⟨rfl, hb⟩
  have HB4 := Lib.hid (bthen HB3.out hb HB3.out.size)
  clear hb
  clear HR HK
  go_wp2_with fail
  refine (drawE_median A n c _ (HRW.out.below HB4.out HB4.out.size)).mono ?_
  rintro e w5 ⟨T, gt, ct, rfl, ⟨hlP5, hiP⟩, hb⟩
  have HP5 : Hid (IFun w5 0 w5.heap.size (some ⟨gt, 0, none⟩) T.length (fun j => T.getD j 0)) := Lib.hid (hiP.wide (Nat.zero_le _) (Nat.le_refl _))
  have HB5 := Lib.hid (bthen HB4.out hb HB4.out.size)
  clear hb hiP
  obtain ⟨AP5, hAA⟩ : ∃ AA : Option Addr, AA = some ⟨gt, 0, none⟩ := ⟨_, rfl⟩
  rw [← hAA] at HP5 ⊢
  clear hAA
  obtain ⟨M, HM⟩ : ∃ M, Hid (mfR T = M) := ⟨_, Lib.hid rfl⟩
  obtain ⟨Z, HZ⟩ : ∃ Z, Hid (trB T = Z) := ⟨_, Lib.hid rfl⟩
  have hml : M.length ≤ 30 := by rw [← HM.out]; exact mfR_len T
  go_wp2_with fail
  refine (mfilter_impl _ _ _ _ T _ HP5.out (Nat.le_refl _) (by omega)).mono ?_
  unfold IntsPost
  rw [HM.out, HZ.out]
  rintro e w6 ⟨A6, c6, rfl, ho, hb⟩
  have HB6 := Lib.hid (bthen HB5.out hb HB5.out.size)
  have HP6 := Lib.hid (ifun_at HP5.out hb)
  have HO6 := Lib.hid (ho.wide (Nat.zero_le _) (Nat.le_refl _))
  clear hb ho
  go_wp2_with fail
  refine (mfilter_spec _ _ _ _ T _ HP6.out (Nat.le_refl _) (by omega)).mono ?_
  unfold IntsPost
  rw [HM.out, HZ.out]
  rintro e w7 ⟨A7, c7, rfl, ho, hb⟩
  have HB7 := Lib.hid (bthen HB6.out hb HB6.out.size)
  have HO7 := Lib.hid (ifun_at HO6.out hb)
  have HW7 := Lib.hid ho
  clear hb ho
  go_wp2_with fail
  refine (vI_b _ _ _ _ _ _ _ _ _ _ _ HO7.out HW7.out (by omega)).mono ?_
  rintro e w8 ⟨rfl, hb⟩
  have HB8 := Lib.hid (bthen HB7.out hb HB7.out.size)
  clear hb
  go_wp2_with fail
  go_ret
  exact ⟨ret_bool (by simp), HB8.out⟩
end Go.Proofs.Ytjekmmekkfmplaa
