/-
  A piece of laws.FnPassPairs, from region 33 on. Conditions: stated at the theorem.
-/
import Derived.Test.YtllfmjnniagjfaaJg
import Derived.Test.YtllfmjnniagjfaaJc
import Derived.Test.YtllfmjnniagjfaaJd
import Derived.Test.YtllfmjnniagjfaaJe
import Derived.Test.YtllfmjnniagjfaaVj
import Derived.Test.YtllfmjnniagjfaaRb
import Derived.Test.YtllfmjnniagjfaaOc
import Derived.Deep.DeepCutAuto
namespace Go.Proofs.Ytllfmjnniagjfaa
open Go.Joins Go.ChangeShapes Go.WideShapes Go.ChangeAt Go.RowKit Go.Deep
set_option linter.unusedVariables false

/-- The code from the region with a number on. -/
def restAt (i : Nat) : Code → Option Code
  | .seq (.region j ops d) b => if j = i then some (.seq (.region j ops d) b) else restAt i b
  | .seq a b => match restAt i a with | some c => some c | none => restAt i b
  | .cond _ a b => match restAt i a with | some c => some c | none => restAt i b
  | _ => none
/-! ### Plain facts -/
theorem opR9_len (L : List PS) (a : Int) : (opR9 L a).length ≤ 144 := by
  unfold opR9
  rcases h : opK9 L a with _ | _
  · simp
  · rw [if_pos rfl, opZ_len]
    unfold opK9 at h
    rw [Bool.and_eq_true] at h
    have h12 := (good11_of h.1).max
    have := opL_len L a h12 L.length h12
    omega
theorem op_at {L : List PS} {l : Int} {k : Nat} (hk : k < (opR9 L l).length) : ∃ i j : Nat, pf (opR9 L l) k 0 = i ∧ pf (opR9 L l) k 1 = j ∧ i < L.length ∧ j < L.length ∧ (psAt L i).ln = l ∧ (psAt L j).ln = l := by
  rcases h : opK9 L l with _ | _
  · exfalso
    unfold opR9 at hk
    rw [h] at hk
    simp at hk
  · have e : opR9 L l = opZ (opL L l L.length) := by unfold opR9; rw [h, if_pos rfl]
    rw [e] at hk ⊢
    rw [opZ_len] at hk
    obtain ⟨q, hq⟩ : ∃ q, (opL L l L.length)[k]? = some q := ⟨_, List.getElem?_eq_getElem hk⟩
    have hz : (opZ (opL L l L.length))[k]? = some ((q.1 : Int), (q.2 : Int)) := by unfold opZ; rw [List.getElem?_map, hq]; rfl
    obtain ⟨a, b, c, d⟩ := opL_mem (Nat.le_refl _) (List.mem_of_getElem? hq)
    refine ⟨q.1, q.2, ?_, ?_, by omega, b, c, d⟩
    · unfold pf; rw [if_pos rfl, List.getD_eq_getElem?_getD, hz]; rfl
    · unfold pf; rw [if_neg (by omega), List.getD_eq_getElem?_getD, hz]; rfl
theorem lb_is {L : List PS} (h : lbG L = true) : Good11 L ∧ 2 ≤ L.length ∧ (∀ k, 1 ≤ k → k < L.length → brI L k ≤ lbY L - lbX L) ∧ 0 ≤ lbY L - lbX L ∧ lbY L - lbX L ≤ 10000 ∧ (0 ≤ lbX L ∧ lbX L ≤ 10000) ∧ (0 ≤ lbY L ∧ lbY L ≤ 10000) := by
  have hh := h
  unfold lbG at hh
  rw [Bool.and_eq_true] at hh
  have hg := good11_of hh.1
  have h2 := of_decide_eq_true hh.2
  obtain ⟨m1, m2⟩ := lbK_le L (L.length - 2)
  have hy := lb_yes h
  have e : brI L (lbK L (L.length - 2)) = lbY L - lbX L := by rw [hy.1, hy.2.1]; rfl
  have hbd := brI_bd hg (k := lbK L (L.length - 2)) m1 (by omega)
  rw [e] at hbd
  have g1 := hg.one (lbK L (L.length - 2)) (by omega)
  have g2 := hg.one (lbK L (L.length - 2) - 1) (by omega)
  have a1 := g1.b0
  have a2 := g1.be
  have a3 := g1.e1
  have b1 := g2.b0
  have b2 := g2.be
  have b3 := g2.e1
  refine ⟨hg, h2, fun k h1 hk => ?_, hbd.1, hbd.2, ?_, ?_⟩
  · rw [← e]; exact lbK_most L _ k h1 (by omega)
  · rw [hy.1]; omega
  · rw [hy.2.1]; omega
theorem ppR_len (L : List PS) (p : PS) : (ppR L p).length ≤ 13 := by
  unfold ppR
  rcases h : ppG L p with _ | _
  · simp
  · rw [if_pos rfl, ppL_len]
    unfold ppG at h
    rw [Bool.and_eq_true] at h
    have := (good11_of h.1).max
    omega
theorem pp_told {L : List PS} {p : PS} (h : ppG L p = true) : psB p = true ∧ mtK L p.ln = true ∧ mtK (ppR L p) p.ln = true ∧ mtR (ppR L p) p.ln = mtR L p.ln + (p.en - p.bg) ∧ (0 ≤ mtR L p.ln ∧ mtR L p.ln ≤ 10000) ∧ (0 ≤ mtR (ppR L p) p.ln ∧ mtR (ppR L p) p.ln ≤ 10000) ∧ 0 ≤ p.bg ∧ p.bg < p.en ∧ p.en ≤ 10000 := by
  have hh := h
  unfold ppG at hh
  rw [Bool.and_eq_true] at hh
  have e : ppR L p = ppL L p := by unfold ppR; rw [h, if_pos rfl]
  rw [e]
  have hp := pp_valid hh.2
  have hpg := (psB_iff p).1 hp
  have hln := inB_mk hpg.l0 hpg.l1
  have k1 := mt_3 hh.1 hln
  have k2 := mt_3 hh.2 hln
  refine ⟨hp, k1, k2, ?_, ?_, ?_, hpg.b0, hpg.be, hpg.e1⟩
  · rw [(mt_yes k1).1, (mt_yes k2).1]
    exact pp_minutes L p
  · rw [(mt_yes k1).1]; exact mnS_top (good11_of hh.1) _ (Nat.le_refl _)
  · rw [(mt_yes k2).1]; exact mnS_top (good11_of hh.2) _ (Nat.le_refl _)
set_option maxRecDepth 20000 in
set_option maxHeartbeats 12800000 in
theorem tailV33 {c0 : Code} (hc0 : Try.f4.body.bind (restAt 33) = some c0) (A : Option Addr) (n c : Nat) (w W0 : World) (hr : CodeRow w.heap.size A n w) (hb0 : Below w.heap.size w W0) (u1 u2 u3 u4 u5 u6 u7 u8 u9 u10 u11 u12 u13 u14 u15 u16 u17 u18 u19 u20 u21 u22 u23 u24 u25 u26 u27 u28 u29 u30 u31 u32 u33 u34 u35 u36 u37 u38 u39 u40 u41 u42 u43 u44 u45 u46 u47 u48 u49 u50 u51 u52 u53 u54 u55 u56 u57 u58 u59 u60 u61 u62 u63 u64 u65 u66 u67 u68 u69 u70 u71 u72 u73 u74 u75 u76 u77 u78 u79 u80 u81 u82 u83 u84 u85 u86 u87 u88 u89 u90 u91 u92 u93 u94 u95 u96 u97 u98 u99 u100 u101 u102 u103 u104 u105 u106 u107 u108 u109 u110 u111 u112 u113 u114 u115 u116 u117 u118 u119 u120 u121 u122 u123 u124 u125 u126 u127 u128 u129 u130 u131 u132 u133 u134 u135 u136 u137 u138 u139 u140 u141 u142 u143 u144 u145 u146 u147 u148 u149 u150 u151 u152 u153 u154 u155 u156 u157 u158 u159 u160 u161 u162 u163 u164 u165 u166 u167 u168 u169 u170 u171 u172 u173 u174 u175 u176 u177 u178 u179 u180 u181 u182 u183 u184 u185 u186 u187 u188 u189 u190 u191 u192 u193 u194 u195 u196 u197 u198 u199 u200 u201 u202 u203 u204 u205 u206 u207 u208 u209 u210 u211 u212 u213 u214 u215 u216 u217 u218 u219 u220 u221 u222 u223 u224 u225 u226 u227 u228 u229 u230 u231 u232 u233 u234 u235 u236 u237 u238 u239 u240 u241 u242 : Value) :
    c0.wp Try.prog (bodyPost Try.prog Try.f4 fun e w' => e = .returned (.bool true) ∧ Below w.heap.size w w') { tmps := #[.slice A n c, u1, u2, u3, u4, u5, u6, u7, u8, u9, u10, u11, u12, u13, u14, u15, u16, u17, u18, u19, u20, u21, u22, u23, u24, u25, u26, u27, u28, u29, u30, u31, u32, u33, u34, u35, u36, u37, u38, u39, u40, u41, u42, u43, u44, u45, u46, u47, u48, u49, u50, u51, u52, u53, u54, u55, u56, u57, u58, u59, u60, u61, u62, u63, u64, u65, u66, u67, u68, u69, u70, u71, u72, u73, u74, u75, u76, u77, u78, u79, u80, u81, u82, u83, u84, u85, u86, u87, u88, u89, u90, u91, u92, u93, u94, u95, u96, u97, u98, u99, u100, u101, u102, u103, u104, u105, u106, u107, u108, u109, u110, u111, u112, u113, u114, u115, u116, u117, u118, u119, u120, u121, u122, u123, u124, u125, u126, u127, u128, u129, u130, u131, u132, u133, u134, u135, u136, u137, u138, u139, u140, u141, u142, u143, u144, u145, u146, u147, u148, u149, u150, u151, u152, u153, u154, u155, u156, u157, u158, u159, u160, u161, u162, u163, u164, u165, u166, u167, u168, u169, u170, u171, u172, u173, u174, u175, u176, u177, u178, u179, u180, u181, u182, u183, u184, u185, u186, u187, u188, u189, u190, u191, u192, u193, u194, u195, u196, u197, u198, u199, u200, u201, u202, u203, u204, u205, u206, u207, u208, u209, u210, u211, u212, u213, u214, u215, u216, u217, u218, u219, u220, u221, u222, u223, u224, u225, u226, u227, u228, u229, u230, u231, u232, u233, u234, u235, u236, u237, u238, u239, u240, u241, u242], defers := [] } W0 := by
  cases (show Try.f4.body.bind (restAt 33) = some _ from rfl).symm.trans hc0
  have HRW := Lib.hid hr
  have HB0 := Lib.hid hb0
  clear hc0 hb0 hr
  go_wp2_with fail
  refine (draw_good A n c _ (HRW.out.below HB0.out HB0.out.size)).mono ?_
  rintro e w1 ⟨L, gb, cap, l, rfl, hl1, hcap1, hcm1, hS, hb⟩
  have HS1 := Lib.hid hS
  have HB1 := Lib.hid (bthen HB0.out hb HB0.out.size)
  have hm1 : L.length ≤ maxLen := by unfold maxLen; omega
  clear hS hb
  obtain ⟨AA1, hAA⟩ : ∃ AA : Option Addr, AA = some ⟨gb, 0, none⟩ := ⟨_, rfl⟩
  rw [← hAA] at HS1 ⊢
  clear hAA
  obtain ⟨N, HN⟩ : ∃ N, Hid (gsN L l = N) := ⟨_, Lib.hid rfl⟩
  obtain ⟨M, HM⟩ : ∃ M, Hid (gsD L l = M) := ⟨_, Lib.hid rfl⟩
  obtain ⟨K, HK⟩ : ∃ K, Hid (gsK L l = K) := ⟨_, Lib.hid rfl⟩
  go_wp2_with fail
  refine (share_impl _ _ _ L l _ HS1.out hm1).mono ?_
  unfold Num3J
  rw [HN.out, HM.out, HK.out]
  rintro e w2 ⟨rfl, hb⟩
  have HB2 := Lib.hid (bthen HB1.out hb HB1.out.size)
  have HS2 := Lib.hid (sds_atJ HS1.out hb)
  clear hb
  go_wp2_with fail
  refine (share_spec _ _ _ L l _ HS2.out hm1).mono ?_
  unfold Num3J
  rw [HN.out, HM.out, HK.out]
  rintro e w3 ⟨rfl, hb⟩
  have HB3 := Lib.hid (bthen HB2.out hb HB2.out.size)
  clear hb
  clear HN HM HK
  rcases K with _ | _
  · go_wp2_with fail
    go_ret
    exact ⟨ret_bool (by simp), HB3.out⟩
  · go_wp2_with fail
    go_ret
    exact ⟨ret_bool (by simp), HB3.out⟩
end Go.Proofs.Ytllfmjnniagjfaa
