/-
  A piece of laws.FnDownTimes, from region 22 on. Conditions: stated at the theorem.
-/
import Derived.Test.YtdmnkmdlochogabYe
import Derived.Test.YtdmnkmdlochogabYr
import Derived.Test.YtdmnkmdlochogabOc
namespace Go.Proofs.Ytdmnkmdlochogab
open Go.Joins Go.ChangeShapes Go.WideShapes Go.ChangeAt Go.RowKit Go.Deep
set_option linter.unusedVariables false

/-- The code from the region with a number on. -/
def restAt (i : Nat) : Code → Option Code
  | .seq (.region j ops d) b => if j = i then some (.seq (.region j ops d) b) else restAt i b
  | .seq a b => match restAt i a with | some c => some c | none => restAt i b
  | .cond _ a b => match restAt i a with | some c => some c | none => restAt i b
  | _ => none
theorem wq64 {x F : Int} (h : x = F) (h0 : 0 ≤ F) (h1 : F ≤ 9000000000000000000) : wrap64 x = F ∧ IntKind.i64.wrap x = F := by
  subst h
  exact ⟨by unfold wrap64; omega, IntWalk.i64_in _ (by omega)⟩
theorem ifun_more {w w' : World} {n : Nat} {A : Option Addr} {f : Nat → Int} (h : ∃ lo, IFun w lo w.heap.size A n f) (hb : Below w.heap.size w w') : ∃ lo, IFun w' lo w'.heap.size A n f := by
  obtain ⟨lo, h⟩ := h
  refine ⟨lo, fun k hk => ?_⟩
  obtain ⟨g, hA, h1, h2, c0, f0⟩ := h.on hb (Nat.le_refl _) k hk
  exact ⟨g, hA, h1, Nat.lt_of_lt_of_le h2 hb.size, c0, f0⟩
set_option maxRecDepth 20000 in
set_option maxHeartbeats 12800000 in
theorem tail22 {c0 : Code} (hc0 : Try.f5.body.bind (restAt 22) = some c0) (A : Option Addr) (n c : Nat) (w W0 : World) (hr : CodeRow w.heap.size A n w) (hb0 : Below w.heap.size w W0) (u1 u2 u3 u4 u5 u6 u7 u8 u9 u10 u11 u12 u13 u14 u15 u16 u17 u18 u19 u20 u21 u22 u23 u24 u25 u26 u27 u28 u29 u30 u31 u32 u33 u34 u35 u36 u37 u38 u39 u40 u41 u42 u43 u44 u45 u46 u47 u48 u49 u50 u51 u52 u53 u54 u55 u56 u57 u58 u59 u60 u61 u62 u63 u64 u65 u66 u67 u68 u69 u70 u71 u72 u73 u74 u75 u76 u77 u78 u79 u80 u81 u82 u83 u84 u85 u86 u87 u88 u89 u90 u91 u92 u93 u94 u95 u96 u97 u98 u99 u100 u101 u102 u103 u104 u105 u106 u107 u108 u109 u110 u111 u112 u113 u114 u115 u116 u117 u118 u119 u120 u121 u122 u123 u124 u125 u126 u127 u128 u129 u130 u131 u132 u133 u134 u135 u136 u137 u138 u139 u140 u141 u142 u143 u144 u145 u146 u147 u148 u149 u150 u151 u152 u153 u154 u155 u156 u157 u158 u159 u160 u161 u162 u163 u164 u165 u166 u167 u168 u169 u170 u171 u172 u173 u174 u175 u176 u177 u178 u179 u180 u181 u182 u183 u184 u185 u186 u187 u188 u189 u190 u191 u192 u193 u194 u195 u196 u197 u198 u199 u200 u201 u202 u203 u204 u205 u206 u207 u208 u209 u210 u211 u212 u213 u214 u215 u216 u217 u218 u219 u220 u221 u222 u223 u224 u225 u226 u227 u228 u229 u230 u231 u232 u233 u234 u235 u236 u237 u238 u239 u240 u241 u242 u243 u244 u245 u246 u247 u248 u249 u250 u251 u252 u253 u254 u255 u256 u257 u258 u259 u260 u261 u262 u263 u264 : Value) :
    c0.wp Try.prog (bodyPost Try.prog Try.f5 fun e w' => e = .returned (.bool true) ∧ Below w.heap.size w w') { tmps := #[.slice A n c, u1, u2, u3, u4, u5, u6, u7, u8, u9, u10, u11, u12, u13, u14, u15, u16, u17, u18, u19, u20, u21, u22, u23, u24, u25, u26, u27, u28, u29, u30, u31, u32, u33, u34, u35, u36, u37, u38, u39, u40, u41, u42, u43, u44, u45, u46, u47, u48, u49, u50, u51, u52, u53, u54, u55, u56, u57, u58, u59, u60, u61, u62, u63, u64, u65, u66, u67, u68, u69, u70, u71, u72, u73, u74, u75, u76, u77, u78, u79, u80, u81, u82, u83, u84, u85, u86, u87, u88, u89, u90, u91, u92, u93, u94, u95, u96, u97, u98, u99, u100, u101, u102, u103, u104, u105, u106, u107, u108, u109, u110, u111, u112, u113, u114, u115, u116, u117, u118, u119, u120, u121, u122, u123, u124, u125, u126, u127, u128, u129, u130, u131, u132, u133, u134, u135, u136, u137, u138, u139, u140, u141, u142, u143, u144, u145, u146, u147, u148, u149, u150, u151, u152, u153, u154, u155, u156, u157, u158, u159, u160, u161, u162, u163, u164, u165, u166, u167, u168, u169, u170, u171, u172, u173, u174, u175, u176, u177, u178, u179, u180, u181, u182, u183, u184, u185, u186, u187, u188, u189, u190, u191, u192, u193, u194, u195, u196, u197, u198, u199, u200, u201, u202, u203, u204, u205, u206, u207, u208, u209, u210, u211, u212, u213, u214, u215, u216, u217, u218, u219, u220, u221, u222, u223, u224, u225, u226, u227, u228, u229, u230, u231, u232, u233, u234, u235, u236, u237, u238, u239, u240, u241, u242, u243, u244, u245, u246, u247, u248, u249, u250, u251, u252, u253, u254, u255, u256, u257, u258, u259, u260, u261, u262, u263, u264], defers := [] } W0 := by
  cases (show Try.f5.body.bind (restAt 22) = some _ from rfl).symm.trans hc0
  have HRW := Lib.hid hr
  have HB0 := Lib.hid hb0
  clear hc0 hb0 hr
  go_wp2_with fail
  refine (draw_bend A n c _ (HRW.out.below HB0.out HB0.out.size)).mono ?_
  rintro e w1 ⟨Ra, la, pa, rfl, hD⟩
  obtain ⟨⟨h6a, hma, hcpa, hcma⟩, hs, hb⟩ := hD
  have HBx2 := Lib.hid (bthen HB0.out hb HB0.out.size)
  clear hb
  have HSa := Lib.hid hs
  clear hs
  obtain ⟨V, hV⟩ : ∃ V, strB la = V := ⟨_, rfl⟩
  obtain ⟨N, hN⟩ : ∃ N, (bnR la).length = N := ⟨_, rfl⟩
  have hNl : N ≤ 1048576 := by rw [← hN]; exact bnR_len la
  have HVN := Lib.hid (And.intro hV hN)
  have hNV : (V = true → 1 ≤ la.length ∧ N = la.length - 1) ∧ (V = false → N = 0) := by
    refine ⟨fun h => ?_, fun h => ?_⟩
    · rw [h] at hV
      exact ⟨(str_parts hV).1.1, by rw [← hN, bn_yes hV, bnK_len]⟩
    · rw [h] at hV
      rw [← hN, bn_no hV]; rfl
  have HNV := Lib.hid hNV
  clear hV hN hNV
  go_wp2_with fail
  refine (bend_impl _ _ pa la _ HSa.out hma).mono ?_
  rintro e w3 ⟨Ai, ci, he, hO, hb⟩
  rw [HVN.out.1, HVN.out.2] at he
  rw [HVN.out.2] at hO
  subst he
  have HBx4 := Lib.hid (bthen HBx2.out hb HBx2.out.size)
  have HSa_4 := Lib.hid (spots_at HSa.out hb)
  clear hb
  have HIi : Hid (∃ lo, IFun w3 lo w3.heap.size Ai N (bnF la)) := Lib.hid ⟨_, hO⟩
  clear hO
  go_wp2_with fail
  refine (bend_spec _ _ pa la _ HSa_4.out hma).mono ?_
  rintro e w5 ⟨As, cs, he, hO, hb⟩
  rw [HVN.out.1, HVN.out.2] at he
  rw [HVN.out.2] at hO
  subst he
  have HBx6 := Lib.hid (bthen HBx4.out hb HBx4.out.size)
  have HSa_6 := Lib.hid (spots_at HSa_4.out hb)
  have HIi_6 := Lib.hid (ifun_more HIi.out hb)
  clear hb
  have HIs : Hid (∃ lo, IFun w5 lo w5.heap.size As N (bnF la)) := Lib.hid ⟨_, hO⟩
  clear hO
  go_wp2_with fail
  obtain ⟨loi, hIi⟩ := HIi_6.out
  obtain ⟨los, hIs⟩ := HIs.out
  refine (vI_same Ai As N ci cs _ _ _ _ _ _ hIi hIs hNl).mono ?_
  rintro e w' ⟨rfl, k7, rfl⟩
  obtain ⟨w7, hw7⟩ : ∃ W, W = w5.drewN k7 := ⟨_, rfl⟩
  have hb : Below w5.heap.size w5 w7 := hw7 ▸ bdrewN (Below.refl _ _) k7
  rw [← hw7]
  clear hw7 hIi hIs
  have HBx8 := Lib.hid (bthen HBx6.out hb HBx6.out.size)
  have HSa_8 := Lib.hid (spots_at HSa_6.out hb)
  have HIi_8 := Lib.hid (ifun_more HIi_6.out hb)
  clear hb
  have HVc : Hid (V = true → (N : Int) = (la.length : Int) - 1) := Lib.hid (fun h => by have := HNV.out.1 h; omega)
  have hcase : V = false ∨ (V = true ∧ (N : Int) = (la.length : Int) - 1) := by
    rcases V with _ | _
    · exact .inl rfl
    · exact .inr ⟨rfl, HVc.out rfl⟩
  rcases hcase with rfl | ⟨rfl, hNe⟩
  · have hN0 : N = 0 := HNV.out.2 rfl
    subst hN0
    go_wp2_with fail
    go_loopw [29] (fun i wr => ∃ k : Nat, k ≤ 0 ∧ i = .int .i64 k ∧ Hid (Below w7.heap.size w7 wr)) (fun i _ => 0 - (intOf i).toNat)
    case atStart => exact ⟨0, Nat.zero_le _, rfl, Lib.hid (Below.refl _ _)⟩
    case round =>
      obtain ⟨k, hk, rfl, hB⟩ := hrel
      obtain ⟨W1, rfl⟩ : ∃ W : World, W = wr := ⟨_, rfl⟩
      have HBk := Lib.hid (bthen HBx8.out hB.out HBx8.out.size)
      obtain rfl : k = 0 := by omega
      go_wp2_with fail
      go_ret
      exact ⟨rfl, HBk.out⟩
  · have hN1 := (HNV.out.1 rfl).1
    have HST := Lib.hid HVN.out.1
    go_wp2_with fail
    go_loopw [29] (fun i wr => ∃ k : Nat, k ≤ N ∧ i = .int .i64 k ∧ Hid (Below w7.heap.size w7 wr)) (fun i _ => N - (intOf i).toNat)
    case atStart => exact ⟨0, Nat.zero_le _, rfl, Lib.hid (Below.refl _ _)⟩
    case round =>
      obtain ⟨k, hk, rfl, hB⟩ := hrel
      obtain ⟨W1, rfl⟩ : ∃ W : World, W = wr := ⟨_, rfl⟩
      have HBk := Lib.hid (bthen HBx8.out hB.out HBx8.out.size)
      by_cases hlt : k < N
      · have HSk := Lib.hid (spots_at HSa_8.out hB.out)
        obtain ⟨lok, hik⟩ := (ifun_more HIi_8.out hB.out : ∃ lo, IFun W1 lo W1.heap.size Ai N (bnF la))
        obtain ⟨a, b, ha, hb2, ⟨ba1, ba2⟩, ⟨bb1, bb2⟩, ⟨da1, da2⟩, ⟨db1, db2⟩, hgt, hlt2⟩ := bend_law HST.out (k := k) (by omega)
        obtain ⟨z, hz⟩ : ∃ z, bnD la k = z := ⟨_, rfl⟩
        rw [hz] at hgt hlt2
        have hfz : bnF la k = z := by unfold bnF; rw [bn_yes HST.out, bnK, List.getD_eq_getElem?_getD, List.getElem?_map, List.getElem?_range (by omega)]; exact hz
        obtain ⟨X, hX⟩ : ∃ X, b.num * (a.den : Int) = X := ⟨_, rfl⟩
        obtain ⟨Y, hY⟩ : ∃ Y, a.num * (b.den : Int) = Y := ⟨_, rfl⟩
        have hXb := mulY_bd (a := b.num) (b := a.den) (m := 2890000) (n := 1700) bb1 bb2 (by omega) (by omega)
        have hYb := mulY_bd (a := a.num) (b := b.den) (m := 2890000) (n := 1700) ba1 ba2 (by omega) (by omega)
        rw [hX] at hXb hgt hlt2
        rw [hY] at hYb hgt hlt2
        obtain ⟨hX1, hX2⟩ := hXb
        obtain ⟨hY1, hY2⟩ := hYb
        have HOp : Hid (qN (slO la k 1 1) = a.num ∧ qD (slO la k 1 1) = a.den ∧ qK (slO la k 1 1) = true) := by rw [ha]; exact Lib.hid ⟨rfl, rfl, rfl⟩
        have HOq : Hid (qN (slO la ((k : Int) + 1) 1 1) = b.num ∧ qD (slO la ((k : Int) + 1) 1 1) = b.den ∧ qK (slO la ((k : Int) + 1) 1 1) = true) := by rw [hb2]; exact Lib.hid ⟨rfl, rfl, rfl⟩
        have HIK : Hid (∃ lo, IFun W1 lo W1.heap.size Ai N (bnF la)) := Lib.hid ⟨lok, hik⟩
        have HFZ := Lib.hid hfz
        clear ha hb2 hz hik hfz ba1 ba2 bb1 bb2
        go_wp2_with fail
        refine (slopeIn_impl _ _ pa la k 1 1 _ HSk.out hma hcpa hcma).mono ?_
        rintro e w59 ⟨he, hb⟩
        rw [HOp.out.1, HOp.out.2.1, HOp.out.2.2] at he
        subst he
        have HBx60 := Lib.hid (bthen hB.out hb hB.out.size)
        have HSa_60 := Lib.hid (spots_at HSk.out hb)
        have HIi_60 := Lib.hid (ifun_more HIK.out hb)
        clear hb
        go_wp2_with fail
        refine (slopeIn_impl _ _ pa la ((k : Int) + 1) 1 1 _ HSa_60.out hma hcpa hcma).mono ?_
        rintro e w61 ⟨he, hb⟩
        rw [HOq.out.1, HOq.out.2.1, HOq.out.2.2] at he
        subst he
        have HBx62 := Lib.hid (bthen HBx60.out hb HBx60.out.size)
        have HSa_62 := Lib.hid (spots_at HSa_60.out hb)
        have HIi_62 := Lib.hid (ifun_more HIi_60.out hb)
        clear hb
        obtain ⟨lo2, hi2⟩ := HIi_62.out
        obtain ⟨gi, rfl, _, _, ci0, _⟩ := hi2 k hlt
        rw [HFZ.out] at ci0
        have hcz : (0 < z ∧ ¬ z < 0 ∧ Y < X ∧ ¬ X < Y) ∨ (¬ 0 < z ∧ z < 0 ∧ ¬ Y < X ∧ X < Y) ∨ (¬ 0 < z ∧ ¬ z < 0 ∧ ¬ Y < X ∧ ¬ X < Y) := by omega
        have hcd : (decide (0 < z) = true ∧ decide (z < 0) = false ∧ decide (Y < X) = true ∧ decide (X < Y) = false) ∨ (decide (0 < z) = false ∧ decide (z < 0) = true ∧ decide (Y < X) = false ∧ decide (X < Y) = true) ∨ (decide (0 < z) = false ∧ decide (z < 0) = false ∧ decide (Y < X) = false ∧ decide (X < Y) = false) := by
          rcases hcz with ⟨a1, a2, a3, a4⟩ | ⟨a1, a2, a3, a4⟩ | ⟨a1, a2, a3, a4⟩
          · exact .inl ⟨decide_eq_true a1, decide_eq_false a2, decide_eq_true a3, decide_eq_false a4⟩
          · exact .inr (.inl ⟨decide_eq_false a1, decide_eq_true a2, decide_eq_false a3, decide_eq_true a4⟩)
          · exact .inr (.inr ⟨decide_eq_false a1, decide_eq_false a2, decide_eq_false a3, decide_eq_false a4⟩)
        clear hgt hlt2 hi2 hcz
        rcases hcd with ⟨e1, e2, e3, e4⟩ | ⟨e1, e2, e3, e4⟩ | ⟨e1, e2, e3, e4⟩
        all_goals
          go_wp2_with fail
          go_roundw
        all_goals first
          | exact ⟨k + 1, by omega, by go_num, HBx62⟩
          | (simp [intOf]; omega)
      · have hke : k = N := by omega
        subst hke
        go_wp2_with fail
        go_ret
        exact ⟨rfl, HBk.out⟩
end Go.Proofs.Ytdmnkmdlochogab
