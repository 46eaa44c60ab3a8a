/-
  A piece of laws.FnGauges, from region 36 on. Conditions: stated at the theorem.
-/
import Derived.Test.YtlggcfeclbcfaaaGa
import Derived.Deep.DeepCutAuto
namespace Go.Proofs.Ytlggcfeclbcfaaa
open Go.Joins Go.ChangeShapes Go.WideShapes Go.ChangeAt Go.RowKit Go.Deep
set_option linter.unusedVariables false

/-- The code from the region with a number on. -/
def restAt (i : Nat) : Code → Option Code
  | .seq (.region j ops d) b => if j = i then some (.seq (.region j ops d) b) else restAt i b
  | .seq a b => match restAt i a with | some c => some c | none => restAt i b
  | .cond _ a b => match restAt i a with | some c => some c | none => restAt i b
  | _ => none
theorem height_known {id ze : Int} {nm : ByteArray} {A : Option Addr} {n c : Nat} {l : List (Int × Int)} {t v : Int} (hk : htK id ze nm l t = true) (hv : htV id ze nm l t = v) (w : World) (hs : Spots w w.heap.size A n l) (hm : n ≤ maxLen) (hn : nm.size ≤ maxLen) :
    Calls Try.prog 10 #[.agg #[.int .i64 id, .string nm, .int .i64 ze, .slice A n c], .int .i64 t] w fun e w' => e = .returned (.tuple #[.int .i64 v, .bool true]) ∧ Below w.heap.size w w' := by
  have h := height_impl id ze nm A n c l t w hs hm hn
  unfold HtPost at h
  rw [hk, hv] at h
  exact h
theorem ht_time {id ze : Int} {nm : ByteArray} {l : List (Int × Int)} {t : Int} (h : htK id ze nm l t = true) : 0 ≤ t ∧ t ≤ 10000 := by
  unfold htK at h
  rw [Bool.and_eq_true] at h
  have hlt : atK l t < l.length := of_decide_eq_true h.2
  have he : (l[atK l t].1 == t) = true := List.findIdx_getElem (w := hlt)
  have h1 := (read_at (good_of_gauge h.1).2.2.2.2 hlt).1
  rw [tm_get l _ hlt] at h1
  have : l[atK l t].1 = t := by simpa using he
  omega
set_option maxRecDepth 20000 in
set_option maxHeartbeats 12800000 in
theorem tail36 {c0 : Code} (hc0 : Try.f3.body.bind (restAt 36) = some c0) (A : Option Addr) (n c : Nat) (w W0 : World) (hr : CodeRow w.heap.size A n w) (hb0 : Below w.heap.size w W0) (u1 u2 u3 u4 u5 u6 u7 u8 u9 u10 u11 u12 u13 u14 u15 u16 u17 u18 u19 u20 u21 u22 u23 u24 u25 u26 u27 u28 u29 u30 u31 u32 u33 u34 u35 u36 u37 u38 u39 u40 u41 u42 u43 u44 u45 u46 u47 u48 u49 u50 u51 u52 u53 u54 u55 u56 u57 u58 u59 u60 u61 u62 u63 u64 u65 u66 u67 u68 u69 u70 u71 u72 u73 u74 u75 u76 u77 u78 u79 u80 u81 u82 u83 u84 u85 u86 u87 u88 u89 u90 u91 u92 u93 u94 u95 u96 u97 u98 u99 u100 u101 u102 u103 u104 u105 u106 u107 u108 u109 u110 u111 u112 u113 u114 u115 u116 u117 u118 u119 u120 u121 u122 u123 u124 u125 u126 u127 u128 u129 u130 u131 u132 u133 u134 u135 u136 u137 u138 u139 u140 u141 u142 u143 u144 u145 u146 u147 u148 u149 u150 u151 u152 u153 u154 u155 u156 u157 u158 u159 u160 u161 u162 u163 u164 u165 u166 u167 u168 u169 u170 u171 u172 u173 u174 u175 u176 u177 u178 u179 u180 u181 u182 u183 u184 u185 u186 u187 u188 u189 u190 u191 u192 u193 u194 u195 u196 u197 u198 u199 u200 u201 u202 u203 u204 u205 u206 u207 u208 u209 u210 u211 u212 u213 u214 u215 u216 u217 u218 u219 u220 u221 u222 u223 u224 u225 u226 u227 u228 u229 u230 u231 u232 u233 u234 u235 u236 u237 u238 u239 u240 u241 u242 u243 u244 u245 u246 u247 u248 u249 u250 u251 u252 u253 u254 u255 u256 u257 u258 u259 u260 u261 : Value) :
    c0.wp Try.prog (bodyPost Try.prog Try.f3 fun e w' => e = .returned (.bool true) ∧ Below w.heap.size w w') { tmps := #[.slice A n c, u1, u2, u3, u4, u5, u6, u7, u8, u9, u10, u11, u12, u13, u14, u15, u16, u17, u18, u19, u20, u21, u22, u23, u24, u25, u26, u27, u28, u29, u30, u31, u32, u33, u34, u35, u36, u37, u38, u39, u40, u41, u42, u43, u44, u45, u46, u47, u48, u49, u50, u51, u52, u53, u54, u55, u56, u57, u58, u59, u60, u61, u62, u63, u64, u65, u66, u67, u68, u69, u70, u71, u72, u73, u74, u75, u76, u77, u78, u79, u80, u81, u82, u83, u84, u85, u86, u87, u88, u89, u90, u91, u92, u93, u94, u95, u96, u97, u98, u99, u100, u101, u102, u103, u104, u105, u106, u107, u108, u109, u110, u111, u112, u113, u114, u115, u116, u117, u118, u119, u120, u121, u122, u123, u124, u125, u126, u127, u128, u129, u130, u131, u132, u133, u134, u135, u136, u137, u138, u139, u140, u141, u142, u143, u144, u145, u146, u147, u148, u149, u150, u151, u152, u153, u154, u155, u156, u157, u158, u159, u160, u161, u162, u163, u164, u165, u166, u167, u168, u169, u170, u171, u172, u173, u174, u175, u176, u177, u178, u179, u180, u181, u182, u183, u184, u185, u186, u187, u188, u189, u190, u191, u192, u193, u194, u195, u196, u197, u198, u199, u200, u201, u202, u203, u204, u205, u206, u207, u208, u209, u210, u211, u212, u213, u214, u215, u216, u217, u218, u219, u220, u221, u222, u223, u224, u225, u226, u227, u228, u229, u230, u231, u232, u233, u234, u235, u236, u237, u238, u239, u240, u241, u242, u243, u244, u245, u246, u247, u248, u249, u250, u251, u252, u253, u254, u255, u256, u257, u258, u259, u260, u261], defers := [] } W0 := by
  cases (show Try.f3.body.bind (restAt 36) = some _ from rfl).symm.trans hc0
  have HRW := Lib.hid hr
  have HBc := Lib.hid hb0
  clear hc0 hb0 hr
  go_wp2_with fail
  refine (draw_height _ n c _ (HRW.out.below HBc.out HBc.out.size)).mono ?_
  rintro e w1 ⟨si, sn, sz, sR, sm, sc, ls, t, rfl, hll, hgm, hgn, hrow, hb⟩
  have HB1 := Lib.hid (bthen HBc.out hb HBc.out.size)
  have HNs := Lib.hid (show sn.size ≤ maxLen by unfold maxLen; omega)
  have HMs := Lib.hid (show sm ≤ maxLen by unfold maxLen; omega)
  have HLs := Lib.hid hll
  have HSs := Lib.hid hgm
  obtain ⟨W2, hW2⟩ : ∃ W, W = w1.alloc (.cells #[.int .i64 si, .string sn, .int .i64 sz, .slice sR sm sc] 26) := ⟨_, rfl⟩
  have HW2 : Hid (Below w1.heap.size w1 W2) := by rw [hW2]; exact Lib.hid ((Below.refl _ _).alloc (Nat.le_refl _) _)
  have HG2 : Hid (Has W2 w1.heap.size [.int .i64 si, .string sn, .int .i64 sz, .slice sR sm sc]) := by rw [hW2]; exact Lib.hid (by simpa using Has.new w1 #[.int .i64 si, .string sn, .int .i64 sz, .slice sR sm sc] 26)
  have HS2 := Lib.hid ((grow_own (GRow.on' hrow HW2.out (Nat.le_refl _)) hll).spots (Nat.le_refl _))
  have HB2 := Lib.hid (bthen HB1.out HW2.out HB1.out.size)
  have HE := Lib.hid hW2
  clear hW2 hb hrow hll hgm hgn
  go_upto_region 37 with fail
  rw [← HE.out]
  clear HE
  have g0 := HG2.out.at_ 0 _ rfl
  have g1 := HG2.out.at_ 1 _ rfl
  have g2 := HG2.out.at_ 2 _ rfl
  have g3 := HG2.out.at_ 3 _ rfl
  obtain ⟨V, hV⟩ : ∃ V, V = htV si sz sn ls t := ⟨_, rfl⟩
  obtain ⟨K, hK⟩ : ∃ K, K = htK si sz sn ls t := ⟨_, rfl⟩
  have HV := Lib.hid (And.intro hV hK)
  clear hV hK
  go_wp2_with fail
  refine (height_impl si sz sn sR sm sc ls t _ HS2.out HMs.out HNs.out).mono ?_
  rintro e w3 ⟨he, hb⟩
  rw [← HV.out.1, ← HV.out.2] at he
  subst he
  have HB3 := Lib.hid (bthen HB2.out hb HB2.out.size)
  have HG3 := Lib.hid (HG2.out.next hb)
  have HS3 := Lib.hid (spots_more HS2.out hb)
  clear hb g0 g1 g2 g3
  have g0 := HG3.out.at_ 0 _ rfl
  have g1 := HG3.out.at_ 1 _ rfl
  have g2 := HG3.out.at_ 2 _ rfl
  have g3 := HG3.out.at_ 3 _ rfl
  go_wp2_with fail
  refine (height_spec si sz sn sR sm sc ls t _ HS3.out HMs.out HNs.out).mono ?_
  rintro e w4 ⟨he, hb⟩
  rw [← HV.out.1, ← HV.out.2] at he
  subst he
  have HB4 := Lib.hid (bthen HB3.out hb HB3.out.size)
  clear hb g0 g1 g2 g3
  go_wp2_with fail
  go_ret
  exact ⟨by simp, HB4.out⟩
end Go.Proofs.Ytlggcfeclbcfaaa
