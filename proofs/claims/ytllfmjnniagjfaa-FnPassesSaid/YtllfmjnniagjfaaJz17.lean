/-
  A piece of laws.FnPasses, from region 17 on. Conditions: stated at the theorem.
-/
import Derived.Test.YtllfmjnniagjfaaJz23
namespace Go.Proofs.Ytllfmjnniagjfaa
open Go.Joins Go.ChangeShapes Go.WideShapes Go.ChangeAt Go.RowKit Go.Deep
set_option linter.unusedVariables false

/-- The number of a code's first region. -/
def headAt : Code → Option Nat
  | .region j _ _ => some j
  | .seq a _ => headAt a
  | _ => none
/-- The code from the statement on whose first region has a number. -/
def fromAt (i : Nat) : Code → Option Code
  | .seq a b => if headAt a = some i then some (.seq a b) else match fromAt i a with | some c => some c | none => fromAt i b
  | .cond _ a b => match fromAt i a with | some c => some c | none => fromAt i b
  | _ => none
set_option maxRecDepth 20000 in
set_option maxHeartbeats 12800000 in
theorem tailZ17 {c0 : Code} (hc0 : Try.f3.body.bind (fromAt 17) = some c0) (A : Option Addr) (n c : Nat) (w W0 : World) (hr : CodeRow w.heap.size A n w) (hb0 : Below w.heap.size w W0) (AA A9 : Option Addr) (cap c9 lo : Nat) (L : List PS) (hl : L.length ≤ 13) (hs : SdsJ W0 W0.heap.size AA L.length L) (ht : IFun W0 lo W0.heap.size A9 (slR L).length (fun j => (slR L).getD j 0)) (u1 u2 u4 u5 u6 u7 u8 u10 u11 u12 u13 u14 u15 u16 u17 u18 u19 u20 u21 u22 u23 u24 u25 u26 u27 u28 u29 u30 u31 u32 u33 u34 u35 u36 u37 u38 u39 u40 u41 u42 u43 u44 u45 u46 u47 u48 u49 u50 u51 u52 u53 u54 u55 u56 u57 u58 u59 u60 u61 u62 u63 u64 u65 u66 u67 u68 u69 u70 u71 u72 u73 u74 u75 u76 u77 u78 u79 u80 u81 u82 u83 u84 u85 u86 u87 u88 u89 u90 u91 u92 u93 u94 u95 u96 u97 u98 u99 u100 u101 u102 u103 u104 u105 u106 u107 u108 u109 u110 u111 u112 u113 u114 u115 u116 u117 u118 u119 u120 u121 u122 u123 u124 u125 u126 u127 u128 u129 u130 u131 u132 u133 u134 u135 u136 u137 u138 u139 u140 u141 u142 u143 u144 u145 u146 u147 u148 u149 u150 u151 u152 u153 u154 u155 u156 u157 u158 u159 u160 u161 u162 u163 u164 u165 u166 u167 u168 u169 u170 u171 u172 u173 u174 u175 u176 u177 u178 u179 u180 u181 u182 u183 u184 u185 u186 u187 u188 u189 u190 u191 u192 u193 u194 u195 u196 u197 u198 u199 u200 u201 u202 u203 u204 u205 u206 u207 u208 u209 u210 u211 u212 u213 u214 u215 u216 u217 u218 u219 u220 u221 u222 u223 u224 u225 u226 u227 u228 u229 u230 u231 u232 u233 u234 u235 u236 u237 u238 u239 u240 u241 u242 u243 u244 u245 : Value) :
    c0.wp Try.prog (bodyPost Try.prog Try.f3 fun e w' => e = .returned (.bool true) ∧ Below w.heap.size w w') { tmps := #[.slice A n c, u1, u2, .slice AA L.length cap, u4, u5, u6, u7, u8, .slice A9 (slR L).length c9, u10, u11, u12, u13, u14, u15, u16, u17, u18, u19, u20, u21, u22, u23, u24, u25, u26, u27, u28, u29, u30, u31, u32, u33, u34, u35, u36, u37, u38, u39, u40, u41, u42, u43, u44, u45, u46, u47, u48, u49, u50, u51, u52, u53, u54, u55, u56, u57, u58, u59, u60, u61, u62, u63, u64, u65, u66, u67, u68, u69, u70, u71, u72, u73, u74, u75, u76, u77, u78, u79, u80, u81, u82, u83, u84, u85, u86, u87, u88, u89, u90, u91, u92, u93, u94, u95, u96, u97, u98, u99, u100, u101, u102, u103, u104, u105, u106, u107, u108, u109, u110, u111, u112, u113, u114, u115, u116, u117, u118, u119, u120, u121, u122, u123, u124, u125, u126, u127, u128, u129, u130, u131, u132, u133, u134, u135, u136, u137, u138, u139, u140, u141, u142, u143, u144, u145, u146, u147, u148, u149, u150, u151, u152, u153, u154, u155, u156, u157, u158, u159, u160, u161, u162, u163, u164, u165, u166, u167, u168, u169, u170, u171, u172, u173, u174, u175, u176, u177, u178, u179, u180, u181, u182, u183, u184, u185, u186, u187, u188, u189, u190, u191, u192, u193, u194, u195, u196, u197, u198, u199, u200, u201, u202, u203, u204, u205, u206, u207, u208, u209, u210, u211, u212, u213, u214, u215, u216, u217, u218, u219, u220, u221, u222, u223, u224, u225, u226, u227, u228, u229, u230, u231, u232, u233, u234, u235, u236, u237, u238, u239, u240, u241, u242, u243, u244, u245], defers := [] } W0 := by
  cases (show Try.f3.body.bind (fromAt 17) = some _ from rfl).symm.trans hc0
  have HRW := Lib.hid hr
  have HB0 := Lib.hid hb0
  have HS := Lib.hid hs
  have HT := Lib.hid ht
  have hmL : L.length ≤ maxLen := by unfold maxLen; omega
  have hsl := sl_len L
  clear hc0 hb0 hr hs ht
  go_wp2_with fail
  rename (Act → World → Prop) => KK
  rename (∀ (a : Act) (w : World), _ → KK a w) => aK
  have HKK := Lib.hid aK
  clear aK
  go_loopw [14] (fun i wr => ∃ k : Nat, k ≤ (slR L).length ∧ i = .int .i64 k ∧ Hid (Below W0.heap.size W0 wr)) (fun i _ => (slR L).length - (intOf i).toNat)
  case atStart => exact ⟨0, Nat.zero_le _, rfl, Lib.hid (Below.refl _ _)⟩
  case round =>
    obtain ⟨k, hk, rfl, hB⟩ := hrel
    have HBT := Lib.hid (bthen HB0.out hB.out HB0.out.size)
    by_cases hlt : k < (slR L).length
    rotate_left
    · go_wp2_with fail
      exact HKK.out _ _ (tailZ23 rfl A n c w _ HRW.out HBT.out _ _ _ _ _ _ _ _ _ _ _ _ _ _ _ _ _ _ _ _ _ _ _ _ _ _ _ _ _ _ _ _ _ _ _ _ _ _ _ _ _ _ _ _ _ _ _ _ _ _ _ _ _ _ _ _ _ _ _ _ _ _ _ _ _ _ _ _ _ _ _ _ _ _ _ _ _ _ _ _ _ _ _ _ _ _ _ _ _ _ _ _ _ _ _ _ _ _ _ _ _ _ _ _ _ _ _ _ _ _ _ _ _ _ _ _ _ _ _ _ _ _ _ _ _ _ _ _ _ _ _ _ _ _ _ _ _ _ _ _ _ _ _ _ _ _ _ _ _ _ _ _ _ _ _ _ _ _ _ _ _ _ _ _ _ _ _ _ _ _ _ _ _ _ _ _ _ _ _ _ _ _ _ _ _ _ _ _ _ _ _ _ _ _ _ _ _ _ _ _ _ _ _ _ _ _ _ _ _ _ _ _ _ _ _ _ _ _ _ _ _ _ _ _ _ _ _ _ _ _ _ _ _ _ _ _ _ _ _ _ _ _ _ _ _)
    obtain ⟨g, rfl, _, _, d0, _⟩ := (HT.out.on hB.out (Nat.le_refl _)) k hlt
    obtain ⟨hz, hin⟩ := sl_in hlt
    obtain ⟨y, hy⟩ : ∃ y, (slR L).getD k 0 = y := ⟨_, rfl⟩
    dsimp only at d0
    rw [hy] at d0 hin
    have hgs := gs_sailed hz hin
    clear hz hin hy
    obtain ⟨N, HN⟩ : ∃ N, Hid (gsN L y = N) := ⟨_, Lib.hid rfl⟩
    obtain ⟨M, HM⟩ : ∃ M, Hid (gsD L y = M) := ⟨_, Lib.hid rfl⟩
    rw [HN.out, HM.out] at hgs
    obtain ⟨hkk, h910, ⟨n0, n1⟩, ⟨m0, m1⟩⟩ := hgs
    have HKG := Lib.hid hkk
    have hd : decide (10 * N < 9 * M) = false := decide_eq_false (by omega)
    have HSB := Lib.hid (sds_atJ HS.out hB.out)
    clear hkk
    go_wp2_with fail
    refine (share_impl _ _ _ L y _ HSB.out hmL).mono ?_
    unfold Num3J
    rw [HN.out, HM.out, HKG.out]
    rintro e w5 ⟨rfl, hb⟩
    have HB5 := Lib.hid (bthen hB.out hb hB.out.size)
    clear hb
    clear d0
    go_wp2_with fail
    go_roundw
    case rel => exact ⟨k + 1, by omega, by go_num, HB5⟩
    case measure => simp [intOf]; omega
end Go.Proofs.Ytllfmjnniagjfaa
