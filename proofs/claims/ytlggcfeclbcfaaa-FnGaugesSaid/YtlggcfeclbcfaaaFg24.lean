/-
  A piece of laws.FnGauges, from region 24 on. Conditions: stated at the theorem.
-/
import Derived.Test.YtlggcfeclbcfaaaFg36
import Derived.Deep.DeepCutAuto
namespace Go.Proofs.Ytlggcfeclbcfaaa
open Go.Joins Go.ChangeShapes Go.WideShapes Go.ChangeAt Go.RowKit Go.Deep
set_option linter.unusedVariables false

set_option maxRecDepth 20000 in
set_option maxHeartbeats 12800000 in
theorem tail24 {c0 : Code} (hc0 : Try.f3.body.bind (restAt 24) = some c0) (A : Option Addr) (n c : Nat) (w W0 : World) (hr : CodeRow w.heap.size A n w) (hb0 : Below w.heap.size w W0) (u1 u2 u3 u4 u5 u6 u7 u8 u9 u10 u11 u12 u13 u14 u15 u16 u17 u18 u19 u20 u21 u22 u23 u24 u25 u26 u27 u28 u29 u30 u31 u32 u33 u34 u35 u36 u37 u38 u39 u40 u41 u42 u43 u44 u45 u46 u47 u48 u49 u50 u51 u52 u53 u54 u55 u56 u57 u58 u59 u60 u61 u62 u63 u64 u65 u66 u67 u68 u69 u70 u71 u72 u73 u74 u75 u76 u77 u78 u79 u80 u81 u82 u83 u84 u85 u86 u87 u88 u89 u90 u91 u92 u93 u94 u95 u96 u97 u98 u99 u100 u101 u102 u103 u104 u105 u106 u107 u108 u109 u110 u111 u112 u113 u114 u115 u116 u117 u118 u119 u120 u121 u122 u123 u124 u125 u126 u127 u128 u129 u130 u131 u132 u133 u134 u135 u136 u137 u138 u139 u140 u141 u142 u143 u144 u145 u146 u147 u148 u149 u150 u151 u152 u153 u154 u155 u156 u157 u158 u159 u160 u161 u162 u163 u164 u165 u166 u167 u168 u169 u170 u171 u172 u173 u174 u175 u176 u177 u178 u179 u180 u181 u182 u183 u184 u185 u186 u187 u188 u189 u190 u191 u192 u193 u194 u195 u196 u197 u198 u199 u200 u201 u202 u203 u204 u205 u206 u207 u208 u209 u210 u211 u212 u213 u214 u215 u216 u217 u218 u219 u220 u221 u222 u223 u224 u225 u226 u227 u228 u229 u230 u231 u232 u233 u234 u235 u236 u237 u238 u239 u240 u241 u242 u243 u244 u245 u246 u247 u248 u249 u250 u251 u252 u253 u254 u255 u256 u257 u258 u259 u260 u261 : Value) :
    c0.wp Try.prog (bodyPost Try.prog Try.f3 fun e w' => e = .returned (.bool true) ∧ Below w.heap.size w w') { tmps := #[.slice A n c, u1, u2, u3, u4, u5, u6, u7, u8, u9, u10, u11, u12, u13, u14, u15, u16, u17, u18, u19, u20, u21, u22, u23, u24, u25, u26, u27, u28, u29, u30, u31, u32, u33, u34, u35, u36, u37, u38, u39, u40, u41, u42, u43, u44, u45, u46, u47, u48, u49, u50, u51, u52, u53, u54, u55, u56, u57, u58, u59, u60, u61, u62, u63, u64, u65, u66, u67, u68, u69, u70, u71, u72, u73, u74, u75, u76, u77, u78, u79, u80, u81, u82, u83, u84, u85, u86, u87, u88, u89, u90, u91, u92, u93, u94, u95, u96, u97, u98, u99, u100, u101, u102, u103, u104, u105, u106, u107, u108, u109, u110, u111, u112, u113, u114, u115, u116, u117, u118, u119, u120, u121, u122, u123, u124, u125, u126, u127, u128, u129, u130, u131, u132, u133, u134, u135, u136, u137, u138, u139, u140, u141, u142, u143, u144, u145, u146, u147, u148, u149, u150, u151, u152, u153, u154, u155, u156, u157, u158, u159, u160, u161, u162, u163, u164, u165, u166, u167, u168, u169, u170, u171, u172, u173, u174, u175, u176, u177, u178, u179, u180, u181, u182, u183, u184, u185, u186, u187, u188, u189, u190, u191, u192, u193, u194, u195, u196, u197, u198, u199, u200, u201, u202, u203, u204, u205, u206, u207, u208, u209, u210, u211, u212, u213, u214, u215, u216, u217, u218, u219, u220, u221, u222, u223, u224, u225, u226, u227, u228, u229, u230, u231, u232, u233, u234, u235, u236, u237, u238, u239, u240, u241, u242, u243, u244, u245, u246, u247, u248, u249, u250, u251, u252, u253, u254, u255, u256, u257, u258, u259, u260, u261], defers := [] } W0 := by
  cases (show Try.f3.body.bind (restAt 24) = some _ from rfl).symm.trans hc0
  have HRW := Lib.hid hr
  have HBc := Lib.hid hb0
  clear hc0 hb0 hr
  go_wp2_with fail
  refine (draw_gaps _ n c _ (HRW.out.below HBc.out HBc.out.size)).mono ?_
  rintro e w1 ⟨si, sn, sz, sR, sm, sc, ls, t, rfl, hll, hgm, hgn, hrow, hb⟩
  have HB1 := Lib.hid (bthen HBc.out hb HBc.out.size)
  have HNs := Lib.hid (show sn.size ≤ maxLen by unfold maxLen; omega)
  have HMs := Lib.hid (show sm ≤ maxLen by unfold maxLen; omega)
  have HLs := Lib.hid hll
  have HSs := Lib.hid hgm
  obtain ⟨W2, hW2⟩ : ∃ W, W = w1.alloc (.cells #[.int .i64 si, .string sn, .int .i64 sz, .slice sR sm sc] 26) := ⟨_, rfl⟩
  have HW2 : Hid (Below w1.heap.size w1 W2) := by rw [hW2]; exact Lib.hid ((Below.refl _ _).alloc (Nat.le_refl _) _)
  have HG2 : Hid (Has W2 w1.heap.size [.int .i64 si, .string sn, .int .i64 sz, .slice sR sm sc]) := by rw [hW2]; exact Lib.hid (by simpa using Has.new w1 #[.int .i64 si, .string sn, .int .i64 sz, .slice sR sm sc] 26)
  have HS2 := Lib.hid ((grow_own (GRow.on' hrow HW2.out (Nat.le_refl _)) hll).spots (Nat.le_refl _))
  have HB2 := Lib.hid (bthen HB1.out HW2.out HB1.out.size)
  have HE := Lib.hid hW2
  clear hW2 hb hrow hll hgm hgn
  go_upto_region 25 with fail
  rw [← HE.out]
  clear HE
  have g0 := HG2.out.at_ 0 _ rfl
  have g1 := HG2.out.at_ 1 _ rfl
  have g2 := HG2.out.at_ 2 _ rfl
  have g3 := HG2.out.at_ 3 _ rfl
  obtain ⟨K, hK⟩ : ∃ K, K = gpK si sz sn ls t := ⟨_, rfl⟩
  obtain ⟨L, hL⟩ : ∃ L, L = gpR si sz sn ls t := ⟨_, rfl⟩
  have HV := Lib.hid (And.intro hK hL)
  have HLN : Hid (L.length ≤ 1048576) := by rw [hL]; exact Lib.hid (gpR_len _ _ _ _ _)
  clear hK hL
  go_wp2_with fail
  refine (gaps_impl si sz sn sR sm sc ls t _ HS2.out HMs.out HNs.out).mono ?_
  rintro e w3 ⟨A3, c3, G3, he, hR, hb⟩
  rw [← HV.out.2, ← HV.out.1] at he
  rw [← HV.out.2] at hR
  subst he
  have HR3 := Lib.hid hR
  have HB3 := Lib.hid (bthen HB2.out hb HB2.out.size)
  have HG3 := Lib.hid (HG2.out.next hb)
  have HS3 := Lib.hid (spots_more HS2.out hb)
  clear hb hR g0 g1 g2 g3
  have g0 := HG3.out.at_ 0 _ rfl
  have g1 := HG3.out.at_ 1 _ rfl
  have g2 := HG3.out.at_ 2 _ rfl
  have g3 := HG3.out.at_ 3 _ rfl
  go_wp2_with fail
  refine (gaps_spec si sz sn sR sm sc ls t _ HS3.out HMs.out HNs.out).mono ?_
  rintro e w4 ⟨A4, c4, G4, he, hR, hb⟩
  rw [← HV.out.2, ← HV.out.1] at he
  rw [← HV.out.2] at hR
  subst he
  have HX4 := Lib.hid hR
  have HZ4 := Lib.hid hb.size
  have HR4 := Lib.hid (HR3.out.on hb (Nat.le_refl _))
  have HB4 := Lib.hid (bthen HB3.out hb HB3.out.size)
  have HG4 := Lib.hid (HG3.out.next hb)
  have HS4 := Lib.hid (spots_more HS3.out hb)
  clear hb hR g0 g1 g2 g3
  go_wp2_with fail
  refine (rT_same A3 A4 L.length c3 c4 _ _ _ _ G3 G4 (pf L) _ HR4.out HX4.out HZ4.out (Nat.le_refl _) HLN.out).mono ?_
  rintro e w5 ⟨rfl, hb⟩
  have HB5 := Lib.hid (bthen HB4.out hb HB4.out.size)
  have HG5 := Lib.hid (HG4.out.next hb)
  have HS5 := Lib.hid (spots_more HS4.out hb)
  have HR5 := Lib.hid ((HR4.out.on hb HZ4.out).wide (Nat.zero_le _) (Nat.le_trans HZ4.out hb.size))
  clear hb HR3 HR4 HX4 HZ4
  go_wp2_with fail
  rename_i KK aK
  have HKK := Lib.hid aK
  clear aK
  go_loopw [28] (fun i wr => ∃ k : Nat, k ≤ L.length ∧ i = .int .i64 k ∧ Hid (Below w5.heap.size w5 wr)) (fun i _ => L.length - (intOf i).toNat)
  case atStart => exact ⟨0, Nat.zero_le _, rfl, Lib.hid (Below.refl _ _)⟩
  case round =>
    obtain ⟨k, hk, rfl, hB⟩ := hrel
    obtain ⟨W0, rfl⟩ : ∃ W : World, W = wr := ⟨_, rfl⟩
    by_cases hlt : k < L.length
    · obtain ⟨a, b, hab⟩ : ∃ a b, L[k]? = some (a, b) := ⟨L[k].1, L[k].2, List.getElem?_eq_getElem hlt⟩
      obtain ⟨hka, hkb, hd0⟩ := gp_told (by rw [← HV.out.2]; exact hab)
      obtain ⟨g, gk, rfl, _, _, _, _, _, _, c1, hI⟩ := (HR5.out.on hB.out (Nat.le_refl _)).2.2 k hlt
      obtain ⟨gx, ha, _, _, d0, _⟩ := hI 0 (by decide)
      obtain ⟨gy, hb', _, _, d1, _⟩ := hI 1 (by decide)
      obtain rfl : gk = gx := by injection ha with h; injection h with h
      obtain rfl : gk = gy := by injection hb' with h; injection h with h
      have e0 : pf L k 0 = a := by unfold pf; simp [List.getD, hab]
      have e1 : pf L k 1 = b := by unfold pf; simp [List.getD, hab]
      rw [e0] at d0
      rw [e1] at d1
      have HKA := Lib.hid hka
      have HKB := Lib.hid hkb
      have HGk := Lib.hid (HG5.out.next hB.out)
      have HSk := Lib.hid (spots_more HS5.out hB.out)
      have HD := Lib.hid hd0
      clear hka hkb hd0 ha hb' hI hab e0 e1
      have g0 := HGk.out.at_ 0 _ rfl
      have g1 := HGk.out.at_ 1 _ rfl
      have g2 := HGk.out.at_ 2 _ rfl
      have g3 := HGk.out.at_ 3 _ rfl
      go_wp2_with fail
      have lc0 := lcell (g0)
      have lc1 := lcell (g1)
      have lc2 := lcell (g2)
      have lc3 := lcell (g3)
      have lc4 := lcell (c1)
      have lc5 := lcell (d0)
      refine region_later (W := W0) (by kernel_rfl) (by kernel_rfl) (Below.refl _ _) ?_
      repeat (go_big_quiet_step (((go_at_call 10; exact later_call (height_known HKA.out rfl _ (spots_more HSk.out (Later.below _)) HMs.out HNs.out)))))
      refine wpQuiet_nil ?_
      intro W1 hW1
      have HL : Hid (Below W0.heap.size W0 W1) := by obtain ⟨x, rfl⟩ := hW1; exact Lib.hid x.below
      clear hW1 lc0 lc1 lc2 lc3 lc4 lc5
      have HL1 := Lib.hid HL.out
      have HS1 := Lib.hid (spots_more HSk.out HL.out)
      have g0 := cell_next HL1.out g0
      have g1 := cell_next HL1.out g1
      have g2 := cell_next HL1.out g2
      have g3 := cell_next HL1.out g3
      have c1 := cell_next HL1.out c1
      have d0 := cell_next HL1.out d0
      have d1 := cell_next HL1.out d1
      clear HL
      go_wp2_with fail
      have lc0 := lcell (g0)
      have lc1 := lcell (g1)
      have lc2 := lcell (g2)
      have lc3 := lcell (g3)
      have lc4 := lcell (c1)
      have lc5 := lcell (d1)
      refine region_later (W := W1) (by kernel_rfl) (by kernel_rfl) (Below.refl _ _) ?_
      repeat (go_big_quiet_step (((go_at_call 10; exact later_call (height_known HKB.out rfl _ (spots_more HS1.out (Later.below _)) HMs.out HNs.out)))))
      refine wpQuiet_nil ?_
      intro W2 hW1
      have HL : Hid (Below W1.heap.size W1 W2) := by obtain ⟨x, rfl⟩ := hW1; exact Lib.hid x.below
      clear hW1 lc0 lc1 lc2 lc3 lc4 lc5
      have HL2 := Lib.hid HL.out
      have c1 := cell_next HL2.out c1
      have d0 := cell_next HL2.out d0
      have d1 := cell_next HL2.out d1
      clear HL g0 g1 g2 g3
      have ba := ht_time HKA.out
      have bb := ht_time HKB.out
      have hD : decide (b - a ≤ t) = false := decide_eq_false (by have := HD.out; omega)
      go_wp2_with fail
      have lc0 := lcell (c1)
      have lc1 := lcell (d0)
      have lc2 := lcell (d1)
      refine region_later (W := W2) (by kernel_rfl) (by kernel_rfl) (Below.refl _ _) ?_
      repeat (go_big_quiet_step (fail))
      refine wpQuiet_nil ?_
      intro W3 hW1
      have HL : Hid (Below W2.heap.size W2 W3) := by obtain ⟨x, rfl⟩ := hW1; exact Lib.hid x.below
      clear hW1 lc0 lc1 lc2
      have HT := Lib.hid (bthen (bthen (bthen hB.out HL1.out hB.out.size) HL2.out (Nat.le_trans hB.out.size HL1.out.size)) HL.out (Nat.le_trans hB.out.size (Nat.le_trans HL1.out.size HL2.out.size)))
      clear HL c1 d0 d1
      have hln := HLN.out
      go_wp2_with fail
      go_roundw
      case rel => exact ⟨k + 1, by omega, by go_num, HT⟩
      case measure => simp [intOf]; omega
    · obtain rfl : k = L.length := by omega
      have HBe := Lib.hid (bthen HB5.out hB.out HB5.out.size)
      go_wp2_with fail
      exact HKK.out _ _ (tail36 rfl A n c w _ HRW.out HBe.out _ _ _ _ _ _ _ _ _ _ _ _ _ _ _ _ _ _ _ _ _ _ _ _ _ _ _ _ _ _ _ _ _ _ _ _ _ _ _ _ _ _ _ _ _ _ _ _ _ _ _ _ _ _ _ _ _ _ _ _ _ _ _ _ _ _ _ _ _ _ _ _ _ _ _ _ _ _ _ _ _ _ _ _ _ _ _ _ _ _ _ _ _ _ _ _ _ _ _ _ _ _ _ _ _ _ _ _ _ _ _ _ _ _ _ _ _ _ _ _ _ _ _ _ _ _ _ _ _ _ _ _ _ _ _ _ _ _ _ _ _ _ _ _ _ _ _ _ _ _ _ _ _ _ _ _ _ _ _ _ _ _ _ _ _ _ _ _ _ _ _ _ _ _ _ _ _ _ _ _ _ _ _ _ _ _ _ _ _ _ _ _ _ _ _ _ _ _ _ _ _ _ _ _ _ _ _ _ _ _ _ _ _ _ _ _ _ _ _ _ _ _ _ _ _ _ _ _ _ _ _ _ _ _ _ _ _ _ _ _ _ _ _ _ _ _ _ _ _ _ _ _ _ _ _ _ _ _ _ _ _)
end Go.Proofs.Ytlggcfeclbcfaaa
