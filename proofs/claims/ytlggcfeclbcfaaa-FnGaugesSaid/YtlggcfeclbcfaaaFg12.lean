/-
  A piece of laws.FnGauges, from region 12 on. Conditions: stated at the theorem.
-/
import Derived.Test.YtlggcfeclbcfaaaFg24
import Derived.Deep.DeepCutAuto
namespace Go.Proofs.Ytlggcfeclbcfaaa
open Go.Joins Go.ChangeShapes Go.WideShapes Go.ChangeAt Go.RowKit Go.Deep
set_option linter.unusedVariables false

set_option maxRecDepth 20000 in
set_option maxHeartbeats 12800000 in
theorem tail12 {c0 : Code} (hc0 : Try.f3.body.bind (restAt 12) = some c0) (A : Option Addr) (n c : Nat) (w W0 : World) (hr : CodeRow w.heap.size A n w) (hb0 : Below w.heap.size w W0) (u1 u2 u3 u4 u5 u6 u7 u8 u9 u10 u11 u12 u13 u14 u15 u16 u17 u18 u19 u20 u21 u22 u23 u24 u25 u26 u27 u28 u29 u30 u31 u32 u33 u34 u35 u36 u37 u38 u39 u40 u41 u42 u43 u44 u45 u46 u47 u48 u49 u50 u51 u52 u53 u54 u55 u56 u57 u58 u59 u60 u61 u62 u63 u64 u65 u66 u67 u68 u69 u70 u71 u72 u73 u74 u75 u76 u77 u78 u79 u80 u81 u82 u83 u84 u85 u86 u87 u88 u89 u90 u91 u92 u93 u94 u95 u96 u97 u98 u99 u100 u101 u102 u103 u104 u105 u106 u107 u108 u109 u110 u111 u112 u113 u114 u115 u116 u117 u118 u119 u120 u121 u122 u123 u124 u125 u126 u127 u128 u129 u130 u131 u132 u133 u134 u135 u136 u137 u138 u139 u140 u141 u142 u143 u144 u145 u146 u147 u148 u149 u150 u151 u152 u153 u154 u155 u156 u157 u158 u159 u160 u161 u162 u163 u164 u165 u166 u167 u168 u169 u170 u171 u172 u173 u174 u175 u176 u177 u178 u179 u180 u181 u182 u183 u184 u185 u186 u187 u188 u189 u190 u191 u192 u193 u194 u195 u196 u197 u198 u199 u200 u201 u202 u203 u204 u205 u206 u207 u208 u209 u210 u211 u212 u213 u214 u215 u216 u217 u218 u219 u220 u221 u222 u223 u224 u225 u226 u227 u228 u229 u230 u231 u232 u233 u234 u235 u236 u237 u238 u239 u240 u241 u242 u243 u244 u245 u246 u247 u248 u249 u250 u251 u252 u253 u254 u255 u256 u257 u258 u259 u260 u261 : Value) :
    c0.wp Try.prog (bodyPost Try.prog Try.f3 fun e w' => e = .returned (.bool true) ∧ Below w.heap.size w w') { tmps := #[.slice A n c, u1, u2, u3, u4, u5, u6, u7, u8, u9, u10, u11, u12, u13, u14, u15, u16, u17, u18, u19, u20, u21, u22, u23, u24, u25, u26, u27, u28, u29, u30, u31, u32, u33, u34, u35, u36, u37, u38, u39, u40, u41, u42, u43, u44, u45, u46, u47, u48, u49, u50, u51, u52, u53, u54, u55, u56, u57, u58, u59, u60, u61, u62, u63, u64, u65, u66, u67, u68, u69, u70, u71, u72, u73, u74, u75, u76, u77, u78, u79, u80, u81, u82, u83, u84, u85, u86, u87, u88, u89, u90, u91, u92, u93, u94, u95, u96, u97, u98, u99, u100, u101, u102, u103, u104, u105, u106, u107, u108, u109, u110, u111, u112, u113, u114, u115, u116, u117, u118, u119, u120, u121, u122, u123, u124, u125, u126, u127, u128, u129, u130, u131, u132, u133, u134, u135, u136, u137, u138, u139, u140, u141, u142, u143, u144, u145, u146, u147, u148, u149, u150, u151, u152, u153, u154, u155, u156, u157, u158, u159, u160, u161, u162, u163, u164, u165, u166, u167, u168, u169, u170, u171, u172, u173, u174, u175, u176, u177, u178, u179, u180, u181, u182, u183, u184, u185, u186, u187, u188, u189, u190, u191, u192, u193, u194, u195, u196, u197, u198, u199, u200, u201, u202, u203, u204, u205, u206, u207, u208, u209, u210, u211, u212, u213, u214, u215, u216, u217, u218, u219, u220, u221, u222, u223, u224, u225, u226, u227, u228, u229, u230, u231, u232, u233, u234, u235, u236, u237, u238, u239, u240, u241, u242, u243, u244, u245, u246, u247, u248, u249, u250, u251, u252, u253, u254, u255, u256, u257, u258, u259, u260, u261], defers := [] } W0 := by
  cases (show Try.f3.body.bind (restAt 12) = some _ from rfl).symm.trans hc0
  have HRW := Lib.hid hr
  have HBc := Lib.hid hb0
  clear hc0 hb0 hr
  go_wp2_with fail
  refine (draw_shift _ n c _ (HRW.out.below HBc.out HBc.out.size)).mono ?_
  rintro e w8 ⟨si, sn, sz, sR, sm, sc, ls, t, rfl, hll, hgm, hgn, hrow, hb⟩
  have HB8 := Lib.hid (bthen HBc.out hb HBc.out.size)
  have HNs := Lib.hid (show sn.size ≤ maxLen by unfold maxLen; omega)
  have HMs := Lib.hid (show sm ≤ maxLen by unfold maxLen; omega)
  have HLs := Lib.hid hll
  have HSs := Lib.hid hgm
  obtain ⟨W9, hW9⟩ : ∃ W, W = w8.alloc (.cells #[.int .i64 si, .string sn, .int .i64 sz, .slice sR sm sc] 26) := ⟨_, rfl⟩
  have HW9 : Hid (Below w8.heap.size w8 W9) := by rw [hW9]; exact Lib.hid ((Below.refl _ _).alloc (Nat.le_refl _) _)
  have HG9 : Hid (Has W9 w8.heap.size [.int .i64 si, .string sn, .int .i64 sz, .slice sR sm sc]) := by rw [hW9]; exact Lib.hid (by simpa using Has.new w8 #[.int .i64 si, .string sn, .int .i64 sz, .slice sR sm sc] 26)
  have HS9 := Lib.hid ((grow_own (GRow.on' hrow HW9.out (Nat.le_refl _)) hll).spots (Nat.le_refl _))
  have HB9 := Lib.hid (bthen HB8.out HW9.out HB8.out.size)
  have HE := Lib.hid hW9
  clear hW9 hb hrow hll hgm hgn
  go_upto_region 13 with fail
  rw [← HE.out]
  clear HE
  have hsm := HSs.out
  obtain ⟨K2, id2, ze2, nm2, L2, hSP, hL25, hn2, hfacts⟩ := sh_all si sz sn ls t HNs.out (by have := HLs.out; omega)
  have HSP := Lib.hid hSP
  have HLN2 := Lib.hid (show L2.length ≤ maxLen by unfold maxLen; omega)
  have HNN2 := Lib.hid hn2
  have HF2 := Lib.hid hfacts
  clear hSP hL25 hn2 hfacts hsm
  have g0 := HG9.out.at_ 0 _ rfl
  have g1 := HG9.out.at_ 1 _ rfl
  have g2 := HG9.out.at_ 2 _ rfl
  have g3 := HG9.out.at_ 3 _ rfl
  go_wp2_with fail
  refine (shift_impl si sz sn sR sm sc ls t _ HS9.out HMs.out HNs.out).mono ?_
  rw [HSP.out]
  rintro e w10 ⟨A5, c5, rfl, hO, hb, _⟩
  obtain ⟨W10, hW10⟩ : ∃ W, W = w10.alloc (.cells #[.int .i64 id2, .string nm2, .int .i64 ze2, .slice A5 L2.length c5] 26) := ⟨_, rfl⟩
  have HW10 : Hid (Below W9.heap.size W9 W10) := by rw [hW10]; exact Lib.hid (hb.alloc hb.size _)
  have HM10 : Hid (Has W10 w10.heap.size [.int .i64 id2, .string nm2, .int .i64 ze2, .slice A5 L2.length c5]) := by rw [hW10]; exact Lib.hid (by simpa using Has.new w10 #[.int .i64 id2, .string nm2, .int .i64 ze2, .slice A5 L2.length c5] 26)
  have HO10 : Hid (Own2 W10 W9.heap.size W10.heap.size A5 L2.length L2) := by rw [hW10]; exact Lib.hid ((hO.on ((Below.refl w10.heap.size w10).alloc (Nat.le_refl _) _) (Nat.le_refl _)).wide (Nat.le_refl _) (by simp))
  have HG10 := Lib.hid (HG9.out.next HW10.out)
  have HS10 := Lib.hid (spots_more HS9.out HW10.out)
  have HB10 := Lib.hid (bthen HB9.out HW10.out HB9.out.size)
  have HE := Lib.hid hW10
  clear hW10 hO hb g0 g1 g2 g3
  go_upto_region 14 with fail
  rw [← HE.out]
  clear HE
  have g0 := HG10.out.at_ 0 _ rfl
  have g1 := HG10.out.at_ 1 _ rfl
  have g2 := HG10.out.at_ 2 _ rfl
  have g3 := HG10.out.at_ 3 _ rfl
  go_wp2_with fail
  refine (shift_spec si sz sn sR sm sc ls t _ HS10.out HMs.out HNs.out).mono ?_
  rw [HSP.out]
  rintro e w11 ⟨A6, c6, rfl, hO, hb, _⟩
  obtain ⟨W11, hW11⟩ : ∃ W, W = w11.alloc (.cells #[.int .i64 id2, .string nm2, .int .i64 ze2, .slice A6 L2.length c6] 26) := ⟨_, rfl⟩
  have HW11 : Hid (Below W10.heap.size W10 W11) := by rw [hW11]; exact Lib.hid (hb.alloc hb.size _)
  have HX11 : Hid (Has W11 w11.heap.size [.int .i64 id2, .string nm2, .int .i64 ze2, .slice A6 L2.length c6]) := by rw [hW11]; exact Lib.hid (by simpa using Has.new w11 #[.int .i64 id2, .string nm2, .int .i64 ze2, .slice A6 L2.length c6] 26)
  have HO11 : Hid (Own2 W11 W10.heap.size W11.heap.size A6 L2.length L2) := by rw [hW11]; exact Lib.hid ((hO.on ((Below.refl w11.heap.size w11).alloc (Nat.le_refl _) _) (Nat.le_refl _)).wide (Nat.le_refl _) (by simp))
  have HM11 := Lib.hid (HM10.out.next HW11.out)
  have HO10' := Lib.hid ((HO10.out.on HW11.out (Nat.le_refl _)).wide (Nat.le_refl _) HW11.out.size)
  have HG11 := Lib.hid (HG10.out.next HW11.out)
  have HS11 := Lib.hid (spots_more HS10.out HW11.out)
  have HB11 := Lib.hid (bthen HB10.out HW11.out HB10.out.size)
  have HE := Lib.hid hW11
  clear hW11 hO hb g0 g1 g2 g3
  go_upto_region 15 with fail
  rw [← HE.out]
  clear HE
  have m0 := HM11.out.at_ 0 _ rfl
  have m1 := HM11.out.at_ 1 _ rfl
  have m2 := HM11.out.at_ 2 _ rfl
  have m3 := HM11.out.at_ 3 _ rfl
  have x0 := HX11.out.at_ 0 _ rfl
  have x1 := HX11.out.at_ 1 _ rfl
  have x2 := HX11.out.at_ 2 _ rfl
  have x3 := HX11.out.at_ 3 _ rfl
  go_wp2_with fail
  refine (rG_same id2 ze2 nm2 A5 A6 _ c5 c6 L2 _ (HO10'.out.spots (Nat.le_refl _)) (HO11.out.spots (Nat.le_refl _)) HLN2.out).mono ?_
  rintro e w12 ⟨rfl, hb⟩
  have HB12 := Lib.hid (bthen HB11.out hb HB11.out.size)
  have HM12 := Lib.hid (HM11.out.next hb)
  have HZ12 := Lib.hid (spots_more (HO10'.out.spots (Nat.le_refl _)) hb)
  have HG12 := Lib.hid (HG11.out.next hb)
  have HS12 := Lib.hid (spots_more HS11.out hb)
  clear hb m0 m1 m2 m3 x0 x1 x2 x3 HO10 HO11 HO10'
  go_wp2_with fail
  rename_i KK aK
  have HKK := Lib.hid aK
  clear aK
  go_loopw [17] (fun i wr => ∃ k : Nat, k ≤ sm ∧ i = .int .i64 k ∧ Hid (Below w12.heap.size w12 wr)) (fun i _ => sm - (intOf i).toNat)
  case atStart => exact ⟨0, Nat.zero_le _, rfl, Lib.hid (Below.refl _ _)⟩
  case round =>
    obtain ⟨k, hk, rfl, hB⟩ := hrel
    obtain ⟨W0, rfl⟩ : ∃ W : World, W = wr := ⟨_, rfl⟩
    have HGk := Lib.hid (HG12.out.next hB.out)
    have HBe := Lib.hid (bthen HB12.out hB.out HB12.out.size)
    have hsm := HSs.out
    have g3 := HGk.out.at_ 3 _ rfl
    by_cases hlt : k < sm
    · rcases K2 with _ | _
      · go_wp2_with fail
        exact HKK.out _ _ (tail24 rfl A n c w _ HRW.out HBe.out _ _ _ _ _ _ _ _ _ _ _ _ _ _ _ _ _ _ _ _ _ _ _ _ _ _ _ _ _ _ _ _ _ _ _ _ _ _ _ _ _ _ _ _ _ _ _ _ _ _ _ _ _ _ _ _ _ _ _ _ _ _ _ _ _ _ _ _ _ _ _ _ _ _ _ _ _ _ _ _ _ _ _ _ _ _ _ _ _ _ _ _ _ _ _ _ _ _ _ _ _ _ _ _ _ _ _ _ _ _ _ _ _ _ _ _ _ _ _ _ _ _ _ _ _ _ _ _ _ _ _ _ _ _ _ _ _ _ _ _ _ _ _ _ _ _ _ _ _ _ _ _ _ _ _ _ _ _ _ _ _ _ _ _ _ _ _ _ _ _ _ _ _ _ _ _ _ _ _ _ _ _ _ _ _ _ _ _ _ _ _ _ _ _ _ _ _ _ _ _ _ _ _ _ _ _ _ _ _ _ _ _ _ _ _ _ _ _ _ _ _ _ _ _ _ _ _ _ _ _ _ _ _ _ _ _ _ _ _ _ _ _ _ _ _ _ _ _ _ _ _ _ _ _ _ _ _ _ _ _ _)
      · obtain ⟨b2, o2, x, y, rfl, hb2, hl2, q0, q1⟩ := (spots_more HS12.out hB.out).2 k hlt
        obtain ⟨hk1, hk2, hv1, hv2⟩ := HF2.out rfl k x y hl2
        have HK1 := Lib.hid (And.intro hk1 hv1)
        have HK2 := Lib.hid (And.intro hk2 hv2)
        have HSk := Lib.hid (spots_more HS12.out hB.out)
        have HMk := Lib.hid (HM12.out.next hB.out)
        have HZk := Lib.hid (spots_more HZ12.out hB.out)
        clear hl2 hk1 hk2 hv1 hv2
        have g0 := HGk.out.at_ 0 _ rfl
        have g1 := HGk.out.at_ 1 _ rfl
        have g2 := HGk.out.at_ 2 _ rfl
        go_wp2_with fail
        have lc0 := lcell (g0)
        have lc1 := lcell (g1)
        have lc2 := lcell (g2)
        have lc3 := lcell (g3)
        have lc4 := lcell (q0)
        refine region_later (W := W0) (by kernel_rfl) (by kernel_rfl) (Below.refl _ _) ?_
        repeat (go_big_quiet_step (((go_at_call 10; exact later_call (height_known HK1.out.1 HK1.out.2 _ (spots_more HSk.out (Later.below _)) HMs.out HNs.out)))))
        refine wpQuiet_nil ?_
        intro W1 hW1
        have HL : Hid (Below W0.heap.size W0 W1) := by obtain ⟨x, rfl⟩ := hW1; exact Lib.hid x.below
        clear hW1 lc0 lc1 lc2 lc3 lc4
        have HL1 := Lib.hid HL.out
        have HM1 := Lib.hid (HMk.out.next HL1.out)
        have HZ1 := Lib.hid (spots_more HZk.out HL1.out)
        have q0 := cell_next HL1.out q0
        have g3 := cell_next HL1.out g3
        clear HL g0 g1 g2
        have m0 := HM1.out.at_ 0 _ rfl
        have m1 := HM1.out.at_ 1 _ rfl
        have m2 := HM1.out.at_ 2 _ rfl
        have m3 := HM1.out.at_ 3 _ rfl
        go_wp2_with fail
        have lc0 := lcell (m0)
        have lc1 := lcell (m1)
        have lc2 := lcell (m2)
        have lc3 := lcell (m3)
        have lc4 := lcell (g3)
        have lc5 := lcell (q0)
        refine region_later (W := W1) (by kernel_rfl) (by kernel_rfl) (Below.refl _ _) ?_
        repeat (go_big_quiet_step (((go_at_call 10; exact later_call (height_known HK2.out.1 HK2.out.2 _ (spots_more HZ1.out (Later.below _)) HLN2.out HNN2.out)))))
        refine wpQuiet_nil ?_
        intro W2 hW1
        have HL : Hid (Below W1.heap.size W1 W2) := by obtain ⟨x, rfl⟩ := hW1; exact Lib.hid x.below
        clear hW1 lc0 lc1 lc2 lc3 lc4 lc5
        have HT := Lib.hid (bthen (bthen hB.out HL1.out hB.out.size) HL.out (Nat.le_trans hB.out.size HL1.out.size))
        clear HL m0 m1 m2 m3 g3 q0 q1
        go_wp2_with fail
        go_roundw
        case rel => exact ⟨k + 1, by omega, by go_num, HT⟩
        case measure => simp [intOf]; omega
    · obtain rfl : k = sm := by omega
      go_wp2_with fail
      exact HKK.out _ _ (tail24 rfl A n c w _ HRW.out HBe.out _ _ _ _ _ _ _ _ _ _ _ _ _ _ _ _ _ _ _ _ _ _ _ _ _ _ _ _ _ _ _ _ _ _ _ _ _ _ _ _ _ _ _ _ _ _ _ _ _ _ _ _ _ _ _ _ _ _ _ _ _ _ _ _ _ _ _ _ _ _ _ _ _ _ _ _ _ _ _ _ _ _ _ _ _ _ _ _ _ _ _ _ _ _ _ _ _ _ _ _ _ _ _ _ _ _ _ _ _ _ _ _ _ _ _ _ _ _ _ _ _ _ _ _ _ _ _ _ _ _ _ _ _ _ _ _ _ _ _ _ _ _ _ _ _ _ _ _ _ _ _ _ _ _ _ _ _ _ _ _ _ _ _ _ _ _ _ _ _ _ _ _ _ _ _ _ _ _ _ _ _ _ _ _ _ _ _ _ _ _ _ _ _ _ _ _ _ _ _ _ _ _ _ _ _ _ _ _ _ _ _ _ _ _ _ _ _ _ _ _ _ _ _ _ _ _ _ _ _ _ _ _ _ _ _ _ _ _ _ _ _ _ _ _ _ _ _ _ _ _ _ _ _ _ _ _ _ _ _ _ _)
end Go.Proofs.Ytlggcfeclbcfaaa
