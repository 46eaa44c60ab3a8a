/-
  A piece of laws.FnFilters, from region 23 on. Conditions: stated at the theorem.
-/
import Derived.Test.YtjekmmekkfmplaaFi33
namespace Go.Proofs.Ytjekmmekkfmplaa
open Go.Joins Go.ChangeShapes Go.WideShapes Go.ChangeAt Go.RowKit Go.Deep
set_option linter.unusedVariables false

set_option maxRecDepth 20000 in
set_option maxHeartbeats 12800000 in
theorem tailF23 {c0 : Code} (hc0 : Try.f4.body.bind (restAt 23) = some c0) (A : Option Addr) (n c : Nat) (w W0 : World) (hr : CodeRow w.heap.size A n w) (hb0 : Below w.heap.size w W0) (u1 u2 u3 u4 u5 u6 u7 u8 u9 u10 u11 u12 u13 u14 u15 u16 u17 u18 u19 u20 u21 u22 u23 u24 u25 u26 u27 u28 u29 u30 u31 u32 u33 u34 u35 u36 u37 u38 u39 u40 u41 u42 u43 u44 u45 u46 u47 u48 u49 u50 u51 u52 u53 u54 u55 u56 u57 u58 u59 u60 u61 u62 u63 u64 u65 u66 u67 u68 u69 u70 u71 u72 u73 u74 u75 u76 u77 u78 u79 u80 u81 u82 u83 u84 u85 u86 u87 u88 u89 u90 u91 u92 u93 u94 u95 u96 u97 u98 u99 u100 u101 u102 u103 u104 u105 u106 u107 u108 u109 u110 u111 u112 u113 u114 u115 u116 u117 u118 u119 u120 u121 u122 u123 u124 u125 u126 u127 u128 u129 u130 u131 u132 u133 u134 u135 u136 u137 u138 u139 u140 u141 u142 u143 u144 u145 u146 u147 u148 u149 u150 u151 u152 u153 u154 u155 u156 u157 u158 u159 u160 u161 u162 u163 u164 u165 u166 u167 u168 u169 u170 u171 u172 u173 u174 u175 u176 u177 u178 u179 u180 u181 u182 u183 u184 u185 u186 u187 u188 u189 u190 u191 u192 u193 u194 u195 u196 u197 u198 u199 u200 u201 u202 u203 u204 u205 u206 u207 u208 u209 u210 u211 u212 u213 u214 u215 u216 u217 u218 u219 u220 u221 u222 u223 u224 u225 : Value) :
    c0.wp Try.prog (bodyPost Try.prog Try.f4 fun e w' => e = .returned (.bool true) ∧ Below w.heap.size w w') { tmps := #[.slice A n c, u1, u2, u3, u4, u5, u6, u7, u8, u9, u10, u11, u12, u13, u14, u15, u16, u17, u18, u19, u20, u21, u22, u23, u24, u25, u26, u27, u28, u29, u30, u31, u32, u33, u34, u35, u36, u37, u38, u39, u40, u41, u42, u43, u44, u45, u46, u47, u48, u49, u50, u51, u52, u53, u54, u55, u56, u57, u58, u59, u60, u61, u62, u63, u64, u65, u66, u67, u68, u69, u70, u71, u72, u73, u74, u75, u76, u77, u78, u79, u80, u81, u82, u83, u84, u85, u86, u87, u88, u89, u90, u91, u92, u93, u94, u95, u96, u97, u98, u99, u100, u101, u102, u103, u104, u105, u106, u107, u108, u109, u110, u111, u112, u113, u114, u115, u116, u117, u118, u119, u120, u121, u122, u123, u124, u125, u126, u127, u128, u129, u130, u131, u132, u133, u134, u135, u136, u137, u138, u139, u140, u141, u142, u143, u144, u145, u146, u147, u148, u149, u150, u151, u152, u153, u154, u155, u156, u157, u158, u159, u160, u161, u162, u163, u164, u165, u166, u167, u168, u169, u170, u171, u172, u173, u174, u175, u176, u177, u178, u179, u180, u181, u182, u183, u184, u185, u186, u187, u188, u189, u190, u191, u192, u193, u194, u195, u196, u197, u198, u199, u200, u201, u202, u203, u204, u205, u206, u207, u208, u209, u210, u211, u212, u213, u214, u215, u216, u217, u218, u219, u220, u221, u222, u223, u224, u225], defers := [] } W0 := by
  cases (show Try.f4.body.bind (restAt 23) = some _ from rfl).symm.trans hc0
  have HRW := Lib.hid hr
  have HB0 := Lib.hid hb0
  clear hc0 hb0 hr
  go_wp2_with fail
  refine (drawE_smooth A n c _ (HRW.out.below HB0.out HB0.out.size)).mono ?_
  rintro e w1 ⟨P, gp, cp, l, rfl, ⟨hlP, hiP⟩, hx, hb⟩
  have HP1 : Hid (IFun w1 0 w1.heap.size (some ⟨gp, 0, none⟩) P.length (fun j => P.getD j 0)) := Lib.hid (hiP.wide (Nat.zero_le _) (Nat.le_refl _))
  have HB1 := Lib.hid (bthen HB0.out hb HB0.out.size)
  clear hb hiP
  obtain ⟨AP1, hAA⟩ : ∃ AA : Option Addr, AA = some ⟨gp, 0, none⟩ := ⟨_, rfl⟩
  rw [← hAA] at HP1 ⊢
  clear hAA
  clear hx
  obtain ⟨X, HX⟩ : ∃ X, Hid (lsA P l = X) := ⟨_, Lib.hid rfl⟩
  obtain ⟨N, HN⟩ : ∃ N, Hid (lsM P l = N) := ⟨_, Lib.hid rfl⟩
  obtain ⟨K, HK⟩ : ∃ K, Hid (akB P l = K) := ⟨_, Lib.hid rfl⟩
  go_wp2_with fail
  refine (smooth_impl _ _ _ _ P l _ HP1.out (Nat.le_refl _) (by omega)).mono ?_
  unfold Num3E
  rw [HX.out, HN.out, HK.out]
  rintro e w2 ⟨rfl, hb⟩
  have HB2 := Lib.hid (bthen HB1.out hb HB1.out.size)
  have HP2 := Lib.hid (ifun_at HP1.out hb)
  clear hb
  go_wp2_with fail
  refine (smooth_spec _ _ _ _ P l _ HP2.out (Nat.le_refl _) (by omega)).mono ?_
  unfold Num3E
  rw [HX.out, HN.out, HK.out]
  rintro e w3 ⟨rfl, hb⟩
  have HB3 := Lib.hid (bthen HB2.out hb HB2.out.size)
  have HP3 := Lib.hid (ifun_at HP2.out hb)
  clear hb
  rcases K with _ | _
  · obtain rfl : X = 0 := by rw [← HX.out]; exact (ls_no HK.out).1
    obtain rfl : N = 0 := by rw [← HN.out]; exact (ls_no HK.out).2.1
    clear HX HN
    go_wp2_with fail
    rename (Act → World → Prop) => KK
    rename (∀ (a : Act) (w : World), _ → KK a w) => aK
    have HKK := Lib.hid aK
    clear aK
    go_loopw [27] (fun i wr => i = .int .i64 1 ∧ Hid (w3 = wr)) (fun i _ => 0)
    case atStart => exact ⟨rfl, Lib.hid rfl⟩
    case round =>
      obtain ⟨rfl, hW⟩ := hrel
      obtain rfl := hW.out
      go_wp2_with fail
      exact HKK.out _ _ (tailF33 rfl A n c w _ HRW.out HB3.out _ _ _ _ _ _ _ _ _ _ _ _ _ _ _ _ _ _ _ _ _ _ _ _ _ _ _ _ _ _ _ _ _ _ _ _ _ _ _ _ _ _ _ _ _ _ _ _ _ _ _ _ _ _ _ _ _ _ _ _ _ _ _ _ _ _ _ _ _ _ _ _ _ _ _ _ _ _ _ _ _ _ _ _ _ _ _ _ _ _ _ _ _ _ _ _ _ _ _ _ _ _ _ _ _ _ _ _ _ _ _ _ _ _ _ _ _ _ _ _ _ _ _ _ _ _ _ _ _ _ _ _ _ _ _ _ _ _ _ _ _ _ _ _ _ _ _ _ _ _ _ _ _ _ _ _ _ _ _ _ _ _ _ _ _ _ _ _ _ _ _ _ _ _ _ _ _ _ _ _ _ _ _ _ _ _ _ _ _ _ _ _ _ _ _ _ _ _ _ _ _ _ _ _ _ _ _ _ _ _ _ _ _ _ _ _ _ _ _ _ _ _ _ _ _)
  obtain ⟨a, m, e1, e2, hsum, hbest⟩ := ls_in HK.out
  obtain rfl : X = a := by rw [← HX.out, e1]
  obtain rfl : N = m := by rw [← HN.out, e2]
  obtain ⟨hT, hl1, hl2⟩ := ak_is HK.out
  have HT := Lib.hid hT
  have HBT := Lib.hid hbest
  clear HX HN e1 e2 hT hbest
  obtain ⟨W3, rfl⟩ : ∃ W : World, W = w3 := ⟨_, rfl⟩
  go_wp2_with fail
  rename (Act → World → Prop) => KK
  rename (∀ (a : Act) (w : World), _ → KK a w) => aK
  have HKK := Lib.hid aK
  clear aK
  go_loopw [27] (fun i wr => ∃ k : Nat, a + 1 ≤ k ∧ (k ≤ a + m ∨ k = a + 1) ∧ i = .int .i64 k ∧ Hid (Below W3.heap.size W3 wr)) (fun i _ => P.length + 2 - (intOf i).toNat)
  case atStart => exact ⟨a + 1, Nat.le_refl _, .inr rfl, by go_num, Lib.hid (Below.refl _ _)⟩
  case round =>
    obtain ⟨k, hk1, hk2, rfl, hB⟩ := hrel
    have HBB := Lib.hid (bthen HB3.out hB.out HB3.out.size)
    by_cases hlt : k < a + m
    · rcases k with _ | j
      · omega
      obtain ⟨b, eA, _, _, c0, _⟩ := (HP3.out.on hB.out (Nat.le_refl _)) (j + 1) (by omega)
      subst eA
      obtain ⟨b', e', _, _, d0, _⟩ := (HP3.out.on hB.out (Nat.le_refl _)) j (by omega)
      obtain rfl : b = b' := by injection e' with h; injection h
      clear e'
      have hx9 := HT.out.one (j + 1) (by omega)
      have hy9 := HT.out.one j (by omega)
      have hbv := HBT.out (j + 1) (by omega) hlt
      rw [Nat.add_sub_cancel] at hbv
      obtain ⟨x, hx⟩ : ∃ x, P.getD (j + 1) 0 = x := ⟨_, rfl⟩
      obtain ⟨y, hy⟩ : ∃ y, P.getD j 0 = y := ⟨_, rfl⟩
      dsimp only at c0 d0
      rw [hx] at c0 hx9 hbv
      rw [hy] at d0 hy9 hbv
      obtain ⟨v, hv⟩ : ∃ v, szE (x - y) = v := ⟨_, rfl⟩
      rw [hv] at hbv
      have HV := Lib.hid hv
      have hd : decide (v > l) = false := decide_eq_false (by omega)
      clear hx hy hv
      obtain ⟨W0, rfl⟩ : ∃ W : World, W = wr := ⟨_, rfl⟩
      go_wp2_with fail
      have lc0 := lcell (c0)
      have lc1 := lcell (d0)
      refine region_later (W := W0) (by kernel_rfl) (by kernel_rfl) (Below.refl _ _) ?_
      repeat (go_big_quiet_step (((go_at_call 44; with_reducible exact later_same (vSize_v _ _ HV.out _ (by omega) (by omega))))))
      refine wpQuiet_nil ?_
      intro W6 hW1
      have HL : Hid (Below W0.heap.size W0 W6) := by obtain ⟨x, rfl⟩ := hW1; exact Lib.hid x.below
      clear hW1 lc0 lc1
      have HB7 := Lib.hid (bthen hB.out HL.out hB.out.size)
      clear c0 d0
      go_wp2_with fail
      go_roundw
      case rel => exact ⟨j + 1 + 1, by omega, by omega, by go_num, HB7⟩
      case measure => simp [intOf]; omega
    · go_wp2_with fail
      exact HKK.out _ _ (tailF33 rfl A n c w _ HRW.out HBB.out _ _ _ _ _ _ _ _ _ _ _ _ _ _ _ _ _ _ _ _ _ _ _ _ _ _ _ _ _ _ _ _ _ _ _ _ _ _ _ _ _ _ _ _ _ _ _ _ _ _ _ _ _ _ _ _ _ _ _ _ _ _ _ _ _ _ _ _ _ _ _ _ _ _ _ _ _ _ _ _ _ _ _ _ _ _ _ _ _ _ _ _ _ _ _ _ _ _ _ _ _ _ _ _ _ _ _ _ _ _ _ _ _ _ _ _ _ _ _ _ _ _ _ _ _ _ _ _ _ _ _ _ _ _ _ _ _ _ _ _ _ _ _ _ _ _ _ _ _ _ _ _ _ _ _ _ _ _ _ _ _ _ _ _ _ _ _ _ _ _ _ _ _ _ _ _ _ _ _ _ _ _ _ _ _ _ _ _ _ _ _ _ _ _ _ _ _ _ _ _ _ _ _ _ _ _ _ _ _ _ _ _ _ _ _ _ _ _ _ _ _ _ _ _ _)
end Go.Proofs.Ytjekmmekkfmplaa
