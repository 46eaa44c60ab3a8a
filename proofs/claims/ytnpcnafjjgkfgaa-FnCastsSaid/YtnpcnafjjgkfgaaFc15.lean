/-
  A piece of laws.FnCasts, from region 15 on. Conditions: stated at the theorem.
-/
import Derived.Test.YtnpcnafjjgkfgaaFc25
namespace Go.Proofs.Ytnpcnafjjgkfgaa
open Go.Joins Go.ChangeShapes Go.WideShapes Go.ChangeAt Go.RowKit Go.Deep
set_option linter.unusedVariables false

set_option maxRecDepth 20000 in
set_option maxHeartbeats 12800000 in
theorem tail15 {c0 : Code} (hc0 : Try.f3.body.bind (restAt 15) = some c0) (A : Option Addr) (n c : Nat) (w W0 : World) (hr : CodeRow w.heap.size A n w) (hb0 : Below w.heap.size w W0) (u1 u2 u3 u4 u5 u6 u7 u8 u9 u10 u11 u12 u13 u14 u15 u16 u17 u18 u19 u20 u21 u22 u23 u24 u25 u26 u27 u28 u29 u30 u31 u32 u33 u34 u35 u36 u37 u38 u39 u40 u41 u42 u43 u44 u45 u46 u47 u48 u49 u50 u51 u52 u53 u54 u55 u56 u57 u58 u59 u60 u61 u62 u63 u64 u65 u66 u67 u68 u69 u70 u71 u72 u73 u74 u75 u76 u77 u78 u79 u80 u81 u82 u83 u84 u85 u86 u87 u88 u89 u90 u91 u92 u93 u94 u95 u96 u97 u98 u99 u100 u101 u102 u103 u104 u105 u106 u107 u108 u109 u110 u111 u112 u113 u114 u115 u116 u117 u118 u119 u120 u121 u122 u123 u124 u125 u126 u127 u128 u129 u130 u131 u132 u133 u134 u135 u136 u137 u138 u139 u140 u141 u142 u143 u144 u145 u146 u147 u148 u149 u150 u151 u152 u153 u154 u155 u156 u157 u158 u159 u160 u161 u162 u163 u164 u165 u166 u167 u168 u169 u170 u171 u172 u173 u174 u175 u176 u177 u178 u179 u180 u181 u182 u183 u184 u185 u186 u187 u188 u189 u190 u191 u192 u193 u194 u195 : Value) :
    c0.wp Try.prog (bodyPost Try.prog Try.f3 fun e w' => e = .returned (.bool true) ∧ Below w.heap.size w w') { tmps := #[.slice A n c, u1, u2, u3, u4, u5, u6, u7, u8, u9, u10, u11, u12, u13, u14, u15, u16, u17, u18, u19, u20, u21, u22, u23, u24, u25, u26, u27, u28, u29, u30, u31, u32, u33, u34, u35, u36, u37, u38, u39, u40, u41, u42, u43, u44, u45, u46, u47, u48, u49, u50, u51, u52, u53, u54, u55, u56, u57, u58, u59, u60, u61, u62, u63, u64, u65, u66, u67, u68, u69, u70, u71, u72, u73, u74, u75, u76, u77, u78, u79, u80, u81, u82, u83, u84, u85, u86, u87, u88, u89, u90, u91, u92, u93, u94, u95, u96, u97, u98, u99, u100, u101, u102, u103, u104, u105, u106, u107, u108, u109, u110, u111, u112, u113, u114, u115, u116, u117, u118, u119, u120, u121, u122, u123, u124, u125, u126, u127, u128, u129, u130, u131, u132, u133, u134, u135, u136, u137, u138, u139, u140, u141, u142, u143, u144, u145, u146, u147, u148, u149, u150, u151, u152, u153, u154, u155, u156, u157, u158, u159, u160, u161, u162, u163, u164, u165, u166, u167, u168, u169, u170, u171, u172, u173, u174, u175, u176, u177, u178, u179, u180, u181, u182, u183, u184, u185, u186, u187, u188, u189, u190, u191, u192, u193, u194, u195], defers := [] } W0 := by
  cases (show Try.f3.body.bind (restAt 15) = some _ from rfl).symm.trans hc0
  have HRW := Lib.hid hr
  have HB0 := Lib.hid hb0
  clear hc0 hb0 hr
  go_wp2_with fail
  refine (draw_thin A n c _ (HRW.out.below HB0.out HB0.out.size)).mono ?_
  rintro e w1 ⟨idx, tmx, spx, Rx, mx, cx, lx, rfl, hl, hm9, hO, hb⟩
  subst hl
  have hmx : lx.length ≤ maxLen := by unfold maxLen; omega
  have h9x := hm9
  have HBx2 := Lib.hid (bthen HB0.out hb HB0.out.size)
  clear hb
  have HSx := Lib.hid (hO.1.spots (Nat.le_refl _))
  clear hO hm9
  obtain ⟨W3, hW⟩ : ∃ W, W = w1.alloc (.cells #[.int .i64 idx, .int .i64 tmx, .int .i64 spx.1, .int .i64 spx.2, .slice Rx lx.length cx] 28) := ⟨_, rfl⟩
  have HXx : Hid (Has W3 w1.heap.size [.int .i64 idx, .int .i64 tmx, .int .i64 spx.1, .int .i64 spx.2, .slice Rx lx.length cx]) := by rw [hW]; exact Lib.hid (by simpa using Has.new w1 #[.int .i64 idx, .int .i64 tmx, .int .i64 spx.1, .int .i64 spx.2, .slice Rx lx.length cx] 28)
  have hb : Below w1.heap.size w1 W3 := by rw [hW]; exact (Below.refl _ _).alloc (Nat.le_refl _) _
  have HE := Lib.hid hW
  clear hW
  have HBx4 := Lib.hid (bthen HBx2.out hb HBx2.out.size)
  have HSx_4 := Lib.hid (spots_at HSx.out hb)
  clear hb
  go_upto_region 16 with fail
  rw [← HE.out]
  clear HE
  obtain ⟨K, hK⟩ : ∃ K, thOk idx tmx spx.1 spx.2 lx = K := ⟨_, rfl⟩
  obtain ⟨L, hL⟩ : ∃ L, thLs idx tmx spx.1 spx.2 lx = L := ⟨_, rfl⟩
  obtain ⟨I, hI⟩ : ∃ I, thId idx tmx spx.1 spx.2 lx = I := ⟨_, rfl⟩
  obtain ⟨T, hT⟩ : ∃ T, thTm idx tmx spx.1 spx.2 lx = T := ⟨_, rfl⟩
  obtain ⟨X, hX⟩ : ∃ X, thX idx tmx spx.1 spx.2 lx = X := ⟨_, rfl⟩
  obtain ⟨Y, hY⟩ : ∃ Y, thY idx tmx spx.1 spx.2 lx = Y := ⟨_, rfl⟩
  have hmL : L.length ≤ 1048576 := by rw [← hL]; exact thLs_len _ _ _ _ _ (by omega)
  have hmq : L.length ≤ maxLen := by unfold maxLen; omega
  have HTH := Lib.hid (And.intro hI (And.intro hT (And.intro hX (And.intro hY (And.intro hL hK)))))
  clear hK hL hI hT hX hY hmL
  have qx0 := HXx.out.at_ 0 _ rfl
  have qx1 := HXx.out.at_ 1 _ rfl
  have qx2 := HXx.out.at_ 2 _ rfl
  have qx3 := HXx.out.at_ 3 _ rfl
  have qx4 := HXx.out.at_ 4 _ rfl
  go_wp2_with fail
  refine (thin_impl _ _ _ _ _ _ _ lx _ HSx_4.out hmx).mono ?_
  rintro e w5 ⟨At, ct, he, hO, hb, _⟩
  rw [HTH.out.1, HTH.out.2.1, HTH.out.2.2.1, HTH.out.2.2.2.1, HTH.out.2.2.2.2.1, HTH.out.2.2.2.2.2] at he
  rw [HTH.out.2.2.2.2.1] at hO
  subst he
  clear qx0 qx1 qx2 qx3 qx4
  have HBx6 := Lib.hid (bthen HBx4.out hb HBx4.out.size)
  have HSx_6 := Lib.hid (spots_at HSx_4.out hb)
  have HXx_6 := Lib.hid (HXx.out.next hb)
  clear hb
  have HSt := Lib.hid (hO.spots (Nat.le_refl _))
  clear hO
  obtain ⟨W7, hW⟩ : ∃ W, W = w5.alloc (.cells #[.int .i64 I, .int .i64 T, .int .i64 X, .int .i64 Y, .slice At L.length ct] 28) := ⟨_, rfl⟩
  have HXt : Hid (Has W7 w5.heap.size [.int .i64 I, .int .i64 T, .int .i64 X, .int .i64 Y, .slice At L.length ct]) := by rw [hW]; exact Lib.hid (by simpa using Has.new w5 #[.int .i64 I, .int .i64 T, .int .i64 X, .int .i64 Y, .slice At L.length ct] 28)
  have hb : Below w5.heap.size w5 W7 := by rw [hW]; exact (Below.refl _ _).alloc (Nat.le_refl _) _
  have HE := Lib.hid hW
  clear hW
  have HBx8 := Lib.hid (bthen HBx6.out hb HBx6.out.size)
  have HSx_8 := Lib.hid (spots_at HSx_6.out hb)
  have HSt_8 := Lib.hid (spots_at HSt.out hb)
  have HXx_8 := Lib.hid (HXx_6.out.next hb)
  clear hb
  go_upto_region 17 with fail
  rw [← HE.out]
  clear HE
  have qx0 := HXx_8.out.at_ 0 _ rfl
  have qx1 := HXx_8.out.at_ 1 _ rfl
  have qx2 := HXx_8.out.at_ 2 _ rfl
  have qx3 := HXx_8.out.at_ 3 _ rfl
  have qx4 := HXx_8.out.at_ 4 _ rfl
  go_wp2_with fail
  refine (thin_spec _ _ _ _ _ _ _ lx _ HSx_8.out hmx).mono ?_
  rintro e w9 ⟨Au, cu, he, hO, hb, _⟩
  rw [HTH.out.1, HTH.out.2.1, HTH.out.2.2.1, HTH.out.2.2.2.1, HTH.out.2.2.2.2.1, HTH.out.2.2.2.2.2] at he
  rw [HTH.out.2.2.2.2.1] at hO
  subst he
  clear qx0 qx1 qx2 qx3 qx4
  have HBx10 := Lib.hid (bthen HBx8.out hb HBx8.out.size)
  have HSx_10 := Lib.hid (spots_at HSx_8.out hb)
  have HSt_10 := Lib.hid (spots_at HSt_8.out hb)
  have HXx_10 := Lib.hid (HXx_8.out.next hb)
  have HXt_10 := Lib.hid (HXt.out.next hb)
  clear hb
  have HSu := Lib.hid (hO.spots (Nat.le_refl _))
  clear hO
  obtain ⟨W11, hW⟩ : ∃ W, W = w9.alloc (.cells #[.int .i64 I, .int .i64 T, .int .i64 X, .int .i64 Y, .slice Au L.length cu] 28) := ⟨_, rfl⟩
  have HXu : Hid (Has W11 w9.heap.size [.int .i64 I, .int .i64 T, .int .i64 X, .int .i64 Y, .slice Au L.length cu]) := by rw [hW]; exact Lib.hid (by simpa using Has.new w9 #[.int .i64 I, .int .i64 T, .int .i64 X, .int .i64 Y, .slice Au L.length cu] 28)
  have hb : Below w9.heap.size w9 W11 := by rw [hW]; exact (Below.refl _ _).alloc (Nat.le_refl _) _
  have HE := Lib.hid hW
  clear hW
  have HBx12 := Lib.hid (bthen HBx10.out hb HBx10.out.size)
  have HSx_12 := Lib.hid (spots_at HSx_10.out hb)
  have HSt_12 := Lib.hid (spots_at HSt_10.out hb)
  have HSu_12 := Lib.hid (spots_at HSu.out hb)
  have HXx_12 := Lib.hid (HXx_10.out.next hb)
  have HXt_12 := Lib.hid (HXt_10.out.next hb)
  clear hb
  go_upto_region 18 with fail
  rw [← HE.out]
  clear HE
  have qt0 := HXt_12.out.at_ 0 _ rfl
  have qt1 := HXt_12.out.at_ 1 _ rfl
  have qt2 := HXt_12.out.at_ 2 _ rfl
  have qt3 := HXt_12.out.at_ 3 _ rfl
  have qt4 := HXt_12.out.at_ 4 _ rfl
  have qu0 := HXu.out.at_ 0 _ rfl
  have qu1 := HXu.out.at_ 1 _ rfl
  have qu2 := HXu.out.at_ 2 _ rfl
  have qu3 := HXu.out.at_ 3 _ rfl
  have qu4 := HXu.out.at_ 4 _ rfl
  go_wp2_with fail
  refine (rK_same _ _ _ _ _ _ _ _ _ L _ HSt_12.out HSu_12.out hmq).mono ?_
  rintro e w13 ⟨rfl, hb⟩
  clear qt0 qt1 qt2 qt3 qt4 qu0 qu1 qu2 qu3 qu4
  have HBx14 := Lib.hid (bthen HBx12.out hb HBx12.out.size)
  have HSx_14 := Lib.hid (spots_at HSx_12.out hb)
  have HSt_14 := Lib.hid (spots_at HSt_12.out hb)
  have HXx_14 := Lib.hid (HXx_12.out.next hb)
  have HXt_14 := Lib.hid (HXt_12.out.next hb)
  clear hb
  rcases K with _ | _
  · go_upto_if 109 with fail
    rename (Act → World → Prop) => KK
    rename (∀ (a : Act) (w : World), _ → KK a w) => aK
    have HKK := Lib.hid aK
    clear aK
    go_wp2_with fail
    exact HKK.out _ _ (tail25 rfl A n c w _ HRW.out HBx14.out _ _ _ _ _ _ _ _ _ _ _ _ _ _ _ _ _ _ _ _ _ _ _ _ _ _ _ _ _ _ _ _ _ _ _ _ _ _ _ _ _ _ _ _ _ _ _ _ _ _ _ _ _ _ _ _ _ _ _ _ _ _ _ _ _ _ _ _ _ _ _ _ _ _ _ _ _ _ _ _ _ _ _ _ _ _ _ _ _ _ _ _ _ _ _ _ _ _ _ _ _ _ _ _ _ _ _ _ _ _ _ _ _ _ _ _ _ _ _ _ _ _ _ _ _ _ _ _ _ _ _ _ _ _ _ _ _ _ _ _ _ _ _ _ _ _ _ _ _ _ _ _ _ _ _ _ _ _ _ _ _ _ _ _ _ _ _ _ _ _ _ _ _ _ _ _ _ _ _ _ _ _ _ _ _ _ _ _ _ _ _ _ _ _ _)
  · have hc : castB ⟨idx, tmx, spx.1, spx.2, lx⟩ = true := HTH.out.2.2.2.2.2
    obtain rfl : I = idx := by rw [← HTH.out.1]; unfold thId; rw [hc]; rfl
    obtain rfl : T = tmx := by rw [← HTH.out.2.1]; unfold thTm; rw [hc]; rfl
    obtain rfl : X = spx.1 := by rw [← HTH.out.2.2.1]; unfold thX; rw [hc]; rfl
    obtain rfl : Y = spx.2 := by rw [← HTH.out.2.2.2.1]; unfold thY; rw [hc]; rfl
    have hL : L = thin lx := by rw [← HTH.out.2.2.2.2.1]; unfold thLs; rw [hc]; rfl
    have hg := thin_good hc
    rw [← hL] at hg
    have HSL : Hid (slV ⟨I, T, spx.1, spx.2, lx⟩ ⟨I, T, spx.1, spx.2, L⟩ 0 = true ∧ slOk ⟨I, T, spx.1, spx.2, lx⟩ ⟨I, T, spx.1, spx.2, L⟩ 0 = true) := by
      have h1 : slOk ⟨I, T, spx.1, spx.2, lx⟩ ⟨I, T, spx.1, spx.2, L⟩ 0 = true := by unfold slOk; rw [hc, hg]; rfl
      exact Lib.hid ⟨by unfold slV; rw [h1]; show (true && samB lx L 0) = true; rw [hL, samB_thin (castB_lays hc)]; rfl, h1⟩
    have HTT : Hid (thId I T spx.1 spx.2 L = I ∧ thTm I T spx.1 spx.2 L = T ∧ thX I T spx.1 spx.2 L = spx.1 ∧ thY I T spx.1 spx.2 L = spx.2 ∧ thLs I T spx.1 spx.2 L = L ∧ thOk I T spx.1 spx.2 L = true) := Lib.hid ⟨by unfold thId; rw [hg]; rfl, by unfold thTm; rw [hg]; rfl, by unfold thX; rw [hg]; rfl, by unfold thY; rw [hg]; rfl, by unfold thLs; rw [hg]; show thin L = L; rw [hL]; exact thin_thin (castB_lays hc), hg⟩
    have HGD := Lib.hid hg
    clear hc hg hL
    go_upto_if 109 with fail
    rename (Act → World → Prop) => KK
    rename (∀ (a : Act) (w : World), _ → KK a w) => aK
    have HKK := Lib.hid aK
    clear aK
    have qx0 := HXx_14.out.at_ 0 _ rfl
    have qx1 := HXx_14.out.at_ 1 _ rfl
    have qx2 := HXx_14.out.at_ 2 _ rfl
    have qx3 := HXx_14.out.at_ 3 _ rfl
    have qx4 := HXx_14.out.at_ 4 _ rfl
    have qt0 := HXt_14.out.at_ 0 _ rfl
    have qt1 := HXt_14.out.at_ 1 _ rfl
    have qt2 := HXt_14.out.at_ 2 _ rfl
    have qt3 := HXt_14.out.at_ 3 _ rfl
    have qt4 := HXt_14.out.at_ 4 _ rfl
    go_wp2_with fail
    refine (same_impl _ _ _ _ _ _ _ _ _ _ _ _ _ _ _ lx L _ HSx_14.out HSt_14.out hmx hmq).mono ?_
    rintro e w15 ⟨he, hb⟩
    rw [HSL.out.1, HSL.out.2] at he
    subst he
    clear qx0 qx1 qx2 qx3 qx4 qt0 qt1 qt2 qt3 qt4
    have HBx16 := Lib.hid (bthen HBx14.out hb HBx14.out.size)
    have HSt_16 := Lib.hid (spots_at HSt_14.out hb)
    have HXt_16 := Lib.hid (HXt_14.out.next hb)
    clear hb
    have qt0 := HXt_16.out.at_ 0 _ rfl
    have qt1 := HXt_16.out.at_ 1 _ rfl
    have qt2 := HXt_16.out.at_ 2 _ rfl
    have qt3 := HXt_16.out.at_ 3 _ rfl
    have qt4 := HXt_16.out.at_ 4 _ rfl
    go_wp2_with fail
    refine (thin_impl _ _ _ _ _ _ _ L _ HSt_16.out hmq).mono ?_
    rintro e w17 ⟨Av, cv, he, hO, hb, _⟩
    rw [HTT.out.1, HTT.out.2.1, HTT.out.2.2.1, HTT.out.2.2.2.1, HTT.out.2.2.2.2.1, HTT.out.2.2.2.2.2] at he
    rw [HTT.out.2.2.2.2.1] at hO
    subst he
    clear qt0 qt1 qt2 qt3 qt4
    have HBx18 := Lib.hid (bthen HBx16.out hb HBx16.out.size)
    have HSt_18 := Lib.hid (spots_at HSt_16.out hb)
    have HXt_18 := Lib.hid (HXt_16.out.next hb)
    clear hb
    have HSv := Lib.hid (hO.spots (Nat.le_refl _))
    clear hO
    obtain ⟨W19, hW⟩ : ∃ W, W = w17.alloc (.cells #[.int .i64 I, .int .i64 T, .int .i64 spx.1, .int .i64 spx.2, .slice Av L.length cv] 28) := ⟨_, rfl⟩
    have HXv : Hid (Has W19 w17.heap.size [.int .i64 I, .int .i64 T, .int .i64 spx.1, .int .i64 spx.2, .slice Av L.length cv]) := by rw [hW]; exact Lib.hid (by simpa using Has.new w17 #[.int .i64 I, .int .i64 T, .int .i64 spx.1, .int .i64 spx.2, .slice Av L.length cv] 28)
    have hb : Below w17.heap.size w17 W19 := by rw [hW]; exact (Below.refl _ _).alloc (Nat.le_refl _) _
    have HE := Lib.hid hW
    clear hW
    have HBx20 := Lib.hid (bthen HBx18.out hb HBx18.out.size)
    have HSt_20 := Lib.hid (spots_at HSt_18.out hb)
    have HSv_20 := Lib.hid (spots_at HSv.out hb)
    have HXt_20 := Lib.hid (HXt_18.out.next hb)
    clear hb
    go_upto_region 23 with fail
    rw [← HE.out]
    clear HE
    have qv0 := HXv.out.at_ 0 _ rfl
    have qv1 := HXv.out.at_ 1 _ rfl
    have qv2 := HXv.out.at_ 2 _ rfl
    have qv3 := HXv.out.at_ 3 _ rfl
    have qv4 := HXv.out.at_ 4 _ rfl
    have qt0 := HXt_20.out.at_ 0 _ rfl
    have qt1 := HXt_20.out.at_ 1 _ rfl
    have qt2 := HXt_20.out.at_ 2 _ rfl
    have qt3 := HXt_20.out.at_ 3 _ rfl
    have qt4 := HXt_20.out.at_ 4 _ rfl
    go_wp2_with fail
    refine (rK_same _ _ _ _ _ _ _ _ _ L _ HSv_20.out HSt_20.out hmq).mono ?_
    rintro e w21 ⟨rfl, hb⟩
    clear qv0 qv1 qv2 qv3 qv4 qt0 qt1 qt2 qt3 qt4
    have HBx22 := Lib.hid (bthen HBx20.out hb HBx20.out.size)
    have HSt_22 := Lib.hid (spots_at HSt_20.out hb)
    have HXt_22 := Lib.hid (HXt_20.out.next hb)
    clear hb
    have qt0 := HXt_22.out.at_ 0 _ rfl
    have qt1 := HXt_22.out.at_ 1 _ rfl
    have qt2 := HXt_22.out.at_ 2 _ rfl
    have qt3 := HXt_22.out.at_ 3 _ rfl
    have qt4 := HXt_22.out.at_ 4 _ rfl
    go_wp2_with fail
    refine (isC_v _ _ _ _ _ _ _ L true HGD.out _ HSt_22.out hmq).mono ?_
    rintro e w23 ⟨rfl, hb⟩
    clear qt0 qt1 qt2 qt3 qt4
    have HBx24 := Lib.hid (bthen HBx22.out hb HBx22.out.size)
    clear hb
    go_wp2_with fail
    exact HKK.out _ _ (tail25 rfl A n c w _ HRW.out HBx24.out _ _ _ _ _ _ _ _ _ _ _ _ _ _ _ _ _ _ _ _ _ _ _ _ _ _ _ _ _ _ _ _ _ _ _ _ _ _ _ _ _ _ _ _ _ _ _ _ _ _ _ _ _ _ _ _ _ _ _ _ _ _ _ _ _ _ _ _ _ _ _ _ _ _ _ _ _ _ _ _ _ _ _ _ _ _ _ _ _ _ _ _ _ _ _ _ _ _ _ _ _ _ _ _ _ _ _ _ _ _ _ _ _ _ _ _ _ _ _ _ _ _ _ _ _ _ _ _ _ _ _ _ _ _ _ _ _ _ _ _ _ _ _ _ _ _ _ _ _ _ _ _ _ _ _ _ _ _ _ _ _ _ _ _ _ _ _ _ _ _ _ _ _ _ _ _ _ _ _ _ _ _ _ _ _ _ _ _ _ _ _ _ _ _ _)
end Go.Proofs.Ytnpcnafjjgkfgaa
