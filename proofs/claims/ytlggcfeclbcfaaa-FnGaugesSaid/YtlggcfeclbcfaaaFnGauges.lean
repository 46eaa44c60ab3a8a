/-
  Proved here: for every code the law laws.FnGauges returns true (a reading that is added is told, heights stay when the zero is shifted, gaps lie between readings), and the argument reads afterwards as before.
  Conditions: none beyond the row's own.
-/
import Derived.Test.YtlggcfeclbcfaaaFg12
import Derived.Deep.DeepCutAuto
namespace Go.Proofs.Ytlggcfeclbcfaaa.fnGauges
open Go.Joins Go.ChangeShapes Go.WideShapes Go.ChangeAt Go.RowKit Go.Deep
set_option linter.unusedVariables false

/-! ### The walk: the Go text returns true, and nothing that was there has turned. -/
set_option maxRecDepth 20000 in
set_option maxHeartbeats 12800000 in
theorem walk (A : Option Addr) (n c : Nat) (w : World) (hm : n ≤ maxLen) (hr : CodeRow w.heap.size A n w) :
    Calls Try.prog 3 #[.slice A n c] w fun e w' => e = .returned (.bool true) ∧ Below w.heap.size w w' := by
  rcases hb0 : decide ((65536 : Int) < n) with _ | _
  rotate_left
  · have HV := Lib.hid hb0
    clear hb0
    go_enter Try.func3, Try.ntmps3
    go_wp2_with fail
    refine (rBig_any _ _ _ _ HV.out _).mono ?_
    rintro e w' ⟨rfl, rfl⟩
    go_wp2_with fail
    go_ret
    exact ⟨rfl, Below.refl _ _⟩
  have HV := Lib.hid hb0
  have HRW := Lib.hid hr
  clear hb0 hr
  have HB0 := Lib.hid (Below.refl w.heap.size w)
  go_enter Try.func3, Try.ntmps3
  go_wp2_with fail
  refine (rBig_any _ _ _ _ HV.out _).mono ?_
  rintro e w' ⟨rfl, rfl⟩
  go_wp2_with fail
  refine (draw_add _ n c _ (HRW.out.below HB0.out HB0.out.size)).mono ?_
  rintro e w1 ⟨gi, gn, gz, gR, gm, gc, l, t, y, rfl, hll, hgm, hgn, hrow, hb⟩
  have HB1 := Lib.hid (bthen HB0.out hb HB0.out.size)
  have HN := Lib.hid (show gn.size ≤ maxLen by unfold maxLen; omega)
  have HM := Lib.hid (show gm ≤ maxLen by unfold maxLen; omega)
  obtain ⟨K, id', ze', nm', L, hAP, hL25, hn', hfacts⟩ := ad_all gi gz gn l t y HN.out (by omega)
  have HAP := Lib.hid hAP
  have HLN := Lib.hid (show L.length ≤ maxLen by unfold maxLen; omega)
  have HNN := Lib.hid hn'
  have HF := Lib.hid hfacts
  have HLL := Lib.hid hll
  obtain ⟨W2, hW2⟩ : ∃ W, W = (w1.alloc (.cells #[.int .i64 gi, .string gn, .int .i64 gz, .slice gR gm gc] 26)).alloc (.cells #[.int .i64 t, .int .i64 y] 28) := ⟨_, rfl⟩
  have HW2 : Hid (Below w1.heap.size w1 W2) := by rw [hW2]; exact Lib.hid (((Below.refl _ _).alloc (Nat.le_refl _) _).alloc (by simp) _)
  have HG2 : Hid (Has W2 w1.heap.size [.int .i64 gi, .string gn, .int .i64 gz, .slice gR gm gc]) := by rw [hW2]; exact Lib.hid ((by simpa using Has.new w1 #[.int .i64 gi, .string gn, .int .i64 gz, .slice gR gm gc] 26 : Has (w1.alloc (.cells #[.int .i64 gi, .string gn, .int .i64 gz, .slice gR gm gc] 26)) w1.heap.size [.int .i64 gi, .string gn, .int .i64 gz, .slice gR gm gc]).alloc _)
  have HR2 : Hid (Has W2 (w1.heap.size + 1) [.int .i64 t, .int .i64 y]) := by rw [hW2]; exact Lib.hid (by simpa using Has.new (w1.alloc (.cells #[.int .i64 gi, .string gn, .int .i64 gz, .slice gR gm gc] 26)) #[.int .i64 t, .int .i64 y] 28)
  have HQ2 := Lib.hid (GRow.on' hrow HW2.out (Nat.le_refl _))
  have HS2 := Lib.hid ((grow_own HQ2.out hll).spots (Nat.le_refl _))
  have HB2 := Lib.hid (bthen HB1.out HW2.out HB1.out.size)
  have HE := Lib.hid hW2
  clear hW2 hb hrow hll hgm hgn hAP hL25 hn' hfacts
  go_upto_region 4 with fail
  rw [← HE.out]
  clear HE
  have g0 := HG2.out.at_ 0 _ rfl
  have g1 := HG2.out.at_ 1 _ rfl
  have g2 := HG2.out.at_ 2 _ rfl
  have g3 := HG2.out.at_ 3 _ rfl
  have r0 := HR2.out.at_ 0 _ rfl
  have r1 := HR2.out.at_ 1 _ rfl
  go_wp2_with fail
  refine (addI_row _ _ _ l _ _ _ HQ2.out HLL.out HS2.out HM.out HN.out).mono ?_
  rw [HAP.out]
  rintro e w3 ⟨A3, c3, rfl, hO, hb, _⟩
  have HO3 := Lib.hid hO
  obtain ⟨W3, hW3⟩ : ∃ W, W = w3.alloc (.cells #[.int .i64 id', .string nm', .int .i64 ze', .slice A3 L.length c3] 26) := ⟨_, rfl⟩
  have HW3 : Hid (Below W2.heap.size W2 W3) := by rw [hW3]; exact Lib.hid (hb.alloc hb.size _)
  have HM3 : Hid (Has W3 w3.heap.size [.int .i64 id', .string nm', .int .i64 ze', .slice A3 L.length c3]) := by rw [hW3]; exact Lib.hid (by simpa using Has.new w3 #[.int .i64 id', .string nm', .int .i64 ze', .slice A3 L.length c3] 26)
  have HZ3 : Hid (Own2 W3 W2.heap.size W3.heap.size A3 L.length L) := by rw [hW3]; exact Lib.hid ((hO.on ((Below.refl w3.heap.size w3).alloc (Nat.le_refl _) _) (Nat.le_refl _)).wide (Nat.le_refl _) (by simp))
  have HG3 := Lib.hid (HG2.out.next HW3.out)
  have HR3 := Lib.hid (HR2.out.next HW3.out)
  have HQ3 := Lib.hid (GRow.on' HQ2.out HW3.out (Nat.le_refl _))
  have HS3 := Lib.hid ((grow_own HQ3.out HLL.out).spots (Nat.le_refl _))
  have HB3 := Lib.hid (bthen HB2.out HW3.out HB2.out.size)
  have HE := Lib.hid hW3
  clear hW3 hO hb g0 g1 g2 g3 r0 r1 HO3
  go_upto_region 5 with fail
  rw [← HE.out]
  clear HE
  have g0 := HG3.out.at_ 0 _ rfl
  have g1 := HG3.out.at_ 1 _ rfl
  have g2 := HG3.out.at_ 2 _ rfl
  have g3 := HG3.out.at_ 3 _ rfl
  have r0 := HR3.out.at_ 0 _ rfl
  have r1 := HR3.out.at_ 1 _ rfl
  go_wp2_with fail
  refine (addS_row _ _ _ l _ _ _ HQ3.out HLL.out HS3.out HM.out HN.out).mono ?_
  rw [HAP.out]
  rintro e w4 ⟨A4, c4, rfl, hO, hb, _⟩
  obtain ⟨W4, hW4⟩ : ∃ W, W = w4.alloc (.cells #[.int .i64 id', .string nm', .int .i64 ze', .slice A4 L.length c4] 26) := ⟨_, rfl⟩
  have HW4 : Hid (Below W3.heap.size W3 W4) := by rw [hW4]; exact Lib.hid (hb.alloc hb.size _)
  have HX4 : Hid (Has W4 w4.heap.size [.int .i64 id', .string nm', .int .i64 ze', .slice A4 L.length c4]) := by rw [hW4]; exact Lib.hid (by simpa using Has.new w4 #[.int .i64 id', .string nm', .int .i64 ze', .slice A4 L.length c4] 26)
  have HY4 : Hid (Own2 W4 W3.heap.size W4.heap.size A4 L.length L) := by rw [hW4]; exact Lib.hid ((hO.on ((Below.refl w4.heap.size w4).alloc (Nat.le_refl _) _) (Nat.le_refl _)).wide (Nat.le_refl _) (by simp))
  have HM4 := Lib.hid (HM3.out.next HW4.out)
  have HZ4 := Lib.hid ((HZ3.out.on HW4.out (Nat.le_refl _)).wide (Nat.le_refl _) HW4.out.size)
  have HG4 := Lib.hid (HG3.out.next HW4.out)
  have HR4 := Lib.hid (HR3.out.next HW4.out)
  have HB4 := Lib.hid (bthen HB3.out HW4.out HB3.out.size)
  have HE := Lib.hid hW4
  clear hW4 hO hb g0 g1 g2 g3 r0 r1
  go_upto_region 6 with fail
  rw [← HE.out]
  clear HE
  have m0 := HM4.out.at_ 0 _ rfl
  have m1 := HM4.out.at_ 1 _ rfl
  have m2 := HM4.out.at_ 2 _ rfl
  have m3 := HM4.out.at_ 3 _ rfl
  have x0 := HX4.out.at_ 0 _ rfl
  have x1 := HX4.out.at_ 1 _ rfl
  have x2 := HX4.out.at_ 2 _ rfl
  have x3 := HX4.out.at_ 3 _ rfl
  go_wp2_with fail
  refine (rG_same id' ze' nm' A3 A4 _ c3 c4 L _ (HZ4.out.spots (Nat.le_refl _)) (HY4.out.spots (Nat.le_refl _)) HLN.out).mono ?_
  rintro e w5 ⟨rfl, hb⟩
  have HB5 := Lib.hid (bthen HB4.out hb HB4.out.size)
  have HM5 := Lib.hid (HM4.out.next hb)
  have HZ5 := Lib.hid ((HZ4.out.on hb (Nat.le_refl _)).wide (Nat.le_refl _) hb.size)
  have HG5 := Lib.hid (HG4.out.next hb)
  have HR5 := Lib.hid (HR4.out.next hb)
  clear hb m0 m1 m2 m3 x0 x1 x2 x3
  go_upto_if 67 with fail
  rename_i KK aK
  have HKK := Lib.hid aK
  clear aK
  rcases K with _ | _
  · go_wp2_with fail
    exact HKK.out _ _ (tail12 rfl A n c w _ HRW.out HB5.out _ _ _ _ _ _ _ _ _ _ _ _ _ _ _ _ _ _ _ _ _ _ _ _ _ _ _ _ _ _ _ _ _ _ _ _ _ _ _ _ _ _ _ _ _ _ _ _ _ _ _ _ _ _ _ _ _ _ _ _ _ _ _ _ _ _ _ _ _ _ _ _ _ _ _ _ _ _ _ _ _ _ _ _ _ _ _ _ _ _ _ _ _ _ _ _ _ _ _ _ _ _ _ _ _ _ _ _ _ _ _ _ _ _ _ _ _ _ _ _ _ _ _ _ _ _ _ _ _ _ _ _ _ _ _ _ _ _ _ _ _ _ _ _ _ _ _ _ _ _ _ _ _ _ _ _ _ _ _ _ _ _ _ _ _ _ _ _ _ _ _ _ _ _ _ _ _ _ _ _ _ _ _ _ _ _ _ _ _ _ _ _ _ _ _ _ _ _ _ _ _ _ _ _ _ _ _ _ _ _ _ _ _ _ _ _ _ _ _ _ _ _ _ _ _ _ _ _ _ _ _ _ _ _ _ _ _ _ _ _ _ _ _ _ _ _ _ _ _ _ _ _ _ _ _ _ _ _ _ _ _)
  · obtain ⟨hgb, hk, hv, hy, hz⟩ := HF.out rfl
    have HGB := Lib.hid hgb
    have HK := Lib.hid hk
    have HV2 := Lib.hid hv
    clear hgb hk hv
    have m0 := HM5.out.at_ 0 _ rfl
    have m1 := HM5.out.at_ 1 _ rfl
    have m2 := HM5.out.at_ 2 _ rfl
    have m3 := HM5.out.at_ 3 _ rfl
    have r0 := HR5.out.at_ 0 _ rfl
    go_wp2_with fail
    refine (height_impl id' ze' nm' A3 L.length c3 L t _ (HZ5.out.spots (Nat.le_refl _)) HLN.out HNN.out).mono ?_
    rintro e w6 ⟨he, hb⟩
    rw [HK.out, HV2.out] at he
    subst he
    have HM6 := Lib.hid (HM5.out.next hb)
    have HZ6 := Lib.hid ((HZ5.out.on hb (Nat.le_refl _)).wide (Nat.le_refl _) hb.size)
    have HG6 := Lib.hid (HG5.out.next hb)
    have HR6 := Lib.hid (HR5.out.next hb)
    have HB6 := Lib.hid (bthen HB5.out hb HB5.out.size)
    clear hb m0 m1 m2 m3 r0
    have m0 := HM6.out.at_ 0 _ rfl
    have m1 := HM6.out.at_ 1 _ rfl
    have m2 := HM6.out.at_ 2 _ rfl
    have m3 := HM6.out.at_ 3 _ rfl
    have r1 := HR6.out.at_ 1 _ rfl
    have g2 := HG6.out.at_ 2 _ rfl
    obtain ⟨y1, y2⟩ := hy
    obtain ⟨z1, z2⟩ := hz
    go_wp2_with fail
    refine (isGauge_v id' ze' nm' A3 L.length c3 L _ HGB.out _ (HZ6.out.spots (Nat.le_refl _)) HLN.out HNN.out).mono ?_
    rintro e w7 ⟨rfl, hb⟩
    have HB7 := Lib.hid (bthen HB6.out hb HB6.out.size)
    clear hb
    go_wp2_with fail
    exact HKK.out _ _ (tail12 rfl A n c w _ HRW.out HB7.out _ _ _ _ _ _ _ _ _ _ _ _ _ _ _ _ _ _ _ _ _ _ _ _ _ _ _ _ _ _ _ _ _ _ _ _ _ _ _ _ _ _ _ _ _ _ _ _ _ _ _ _ _ _ _ _ _ _ _ _ _ _ _ _ _ _ _ _ _ _ _ _ _ _ _ _ _ _ _ _ _ _ _ _ _ _ _ _ _ _ _ _ _ _ _ _ _ _ _ _ _ _ _ _ _ _ _ _ _ _ _ _ _ _ _ _ _ _ _ _ _ _ _ _ _ _ _ _ _ _ _ _ _ _ _ _ _ _ _ _ _ _ _ _ _ _ _ _ _ _ _ _ _ _ _ _ _ _ _ _ _ _ _ _ _ _ _ _ _ _ _ _ _ _ _ _ _ _ _ _ _ _ _ _ _ _ _ _ _ _ _ _ _ _ _ _ _ _ _ _ _ _ _ _ _ _ _ _ _ _ _ _ _ _ _ _ _ _ _ _ _ _ _ _ _ _ _ _ _ _ _ _ _ _ _ _ _ _ _ _ _ _ _ _ _ _ _ _ _ _ _ _ _ _ _ _ _ _ _ _ _)
set_option maxRecDepth 100000 in
theorem lifted (os : Os) (started : os.Started) (H : Type) (enc : TypeId × Value → H) :
    ReturnsInHanded {} Try.checked os 3 .any (Rows.fnGaugesSpec.pre6 enc Try.prog Try.f3 Rows.fnGaugesRow.domain false) (Rows.fnGaugesSpec.post enc Try.prog Try.f3 false true false false) := by
  refine returnsInHanded_of_change (C := Try.checked) own started (by kernel_rfl) Try.func3
    (ChangeSpec.witness6 (enc := enc) (C := Try.checked) false ⟨#[], #[.slice none 0 0], []⟩ 8 (by kernel_rfl) (by kernel_rfl) (by kernel_rfl) (by kernel_rfl)) ?_
  intro W base args ds gs before hval0 hW hcnd _
  have hval : ∀ (j : Nat) t v, Try.f3.params[j]? = some t → args[j]? = some v → Value.okWide Try.prog W .any base t v := hval0
  have hW' := hW
  obtain ⟨p, q, hA0, hV, rfl, hfz, hnd⟩ := hW
  have hA : DataW.TrodAll enc Try.prog W 0 (fun _ => true) true Try.f3.params.toList args.toList ds p := hA0
  rw [Try.params3] at hA hval
  obtain ⟨v0, vs0, d0, ds0, p0, q0, hargs, rfl, rfl, h0, r0⟩ := trodAll_cons hA
  obtain ⟨rfl, rfl, rfl⟩ := trodAll_nil r0
  obtain rfl : args = #[v0] := by cases args; simp_all
  obtain ⟨rfl, rfl⟩ := trodVars_none hV
  have k0 := h0
  have lt0 : ∀ x ∈ p0, x.block < W.heap.size := by obtain ⟨m, hm⟩ := k0; exact DataW.trod_lt m _ _ _ hm
  obtain ⟨A0, n0, c0, rfl⟩ := okWide_slice Try.underlying22 (hval 0 22 v0 rfl rfl)
  obtain ⟨m0, w0⟩ := open_code h0
  clear hA0 hval0
  refine (walk A0 n0 c0 W m0 w0).mono fun e W1 ⟨he, bel⟩ => ?_
  subst he
  exact ⟨_, rfl, _, _, _, [], _, [], hW', trodAll_mk1 (shut_bool Try.underlying4 _), (trodAll_cons_mk (Below.trod laidOut (by kernel_rfl) (of_decide_eq_true (by kernel_rfl)) k0 bel lt0) trodAll_mk0), rfl, bel.frame _, fun h => by cases h⟩

/-- The statement. -/
theorem proved : Rows.FnGaugesSaid :=
  OpenClaim.holds_of_wide 3 Try.f3 rfl rfl rfl rfl rfl rfl rfl ⟨rfl, rfl, rfl, rfl, rfl⟩ rfl rfl rfl rfl rfl (by kernel_rfl) Try.func3 (by kernel_rfl)
    (of_decide_eq_true (by kernel_rfl)) (by unfold Func.isWrapper; first | (rw [if_pos (by decide +kernel)]; kernel_rfl) | (rw [if_neg (by decide +kernel)]; exact ⟨rfl, rfl⟩))
    (fun os started H enc _ => lifted os started H enc)
#print axioms proved
end Go.Proofs.Ytlggcfeclbcfaaa.fnGauges
