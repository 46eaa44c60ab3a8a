/-
  Proved here: for every code the law laws.FnCrossings returns true (with a greater fixed number no more differences are not tolerated, with the smallest one all are, and the functions answer as the model), and the argument reads afterwards as before.
  Conditions: none beyond the row's own.
-/
import Derived.Test.YtlakdlghkniegaaKx12
namespace Go.Proofs.Ytlakdlghkniegaa.fnCrossings
open Go.Joins Go.ChangeShapes Go.WideShapes Go.ChangeAt Go.RowKit Go.Deep
set_option linter.unusedVariables false

/-! ### The walk: the Go text returns true, and nothing that was there has turned. -/
set_option maxRecDepth 20000 in
set_option maxHeartbeats 12800000 in
theorem walk (A : Option Addr) (n c : Nat) (w : World) (hm : n ≤ maxLen) (hr : CodeRow w.heap.size A n w) :
    Calls Try.prog 3 #[.slice A n c] w fun e w' => e = .returned (.bool true) ∧ Below w.heap.size w w' := by
  rcases hb0 : decide ((65536 : Int) < n) with _ | _
  rotate_left
  · have HV := Lib.hid hb0
    clear hb0
    go_enter Try.func3, Try.ntmps3
    go_wp2_with fail
    refine (vBig_any _ _ _ _ HV.out _).mono ?_
    rintro e w' ⟨rfl, rfl⟩
    go_wp2_with fail
    go_ret
    exact ⟨rfl, Below.refl _ _⟩
  have HV := Lib.hid hb0
  have HRW := Lib.hid hr
  clear hb0 hr
  have HB0 := Lib.hid (Below.refl w.heap.size w)
  go_enter Try.func3, Try.ntmps3
  go_wp2_with fail
  refine (vBig_any _ _ _ _ HV.out _).mono ?_
  rintro e w' ⟨rfl, rfl⟩
  go_wp2_with fail
  refine (draw_nt A n c _ (HRW.out.below HB0.out HB0.out.size)).mono ?_
  rintro e w1 ⟨L, gb, cap, f, p, rfl, hl1, hcap1, hS, hb⟩
  have HS1 := Lib.hid hS
  have HB1 := Lib.hid (bthen HB0.out hb HB0.out.size)
  have hm1 : L.length ≤ maxLen := by unfold maxLen; omega
  clear hS hb
  obtain ⟨AA1, hAA⟩ : ∃ AA : Option Addr, AA = some ⟨gb, 0, none⟩ := ⟨_, rfl⟩
  rw [← hAA] at HS1 ⊢
  clear hAA
  obtain ⟨R, HR⟩ : ∃ R, Hid (ntR L f p = R) := ⟨_, Lib.hid rfl⟩
  obtain ⟨K, HK⟩ : ∃ K, Hid (tsB L f p = K) := ⟨_, Lib.hid rfl⟩
  obtain ⟨Z, HZ⟩ : ∃ Z, Hid (xdsB L = Z) := ⟨_, Lib.hid rfl⟩
  have hrl : R.length ≤ 10 := by rw [← HR.out]; exact ntR_len L f p
  go_wp2_with fail
  refine (nt_impl _ _ _ L f p _ HS1.out hm1 hcap1).mono ?_
  unfold NtPost IntsPost
  rw [HR.out, HK.out]
  rintro e w2 ⟨A2, c2, rfl, ho, hb⟩
  have HB2 := Lib.hid (bthen HB1.out hb HB1.out.size)
  have HS2 := Lib.hid (sds_atX HS1.out hb)
  have HO2 := Lib.hid ho
  have HZ2 := Lib.hid hb.size
  clear hb ho
  go_wp2_with fail
  refine (nt_spec _ _ _ L f p _ HS2.out hm1).mono ?_
  unfold NtPost IntsPost
  rw [HR.out, HK.out]
  rintro e w3 ⟨A3, c3, rfl, ho, hb⟩
  have HB3 := Lib.hid (bthen HB2.out hb HB2.out.size)
  have HS3 := Lib.hid (sds_atX HS2.out hb)
  have HZ3 := Lib.hid hb.size
  have HP3 := Lib.hid (HO2.out.on hb (Nat.le_refl _))
  have HO3 := Lib.hid ho
  clear hb ho
  rcases K with _ | _
  · go_wp2_with fail
    refine (vI_same _ _ _ _ _ _ _ _ _ _ _ HP3.out HO3.out (by omega)).mono ?_
    rintro e w4 ⟨rfl, dk, rfl⟩
    have HB4 := Lib.hid (bdrewN HB3.out dk)
    have HS4 := Lib.hid (sds_atX HS3.out (bdrewN (Below.refl w3.heap.size w3) dk))
    have HP4 := Lib.hid (HP3.out.on (bdrewN (Below.refl w3.heap.size w3) dk) HZ3.out)
    obtain ⟨W4, hW4⟩ : ∃ W, W = w3.drewN dk := ⟨_, rfl⟩
    rw [← hW4] at HB4 HS4 HP4
    rw [← hW4]
    have HZ4 : Hid (w2.heap.size ≤ W4.heap.size) := by rw [hW4]; exact HZ3
    clear hW4
    go_wp2_with fail
    refine (xds_impl_v _ _ _ L _ HZ.out _ HS4.out hm1 hcap1).mono ?_
    rintro e w5 ⟨rfl, hb⟩
    have HB5 := Lib.hid (bthen HB4.out hb HB4.out.size)
    have HS5 := Lib.hid (sds_atX HS4.out hb)
    have HP5 := Lib.hid (HP4.out.on hb HZ4.out)
    have HZ5 := Lib.hid (Nat.le_trans HZ4.out hb.size)
    clear hb
    go_wp2_with fail
    refine (xgoodA_v _ _ _ L _ HZ.out _ HS5.out hm1).mono ?_
    rintro e w6 ⟨rfl, hb⟩
    have HB6 := Lib.hid (bthen HB5.out hb HB5.out.size)
    have HS6 := Lib.hid (sds_atX HS5.out hb)
    have HP6 := Lib.hid (HP5.out.on hb HZ5.out)
    clear hb
    rcases Z with _ | _
    · go_upto_if 80 with fail
      rename (Act → World → Prop) => KK
      rename (∀ (a : Act) (w : World), _ → KK a w) => aK
      have HKK := Lib.hid aK
      clear aK
      go_wp2_with fail
      exact HKK.out _ _ (tailX12 rfl A n c w _ HRW.out HB6.out _ _ _ _ _ _ _ _ _ _ _ _ _ _ _ _ _ _ _ _ _ _ _ _ _ _ _ _ _ _ _ _ _ _ _ _ _ _ _ _ _ _ _ _ _ _ _ _ _ _ _ _ _ _ _ _ _ _ _ _ _ _ _ _ _ _ _ _ _ _ _ _ _ _ _ _ _ _ _ _ _ _ _ _ _ _ _ _ _ _ _ _ _ _ _ _ _ _ _ _ _ _ _ _ _ _ _ _ _ _ _ _ _ _ _ _ _ _ _ _ _ _ _ _ _ _ _ _ _ _ _ _ _ _ _ _ _ _ _ _ _ _ _ _ _ _ _ _ _ _ _ _ _ _ _ _ _ _ _ _ _ _ _ _ _ _ _ _ _ _ _ _ _ _ _ _ _ _ _ _ _ _ _ _ _ _ _ _ _ _ _ _ _ _ _ _ _ _ _ _ _ _ _ _ _ _ _ _ _ _ _ _ _ _ _ _ _ _ _ _ _ _ _ _ _ _ _ _ _ _ _ _ _ _ _ _ _ _ _)
    · go_upto_if 80 with fail
      rename (Act → World → Prop) => KK
      rename (∀ (a : Act) (w : World), _ → KK a w) => aK
      have HKK := Lib.hid aK
      clear aK
      go_wp2_with fail
      exact HKK.out _ _ (tailX12 rfl A n c w _ HRW.out HB6.out _ _ _ _ _ _ _ _ _ _ _ _ _ _ _ _ _ _ _ _ _ _ _ _ _ _ _ _ _ _ _ _ _ _ _ _ _ _ _ _ _ _ _ _ _ _ _ _ _ _ _ _ _ _ _ _ _ _ _ _ _ _ _ _ _ _ _ _ _ _ _ _ _ _ _ _ _ _ _ _ _ _ _ _ _ _ _ _ _ _ _ _ _ _ _ _ _ _ _ _ _ _ _ _ _ _ _ _ _ _ _ _ _ _ _ _ _ _ _ _ _ _ _ _ _ _ _ _ _ _ _ _ _ _ _ _ _ _ _ _ _ _ _ _ _ _ _ _ _ _ _ _ _ _ _ _ _ _ _ _ _ _ _ _ _ _ _ _ _ _ _ _ _ _ _ _ _ _ _ _ _ _ _ _ _ _ _ _ _ _ _ _ _ _ _ _ _ _ _ _ _ _ _ _ _ _ _ _ _ _ _ _ _ _ _ _ _ _ _ _ _ _ _ _ _ _ _ _ _ _ _ _ _ _ _ _ _ _ _)
  go_wp2_with fail
  refine (vI_same _ _ _ _ _ _ _ _ _ _ _ HP3.out HO3.out (by omega)).mono ?_
  rintro e w4 ⟨rfl, dk, rfl⟩
  have HB4 := Lib.hid (bdrewN HB3.out dk)
  have HS4 := Lib.hid (sds_atX HS3.out (bdrewN (Below.refl w3.heap.size w3) dk))
  have HP4 := Lib.hid (HP3.out.on (bdrewN (Below.refl w3.heap.size w3) dk) HZ3.out)
  obtain ⟨W4, hW4⟩ : ∃ W, W = w3.drewN dk := ⟨_, rfl⟩
  rw [← hW4] at HB4 HS4 HP4
  rw [← hW4]
  have HZ4 : Hid (w2.heap.size ≤ W4.heap.size) := by rw [hW4]; exact HZ3
  clear hW4
  go_wp2_with fail
  refine (xds_impl_v _ _ _ L _ HZ.out _ HS4.out hm1 hcap1).mono ?_
  rintro e w5 ⟨rfl, hb⟩
  have HB5 := Lib.hid (bthen HB4.out hb HB4.out.size)
  have HS5 := Lib.hid (sds_atX HS4.out hb)
  have HP5 := Lib.hid (HP4.out.on hb HZ4.out)
  have HZ5 := Lib.hid (Nat.le_trans HZ4.out hb.size)
  clear hb
  go_wp2_with fail
  refine (xgoodA_v _ _ _ L _ HZ.out _ HS5.out hm1).mono ?_
  rintro e w6 ⟨rfl, hb⟩
  have HB6 := Lib.hid (bthen HB5.out hb HB5.out.size)
  have HS6 := Lib.hid (sds_atX HS5.out hb)
  have HB65 := Lib.hid hb.size
  have HP6 := Lib.hid (HP5.out.on hb HZ5.out)
  clear hb
  obtain rfl : Z = true := HZ.out.symm.trans (ts_is HK.out).1
  by_cases hf : f < 500
  rotate_left
  · go_upto_if 80 with fail
    rename (Act → World → Prop) => KK
    rename (∀ (a : Act) (w : World), _ → KK a w) => aK
    have HKK := Lib.hid aK
    clear aK
    go_wp2_with fail
    exact HKK.out _ _ (tailX12 rfl A n c w _ HRW.out HB6.out _ _ _ _ _ _ _ _ _ _ _ _ _ _ _ _ _ _ _ _ _ _ _ _ _ _ _ _ _ _ _ _ _ _ _ _ _ _ _ _ _ _ _ _ _ _ _ _ _ _ _ _ _ _ _ _ _ _ _ _ _ _ _ _ _ _ _ _ _ _ _ _ _ _ _ _ _ _ _ _ _ _ _ _ _ _ _ _ _ _ _ _ _ _ _ _ _ _ _ _ _ _ _ _ _ _ _ _ _ _ _ _ _ _ _ _ _ _ _ _ _ _ _ _ _ _ _ _ _ _ _ _ _ _ _ _ _ _ _ _ _ _ _ _ _ _ _ _ _ _ _ _ _ _ _ _ _ _ _ _ _ _ _ _ _ _ _ _ _ _ _ _ _ _ _ _ _ _ _ _ _ _ _ _ _ _ _ _ _ _ _ _ _ _ _ _ _ _ _ _ _ _ _ _ _ _ _ _ _ _ _ _ _ _ _ _ _ _ _ _ _ _ _ _ _ _ _ _ _ _ _ _ _ _ _ _ _ _ _)
  obtain ⟨R2, HR2⟩ : ∃ R, Hid (ntR L (f + 1) p = R) := ⟨_, Lib.hid rfl⟩
  have HK2 := Lib.hid (ts_more HK.out hf)
  have hr2 : R2.length ≤ 10 := by rw [← HR2.out]; exact ntR_len L (f + 1) p
  have HSUB : Hid (∀ k, k < R2.length → ∃ j, j < R.length ∧ R.getD j 0 = R2.getD k 0) := Lib.hid fun k hk => list_of (by rw [← HR.out]; refine nt_sub HK.out hf ?_; rw [HR2.out]; exact list_at hk)
  obtain ⟨f1, f2⟩ := (ts_is HK.out).2.1
  go_upto_if 80 with fail
  rename (Act → World → Prop) => KK
  rename (∀ (a : Act) (w : World), _ → KK a w) => aK
  have HKK := Lib.hid aK
  clear aK
  go_wp2_with fail
  refine (nt_impl _ _ _ L (f + 1) p _ HS6.out hm1 hcap1).mono ?_
  unfold NtPost IntsPost
  rw [HR2.out, HK2.out]
  rintro e w7 ⟨A7, c7, rfl, ho, hb⟩
  have HB7 := Lib.hid (bthen HB6.out hb HB6.out.size)
  have HO7 := Lib.hid ho
  have HP7 := Lib.hid (HP6.out.on hb (Nat.le_trans HZ5.out (by have := HB65.out; exact this)))
  clear hb ho
  go_wp2_with fail
  refine (vWithin_yes _ _ _ _ _ _ _ _ _ _ _ _ _ HO7.out HP7.out HSUB.out (by omega) (by omega)).mono ?_
  rintro e w8 ⟨rfl, rfl⟩
  go_wp2_with fail
  exact HKK.out _ _ (tailX12 rfl A n c w _ HRW.out HB7.out _ _ _ _ _ _ _ _ _ _ _ _ _ _ _ _ _ _ _ _ _ _ _ _ _ _ _ _ _ _ _ _ _ _ _ _ _ _ _ _ _ _ _ _ _ _ _ _ _ _ _ _ _ _ _ _ _ _ _ _ _ _ _ _ _ _ _ _ _ _ _ _ _ _ _ _ _ _ _ _ _ _ _ _ _ _ _ _ _ _ _ _ _ _ _ _ _ _ _ _ _ _ _ _ _ _ _ _ _ _ _ _ _ _ _ _ _ _ _ _ _ _ _ _ _ _ _ _ _ _ _ _ _ _ _ _ _ _ _ _ _ _ _ _ _ _ _ _ _ _ _ _ _ _ _ _ _ _ _ _ _ _ _ _ _ _ _ _ _ _ _ _ _ _ _ _ _ _ _ _ _ _ _ _ _ _ _ _ _ _ _ _ _ _ _ _ _ _ _ _ _ _ _ _ _ _ _ _ _ _ _ _ _ _ _ _ _ _ _ _ _ _ _ _ _ _ _ _ _ _ _ _ _ _ _ _ _ _ _)
set_option maxRecDepth 100000 in
theorem lifted (os : Os) (started : os.Started) (H : Type) (enc : TypeId × Value → H) :
    ReturnsInHanded {} Try.checked os 3 .any (Rows.fnCrossingsSpec.pre6 enc Try.prog Try.f3 Rows.fnCrossingsRow.domain false) (Rows.fnCrossingsSpec.post enc Try.prog Try.f3 false true false false) := by
  refine returnsInHanded_of_change (C := Try.checked) own started (by kernel_rfl) Try.func3
    (ChangeSpec.witness6 (enc := enc) (C := Try.checked) false ⟨#[], #[.slice none 0 0], []⟩ 8 (by kernel_rfl) (by kernel_rfl) (by kernel_rfl) (by kernel_rfl)) ?_
  intro W base args ds gs before hval0 hW hcnd _
  have hval : ∀ (j : Nat) t v, Try.f3.params[j]? = some t → args[j]? = some v → Value.okWide Try.prog W .any base t v := hval0
  have hW' := hW
  obtain ⟨p, q, hA0, hV, rfl, hfz, hnd⟩ := hW
  have hA : DataW.TrodAll enc Try.prog W 0 (fun _ => true) true Try.f3.params.toList args.toList ds p := hA0
  rw [Try.params3] at hA hval
  obtain ⟨v0, vs0, d0, ds0, p0, q0, hargs, rfl, rfl, h0, r0⟩ := trodAll_cons hA
  obtain ⟨rfl, rfl, rfl⟩ := trodAll_nil r0
  obtain rfl : args = #[v0] := by cases args; simp_all
  obtain ⟨rfl, rfl⟩ := trodVars_none hV
  have k0 := h0
  have lt0 : ∀ x ∈ p0, x.block < W.heap.size := by obtain ⟨m, hm⟩ := k0; exact DataW.trod_lt m _ _ _ hm
  obtain ⟨A0, n0, c0, rfl⟩ := okWide_slice Try.underlying22 (hval 0 22 v0 rfl rfl)
  obtain ⟨m0, w0⟩ := open_code h0
  clear hA0 hval0
  refine (walk A0 n0 c0 W m0 w0).mono fun e W1 ⟨he, bel⟩ => ?_
  subst he
  exact ⟨_, rfl, _, _, _, [], _, [], hW', trodAll_mk1 (shut_bool Try.underlying4 _), (trodAll_cons_mk (Below.trod laidOut (by kernel_rfl) (of_decide_eq_true (by kernel_rfl)) k0 bel lt0) trodAll_mk0), rfl, bel.frame _, fun h => by cases h⟩

/-- The statement. -/
theorem proved : Rows.FnCrossingsSaid :=
  OpenClaim.holds_of_wide 3 Try.f3 rfl rfl rfl rfl rfl rfl rfl ⟨rfl, rfl, rfl, rfl, rfl⟩ rfl rfl rfl rfl rfl (by kernel_rfl) Try.func3 (by kernel_rfl)
    (of_decide_eq_true (by kernel_rfl)) (by unfold Func.isWrapper; first | (rw [if_pos (by decide +kernel)]; kernel_rfl) | (rw [if_neg (by decide +kernel)]; exact ⟨rfl, rfl⟩))
    (fun os started H enc _ => lifted os started H enc)
#print axioms proved
end Go.Proofs.Ytlakdlghkniegaa.fnCrossings
