/-
  Proved here: for every code the law laws.FnSpikes returns true (spikes up and down are apart, what is rejected and what is kept are the track, a flattened track has no spikes, and the functions answer as the model), and the argument reads afterwards as before.
  Conditions: none beyond the row's own.
-/
import Derived.Test.YtjekmmekkfmplaaSk21
namespace Go.Proofs.Ytjekmmekkfmplaa.fnSpikes
open Go.Joins Go.ChangeShapes Go.WideShapes Go.ChangeAt Go.RowKit Go.Deep
set_option linter.unusedVariables false

/-! ### The walk: the Go text returns true, and nothing that was there has turned. -/
set_option maxRecDepth 20000 in
set_option maxHeartbeats 12800000 in
theorem walk (A : Option Addr) (n c : Nat) (w : World) (hm : n ≤ maxLen) (hr : CodeRow w.heap.size A n w) :
    Calls Try.prog 3 #[.slice A n c] w fun e w' => e = .returned (.bool true) ∧ Below w.heap.size w w' := by
  rcases hb0 : decide ((65536 : Int) < n) with _ | _
  rotate_left
  · have HV := Lib.hid hb0
    clear hb0
    go_enter Try.func3, Try.ntmps3
    go_wp2_with fail
    refine (vBig_any _ _ _ _ HV.out _).mono ?_
    rintro e w' ⟨rfl, rfl⟩
    go_wp2_with fail
    go_ret
    exact ⟨rfl, Below.refl _ _⟩
  have HV := Lib.hid hb0
  have HRW := Lib.hid hr
  clear hb0 hr
  have HB0 := Lib.hid (Below.refl w.heap.size w)
  go_enter Try.func3, Try.ntmps3
  go_wp2_with fail
  refine (vBig_any _ _ _ _ HV.out _).mono ?_
  rintro e w' ⟨rfl, rfl⟩
  go_wp2_with fail
  refine (drawE_spikes A n c _ (HRW.out.below HB0.out HB0.out.size)).mono ?_
  rintro e w1 ⟨P, gp, cp, l, rfl, ⟨hlP, hiP⟩, hx, hb⟩
  have HP1 : Hid (IFun w1 0 w1.heap.size (some ⟨gp, 0, none⟩) P.length (fun j => P.getD j 0)) := Lib.hid (hiP.wide (Nat.zero_le _) (Nat.le_refl _))
  have HB1 := Lib.hid (bthen HB0.out hb HB0.out.size)
  clear hb hiP
  obtain ⟨AP1, hAA⟩ : ∃ AA : Option Addr, AA = some ⟨gp, 0, none⟩ := ⟨_, rfl⟩
  rw [← hAA] at HP1 ⊢
  clear hAA
  clear hx
  obtain ⟨E, HE⟩ : ∃ E, Hid (upR P l = E) := ⟨_, Lib.hid rfl⟩
  obtain ⟨F, HF⟩ : ∃ F, Hid (dnR P l = F) := ⟨_, Lib.hid rfl⟩
  obtain ⟨K, HK⟩ : ∃ K, Hid (akB P l = K) := ⟨_, Lib.hid rfl⟩
  obtain ⟨J, HJ⟩ : ∃ J, Hid (rjR P l = J) := ⟨_, Lib.hid rfl⟩
  obtain ⟨Z, HZ⟩ : ∃ Z, Hid (trB P = Z) := ⟨_, Lib.hid rfl⟩
  have hel : E.length ≤ 30 := by rw [← HE.out]; exact upR_len P l
  have hfl : F.length ≤ 30 := by rw [← HF.out]; exact dnR_len P l
  have hjl : J.length ≤ 30 := by rw [← HJ.out]; exact rjR_len P l
  go_wp2_with fail
  refine (spikesIn_impl _ _ _ _ P l _ HP1.out (Nat.le_refl _) (by omega)).mono ?_
  rintro e w2 ⟨g2, n2, C2, k2, m2, D2, rfl, htw⟩
  obtain rfl := col_lenJ htw.up
  obtain rfl := col_lenJ htw.dn
  have HU2 : Hid (IFun w2 0 w2.heap.size (some ⟨g2, 0, none⟩) (upR P l).length (fun j => (upR P l).getD j 0)) := Lib.hid ((ifun_of_own htw.up.1).wide (Nat.zero_le _) (Nat.le_refl _))
  have HV2 : Hid (IFun w2 0 w2.heap.size (some ⟨k2, 0, none⟩) (dnR P l).length (fun j => (dnR P l).getD j 0)) := Lib.hid ((ifun_of_own htw.dn.1).wide (Nat.zero_le _) (Nat.le_refl _))
  have HB2 := Lib.hid (bthen HB1.out htw.up.2 HB1.out.size)
  have HP2 := Lib.hid (ifun_at HP1.out htw.up.2)
  clear htw
  rw [HE.out] at HU2
  rw [HF.out] at HV2
  rw [HE.out, HF.out, HK.out]
  go_wp2_with fail
  refine (spikesIn_spec _ _ _ _ P l _ HP2.out (Nat.le_refl _) (by omega)).mono ?_
  rintro e w3 ⟨g3, n3, C3, k3, m3, D3, rfl, htw⟩
  obtain rfl := col_lenJ htw.up
  obtain rfl := col_lenJ htw.dn
  have HX3 : Hid (IFun w3 0 w3.heap.size (some ⟨g3, 0, none⟩) (upR P l).length (fun j => (upR P l).getD j 0)) := Lib.hid ((ifun_of_own htw.up.1).wide (Nat.zero_le _) (Nat.le_refl _))
  have HY3 : Hid (IFun w3 0 w3.heap.size (some ⟨k3, 0, none⟩) (dnR P l).length (fun j => (dnR P l).getD j 0)) := Lib.hid ((ifun_of_own htw.dn.1).wide (Nat.zero_le _) (Nat.le_refl _))
  have HB3 := Lib.hid (bthen HB2.out htw.up.2 HB2.out.size)
  have HP3 := Lib.hid (ifun_at HP2.out htw.up.2)
  have HU3 := Lib.hid (ifun_at HU2.out htw.up.2)
  have HV3 := Lib.hid (ifun_at HV2.out htw.up.2)
  clear htw
  rw [HE.out] at HX3
  rw [HF.out] at HY3
  rw [HE.out, HF.out, HK.out]
  go_wp2_with fail
  refine (vI_b _ _ _ _ _ _ _ _ _ _ _ HU3.out HX3.out (by omega)).mono ?_
  rintro e w4 ⟨rfl, hb⟩
  have HB4 := Lib.hid (bthen HB3.out hb HB3.out.size)
  have HP4 := Lib.hid (ifun_at HP3.out hb)
  have HU4 := Lib.hid (ifun_at HU3.out hb)
  have HV4 := Lib.hid (ifun_at HV3.out hb)
  have HY4 := Lib.hid (ifun_at HY3.out hb)
  clear hb
  go_wp2_with fail
  refine (vI_b _ _ _ _ _ _ _ _ _ _ _ HV4.out HY4.out (by omega)).mono ?_
  rintro e w5 ⟨rfl, hb⟩
  have HB5 := Lib.hid (bthen HB4.out hb HB4.out.size)
  have HP5 := Lib.hid (ifun_at HP4.out hb)
  have HU5 := Lib.hid (ifun_at HU4.out hb)
  have HV5 := Lib.hid (ifun_at HV4.out hb)
  clear hb
  go_wp2_with fail
  refine (isTrE_impl _ _ _ _ P _ HZ.out _ HP5.out (by omega)).mono ?_
  rintro e w' ⟨rfl, rfl⟩
  go_wp2_with fail
  refine (isTrE_spec _ _ _ _ P _ HZ.out _ HP5.out (by omega)).mono ?_
  rintro e w' ⟨rfl, rfl⟩
  go_wp2_with fail
  refine (reject_impl _ _ _ _ P l _ HP5.out (Nat.le_refl _) (by omega)).mono ?_
  unfold IntsPost
  rw [HJ.out, HK.out]
  rintro e w6 ⟨A6, c6, rfl, ho, hb⟩
  have HB6 := Lib.hid (bthen HB5.out hb HB5.out.size)
  have HP6 := Lib.hid (ifun_at HP5.out hb)
  have HU6 := Lib.hid (ifun_at HU5.out hb)
  have HV6 := Lib.hid (ifun_at HV5.out hb)
  have HO6 := Lib.hid (ho.wide (Nat.zero_le _) (Nat.le_refl _))
  clear hb ho
  go_wp2_with fail
  refine (reject_spec _ _ _ _ P l _ HP6.out (Nat.le_refl _) (by omega)).mono ?_
  unfold IntsPost
  rw [HJ.out, HK.out]
  rintro e w7 ⟨A7, c7, rfl, ho, hb⟩
  have HB7 := Lib.hid (bthen HB6.out hb HB6.out.size)
  have HP7 := Lib.hid (ifun_at HP6.out hb)
  have HU7 := Lib.hid (ifun_at HU6.out hb)
  have HV7 := Lib.hid (ifun_at HV6.out hb)
  have HO7 := Lib.hid (ifun_at HO6.out hb)
  have HW7 := Lib.hid ho
  clear hb ho
  go_wp2_with fail
  refine (vI_b _ _ _ _ _ _ _ _ _ _ _ HO7.out HW7.out (by omega)).mono ?_
  rintro e w8 ⟨rfl, hb⟩
  have HB8 := Lib.hid (bthen HB7.out hb HB7.out.size)
  have HP8 := Lib.hid (ifun_at HP7.out hb)
  have HU8 := Lib.hid (ifun_at HU7.out hb)
  have HV8 := Lib.hid (ifun_at HV7.out hb)
  have HO8 := Lib.hid (ifun_at HO7.out hb)
  clear hb
  rcases K with _ | _
  · go_upto_if 109 with fail
    rename (Act → World → Prop) => KK
    rename (∀ (a : Act) (w : World), _ → KK a w) => aK
    have HKK := Lib.hid aK
    clear aK
    go_wp2_with fail
    exact HKK.out _ _ (tailS21 rfl A n c w _ HRW.out HB8.out _ _ _ _ _ _ _ _ _ _ _ _ _ _ _ _ _ _ _ _ _ _ _ _ _ _ _ _ _ _ _ _ _ _ _ _ _ _ _ _ _ _ _ _ _ _ _ _ _ _ _ _ _ _ _ _ _ _ _ _ _ _ _ _ _ _ _ _ _ _ _ _ _ _ _ _ _ _ _ _ _ _ _ _ _ _ _ _ _ _ _ _ _ _ _ _ _ _ _ _ _ _ _ _ _ _ _ _ _ _ _ _ _ _ _ _ _ _ _ _ _ _ _ _ _ _ _ _ _ _ _ _ _ _ _ _ _ _ _ _ _ _ _ _ _ _ _ _ _ _ _ _ _ _ _ _ _ _ _ _ _ _ _ _ _ _ _ _ _ _ _ _ _ _ _ _ _ _ _ _ _ _ _ _ _ _ _ _ _ _ _ _ _ _ _ _ _ _ _ _ _ _ _ _ _ _ _ _ _ _ _ _ _ _ _ _ _ _ _ _ _ _ _ _ _ _ _ _ _ _ _ _ _ _ _ _ _ _ _ _ _ _ _ _ _ _ _)
  obtain ⟨hk1, hk2, hk3, hk4⟩ := rj_kept HK.out
  rw [HJ.out] at hk1 hk2 hk3 hk4
  obtain ⟨G, HG⟩ : ∃ G, Hid (ktR P J = G) := ⟨_, Lib.hid rfl⟩
  have hgl : G.length ≤ 30 := by rw [← HG.out]; exact ktR_len P J
  rw [HG.out] at hk2 hk3
  rw [HF.out] at hk2
  have HK1 := Lib.hid hk1
  have HK3 := Lib.hid hk3
  have HK4 := Lib.hid hk4
  have HNI : Hid (∀ k, k < E.length → decide (E.getD k 0 ∈ F) = false) := by rw [← HE.out, ← HF.out]; exact Lib.hid fun k hk => sk_in HK.out hk
  have hq : (G.length : Int) + (F.length : Int) = (P.length : Int) := by omega
  clear hk1 hk2 hk3 hk4 HE HF HJ HZ
  go_upto_if 109 with fail
  rename (Act → World → Prop) => KK
  rename (∀ (a : Act) (w : World), _ → KK a w) => aK
  have HKK := Lib.hid aK
  clear aK
  go_wp2_with fail
  refine (kept_impl _ _ _ _ _ _ _ _ P J _ HP8.out (Nat.le_refl _) (by omega) HO8.out (Nat.le_refl _) (by omega)).mono ?_
  unfold IntsPost
  rw [HG.out, HK1.out]
  rintro e w9 ⟨A9, c9, rfl, ho, hb⟩
  have HB9 := Lib.hid (bthen HB8.out hb HB8.out.size)
  have HP9 := Lib.hid (ifun_at HP8.out hb)
  have HU9 := Lib.hid (ifun_at HU8.out hb)
  have HV9 := Lib.hid (ifun_at HV8.out hb)
  have HO9 := Lib.hid (ifun_at HO8.out hb)
  have HT9 := Lib.hid (ho.wide (Nat.zero_le _) (Nat.le_refl _))
  clear hb ho
  obtain ⟨W9, rfl⟩ : ∃ W : World, W = w9 := ⟨_, rfl⟩
  go_wp2_with fail
  refine (vSum_v _ _ _ _ J _ HK3.out HK4.out _ HO9.out (by omega)).mono ?_
  rintro e w' ⟨rfl, rfl⟩
  go_wp2_with fail
  go_loopw [17] (fun i wr => ∃ k : Nat, k ≤ E.length ∧ i = .int .i64 k ∧ Hid (W9 = wr)) (fun i _ => E.length - (intOf i).toNat)
  case atStart => exact ⟨0, Nat.zero_le _, rfl, Lib.hid rfl⟩
  case round =>
    obtain ⟨k, hk, rfl, hW⟩ := hrel
    obtain rfl := hW.out
    by_cases hlt : k < E.length
    · obtain ⟨b, e9, _, _, d0, _⟩ := HU9.out k hlt
      have HNK := Lib.hid (HNI.out k hlt)
      obtain ⟨y, hy⟩ : ∃ y, E.getD k 0 = y := ⟨_, rfl⟩
      dsimp only at d0
      rw [hy] at d0 HNK
      injection e9 with e9
      injection e9 with e9
      subst e9
      clear hy
      go_wp2_with fail
      refine (vHas_v _ _ _ _ _ F y _ HNK.out _ HV9.out rfl (by omega)).mono ?_
      rintro e w' ⟨rfl, hw'⟩
      have HW' := Lib.hid hw'
      obtain rfl := hw'
      go_wp2_with fail
      go_roundw
      case rel => exact ⟨k + 1, by omega, by go_num, by first | exact HW' | exact Lib.hid trivial | exact Lib.hid rfl⟩
      case measure => simp [intOf]; omega
    · go_wp2_with fail
      exact HKK.out _ _ (tailS21 rfl A n c w _ HRW.out HB9.out _ _ _ _ _ _ _ _ _ _ _ _ _ _ _ _ _ _ _ _ _ _ _ _ _ _ _ _ _ _ _ _ _ _ _ _ _ _ _ _ _ _ _ _ _ _ _ _ _ _ _ _ _ _ _ _ _ _ _ _ _ _ _ _ _ _ _ _ _ _ _ _ _ _ _ _ _ _ _ _ _ _ _ _ _ _ _ _ _ _ _ _ _ _ _ _ _ _ _ _ _ _ _ _ _ _ _ _ _ _ _ _ _ _ _ _ _ _ _ _ _ _ _ _ _ _ _ _ _ _ _ _ _ _ _ _ _ _ _ _ _ _ _ _ _ _ _ _ _ _ _ _ _ _ _ _ _ _ _ _ _ _ _ _ _ _ _ _ _ _ _ _ _ _ _ _ _ _ _ _ _ _ _ _ _ _ _ _ _ _ _ _ _ _ _ _ _ _ _ _ _ _ _ _ _ _ _ _ _ _ _ _ _ _ _ _ _ _ _ _ _ _ _ _ _ _ _ _ _ _ _ _ _ _ _ _ _ _ _ _ _ _ _ _ _ _ _)
set_option maxRecDepth 100000 in
theorem lifted (os : Os) (started : os.Started) (H : Type) (enc : TypeId × Value → H) :
    ReturnsInHanded {} Try.checked os 3 .any (Rows.fnSpikesSpec.pre6 enc Try.prog Try.f3 Rows.fnSpikesRow.domain false) (Rows.fnSpikesSpec.post enc Try.prog Try.f3 false true false false) := by
  refine returnsInHanded_of_change (C := Try.checked) own started (by kernel_rfl) Try.func3
    (ChangeSpec.witness6 (enc := enc) (C := Try.checked) false ⟨#[], #[.slice none 0 0], []⟩ 8 (by kernel_rfl) (by kernel_rfl) (by kernel_rfl) (by kernel_rfl)) ?_
  intro W base args ds gs before hval0 hW hcnd _
  have hval : ∀ (j : Nat) t v, Try.f3.params[j]? = some t → args[j]? = some v → Value.okWide Try.prog W .any base t v := hval0
  have hW' := hW
  obtain ⟨p, q, hA0, hV, rfl, hfz, hnd⟩ := hW
  have hA : DataW.TrodAll enc Try.prog W 0 (fun _ => true) true Try.f3.params.toList args.toList ds p := hA0
  rw [Try.params3] at hA hval
  obtain ⟨v0, vs0, d0, ds0, p0, q0, hargs, rfl, rfl, h0, r0⟩ := trodAll_cons hA
  obtain ⟨rfl, rfl, rfl⟩ := trodAll_nil r0
  obtain rfl : args = #[v0] := by cases args; simp_all
  obtain ⟨rfl, rfl⟩ := trodVars_none hV
  have k0 := h0
  have lt0 : ∀ x ∈ p0, x.block < W.heap.size := by obtain ⟨m, hm⟩ := k0; exact DataW.trod_lt m _ _ _ hm
  obtain ⟨A0, n0, c0, rfl⟩ := okWide_slice Try.underlying22 (hval 0 22 v0 rfl rfl)
  obtain ⟨m0, w0⟩ := open_code h0
  clear hA0 hval0
  refine (walk A0 n0 c0 W m0 w0).mono fun e W1 ⟨he, bel⟩ => ?_
  subst he
  exact ⟨_, rfl, _, _, _, [], _, [], hW', trodAll_mk1 (shut_bool Try.underlying4 _), (trodAll_cons_mk (Below.trod laidOut (by kernel_rfl) (of_decide_eq_true (by kernel_rfl)) k0 bel lt0) trodAll_mk0), rfl, bel.frame _, fun h => by cases h⟩

/-- The statement. -/
theorem proved : Rows.FnSpikesSaid :=
  OpenClaim.holds_of_wide 3 Try.f3 rfl rfl rfl rfl rfl rfl rfl ⟨rfl, rfl, rfl, rfl, rfl⟩ rfl rfl rfl rfl rfl (by kernel_rfl) Try.func3 (by kernel_rfl)
    (of_decide_eq_true (by kernel_rfl)) (by unfold Func.isWrapper; first | (rw [if_pos (by decide +kernel)]; kernel_rfl) | (rw [if_neg (by decide +kernel)]; exact ⟨rfl, rfl⟩))
    (fun os started H enc _ => lifted os started H enc)
#print axioms proved
end Go.Proofs.Ytjekmmekkfmplaa.fnSpikes
