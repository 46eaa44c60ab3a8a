/-
  Proved here: for every code the law laws.FnLineOffsets returns true (a line that is corrected by its whole offset has none, no line is worse than the worst, and the functions answer as the model), and the argument reads afterwards as before.
  Conditions: none beyond the row's own.
-/
import Derived.Test.YtlakdlghkniegaaKy14
namespace Go.Proofs.Ytlakdlghkniegaa.fnLineOffsets
open Go.Joins Go.ChangeShapes Go.WideShapes Go.ChangeAt Go.RowKit Go.Deep
set_option linter.unusedVariables false

/-! ### The walk: the Go text returns true, and nothing that was there has turned. -/
set_option maxRecDepth 20000 in
set_option maxHeartbeats 12800000 in
theorem walk (A : Option Addr) (n c : Nat) (w : World) (hm : n ≤ maxLen) (hr : CodeRow w.heap.size A n w) :
    Calls Try.prog 4 #[.slice A n c] w fun e w' => e = .returned (.bool true) ∧ Below w.heap.size w w' := by
  rcases hb0 : decide ((65536 : Int) < n) with _ | _
  rotate_left
  · have HV := Lib.hid hb0
    clear hb0
    go_enter Try.func4, Try.ntmps4
    go_wp2_with fail
    refine (vBig_any _ _ _ _ HV.out _).mono ?_
    rintro e w' ⟨rfl, rfl⟩
    go_wp2_with fail
    go_ret
    exact ⟨rfl, Below.refl _ _⟩
  have HV := Lib.hid hb0
  have HRW := Lib.hid hr
  clear hb0 hr
  have HB0 := Lib.hid (Below.refl w.heap.size w)
  go_enter Try.func4, Try.ntmps4
  go_wp2_with fail
  refine (vBig_any _ _ _ _ HV.out _).mono ?_
  rintro e w' ⟨rfl, rfl⟩
  go_wp2_with fail
  refine (draw_off A n c _ (HRW.out.below HB0.out HB0.out.size)).mono ?_
  rintro e w1 ⟨L, gb, cap, l, rfl, hl1, hcap1, hS, hb⟩
  have HS1 := Lib.hid hS
  have HB1 := Lib.hid (bthen HB0.out hb HB0.out.size)
  have hm1 : L.length ≤ maxLen := by unfold maxLen; omega
  clear hS hb
  obtain ⟨AA1, hAA⟩ : ∃ AA : Option Addr, AA = some ⟨gb, 0, none⟩ := ⟨_, rfl⟩
  rw [← hAA] at HS1 ⊢
  clear hAA
  obtain ⟨N, HN⟩ : ∃ N, Hid (ofN L l = N) := ⟨_, Lib.hid rfl⟩
  obtain ⟨Q, HQ⟩ : ∃ Q, Hid (ofD L l = Q) := ⟨_, Lib.hid rfl⟩
  obtain ⟨K, HK⟩ : ∃ K, Hid (ofK L l = K) := ⟨_, Lib.hid rfl⟩
  have hnb := of_small L l
  rw [HN.out] at hnb
  obtain ⟨nb1, nb2⟩ := hnb
  go_wp2_with fail
  refine (offset_impl _ _ _ L l _ HS1.out hm1 hcap1).mono ?_
  unfold Num3X
  rw [HN.out, HQ.out, HK.out]
  rintro e w2 ⟨rfl, hb⟩
  have HB2 := Lib.hid (bthen HB1.out hb HB1.out.size)
  have HS2 := Lib.hid (sds_atX HS1.out hb)
  clear hb
  go_wp2_with fail
  refine (offset_spec _ _ _ L l _ HS2.out hm1).mono ?_
  unfold Num3X
  rw [HN.out, HQ.out, HK.out]
  rintro e w3 ⟨rfl, hb⟩
  have HB3 := Lib.hid (bthen HB2.out hb HB2.out.size)
  have HS3 := Lib.hid (sds_atX HS2.out hb)
  clear hb
  rcases K with _ | _
  · go_upto_if 80 with fail
    rename (Act → World → Prop) => KK
    rename (∀ (a : Act) (w : World), _ → KK a w) => aK
    have HKK := Lib.hid aK
    clear aK
    go_wp2_with fail
    exact HKK.out _ _ (tailY14 rfl A n c w _ HRW.out HB3.out _ _ _ _ _ _ _ _ _ _ _ _ _ _ _ _ _ _ _ _ _ _ _ _ _ _ _ _ _ _ _ _ _ _ _ _ _ _ _ _ _ _ _ _ _ _ _ _ _ _ _ _ _ _ _ _ _ _ _ _ _ _ _ _ _ _ _ _ _ _ _ _ _ _ _ _ _ _ _ _ _ _ _ _ _ _ _ _ _ _ _ _ _ _ _ _ _ _ _ _ _ _ _ _ _ _ _ _ _ _ _ _ _ _ _ _ _ _ _ _ _ _ _ _ _ _ _ _ _ _ _ _ _ _ _ _ _ _ _ _ _ _ _ _ _ _ _ _ _ _ _ _ _ _ _ _ _ _ _ _ _ _ _ _ _ _ _ _ _ _ _ _ _ _ _ _ _ _ _ _ _ _ _ _ _ _ _ _ _ _ _ _ _ _ _ _ _ _ _ _ _ _ _ _ _ _ _ _ _ _ _ _ _ _ _ _ _ _ _ _ _ _ _ _)
  by_cases hq : Q = 1
  rotate_left
  · have hq1 : (Q == 1) = false := beq_eq_false_iff_ne.2 hq
    go_upto_if 80 with fail
    rename (Act → World → Prop) => KK
    rename (∀ (a : Act) (w : World), _ → KK a w) => aK
    have HKK := Lib.hid aK
    clear aK
    go_wp2_with fail
    exact HKK.out _ _ (tailY14 rfl A n c w _ HRW.out HB3.out _ _ _ _ _ _ _ _ _ _ _ _ _ _ _ _ _ _ _ _ _ _ _ _ _ _ _ _ _ _ _ _ _ _ _ _ _ _ _ _ _ _ _ _ _ _ _ _ _ _ _ _ _ _ _ _ _ _ _ _ _ _ _ _ _ _ _ _ _ _ _ _ _ _ _ _ _ _ _ _ _ _ _ _ _ _ _ _ _ _ _ _ _ _ _ _ _ _ _ _ _ _ _ _ _ _ _ _ _ _ _ _ _ _ _ _ _ _ _ _ _ _ _ _ _ _ _ _ _ _ _ _ _ _ _ _ _ _ _ _ _ _ _ _ _ _ _ _ _ _ _ _ _ _ _ _ _ _ _ _ _ _ _ _ _ _ _ _ _ _ _ _ _ _ _ _ _ _ _ _ _ _ _ _ _ _ _ _ _ _ _ _ _ _ _ _ _ _ _ _ _ _ _ _ _ _ _ _ _ _ _ _ _ _ _ _ _ _ _ _ _ _ _ _)
  subst hq
  obtain ⟨R, HR⟩ : ∃ R, Hid (ccR L l N = R) := ⟨_, Lib.hid rfl⟩
  obtain ⟨J, HJ⟩ : ∃ J, Hid (ccK L l N = J) := ⟨_, Lib.hid rfl⟩
  have hrl : R.length ≤ L.length := by rw [← HR.out]; exact ccR_short l N
  have hmR : R.length ≤ maxLen := Nat.le_trans hrl hm1
  go_upto_if 80 with fail
  rename (Act → World → Prop) => KK
  rename (∀ (a : Act) (w : World), _ → KK a w) => aK
  have HKK := Lib.hid aK
  clear aK
  go_wp2_with fail
  refine (correct_impl _ _ _ L l N _ HS3.out hm1 hcap1 (by omega) (by omega)).mono ?_
  unfold CcPost
  rw [HR.out, HJ.out]
  rintro e w4 ⟨A4, c4, hc4, rfl, ho, hb⟩
  have HB4 := Lib.hid (bthen HB3.out hb HB3.out.size)
  have HO4 := Lib.hid ho.sds
  clear hb ho
  rcases J with _ | _
  · go_wp2_with fail
    exact HKK.out _ _ (tailY14 rfl A n c w _ HRW.out HB4.out _ _ _ _ _ _ _ _ _ _ _ _ _ _ _ _ _ _ _ _ _ _ _ _ _ _ _ _ _ _ _ _ _ _ _ _ _ _ _ _ _ _ _ _ _ _ _ _ _ _ _ _ _ _ _ _ _ _ _ _ _ _ _ _ _ _ _ _ _ _ _ _ _ _ _ _ _ _ _ _ _ _ _ _ _ _ _ _ _ _ _ _ _ _ _ _ _ _ _ _ _ _ _ _ _ _ _ _ _ _ _ _ _ _ _ _ _ _ _ _ _ _ _ _ _ _ _ _ _ _ _ _ _ _ _ _ _ _ _ _ _ _ _ _ _ _ _ _ _ _ _ _ _ _ _ _ _ _ _ _ _ _ _ _ _ _ _ _ _ _ _ _ _ _ _ _ _ _ _ _ _ _ _ _ _ _ _ _ _ _ _ _ _ _ _ _ _ _ _ _ _ _ _ _ _ _ _ _ _ _ _ _ _ _ _ _ _ _ _ _ _ _ _ _)
  have hz := cc_zero HK.out HQ.out (by rw [HN.out]; exact HJ.out)
  rw [HN.out, HR.out] at hz
  have HZ0 := Lib.hid hz.1
  have HZ1 := Lib.hid hz.2.1
  have HZ2 := Lib.hid hz.2.2
  clear hz
  go_wp2_with fail
  refine (offset_impl _ _ _ R l _ HO4.out hmR hc4).mono ?_
  unfold Num3X
  rw [HZ0.out, HZ1.out, HZ2.out]
  rintro e w5 ⟨rfl, hb⟩
  have HB5 := Lib.hid (bthen HB4.out hb HB4.out.size)
  clear hb
  go_wp2_with fail
  exact HKK.out _ _ (tailY14 rfl A n c w _ HRW.out HB5.out _ _ _ _ _ _ _ _ _ _ _ _ _ _ _ _ _ _ _ _ _ _ _ _ _ _ _ _ _ _ _ _ _ _ _ _ _ _ _ _ _ _ _ _ _ _ _ _ _ _ _ _ _ _ _ _ _ _ _ _ _ _ _ _ _ _ _ _ _ _ _ _ _ _ _ _ _ _ _ _ _ _ _ _ _ _ _ _ _ _ _ _ _ _ _ _ _ _ _ _ _ _ _ _ _ _ _ _ _ _ _ _ _ _ _ _ _ _ _ _ _ _ _ _ _ _ _ _ _ _ _ _ _ _ _ _ _ _ _ _ _ _ _ _ _ _ _ _ _ _ _ _ _ _ _ _ _ _ _ _ _ _ _ _ _ _ _ _ _ _ _ _ _ _ _ _ _ _ _ _ _ _ _ _ _ _ _ _ _ _ _ _ _ _ _ _ _ _ _ _ _ _ _ _ _ _ _ _ _ _ _ _ _ _ _ _ _ _ _ _ _ _ _ _)
set_option maxRecDepth 100000 in
theorem lifted (os : Os) (started : os.Started) (H : Type) (enc : TypeId × Value → H) :
    ReturnsInHanded {} Try.checked os 4 .any (Rows.fnLineOffsetsSpec.pre6 enc Try.prog Try.f4 Rows.fnLineOffsetsRow.domain false) (Rows.fnLineOffsetsSpec.post enc Try.prog Try.f4 false true false false) := by
  refine returnsInHanded_of_change (C := Try.checked) own started (by kernel_rfl) Try.func4
    (ChangeSpec.witness6 (enc := enc) (C := Try.checked) false ⟨#[], #[.slice none 0 0], []⟩ 8 (by kernel_rfl) (by kernel_rfl) (by kernel_rfl) (by kernel_rfl)) ?_
  intro W base args ds gs before hval0 hW hcnd _
  have hval : ∀ (j : Nat) t v, Try.f4.params[j]? = some t → args[j]? = some v → Value.okWide Try.prog W .any base t v := hval0
  have hW' := hW
  obtain ⟨p, q, hA0, hV, rfl, hfz, hnd⟩ := hW
  have hA : DataW.TrodAll enc Try.prog W 0 (fun _ => true) true Try.f4.params.toList args.toList ds p := hA0
  rw [Try.params4] at hA hval
  obtain ⟨v0, vs0, d0, ds0, p0, q0, hargs, rfl, rfl, h0, r0⟩ := trodAll_cons hA
  obtain ⟨rfl, rfl, rfl⟩ := trodAll_nil r0
  obtain rfl : args = #[v0] := by cases args; simp_all
  obtain ⟨rfl, rfl⟩ := trodVars_none hV
  have k0 := h0
  have lt0 : ∀ x ∈ p0, x.block < W.heap.size := by obtain ⟨m, hm⟩ := k0; exact DataW.trod_lt m _ _ _ hm
  obtain ⟨A0, n0, c0, rfl⟩ := okWide_slice Try.underlying22 (hval 0 22 v0 rfl rfl)
  obtain ⟨m0, w0⟩ := open_code h0
  clear hA0 hval0
  refine (walk A0 n0 c0 W m0 w0).mono fun e W1 ⟨he, bel⟩ => ?_
  subst he
  exact ⟨_, rfl, _, _, _, [], _, [], hW', trodAll_mk1 (shut_bool Try.underlying4 _), (trodAll_cons_mk (Below.trod laidOut (by kernel_rfl) (of_decide_eq_true (by kernel_rfl)) k0 bel lt0) trodAll_mk0), rfl, bel.frame _, fun h => by cases h⟩

/-- The statement. -/
theorem proved : Rows.FnLineOffsetsSaid :=
  OpenClaim.holds_of_wide 4 Try.f4 rfl rfl rfl rfl rfl rfl rfl ⟨rfl, rfl, rfl, rfl, rfl⟩ rfl rfl rfl rfl rfl (by kernel_rfl) Try.func4 (by kernel_rfl)
    (of_decide_eq_true (by kernel_rfl)) (by unfold Func.isWrapper; first | (rw [if_pos (by decide +kernel)]; kernel_rfl) | (rw [if_neg (by decide +kernel)]; exact ⟨rfl, rfl⟩))
    (fun os started H enc _ => lifted os started H enc)
#print axioms proved
end Go.Proofs.Ytlakdlghkniegaa.fnLineOffsets
