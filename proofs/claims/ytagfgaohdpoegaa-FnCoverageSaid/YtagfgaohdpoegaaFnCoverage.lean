/-
  Proved here: for every code the law laws.FnCoverage returns true (what is covered more often is covered, all whole cells of a box are covered or told, and the four functions answer as the model), and the argument reads afterwards as before.
  Conditions: none beyond the row's own.
-/
import Derived.Test.YtagfgaohdpoegaaCv12
namespace Go.Proofs.Ytagfgaohdpoegaa.fnCoverage
open Go.Joins Go.ChangeShapes Go.WideShapes Go.ChangeAt Go.RowKit Go.Deep
set_option linter.unusedVariables false

/-! ### The walk: the Go text returns true, and nothing that was there has turned. -/
set_option maxRecDepth 20000 in
set_option maxHeartbeats 12800000 in
theorem walk (A : Option Addr) (n c : Nat) (w : World) (hm : n ≤ maxLen) (hr : CodeRow w.heap.size A n w) :
    Calls Try.prog 3 #[.slice A n c] w fun e w' => e = .returned (.bool true) ∧ Below w.heap.size w w' := by
  rcases hb0 : decide ((65536 : Int) < n) with _ | _
  rotate_left
  · have HV := Lib.hid hb0
    clear hb0
    go_enter Try.func3, Try.ntmps3
    go_wp2_with fail
    refine (vBig_any _ _ _ _ HV.out _).mono ?_
    rintro e w' ⟨rfl, rfl⟩
    go_wp2_with fail
    go_ret
    exact ⟨rfl, Below.refl _ _⟩
  have HV := Lib.hid hb0
  have HRW := Lib.hid hr
  clear hb0 hr
  have HB0 := Lib.hid (Below.refl w.heap.size w)
  go_enter Try.func3, Try.ntmps3
  go_wp2_with fail
  refine (vBig_any _ _ _ _ HV.out _).mono ?_
  rintro e w' ⟨rfl, rfl⟩
  go_wp2_with fail
  refine (draw_cells A n c _ (HRW.out.below HB0.out HB0.out.size)).mono ?_
  rintro e w1 ⟨L, gb, cap, t, rfl, hl, hcap, hS, hb⟩
  have HS1 := Lib.hid hS
  have HB1 := Lib.hid (bthen HB0.out hb HB0.out.size)
  have hmL : L.length ≤ maxLen := by unfold maxLen; omega
  clear hS hb
  obtain ⟨V, HV⟩ : ∃ V, Hid (coN L t = V) := ⟨_, Lib.hid rfl⟩
  obtain ⟨K, HK⟩ : ∃ K, Hid (coK L t = K) := ⟨_, Lib.hid rfl⟩
  obtain ⟨Z, HZ⟩ : ∃ Z, Hid (lnsB L = Z) := ⟨_, Lib.hid rfl⟩
  go_wp2_with fail
  refine (covered_impl _ _ _ L t _ HS1.out hmL).mono ?_
  unfold IntPost
  rw [HV.out, HK.out]
  rintro e w2 ⟨rfl, hb⟩
  have HB2 := Lib.hid (bthen HB1.out hb HB1.out.size)
  have HS2 := Lib.hid (sds_atN HS1.out hb)
  clear hb
  go_wp2_with fail
  refine (covered_spec _ _ _ L t _ HS2.out hmL).mono ?_
  unfold IntPost
  rw [HV.out, HK.out]
  rintro e w3 ⟨rfl, hb⟩
  have HB3 := Lib.hid (bthen HB2.out hb HB2.out.size)
  have HS3 := Lib.hid (sds_atN HS2.out hb)
  clear hb
  go_wp2_with fail
  refine (lns_impl _ _ _ L _ HS3.out hmL).mono ?_
  rw [HZ.out]
  rintro e w4 ⟨rfl, hb⟩
  have HB4 := Lib.hid (bthen HB3.out hb HB3.out.size)
  have HS4 := Lib.hid (sds_atN HS3.out hb)
  clear hb
  go_wp2_with fail
  refine (lns_spec _ _ _ L _ HS4.out hmL).mono ?_
  rw [HZ.out]
  rintro e w5 ⟨rfl, hb⟩
  have HB5 := Lib.hid (bthen HB4.out hb HB4.out.size)
  have HS5 := Lib.hid (sds_atN HS4.out hb)
  clear hb
  rcases K with _ | _
  · go_upto_if 72 with fail
    rename (Act → World → Prop) => KK
    rename (∀ (a : Act) (w : World), _ → KK a w) => aK
    have HKK := Lib.hid aK
    clear aK
    go_wp2_with fail
    exact HKK.out _ _ (tailC12 rfl A n c w _ HRW.out HB5.out _ _ _ _ _ _ _ _ _ _ _ _ _ _ _ _ _ _ _ _ _ _ _ _ _ _ _ _ _ _ _ _ _ _ _ _ _ _ _ _ _ _ _ _ _ _ _ _ _ _ _ _ _ _ _ _ _ _ _ _ _ _ _ _ _ _ _ _ _ _ _ _ _ _ _ _ _ _ _ _ _ _ _ _ _ _ _ _ _ _ _ _ _ _ _ _ _ _ _ _ _ _ _ _ _ _ _ _ _ _ _ _ _ _ _ _ _ _ _ _ _ _ _ _ _ _ _ _ _ _ _ _ _ _ _ _ _ _ _ _ _ _ _ _ _ _ _ _ _ _ _ _ _ _ _ _ _ _ _ _ _ _ _ _ _ _ _ _ _ _ _ _ _ _ _ _ _ _ _ _ _ _ _ _ _ _ _ _ _ _ _ _ _ _ _ _ _ _ _ _ _)
  by_cases h1 : 1 < t
  rotate_left
  · go_upto_if 72 with fail
    rename (Act → World → Prop) => KK
    rename (∀ (a : Act) (w : World), _ → KK a w) => aK
    have HKK := Lib.hid aK
    clear aK
    go_wp2_with fail
    exact HKK.out _ _ (tailC12 rfl A n c w _ HRW.out HB5.out _ _ _ _ _ _ _ _ _ _ _ _ _ _ _ _ _ _ _ _ _ _ _ _ _ _ _ _ _ _ _ _ _ _ _ _ _ _ _ _ _ _ _ _ _ _ _ _ _ _ _ _ _ _ _ _ _ _ _ _ _ _ _ _ _ _ _ _ _ _ _ _ _ _ _ _ _ _ _ _ _ _ _ _ _ _ _ _ _ _ _ _ _ _ _ _ _ _ _ _ _ _ _ _ _ _ _ _ _ _ _ _ _ _ _ _ _ _ _ _ _ _ _ _ _ _ _ _ _ _ _ _ _ _ _ _ _ _ _ _ _ _ _ _ _ _ _ _ _ _ _ _ _ _ _ _ _ _ _ _ _ _ _ _ _ _ _ _ _ _ _ _ _ _ _ _ _ _ _ _ _ _ _ _ _ _ _ _ _ _ _ _ _ _ _ _ _ _ _ _ _)
  obtain ⟨hk2, hmn, ht8⟩ := coN_mono HK.out h1
  rw [HV.out] at hmn
  have HK2 := Lib.hid hk2
  obtain ⟨V2, HV2⟩ : ∃ v, Hid (coN L (t - 1) = v) := ⟨_, Lib.hid rfl⟩
  rw [HV2.out] at hmn
  clear hk2
  go_upto_if 72 with fail
  rename (Act → World → Prop) => KK
  rename (∀ (a : Act) (w : World), _ → KK a w) => aK
  have HKK := Lib.hid aK
  clear aK
  go_wp2_with fail
  refine (covered_impl _ _ _ L (t - 1) _ HS5.out hmL).mono ?_
  unfold IntPost
  rw [HV2.out, HK2.out]
  rintro e w6 ⟨rfl, hb⟩
  have HB6 := Lib.hid (bthen HB5.out hb HB5.out.size)
  clear hb
  have hnl : decide (V2 < V) = false := decide_eq_false (by omega)
  go_wp2_with fail
  exact HKK.out _ _ (tailC12 rfl A n c w _ HRW.out HB6.out _ _ _ _ _ _ _ _ _ _ _ _ _ _ _ _ _ _ _ _ _ _ _ _ _ _ _ _ _ _ _ _ _ _ _ _ _ _ _ _ _ _ _ _ _ _ _ _ _ _ _ _ _ _ _ _ _ _ _ _ _ _ _ _ _ _ _ _ _ _ _ _ _ _ _ _ _ _ _ _ _ _ _ _ _ _ _ _ _ _ _ _ _ _ _ _ _ _ _ _ _ _ _ _ _ _ _ _ _ _ _ _ _ _ _ _ _ _ _ _ _ _ _ _ _ _ _ _ _ _ _ _ _ _ _ _ _ _ _ _ _ _ _ _ _ _ _ _ _ _ _ _ _ _ _ _ _ _ _ _ _ _ _ _ _ _ _ _ _ _ _ _ _ _ _ _ _ _ _ _ _ _ _ _ _ _ _ _ _ _ _ _ _ _ _ _ _ _ _ _ _)
set_option maxRecDepth 100000 in
theorem lifted (os : Os) (started : os.Started) (H : Type) (enc : TypeId × Value → H) :
    ReturnsInHanded {} Try.checked os 3 .any (Rows.fnCoverageSpec.pre6 enc Try.prog Try.f3 Rows.fnCoverageRow.domain false) (Rows.fnCoverageSpec.post enc Try.prog Try.f3 false true false false) := by
  refine returnsInHanded_of_change (C := Try.checked) own started (by kernel_rfl) Try.func3
    (ChangeSpec.witness6 (enc := enc) (C := Try.checked) false ⟨#[], #[.slice none 0 0], []⟩ 8 (by kernel_rfl) (by kernel_rfl) (by kernel_rfl) (by kernel_rfl)) ?_
  intro W base args ds gs before hval0 hW hcnd _
  have hval : ∀ (j : Nat) t v, Try.f3.params[j]? = some t → args[j]? = some v → Value.okWide Try.prog W .any base t v := hval0
  have hW' := hW
  obtain ⟨p, q, hA0, hV, rfl, hfz, hnd⟩ := hW
  have hA : DataW.TrodAll enc Try.prog W 0 (fun _ => true) true Try.f3.params.toList args.toList ds p := hA0
  rw [Try.params3] at hA hval
  obtain ⟨v0, vs0, d0, ds0, p0, q0, hargs, rfl, rfl, h0, r0⟩ := trodAll_cons hA
  obtain ⟨rfl, rfl, rfl⟩ := trodAll_nil r0
  obtain rfl : args = #[v0] := by cases args; simp_all
  obtain ⟨rfl, rfl⟩ := trodVars_none hV
  have k0 := h0
  have lt0 : ∀ x ∈ p0, x.block < W.heap.size := by obtain ⟨m, hm⟩ := k0; exact DataW.trod_lt m _ _ _ hm
  obtain ⟨A0, n0, c0, rfl⟩ := okWide_slice Try.underlying22 (hval 0 22 v0 rfl rfl)
  obtain ⟨m0, w0⟩ := open_code h0
  clear hA0 hval0
  refine (walk A0 n0 c0 W m0 w0).mono fun e W1 ⟨he, bel⟩ => ?_
  subst he
  exact ⟨_, rfl, _, _, _, [], _, [], hW', trodAll_mk1 (shut_bool Try.underlying4 _), (trodAll_cons_mk (Below.trod laidOut (by kernel_rfl) (of_decide_eq_true (by kernel_rfl)) k0 bel lt0) trodAll_mk0), rfl, bel.frame _, fun h => by cases h⟩

/-- The statement. -/
theorem proved : Rows.FnCoverageSaid :=
  OpenClaim.holds_of_wide 3 Try.f3 rfl rfl rfl rfl rfl rfl rfl ⟨rfl, rfl, rfl, rfl, rfl⟩ rfl rfl rfl rfl rfl (by kernel_rfl) Try.func3 (by kernel_rfl)
    (of_decide_eq_true (by kernel_rfl)) (by unfold Func.isWrapper; first | (rw [if_pos (by decide +kernel)]; kernel_rfl) | (rw [if_neg (by decide +kernel)]; exact ⟨rfl, rfl⟩))
    (fun os started H enc _ => lifted os started H enc)
#print axioms proved
end Go.Proofs.Ytagfgaohdpoegaa.fnCoverage
