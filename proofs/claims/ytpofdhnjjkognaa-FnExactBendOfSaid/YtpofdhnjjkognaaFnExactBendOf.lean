/-
  Proved here: for every slice of layers the law laws.FnExactBendOf returns true (impl.BendOf answers as spec.BendOf, writes into no argument, and its answer owns its memory), and the arguments read afterwards as before.
  Conditions: none beyond the row's own.
-/
import Derived.Test.YtpofdhnjjkognaaYo
import Derived.Test.YtpofdhnjjkognaaYd
import Derived.Test.YtpofdhnjjkognaaIi
import Derived.Test.YtpofdhnjjkognaaYb
namespace Go.Proofs.Ytpofdhnjjkognaa.fnExactBendOf
open Go.Joins Go.ChangeShapes Go.WideShapes Go.ChangeAt Go.RowKit Go.Deep
set_option linter.unusedVariables false

/-! ### The walk: the Go text returns true, and nothing that was there has turned. -/
set_option maxRecDepth 20000 in
set_option maxHeartbeats 3200000 in
theorem walk (A0 : Option Addr) (n0 c0 : Nat) (l0 : List (Int × Int)) (w : World) (hs0 : Spots w w.heap.size A0 n0 l0) (hm0 : n0 ≤ maxLen) :
    Calls Try.prog 12 #[.slice A0 n0 c0] w fun e w' => e = .returned (.bool true) ∧ Below w.heap.size w w' := by
  by_cases h0 : (1048576 : Int) < n0
  · go_enter Try.func12, Try.ntmps12
    go_wp2_with fail
    refine (szY_neg _ _ _ _ _ (by omega) (by omega) h0 hm0).mono ?_
    rintro e w' ⟨rfl, rfl⟩
    go_wp2_with fail
    go_ret
    exact ⟨rfl, Below.refl _ _⟩
  have hle0 : n0 ≤ 1048576 := by omega
  obtain rfl := hs0.1
  have HS0 := Lib.hid hs0
  clear hs0
  have hres : (bnR l0).length ≤ 1048576 := bnR_len l0
  have HB0 := Lib.hid (Below.refl w.heap.size w)
  go_enter Try.func12, Try.ntmps12
  go_wp2_with fail
  refine (szY_pos _ _ _ _ _ (by omega) (by omega)).mono ?_
  rintro e w' ⟨rfl, rfl⟩
  go_wp2_with fail
  refine (copyY_any _ _ _ l0 _ (spots_at HS0.out HB0.out) hle0).mono ?_
  rintro e w1 ⟨g1, rfl, hO, hb⟩
  have HB2 := Lib.hid (bthen HB0.out hb HB0.out.size)
  have HC2 := Lib.hid hb.size
  clear hb
  have HO1 := Lib.hid hO
  clear hO
  clear h0
  go_wp2_with fail
  refine (bend_spec _ _ _ l0 _ (HO1.out.spots (by have z0 := HC2.out; omega)) hm0).mono ?_
  rintro e w3 ⟨A3, c3, rfl, hO, hb⟩
  have HB4 := Lib.hid (bthen HB2.out hb HB2.out.size)
  have HC4 := Lib.hid hb.size
  have HR0_4 := Lib.hid (HO1.out.on hb (by have z0 := HC2.out; have z1 := HC4.out; omega))
  clear hb
  have HO3 := Lib.hid hO
  clear hO
  go_wp2_with fail
  refine (copyY_any _ _ _ l0 _ (spots_at HS0.out HB4.out) hle0).mono ?_
  rintro e w5 ⟨g5, rfl, hO, hb⟩
  have HB6 := Lib.hid (bthen HB4.out hb HB4.out.size)
  have HC6 := Lib.hid hb.size
  have HR0_6 := Lib.hid (HO3.out.on hb (by have z0 := HC2.out; have z1 := HC4.out; have z2 := HC6.out; omega))
  clear hb
  have HO5 := Lib.hid hO
  clear hO
  go_wp2_with fail
  refine (bend_impl _ _ _ l0 _ (HO5.out.spots (by have z0 := HC2.out; have z1 := HC4.out; have z2 := HC6.out; omega)) hm0).mono ?_
  rintro e w7 ⟨A7, c7, rfl, hO, hb⟩
  have HB8 := Lib.hid (bthen HB6.out hb HB6.out.size)
  have HC8 := Lib.hid hb.size
  have HR0_8 := Lib.hid (HR0_6.out.on hb (by have z0 := HC2.out; have z1 := HC4.out; have z2 := HC6.out; have z3 := HC8.out; omega))
  have HR1_8 := Lib.hid (HO5.out.on hb (by have z0 := HC2.out; have z1 := HC4.out; have z2 := HC6.out; have z3 := HC8.out; omega))
  clear hb
  have HO7 := Lib.hid hO
  clear hO
  go_wp2_with fail
  refine (eqI_same _ _ _ _ _ _ _ _ _ _ _ HO7.out HR0_8.out hres).mono ?_
  rintro e w' ⟨rfl, k9, rfl⟩
  obtain ⟨w9, hw9⟩ : ∃ W, W = w7.drewN k9 := ⟨_, rfl⟩
  have hb : Below w7.heap.size w7 w9 := hw9 ▸ bdrewN (Below.refl _ _) k9
  rw [← hw9]
  clear hw9
  have HB10 := Lib.hid (bthen HB8.out hb HB8.out.size)
  have HC10 := Lib.hid hb.size
  have HR0_10 := Lib.hid (HR0_8.out.on hb (by have z0 := HC2.out; have z1 := HC4.out; have z2 := HC6.out; have z3 := HC8.out; have z4 := HC10.out; omega))
  have HR1_10 := Lib.hid (HR1_8.out.on hb (by have z0 := HC2.out; have z1 := HC4.out; have z2 := HC6.out; have z3 := HC8.out; have z4 := HC10.out; omega))
  have HR2_10 := Lib.hid (HO7.out.on hb (by have z0 := HC2.out; have z1 := HC4.out; have z2 := HC6.out; have z3 := HC8.out; have z4 := HC10.out; omega))
  clear hb
  go_wp2_with fail
  refine (copyY_any _ _ _ l0 _ (spots_at HS0.out HB10.out) hle0).mono ?_
  rintro e w11 ⟨g11, rfl, hO, hb⟩
  have HB12 := Lib.hid (bthen HB10.out hb HB10.out.size)
  have HC12 := Lib.hid hb.size
  have HR0_12 := Lib.hid (HR0_10.out.on hb (by have z0 := HC2.out; have z1 := HC4.out; have z2 := HC6.out; have z3 := HC8.out; have z4 := HC10.out; have z5 := HC12.out; omega))
  have HR1_12 := Lib.hid (HR1_10.out.on hb (by have z0 := HC2.out; have z1 := HC4.out; have z2 := HC6.out; have z3 := HC8.out; have z4 := HC10.out; have z5 := HC12.out; omega))
  have HR2_12 := Lib.hid (HR2_10.out.on hb (by have z0 := HC2.out; have z1 := HC4.out; have z2 := HC6.out; have z3 := HC8.out; have z4 := HC10.out; have z5 := HC12.out; omega))
  clear hb
  have HO11 := Lib.hid hO
  clear hO
  go_wp2_with fail
  refine (eqY_same _ _ _ _ _ l0 _ (HR1_12.out.spots (by have z0 := HC2.out; have z1 := HC4.out; have z2 := HC6.out; have z3 := HC8.out; have z4 := HC10.out; have z5 := HC12.out; omega)) (HO11.out.spots (by have z0 := HC2.out; have z1 := HC4.out; have z2 := HC6.out; have z3 := HC8.out; have z4 := HC10.out; have z5 := HC12.out; omega)) hm0).mono ?_
  rintro e w13 ⟨rfl, hb⟩
  have HB14 := Lib.hid (bthen HB12.out hb HB12.out.size)
  have HC14 := Lib.hid hb.size
  have HR0_14 := Lib.hid (HR0_12.out.on hb (by have z0 := HC2.out; have z1 := HC4.out; have z2 := HC6.out; have z3 := HC8.out; have z4 := HC10.out; have z5 := HC12.out; have z6 := HC14.out; omega))
  have HR1_14 := Lib.hid (HR1_12.out.on hb (by have z0 := HC2.out; have z1 := HC4.out; have z2 := HC6.out; have z3 := HC8.out; have z4 := HC10.out; have z5 := HC12.out; have z6 := HC14.out; omega))
  have HR2_14 := Lib.hid (HR2_12.out.on hb (by have z0 := HC2.out; have z1 := HC4.out; have z2 := HC6.out; have z3 := HC8.out; have z4 := HC10.out; have z5 := HC12.out; have z6 := HC14.out; omega))
  clear hb
  go_wp2_with fail
  refine (markY_any _ _ _ _ _ _ _ HR1_14.out hle0).mono ?_
  rintro e w15 ⟨rfl, hO, hF⟩
  have HB16 := Lib.hid (HB14.out.trans (hF.below (by have z0 := HC2.out; have z1 := HC4.out; have z2 := HC6.out; have z3 := HC8.out; have z4 := HC10.out; have z5 := HC12.out; have z6 := HC14.out; omega) HB14.out.size))
  have HC16 := Lib.hid (Nat.le_of_eq hF.size.symm)
  have HR0_16 := Lib.hid (HR0_14.out.far hF (by have z0 := HC2.out; have z1 := HC4.out; have z2 := HC6.out; have z3 := HC8.out; have z4 := HC10.out; have z5 := HC12.out; have z6 := HC14.out; have z7 := HC16.out; omega) (by have z0 := HC2.out; have z1 := HC4.out; have z2 := HC6.out; have z3 := HC8.out; have z4 := HC10.out; have z5 := HC12.out; have z6 := HC14.out; have z7 := HC16.out; omega))
  have HR2_16 := Lib.hid (HR2_14.out.far hF (by have z0 := HC2.out; have z1 := HC4.out; have z2 := HC6.out; have z3 := HC8.out; have z4 := HC10.out; have z5 := HC12.out; have z6 := HC14.out; have z7 := HC16.out; omega) (by have z0 := HC2.out; have z1 := HC4.out; have z2 := HC6.out; have z3 := HC8.out; have z4 := HC10.out; have z5 := HC12.out; have z6 := HC14.out; have z7 := HC16.out; omega))
  clear hF
  have HM15 := Lib.hid hO
  clear hO
  have hk1 : 0 ≤ 2 * (l0.length : Int) + 1 := by omega
  go_wp2_with fail
  refine (eqI_same _ _ _ _ _ _ _ _ _ _ _ HR2_16.out HR0_16.out hres).mono ?_
  rintro e w' ⟨rfl, k17, rfl⟩
  obtain ⟨w17, hw17⟩ : ∃ W, W = w15.drewN k17 := ⟨_, rfl⟩
  have hb : Below w15.heap.size w15 w17 := hw17 ▸ bdrewN (Below.refl _ _) k17
  rw [← hw17]
  clear hw17
  have HB18 := Lib.hid (bthen HB16.out hb HB16.out.size)
  have HC18 := Lib.hid hb.size
  have HR0_18 := Lib.hid (HR0_16.out.on hb (by have z0 := HC2.out; have z1 := HC4.out; have z2 := HC6.out; have z3 := HC8.out; have z4 := HC10.out; have z5 := HC12.out; have z6 := HC14.out; have z7 := HC16.out; have z8 := HC18.out; omega))
  have HR1_18 := Lib.hid (HM15.out.on hb (by have z0 := HC2.out; have z1 := HC4.out; have z2 := HC6.out; have z3 := HC8.out; have z4 := HC10.out; have z5 := HC12.out; have z6 := HC14.out; have z7 := HC16.out; have z8 := HC18.out; omega))
  have HR2_18 := Lib.hid (HR2_16.out.on hb (by have z0 := HC2.out; have z1 := HC4.out; have z2 := HC6.out; have z3 := HC8.out; have z4 := HC10.out; have z5 := HC12.out; have z6 := HC14.out; have z7 := HC16.out; have z8 := HC18.out; omega))
  clear hb
  clear hk1
  go_wp2_with fail
  refine (markI_any _ _ _ _ _ _ _ HR2_18.out hres).mono ?_
  rintro e w19 ⟨rfl, hO, hF⟩
  have HB20 := Lib.hid (HB18.out.trans (hF.below (by have z0 := HC2.out; have z1 := HC4.out; have z2 := HC6.out; have z3 := HC8.out; have z4 := HC10.out; have z5 := HC12.out; have z6 := HC14.out; have z7 := HC16.out; have z8 := HC18.out; omega) HB18.out.size))
  have HC20 := Lib.hid (Nat.le_of_eq hF.size.symm)
  have HR0_20 := Lib.hid (HR0_18.out.far hF (by have z0 := HC2.out; have z1 := HC4.out; have z2 := HC6.out; have z3 := HC8.out; have z4 := HC10.out; have z5 := HC12.out; have z6 := HC14.out; have z7 := HC16.out; have z8 := HC18.out; have z9 := HC20.out; omega) (by have z0 := HC2.out; have z1 := HC4.out; have z2 := HC6.out; have z3 := HC8.out; have z4 := HC10.out; have z5 := HC12.out; have z6 := HC14.out; have z7 := HC16.out; have z8 := HC18.out; have z9 := HC20.out; omega))
  have HR1_20 := Lib.hid (HR1_18.out.far hF (by have z0 := HC2.out; have z1 := HC4.out; have z2 := HC6.out; have z3 := HC8.out; have z4 := HC10.out; have z5 := HC12.out; have z6 := HC14.out; have z7 := HC16.out; have z8 := HC18.out; have z9 := HC20.out; omega) (by have z0 := HC2.out; have z1 := HC4.out; have z2 := HC6.out; have z3 := HC8.out; have z4 := HC10.out; have z5 := HC12.out; have z6 := HC14.out; have z7 := HC16.out; have z8 := HC18.out; have z9 := HC20.out; omega))
  clear hF
  have HM19 := Lib.hid hO
  clear hO
  go_wp2_with fail
  refine (heldI_any _ _ _ _ _ _ HM19.out hres).mono ?_
  rintro e w' ⟨rfl, rfl⟩
  have hk2 : 0 ≤ ((((bnR l0).length) : Nat) : Int) + 1 := by omega
  go_wp2_with fail
  refine (copyY_any _ _ _ l0 _ (spots_at HS0.out HB20.out) hle0).mono ?_
  rintro e w22 ⟨g22, rfl, hO, hb⟩
  have HB23 := Lib.hid (bthen HB20.out hb HB20.out.size)
  have HC23 := Lib.hid hb.size
  have HR0_23 := Lib.hid (HR0_20.out.on hb (by have z0 := HC2.out; have z1 := HC4.out; have z2 := HC6.out; have z3 := HC8.out; have z4 := HC10.out; have z5 := HC12.out; have z6 := HC14.out; have z7 := HC16.out; have z8 := HC18.out; have z9 := HC20.out; have z10 := HC23.out; omega))
  have HR1_23 := Lib.hid (HR1_20.out.on hb (by have z0 := HC2.out; have z1 := HC4.out; have z2 := HC6.out; have z3 := HC8.out; have z4 := HC10.out; have z5 := HC12.out; have z6 := HC14.out; have z7 := HC16.out; have z8 := HC18.out; have z9 := HC20.out; have z10 := HC23.out; omega))
  have HR2_23 := Lib.hid (HM19.out.on hb (by have z0 := HC2.out; have z1 := HC4.out; have z2 := HC6.out; have z3 := HC8.out; have z4 := HC10.out; have z5 := HC12.out; have z6 := HC14.out; have z7 := HC16.out; have z8 := HC18.out; have z9 := HC20.out; have z10 := HC23.out; omega))
  clear hb
  have HO22 := Lib.hid hO
  clear hO
  go_wp2_with fail
  refine (bend_impl _ _ _ l0 _ (HO22.out.spots (by have z0 := HC2.out; have z1 := HC4.out; have z2 := HC6.out; have z3 := HC8.out; have z4 := HC10.out; have z5 := HC12.out; have z6 := HC14.out; have z7 := HC16.out; have z8 := HC18.out; have z9 := HC20.out; have z10 := HC23.out; omega)) hm0).mono ?_
  rintro e w24 ⟨A24, c24, rfl, hO, hb⟩
  have HB25 := Lib.hid (bthen HB23.out hb HB23.out.size)
  have HC25 := Lib.hid hb.size
  have HR0_25 := Lib.hid (HR0_23.out.on hb (by have z0 := HC2.out; have z1 := HC4.out; have z2 := HC6.out; have z3 := HC8.out; have z4 := HC10.out; have z5 := HC12.out; have z6 := HC14.out; have z7 := HC16.out; have z8 := HC18.out; have z9 := HC20.out; have z10 := HC23.out; have z11 := HC25.out; omega))
  have HR1_25 := Lib.hid (HR1_23.out.on hb (by have z0 := HC2.out; have z1 := HC4.out; have z2 := HC6.out; have z3 := HC8.out; have z4 := HC10.out; have z5 := HC12.out; have z6 := HC14.out; have z7 := HC16.out; have z8 := HC18.out; have z9 := HC20.out; have z10 := HC23.out; have z11 := HC25.out; omega))
  have HR2_25 := Lib.hid (HR2_23.out.on hb (by have z0 := HC2.out; have z1 := HC4.out; have z2 := HC6.out; have z3 := HC8.out; have z4 := HC10.out; have z5 := HC12.out; have z6 := HC14.out; have z7 := HC16.out; have z8 := HC18.out; have z9 := HC20.out; have z10 := HC23.out; have z11 := HC25.out; omega))
  have HR3_25 := Lib.hid (HO22.out.on hb (by have z0 := HC2.out; have z1 := HC4.out; have z2 := HC6.out; have z3 := HC8.out; have z4 := HC10.out; have z5 := HC12.out; have z6 := HC14.out; have z7 := HC16.out; have z8 := HC18.out; have z9 := HC20.out; have z10 := HC23.out; have z11 := HC25.out; omega))
  clear hb
  have HO24 := Lib.hid hO
  clear hO
  go_wp2_with fail
  refine (eqI_same _ _ _ _ _ _ _ _ _ _ _ HO24.out HR0_25.out hres).mono ?_
  rintro e w' ⟨rfl, k26, rfl⟩
  obtain ⟨w26, hw26⟩ : ∃ W, W = w24.drewN k26 := ⟨_, rfl⟩
  have hb : Below w24.heap.size w24 w26 := hw26 ▸ bdrewN (Below.refl _ _) k26
  rw [← hw26]
  clear hw26
  have HB27 := Lib.hid (bthen HB25.out hb HB25.out.size)
  have HC27 := Lib.hid hb.size
  have HR0_27 := Lib.hid (HR0_25.out.on hb (by have z0 := HC2.out; have z1 := HC4.out; have z2 := HC6.out; have z3 := HC8.out; have z4 := HC10.out; have z5 := HC12.out; have z6 := HC14.out; have z7 := HC16.out; have z8 := HC18.out; have z9 := HC20.out; have z10 := HC23.out; have z11 := HC25.out; have z12 := HC27.out; omega))
  have HR1_27 := Lib.hid (HR1_25.out.on hb (by have z0 := HC2.out; have z1 := HC4.out; have z2 := HC6.out; have z3 := HC8.out; have z4 := HC10.out; have z5 := HC12.out; have z6 := HC14.out; have z7 := HC16.out; have z8 := HC18.out; have z9 := HC20.out; have z10 := HC23.out; have z11 := HC25.out; have z12 := HC27.out; omega))
  have HR2_27 := Lib.hid (HR2_25.out.on hb (by have z0 := HC2.out; have z1 := HC4.out; have z2 := HC6.out; have z3 := HC8.out; have z4 := HC10.out; have z5 := HC12.out; have z6 := HC14.out; have z7 := HC16.out; have z8 := HC18.out; have z9 := HC20.out; have z10 := HC23.out; have z11 := HC25.out; have z12 := HC27.out; omega))
  have HR3_27 := Lib.hid (HR3_25.out.on hb (by have z0 := HC2.out; have z1 := HC4.out; have z2 := HC6.out; have z3 := HC8.out; have z4 := HC10.out; have z5 := HC12.out; have z6 := HC14.out; have z7 := HC16.out; have z8 := HC18.out; have z9 := HC20.out; have z10 := HC23.out; have z11 := HC25.out; have z12 := HC27.out; omega))
  have HR4_27 := Lib.hid (HO24.out.on hb (by have z0 := HC2.out; have z1 := HC4.out; have z2 := HC6.out; have z3 := HC8.out; have z4 := HC10.out; have z5 := HC12.out; have z6 := HC14.out; have z7 := HC16.out; have z8 := HC18.out; have z9 := HC20.out; have z10 := HC23.out; have z11 := HC25.out; have z12 := HC27.out; omega))
  clear hb
  go_wp2_with fail
  refine (heldI_any _ _ _ _ _ _ HR2_27.out hres).mono ?_
  rintro e w' ⟨rfl, rfl⟩
  go_wp2_with fail
  go_ret
  exact ⟨rfl, HB27.out⟩

/-! ### The row's step. -/
set_option maxRecDepth 100000 in
theorem lifted (os : Os) (started : os.Started) (H : Type) (enc : TypeId × Value → H) :
    ReturnsInHanded {} Try.checked os 12 .any (Rows.fnExactBendOfSpec.pre6 enc Try.prog Try.f12 Rows.fnExactBendOfRow.domain false) (Rows.fnExactBendOfSpec.post enc Try.prog Try.f12 false true false false) := by
  refine returnsInHanded_of_change (C := Try.checked) own started (by kernel_rfl) Try.func12
    (ChangeSpec.witness6 (enc := enc) (C := Try.checked) false ⟨#[], #[.slice none 0 0], []⟩ 8 (by kernel_rfl) (by kernel_rfl) (by kernel_rfl) (by kernel_rfl)) ?_
  intro W base args ds gs before hval0 hW hcnd _
  have hval : ∀ (j : Nat) t v, Try.f12.params[j]? = some t → args[j]? = some v → Value.okWide Try.prog W .any base t v := hval0
  have hW' := hW
  obtain ⟨p, q, hA0, hV, rfl, hfz, hnd⟩ := hW
  have hA : DataW.TrodAll enc Try.prog W 0 (fun _ => true) true Try.f12.params.toList args.toList ds p := hA0
  rw [Try.params12] at hA hval
  obtain ⟨v0, vs0, d0, ds0, p0, q0, hargs, rfl, rfl, h0, r0⟩ := trodAll_cons hA
  obtain ⟨rfl, rfl, rfl⟩ := trodAll_nil r0
  obtain rfl : args = #[v0] := by cases args; simp_all
  obtain ⟨rfl, rfl⟩ := trodVars_none hV
  have k0 := h0
  have lt0 : ∀ x ∈ p0, x.block < W.heap.size := by obtain ⟨m, hm⟩ := k0; exact DataW.trod_lt m _ _ _ hm
  obtain ⟨A0, n0, c0, rfl⟩ := okWide_slice Try.underlying43 (hval 0 43 v0 rfl rfl)
  obtain ⟨m0, l0, w0⟩ := open_strata h0
  clear hA0 hval0
  refine (walk A0 n0 c0 l0 W w0 m0).mono fun e W1 ⟨he, bel⟩ => ?_
  subst he
  exact ⟨_, rfl, _, _, _, [], _, [], hW', trodAll_mk1 (shut_bool Try.underlying4 _), (trodAll_cons_mk (Below.trod laidOut (by kernel_rfl) (of_decide_eq_true (by kernel_rfl)) k0 bel lt0) trodAll_mk0), rfl, bel.frame _, fun h => by cases h⟩

/-- The statement. -/
theorem proved : Rows.FnExactBendOfSaid :=
  OpenClaim.holds_of_wide 12 Try.f12 rfl rfl rfl rfl rfl rfl rfl ⟨rfl, rfl, rfl, rfl, rfl⟩ rfl rfl rfl rfl rfl (by kernel_rfl) Try.func12 (by kernel_rfl)
    (of_decide_eq_true (by kernel_rfl)) (by unfold Func.isWrapper; first | (rw [if_pos (by decide +kernel)]; kernel_rfl) | (rw [if_neg (by decide +kernel)]; exact ⟨rfl, rfl⟩))
    (fun os started H enc _ => lifted os started H enc)
#print axioms proved
end Go.Proofs.Ytpofdhnjjkognaa.fnExactBendOf
