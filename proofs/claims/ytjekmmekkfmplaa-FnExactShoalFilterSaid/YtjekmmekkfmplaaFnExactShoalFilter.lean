/-
  Proved here: for every slice of numbers and number the law laws.FnExactShoalFilter returns true (impl.ShoalFilter answers as spec.ShoalFilter, writes into no argument, and its answer owns its memory), and the arguments read afterwards as before.
  Conditions: none beyond the row's own.
-/
import Derived.Test.YtjekmmekkfmplaaJk
import Derived.Test.YtjekmmekkfmplaaIi
import Derived.Test.YtjekmmekkfmplaaEz
import Derived.Test.YtjekmmekkfmplaaEf
import Derived.Test.YtjekmmekkfmplaaEs
namespace Go.Proofs.Ytjekmmekkfmplaa.fnExactShoalFilter
open Go.Joins Go.ChangeShapes Go.WideShapes Go.ChangeAt Go.RowKit Go.Deep
set_option linter.unusedVariables false

/-! ### The walk: the Go text returns true, and nothing that was there has turned. -/
set_option maxRecDepth 20000 in
set_option maxHeartbeats 6400000 in
theorem walk (A : Option Addr) (n c : Nat) (P : List Int) (l : Int) (w : World) (hp : ISeq w w.heap.size A n P) (hpm : n ≤ maxLen) :
    Calls Try.prog 10 #[.slice A n c, .int .i64 l] w fun z w' => z = .returned (.bool true) ∧ Below w.heap.size w w' := by
  obtain rfl := hp.1
  by_cases hPn : (1048576 : Int) < P.length
  · go_enter Try.func10, Try.ntmps10
    go_wp2_with fail
    go_ret
    exact ⟨rfl, Below.refl _ _⟩
  have HP := Lib.hid hp
  have HPN : Hid (P.length ≤ 1048576) := Lib.hid (by omega)
  have HN : Hid ((sfR P l).length ≤ 1048576) := Lib.hid (by have := sfR_len P l; omega)
  clear hp
  have HB0 := Lib.hid (Below.refl w.heap.size w)
  go_enter Try.func10, Try.ntmps10
  go_wp2_with fail
  refine (copyI_any A _ c P _ (iseq_at HP.out HB0.out) HPN.out).mono ?_
  rintro z w1 ⟨gi1, rfl, hO, hb⟩
  have HZ0 := Lib.hid hb.size
  have HB1 := Lib.hid (bthen HB0.out hb HB0.out.size)
  have HIs := Lib.hid hO
  clear hO
  clear hb
  go_wp2_with fail
  refine (shoal_spec _ _ _ _ P l _ HIs.out (Nat.le_refl _) HPN.out).mono ?_
  rintro z w2 ⟨AS, cS, rfl, hO, hb⟩
  have HZ1 := Lib.hid hb.size
  have HB2 := Lib.hid (bthen HB1.out hb HB1.out.size)
  have Hs_1 := Lib.hid (HIs.out.on hb (Nat.le_refl _))
  have HRS := Lib.hid hO
  clear hO
  clear hb
  go_wp2_with fail
  refine (copyI_any A _ c P _ (iseq_at HP.out HB2.out) HPN.out).mono ?_
  rintro z w3 ⟨gi3, rfl, hO, hb⟩
  have HZ2 := Lib.hid hb.size
  have HB3 := Lib.hid (bthen HB2.out hb HB2.out.size)
  have HS_2 := Lib.hid (HRS.out.on hb (Nat.le_refl _))
  have HIx := Lib.hid hO
  clear hO
  clear hb
  go_wp2_with fail
  refine (shoal_impl _ _ _ _ P l _ HIx.out (Nat.le_refl _) HPN.out (Nat.le_refl _)).mono ?_
  rintro z w4 ⟨AG, cG, rfl, hO, hb⟩
  have HZ3 := Lib.hid hb.size
  have HB4 := Lib.hid (bthen HB3.out hb HB3.out.size)
  have HS_3 := Lib.hid (HS_2.out.on hb (by have z0 := HZ0.out; have z1 := HZ1.out; have z2 := HZ2.out; have z3 := HZ3.out; omega))
  have Hx_4 := Lib.hid (HIx.out.on hb (Nat.le_refl _))
  have HRG := Lib.hid hO
  clear hO
  clear hb
  go_wp2_with fail
  refine (eqI_same _ _ _ _ _ _ _ _ _ _ _ HRG.out HS_3.out HN.out).mono ?_
  rintro z w5 ⟨rfl, dk, hdk⟩
  have hb : Below w4.heap.size w4 w5 := by rw [hdk]; exact bdrewN (Below.refl _ _) _
  clear hdk
  have HZ4 := Lib.hid hb.size
  have HB5 := Lib.hid (bthen HB4.out hb HB4.out.size)
  have HS_5 := Lib.hid (HS_3.out.on hb (by have z0 := HZ0.out; have z1 := HZ1.out; have z2 := HZ2.out; have z3 := HZ3.out; have z4 := HZ4.out; omega))
  have Hx_6 := Lib.hid (Hx_4.out.on hb (by have z0 := HZ0.out; have z1 := HZ1.out; have z2 := HZ2.out; have z3 := HZ3.out; have z4 := HZ4.out; omega))
  have HG_7 := Lib.hid (HRG.out.on hb (Nat.le_refl _))
  clear hb
  go_wp2_with fail
  refine (copyI_any A _ c P _ (iseq_at HP.out HB5.out) HPN.out).mono ?_
  rintro z w6 ⟨gi6, rfl, hO, hb⟩
  have HZ5 := Lib.hid hb.size
  have HB6 := Lib.hid (bthen HB5.out hb HB5.out.size)
  have HS_8 := Lib.hid (HS_5.out.on hb (by have z0 := HZ0.out; have z1 := HZ1.out; have z2 := HZ2.out; have z3 := HZ3.out; have z4 := HZ4.out; have z5 := HZ5.out; omega))
  have Hx_9 := Lib.hid (Hx_6.out.on hb (by have z0 := HZ0.out; have z1 := HZ1.out; have z2 := HZ2.out; have z3 := HZ3.out; have z4 := HZ4.out; have z5 := HZ5.out; omega))
  have HG_10 := Lib.hid (HG_7.out.on hb (by have z0 := HZ0.out; have z1 := HZ1.out; have z2 := HZ2.out; have z3 := HZ3.out; have z4 := HZ4.out; have z5 := HZ5.out; omega))
  have HIy := Lib.hid hO
  clear hO
  clear hb
  go_wp2_with fail
  refine (eqI_same _ _ _ _ _ _ _ _ _ _ _ Hx_9.out HIy.out HPN.out).mono ?_
  rintro z w7 ⟨rfl, dk, hdk⟩
  have hb : Below w6.heap.size w6 w7 := by rw [hdk]; exact bdrewN (Below.refl _ _) _
  clear hdk
  have HZ6 := Lib.hid hb.size
  have HB7 := Lib.hid (bthen HB6.out hb HB6.out.size)
  have HS_11 := Lib.hid (HS_8.out.on hb (by have z0 := HZ0.out; have z1 := HZ1.out; have z2 := HZ2.out; have z3 := HZ3.out; have z4 := HZ4.out; have z5 := HZ5.out; have z6 := HZ6.out; omega))
  have Hx_12 := Lib.hid (Hx_9.out.on hb (by have z0 := HZ0.out; have z1 := HZ1.out; have z2 := HZ2.out; have z3 := HZ3.out; have z4 := HZ4.out; have z5 := HZ5.out; have z6 := HZ6.out; omega))
  have HG_13 := Lib.hid (HG_10.out.on hb (by have z0 := HZ0.out; have z1 := HZ1.out; have z2 := HZ2.out; have z3 := HZ3.out; have z4 := HZ4.out; have z5 := HZ5.out; have z6 := HZ6.out; omega))
  have Hy_14 := Lib.hid (HIy.out.on hb (Nat.le_refl _))
  clear hb
  go_wp2_with fail
  refine (markI_any _ _ _ _ _ _ _ Hx_12.out HPN.out).mono ?_
  rintro z w8 ⟨rfl, _, hf⟩
  have hb : Below w2.heap.size w7 w8 := hf.below (Nat.le_refl _) (by have z0 := HZ0.out; have z1 := HZ1.out; have z2 := HZ2.out; have z3 := HZ3.out; have z4 := HZ4.out; have z5 := HZ5.out; have z6 := HZ6.out; omega)
  have HZ7 := Lib.hid (Nat.le_of_eq hf.size.symm)
  have HB8 := Lib.hid (HB7.out.trans (hb.mono HB2.out.size))
  have HS_15 := Lib.hid (HS_11.out.far hf (by have z0 := HZ0.out; have z1 := HZ1.out; have z2 := HZ2.out; have z3 := HZ3.out; have z4 := HZ4.out; have z5 := HZ5.out; have z6 := HZ6.out; omega) (by have z0 := HZ0.out; have z1 := HZ1.out; have z2 := HZ2.out; have z3 := HZ3.out; have z4 := HZ4.out; have z5 := HZ5.out; have z6 := HZ6.out; omega))
  have HG_16 := Lib.hid (HG_13.out.far hf (by have z0 := HZ0.out; have z1 := HZ1.out; have z2 := HZ2.out; have z3 := HZ3.out; have z4 := HZ4.out; have z5 := HZ5.out; have z6 := HZ6.out; omega) (by have z0 := HZ0.out; have z1 := HZ1.out; have z2 := HZ2.out; have z3 := HZ3.out; have z4 := HZ4.out; have z5 := HZ5.out; have z6 := HZ6.out; omega))
  clear hb hf
  go_wp2_with fail
  refine (eqI_same _ _ _ _ _ _ _ _ _ _ _ HG_16.out HS_15.out HN.out).mono ?_
  rintro z w9 ⟨rfl, dk, hdk⟩
  have hb : Below w8.heap.size w8 w9 := by rw [hdk]; exact bdrewN (Below.refl _ _) _
  clear hdk
  have HZ8 := Lib.hid hb.size
  have HB9 := Lib.hid (bthen HB8.out hb HB8.out.size)
  have HS_17 := Lib.hid (HS_15.out.on hb (by have z0 := HZ0.out; have z1 := HZ1.out; have z2 := HZ2.out; have z3 := HZ3.out; have z4 := HZ4.out; have z5 := HZ5.out; have z6 := HZ6.out; have z7 := HZ7.out; have z8 := HZ8.out; omega))
  have HG_18 := Lib.hid (HG_16.out.on hb (by have z0 := HZ0.out; have z1 := HZ1.out; have z2 := HZ2.out; have z3 := HZ3.out; have z4 := HZ4.out; have z5 := HZ5.out; have z6 := HZ6.out; have z7 := HZ7.out; have z8 := HZ8.out; omega))
  clear hb
  go_wp2_with fail
  refine (markI_any _ _ _ _ _ _ _ HG_18.out HN.out).mono ?_
  rintro z w10 ⟨rfl, hO, hf⟩
  have hb : Below w3.heap.size w9 w10 := hf.below (Nat.le_refl _) (by have z0 := HZ0.out; have z1 := HZ1.out; have z2 := HZ2.out; have z3 := HZ3.out; have z4 := HZ4.out; have z5 := HZ5.out; have z6 := HZ6.out; have z7 := HZ7.out; have z8 := HZ8.out; omega)
  have HZ9 := Lib.hid (Nat.le_of_eq hf.size.symm)
  have HB10 := Lib.hid (HB9.out.trans (hb.mono HB3.out.size))
  have HS_19 := Lib.hid (HS_17.out.far hf (by have z0 := HZ0.out; have z1 := HZ1.out; have z2 := HZ2.out; have z3 := HZ3.out; have z4 := HZ4.out; have z5 := HZ5.out; have z6 := HZ6.out; have z7 := HZ7.out; have z8 := HZ8.out; omega) (by have z0 := HZ0.out; have z1 := HZ1.out; have z2 := HZ2.out; have z3 := HZ3.out; have z4 := HZ4.out; have z5 := HZ5.out; have z6 := HZ6.out; have z7 := HZ7.out; have z8 := HZ8.out; omega))
  have HMK := Lib.hid hO
  clear hb hf hO
  go_wp2_with fail
  refine (heldI_any _ _ _ _ _ _ HMK.out HN.out).mono ?_
  rintro z w' ⟨rfl, rfl⟩
  go_wp2_with fail
  refine (copyI_any A _ c P _ (iseq_at HP.out HB10.out) HPN.out).mono ?_
  rintro z w11 ⟨gi11, rfl, hO, hb⟩
  have HZ10 := Lib.hid hb.size
  have HB11 := Lib.hid (bthen HB10.out hb HB10.out.size)
  have HS_20 := Lib.hid (HS_19.out.on hb (by have z0 := HZ0.out; have z1 := HZ1.out; have z2 := HZ2.out; have z3 := HZ3.out; have z4 := HZ4.out; have z5 := HZ5.out; have z6 := HZ6.out; have z7 := HZ7.out; have z8 := HZ8.out; have z9 := HZ9.out; have z10 := HZ10.out; omega))
  have HG_21 := Lib.hid (HMK.out.on hb (by have z0 := HZ0.out; have z1 := HZ1.out; have z2 := HZ2.out; have z3 := HZ3.out; have z4 := HZ4.out; have z5 := HZ5.out; have z6 := HZ6.out; have z7 := HZ7.out; have z8 := HZ8.out; have z9 := HZ9.out; have z10 := HZ10.out; omega))
  have HIy := Lib.hid hO
  clear hO
  clear hb
  go_wp2_with fail
  refine (shoal_impl _ _ _ _ P l _ HIy.out (Nat.le_refl _) HPN.out (Nat.le_refl _)).mono ?_
  rintro z w12 ⟨AH, cH, rfl, hO, hb⟩
  have HZ11 := Lib.hid hb.size
  have HB12 := Lib.hid (bthen HB11.out hb HB11.out.size)
  have HS_22 := Lib.hid (HS_20.out.on hb (by have z0 := HZ0.out; have z1 := HZ1.out; have z2 := HZ2.out; have z3 := HZ3.out; have z4 := HZ4.out; have z5 := HZ5.out; have z6 := HZ6.out; have z7 := HZ7.out; have z8 := HZ8.out; have z9 := HZ9.out; have z10 := HZ10.out; have z11 := HZ11.out; omega))
  have HG_23 := Lib.hid (HG_21.out.on hb (by have z0 := HZ0.out; have z1 := HZ1.out; have z2 := HZ2.out; have z3 := HZ3.out; have z4 := HZ4.out; have z5 := HZ5.out; have z6 := HZ6.out; have z7 := HZ7.out; have z8 := HZ8.out; have z9 := HZ9.out; have z10 := HZ10.out; have z11 := HZ11.out; omega))
  have Hy_24 := Lib.hid (HIy.out.on hb (Nat.le_refl _))
  have HRH := Lib.hid hO
  clear hO
  clear hb
  go_wp2_with fail
  refine (eqI_same _ _ _ _ _ _ _ _ _ _ _ HRH.out HS_22.out HN.out).mono ?_
  rintro z w13 ⟨rfl, dk, hdk⟩
  have hb : Below w12.heap.size w12 w13 := by rw [hdk]; exact bdrewN (Below.refl _ _) _
  clear hdk
  have HZ12 := Lib.hid hb.size
  have HB13 := Lib.hid (bthen HB12.out hb HB12.out.size)
  have HS_25 := Lib.hid (HS_22.out.on hb (by have z0 := HZ0.out; have z1 := HZ1.out; have z2 := HZ2.out; have z3 := HZ3.out; have z4 := HZ4.out; have z5 := HZ5.out; have z6 := HZ6.out; have z7 := HZ7.out; have z8 := HZ8.out; have z9 := HZ9.out; have z10 := HZ10.out; have z11 := HZ11.out; have z12 := HZ12.out; omega))
  have HG_26 := Lib.hid (HG_23.out.on hb (by have z0 := HZ0.out; have z1 := HZ1.out; have z2 := HZ2.out; have z3 := HZ3.out; have z4 := HZ4.out; have z5 := HZ5.out; have z6 := HZ6.out; have z7 := HZ7.out; have z8 := HZ8.out; have z9 := HZ9.out; have z10 := HZ10.out; have z11 := HZ11.out; have z12 := HZ12.out; omega))
  have HH_27 := Lib.hid (HRH.out.on hb (Nat.le_refl _))
  clear hb
  go_wp2_with fail
  refine (heldI_any _ _ _ _ _ _ HG_26.out HN.out).mono ?_
  rintro z w' ⟨rfl, rfl⟩
  go_wp2_with fail
  go_ret
  exact ⟨rfl, HB13.out⟩

/-! ### The row's step. -/
set_option maxRecDepth 100000 in
theorem lifted (os : Os) (started : os.Started) (H : Type) (enc : TypeId × Value → H) :
    ReturnsInHanded {} Try.checked os 10 .any (Rows.fnExactShoalFilterSpec.pre6 enc Try.prog Try.f10 Rows.fnExactShoalFilterRow.domain false) (Rows.fnExactShoalFilterSpec.post enc Try.prog Try.f10 false true false false) := by
  refine returnsInHanded_of_change (C := Try.checked) own started (by kernel_rfl) Try.func10
    (ChangeSpec.witness6 (enc := enc) (C := Try.checked) false ⟨#[], #[.slice none 0 0, .int .i64 0], []⟩ 8 (by kernel_rfl) (by kernel_rfl) (by kernel_rfl) (by kernel_rfl)) ?_
  intro W base args ds gs before hval0 hW hcnd _
  have hval : ∀ (j : Nat) t v, Try.f10.params[j]? = some t → args[j]? = some v → Value.okWide Try.prog W .any base t v := hval0
  have hW' := hW
  obtain ⟨p, q, hA0, hV, rfl, hfz, hnd⟩ := hW
  have hA : DataW.TrodAll enc Try.prog W 0 (fun _ => true) true Try.f10.params.toList args.toList ds p := hA0
  rw [Try.params10] at hA hval
  obtain ⟨v0, vs0, d0, ds0, p0, q0, hargs, rfl, rfl, h0, r0⟩ := trodAll_cons hA
  obtain ⟨v1, vs1, d1, ds1, p1, q1, rfl, rfl, rfl, h1, r1⟩ := trodAll_cons r0
  obtain ⟨rfl, rfl, rfl⟩ := trodAll_nil r1
  obtain rfl : args = #[v0, v1] := by cases args; simp_all
  obtain ⟨rfl, rfl⟩ := trodVars_none hV
  have k0 := h0
  have lt0 : ∀ x ∈ p0, x.block < W.heap.size := by obtain ⟨m, hm⟩ := k0; exact DataW.trod_lt m _ _ _ hm
  obtain ⟨A0, n0, c0, rfl⟩ := okWide_slice Try.underlying24 (hval 0 24 v0 rfl rfl)
  obtain ⟨m0, l0, w0⟩ := open_intsJ h0
  have k1 := h1
  have lt1 : ∀ x ∈ p1, x.block < W.heap.size := by obtain ⟨m, hm⟩ := k1; exact DataW.trod_lt m _ _ _ hm
  obtain ⟨x1, rfl⟩ := open_num (hval 1 3 v1 rfl rfl) h1
  clear hA0 hval0
  refine (walk A0 n0 c0 l0 x1 W w0 m0).mono fun e W1 ⟨he, bel⟩ => ?_
  subst he
  exact ⟨_, rfl, _, _, _, [], _, [], hW', trodAll_mk1 (shut_bool Try.underlying4 _), (trodAll_cons_mk (Below.trod laidOut (by kernel_rfl) (of_decide_eq_true (by kernel_rfl)) k0 bel lt0) (trodAll_cons_mk (Below.trod laidOut (by kernel_rfl) (of_decide_eq_true (by kernel_rfl)) k1 bel lt1) trodAll_mk0)), rfl, bel.frame _, fun h => by cases h⟩

/-- The statement. -/
theorem proved : Rows.FnExactShoalFilterSaid :=
  OpenClaim.holds_of_wide 10 Try.f10 rfl rfl rfl rfl rfl rfl rfl ⟨rfl, rfl, rfl, rfl, rfl⟩ rfl rfl rfl rfl rfl (by kernel_rfl) Try.func10 (by kernel_rfl)
    (of_decide_eq_true (by kernel_rfl)) (by unfold Func.isWrapper; first | (rw [if_pos (by decide +kernel)]; kernel_rfl) | (rw [if_neg (by decide +kernel)]; exact ⟨rfl, rfl⟩))
    (fun os started H enc _ => lifted os started H enc)
#print axioms proved
end Go.Proofs.Ytjekmmekkfmplaa.fnExactShoalFilter
