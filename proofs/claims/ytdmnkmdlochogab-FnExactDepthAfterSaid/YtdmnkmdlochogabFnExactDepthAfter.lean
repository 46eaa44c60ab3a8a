/-
  Proved here: for every slice of layers and time the law laws.FnExactDepthAfter returns true (impl.DepthAfter answers as spec.DepthAfter, writes into no argument), and the arguments read afterwards as before.
  Conditions: none beyond the row's own.
-/
import Derived.Test.YtdmnkmdlochogabYo
import Derived.Test.YtdmnkmdlochogabYd
import Derived.Test.YtdmnkmdlochogabYn
import Derived.Test.YtdmnkmdlochogabYq
namespace Go.Proofs.Ytdmnkmdlochogab.fnExactDepthAfter
open Go.Joins Go.ChangeShapes Go.WideShapes Go.ChangeAt Go.RowKit Go.Deep
set_option linter.unusedVariables false

/-! ### The walk: the Go text returns true, and nothing that was there has turned. -/
set_option maxRecDepth 20000 in
set_option maxHeartbeats 3200000 in
theorem walk (A0 : Option Addr) (n0 c0 : Nat) (l0 : List (Int × Int)) (t : Int) (w : World) (hs0 : Spots w w.heap.size A0 n0 l0) (hm0 : n0 ≤ maxLen) :
    Calls Try.prog 11 #[.slice A0 n0 c0, .int .i64 t] w fun e w' => e = .returned (.bool true) ∧ Below w.heap.size w w' := by
  by_cases h0 : (1048576 : Int) < n0
  · go_enter Try.func11, Try.ntmps11
    go_wp2_with fail
    refine (szY_neg _ _ _ _ _ (by omega) (by omega) h0 hm0).mono ?_
    rintro e w' ⟨rfl, rfl⟩
    go_wp2_with fail
    go_ret
    exact ⟨rfl, Below.refl _ _⟩
  have hle0 : n0 ≤ 1048576 := by omega
  obtain rfl := hs0.1
  have HS0 := Lib.hid hs0
  clear hs0
  have HB0 := Lib.hid (Below.refl w.heap.size w)
  go_enter Try.func11, Try.ntmps11
  go_wp2_with fail
  refine (szY_pos _ _ _ _ _ (by omega) (by omega)).mono ?_
  rintro e w' ⟨rfl, rfl⟩
  go_wp2_with fail
  refine (copyY_any _ _ _ l0 _ (spots_at HS0.out HB0.out) hle0).mono ?_
  rintro e w1 ⟨g1, rfl, hO, hb⟩
  have HB2 := Lib.hid (bthen HB0.out hb HB0.out.size)
  have HC2 := Lib.hid hb.size
  clear hb
  have HO1 := Lib.hid hO
  clear hO
  clear h0
  go_wp2_with fail
  refine (depthAfter_spec _ _ _ l0 t _ (HO1.out.spots (by have z0 := HC2.out; omega)) hm0).mono ?_
  rintro e w3 ⟨rfl, hb⟩
  have HB4 := Lib.hid (bthen HB2.out hb HB2.out.size)
  have HC4 := Lib.hid hb.size
  have HR0_4 := Lib.hid (HO1.out.on hb (by have z0 := HC2.out; have z1 := HC4.out; omega))
  clear hb
  go_wp2_with fail
  refine (copyY_any _ _ _ l0 _ (spots_at HS0.out HB4.out) hle0).mono ?_
  rintro e w5 ⟨g5, rfl, hO, hb⟩
  have HB6 := Lib.hid (bthen HB4.out hb HB4.out.size)
  have HC6 := Lib.hid hb.size
  clear hb
  have HO5 := Lib.hid hO
  clear hO
  go_wp2_with fail
  refine (depthAfter_impl _ _ _ l0 t _ (HO5.out.spots (by have z0 := HC2.out; have z1 := HC4.out; have z2 := HC6.out; omega)) hm0 (Nat.le_refl _) hm0).mono ?_
  rintro e w7 ⟨rfl, hb⟩
  have HB8 := Lib.hid (bthen HB6.out hb HB6.out.size)
  have HC8 := Lib.hid hb.size
  have HR0_8 := Lib.hid (HO5.out.on hb (by have z0 := HC2.out; have z1 := HC4.out; have z2 := HC6.out; have z3 := HC8.out; omega))
  clear hb
  go_wp2_with fail
  refine (copyY_any _ _ _ l0 _ (spots_at HS0.out HB8.out) hle0).mono ?_
  rintro e w9 ⟨g9, rfl, hO, hb⟩
  have HB10 := Lib.hid (bthen HB8.out hb HB8.out.size)
  have HC10 := Lib.hid hb.size
  have HR0_10 := Lib.hid (HR0_8.out.on hb (by have z0 := HC2.out; have z1 := HC4.out; have z2 := HC6.out; have z3 := HC8.out; have z4 := HC10.out; omega))
  clear hb
  have HO9 := Lib.hid hO
  clear hO
  go_wp2_with fail
  refine (eqY_same _ _ _ _ _ l0 _ (HR0_10.out.spots (by have z0 := HC2.out; have z1 := HC4.out; have z2 := HC6.out; have z3 := HC8.out; have z4 := HC10.out; omega)) (HO9.out.spots (by have z0 := HC2.out; have z1 := HC4.out; have z2 := HC6.out; have z3 := HC8.out; have z4 := HC10.out; omega)) hm0).mono ?_
  rintro e w11 ⟨rfl, hb⟩
  have HB12 := Lib.hid (bthen HB10.out hb HB10.out.size)
  have HC12 := Lib.hid hb.size
  have HR0_12 := Lib.hid (HR0_10.out.on hb (by have z0 := HC2.out; have z1 := HC4.out; have z2 := HC6.out; have z3 := HC8.out; have z4 := HC10.out; have z5 := HC12.out; omega))
  clear hb
  go_wp2_with fail
  go_ret
  exact ⟨rfl, HB12.out⟩

/-! ### The row's step. -/
set_option maxRecDepth 100000 in
theorem lifted (os : Os) (started : os.Started) (H : Type) (enc : TypeId × Value → H) :
    ReturnsInHanded {} Try.checked os 11 .any (Rows.fnExactDepthAfterSpec.pre6 enc Try.prog Try.f11 Rows.fnExactDepthAfterRow.domain false) (Rows.fnExactDepthAfterSpec.post enc Try.prog Try.f11 false true false false) := by
  refine returnsInHanded_of_change (C := Try.checked) own started (by kernel_rfl) Try.func11
    (ChangeSpec.witness6 (enc := enc) (C := Try.checked) false ⟨#[], #[.slice none 0 0, .int .i64 0], []⟩ 8 (by kernel_rfl) (by kernel_rfl) (by kernel_rfl) (by kernel_rfl)) ?_
  intro W base args ds gs before hval0 hW hcnd _
  have hval : ∀ (j : Nat) t v, Try.f11.params[j]? = some t → args[j]? = some v → Value.okWide Try.prog W .any base t v := hval0
  have hW' := hW
  obtain ⟨p, q, hA0, hV, rfl, hfz, hnd⟩ := hW
  have hA : DataW.TrodAll enc Try.prog W 0 (fun _ => true) true Try.f11.params.toList args.toList ds p := hA0
  rw [Try.params11] at hA hval
  obtain ⟨v0, vs0, d0, ds0, p0, q0, hargs, rfl, rfl, h0, r0⟩ := trodAll_cons hA
  obtain ⟨v1, vs1, d1, ds1, p1, q1, rfl, rfl, rfl, h1, r1⟩ := trodAll_cons r0
  obtain ⟨rfl, rfl, rfl⟩ := trodAll_nil r1
  obtain rfl : args = #[v0, v1] := by cases args; simp_all
  obtain ⟨rfl, rfl⟩ := trodVars_none hV
  have k0 := h0
  have lt0 : ∀ x ∈ p0, x.block < W.heap.size := by obtain ⟨m, hm⟩ := k0; exact DataW.trod_lt m _ _ _ hm
  obtain ⟨A0, n0, c0, rfl⟩ := okWide_slice Try.underlying80 (hval 0 80 v0 rfl rfl)
  obtain ⟨m0, l0, w0⟩ := open_strata h0
  have k1 := h1
  have lt1 : ∀ x ∈ p1, x.block < W.heap.size := by obtain ⟨m, hm⟩ := k1; exact DataW.trod_lt m _ _ _ hm
  obtain ⟨x1, rfl⟩ := open_num (hval 1 3 v1 rfl rfl) h1
  clear hA0 hval0
  refine (walk A0 n0 c0 l0 x1 W w0 m0).mono fun e W1 ⟨he, bel⟩ => ?_
  subst he
  exact ⟨_, rfl, _, _, _, [], _, [], hW', trodAll_mk1 (shut_bool Try.underlying4 _), (trodAll_cons_mk (Below.trod laidOut (by kernel_rfl) (of_decide_eq_true (by kernel_rfl)) k0 bel lt0) (trodAll_cons_mk (Below.trod laidOut (by kernel_rfl) (of_decide_eq_true (by kernel_rfl)) k1 bel lt1) trodAll_mk0)), rfl, bel.frame _, fun h => by cases h⟩

/-- The statement. -/
theorem proved : Rows.FnExactDepthAfterSaid :=
  OpenClaim.holds_of_wide 11 Try.f11 rfl rfl rfl rfl rfl rfl rfl ⟨rfl, rfl, rfl, rfl, rfl⟩ rfl rfl rfl rfl rfl (by kernel_rfl) Try.func11 (by kernel_rfl)
    (of_decide_eq_true (by kernel_rfl)) (by unfold Func.isWrapper; first | (rw [if_pos (by decide +kernel)]; kernel_rfl) | (rw [if_neg (by decide +kernel)]; exact ⟨rfl, rfl⟩))
    (fun os started H enc _ => lifted os started H enc)
#print axioms proved
end Go.Proofs.Ytdmnkmdlochogab.fnExactDepthAfter
