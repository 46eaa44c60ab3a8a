/-
  Proved here: for every two slices of tides, two distances and time the law laws.FnExactLevelBetween returns true (impl.LevelBetween answers as spec.LevelBetween, writes into no argument), and the arguments read afterwards as before.
  Conditions: none beyond the row's own.
-/
import Derived.Test.YtdmnkmdlochogaaOt
import Derived.Test.YtdmnkmdlochogaaTd
import Derived.Test.YtdmnkmdlochogaaTb
namespace Go.Proofs.Ytdmnkmdlochogaa.fnExactLevelBetween
open Go.Joins Go.ChangeShapes Go.WideShapes Go.ChangeAt Go.RowKit Go.Deep
set_option linter.unusedVariables false

/-! ### The walk: the Go text returns true, and nothing that was there has turned. -/
set_option maxRecDepth 20000 in
set_option maxHeartbeats 3200000 in
theorem walk (A0 : Option Addr) (n0 c0 : Nat) (l0 : List (Int × Int)) (A1 : Option Addr) (n1 c1 : Nat) (l1 : List (Int × Int)) (x : Int) (y : Int) (t : Int) (w : World) (hs0 : Spots w w.heap.size A0 n0 l0) (hm0 : n0 ≤ maxLen) (hs1 : Spots w w.heap.size A1 n1 l1) (hm1 : n1 ≤ maxLen) :
    Calls Try.prog 10 #[.slice A0 n0 c0, .slice A1 n1 c1, .int .i64 x, .int .i64 y, .int .i64 t] w fun e w' => e = .returned (.bool true) ∧ Below w.heap.size w w' := by
  by_cases h0 : (1048576 : Int) < n0
  · go_enter Try.func10, Try.ntmps10
    go_wp2_with fail
    refine (szT_neg _ _ _ _ _ (by omega) (by omega) h0 hm0).mono ?_
    rintro e w' ⟨rfl, rfl⟩
    go_wp2_with fail
    go_ret
    exact ⟨rfl, Below.refl _ _⟩
  by_cases h1 : (1048576 : Int) - n0 < n1
  · go_enter Try.func10, Try.ntmps10
    go_wp2_with fail
    refine (szT_pos _ _ _ _ _ (by omega) (by omega)).mono ?_
    rintro e w' ⟨rfl, rfl⟩
    go_wp2_with fail
    refine (szT_neg _ _ _ _ _ (by omega) (by omega) h1 hm1).mono ?_
    rintro e w' ⟨rfl, rfl⟩
    go_wp2_with fail
    go_ret
    exact ⟨rfl, Below.refl _ _⟩
  have hle0 : n0 ≤ 1048576 := by omega
  have hle1 : n1 ≤ 1048576 := by omega
  obtain rfl := hs0.1
  have HS0 := Lib.hid hs0
  clear hs0
  obtain rfl := hs1.1
  have HS1 := Lib.hid hs1
  clear hs1
  have HB0 := Lib.hid (Below.refl w.heap.size w)
  go_enter Try.func10, Try.ntmps10
  go_wp2_with fail
  refine (szT_pos _ _ _ _ _ (by omega) (by omega)).mono ?_
  rintro e w' ⟨rfl, rfl⟩
  go_wp2_with fail
  refine (szT_pos _ _ _ _ _ (by omega) (by omega)).mono ?_
  rintro e w' ⟨rfl, rfl⟩
  go_wp2_with fail
  refine (copyT_any _ _ _ l0 _ (spots_at HS0.out HB0.out) hle0).mono ?_
  rintro e w1 ⟨g1, rfl, hO, hb⟩
  have HB2 := Lib.hid (bthen HB0.out hb HB0.out.size)
  have HC2 := Lib.hid hb.size
  clear hb
  have HO1 := Lib.hid hO
  clear hO
  go_wp2_with fail
  refine (copyT_any _ _ _ l1 _ (spots_at HS1.out HB2.out) hle1).mono ?_
  rintro e w3 ⟨g3, rfl, hO, hb⟩
  have HB4 := Lib.hid (bthen HB2.out hb HB2.out.size)
  have HC4 := Lib.hid hb.size
  have HR0_4 := Lib.hid (HO1.out.on hb (by have z0 := HC2.out; have z1 := HC4.out; omega))
  clear hb
  have HO3 := Lib.hid hO
  clear hO
  clear h0
  clear h1
  go_wp2_with fail
  refine (between_spec _ _ _ l0 _ _ _ l1 x y t _ (HR0_4.out.spots (by have z0 := HC2.out; have z1 := HC4.out; omega)) hm0 (HO3.out.spots (by have z0 := HC2.out; have z1 := HC4.out; omega)) hm1).mono ?_
  rintro e w5 ⟨rfl, hb⟩
  have HB6 := Lib.hid (bthen HB4.out hb HB4.out.size)
  have HC6 := Lib.hid hb.size
  have HR0_6 := Lib.hid (HR0_4.out.on hb (by have z0 := HC2.out; have z1 := HC4.out; have z2 := HC6.out; omega))
  have HR1_6 := Lib.hid (HO3.out.on hb (by have z0 := HC2.out; have z1 := HC4.out; have z2 := HC6.out; omega))
  clear hb
  go_wp2_with fail
  refine (copyT_any _ _ _ l0 _ (spots_at HS0.out HB6.out) hle0).mono ?_
  rintro e w7 ⟨g7, rfl, hO, hb⟩
  have HB8 := Lib.hid (bthen HB6.out hb HB6.out.size)
  have HC8 := Lib.hid hb.size
  clear hb
  have HO7 := Lib.hid hO
  clear hO
  go_wp2_with fail
  refine (copyT_any _ _ _ l1 _ (spots_at HS1.out HB8.out) hle1).mono ?_
  rintro e w9 ⟨g9, rfl, hO, hb⟩
  have HB10 := Lib.hid (bthen HB8.out hb HB8.out.size)
  have HC10 := Lib.hid hb.size
  have HR0_10 := Lib.hid (HO7.out.on hb (by have z0 := HC2.out; have z1 := HC4.out; have z2 := HC6.out; have z3 := HC8.out; have z4 := HC10.out; omega))
  clear hb
  have HO9 := Lib.hid hO
  clear hO
  go_wp2_with fail
  refine (between_impl _ _ _ l0 _ _ _ l1 x y t _ (HR0_10.out.spots (by have z0 := HC2.out; have z1 := HC4.out; have z2 := HC6.out; have z3 := HC8.out; have z4 := HC10.out; omega)) hm0 (HO9.out.spots (by have z0 := HC2.out; have z1 := HC4.out; have z2 := HC6.out; have z3 := HC8.out; have z4 := HC10.out; omega)) hm1).mono ?_
  rintro e w11 ⟨rfl, hb⟩
  have HB12 := Lib.hid (bthen HB10.out hb HB10.out.size)
  have HC12 := Lib.hid hb.size
  have HR0_12 := Lib.hid (HR0_10.out.on hb (by have z0 := HC2.out; have z1 := HC4.out; have z2 := HC6.out; have z3 := HC8.out; have z4 := HC10.out; have z5 := HC12.out; omega))
  have HR1_12 := Lib.hid (HO9.out.on hb (by have z0 := HC2.out; have z1 := HC4.out; have z2 := HC6.out; have z3 := HC8.out; have z4 := HC10.out; have z5 := HC12.out; omega))
  clear hb
  go_wp2_with fail
  refine (copyT_any _ _ _ l0 _ (spots_at HS0.out HB12.out) hle0).mono ?_
  rintro e w13 ⟨g13, rfl, hO, hb⟩
  have HB14 := Lib.hid (bthen HB12.out hb HB12.out.size)
  have HC14 := Lib.hid hb.size
  have HR0_14 := Lib.hid (HR0_12.out.on hb (by have z0 := HC2.out; have z1 := HC4.out; have z2 := HC6.out; have z3 := HC8.out; have z4 := HC10.out; have z5 := HC12.out; have z6 := HC14.out; omega))
  have HR1_14 := Lib.hid (HR1_12.out.on hb (by have z0 := HC2.out; have z1 := HC4.out; have z2 := HC6.out; have z3 := HC8.out; have z4 := HC10.out; have z5 := HC12.out; have z6 := HC14.out; omega))
  clear hb
  have HO13 := Lib.hid hO
  clear hO
  go_wp2_with fail
  refine (eqT_same _ _ _ _ _ l0 _ (HR0_14.out.spots (by have z0 := HC2.out; have z1 := HC4.out; have z2 := HC6.out; have z3 := HC8.out; have z4 := HC10.out; have z5 := HC12.out; have z6 := HC14.out; omega)) (HO13.out.spots (by have z0 := HC2.out; have z1 := HC4.out; have z2 := HC6.out; have z3 := HC8.out; have z4 := HC10.out; have z5 := HC12.out; have z6 := HC14.out; omega)) hm0).mono ?_
  rintro e w15 ⟨rfl, hb⟩
  have HB16 := Lib.hid (bthen HB14.out hb HB14.out.size)
  have HC16 := Lib.hid hb.size
  have HR0_16 := Lib.hid (HR0_14.out.on hb (by have z0 := HC2.out; have z1 := HC4.out; have z2 := HC6.out; have z3 := HC8.out; have z4 := HC10.out; have z5 := HC12.out; have z6 := HC14.out; have z7 := HC16.out; omega))
  have HR1_16 := Lib.hid (HR1_14.out.on hb (by have z0 := HC2.out; have z1 := HC4.out; have z2 := HC6.out; have z3 := HC8.out; have z4 := HC10.out; have z5 := HC12.out; have z6 := HC14.out; have z7 := HC16.out; omega))
  clear hb
  go_wp2_with fail
  refine (copyT_any _ _ _ l1 _ (spots_at HS1.out HB16.out) hle1).mono ?_
  rintro e w17 ⟨g17, rfl, hO, hb⟩
  have HB18 := Lib.hid (bthen HB16.out hb HB16.out.size)
  have HC18 := Lib.hid hb.size
  have HR0_18 := Lib.hid (HR0_16.out.on hb (by have z0 := HC2.out; have z1 := HC4.out; have z2 := HC6.out; have z3 := HC8.out; have z4 := HC10.out; have z5 := HC12.out; have z6 := HC14.out; have z7 := HC16.out; have z8 := HC18.out; omega))
  have HR1_18 := Lib.hid (HR1_16.out.on hb (by have z0 := HC2.out; have z1 := HC4.out; have z2 := HC6.out; have z3 := HC8.out; have z4 := HC10.out; have z5 := HC12.out; have z6 := HC14.out; have z7 := HC16.out; have z8 := HC18.out; omega))
  clear hb
  have HO17 := Lib.hid hO
  clear hO
  go_wp2_with fail
  refine (eqT_same _ _ _ _ _ l1 _ (HR1_18.out.spots (by have z0 := HC2.out; have z1 := HC4.out; have z2 := HC6.out; have z3 := HC8.out; have z4 := HC10.out; have z5 := HC12.out; have z6 := HC14.out; have z7 := HC16.out; have z8 := HC18.out; omega)) (HO17.out.spots (by have z0 := HC2.out; have z1 := HC4.out; have z2 := HC6.out; have z3 := HC8.out; have z4 := HC10.out; have z5 := HC12.out; have z6 := HC14.out; have z7 := HC16.out; have z8 := HC18.out; omega)) hm1).mono ?_
  rintro e w19 ⟨rfl, hb⟩
  have HB20 := Lib.hid (bthen HB18.out hb HB18.out.size)
  have HC20 := Lib.hid hb.size
  have HR0_20 := Lib.hid (HR0_18.out.on hb (by have z0 := HC2.out; have z1 := HC4.out; have z2 := HC6.out; have z3 := HC8.out; have z4 := HC10.out; have z5 := HC12.out; have z6 := HC14.out; have z7 := HC16.out; have z8 := HC18.out; have z9 := HC20.out; omega))
  have HR1_20 := Lib.hid (HR1_18.out.on hb (by have z0 := HC2.out; have z1 := HC4.out; have z2 := HC6.out; have z3 := HC8.out; have z4 := HC10.out; have z5 := HC12.out; have z6 := HC14.out; have z7 := HC16.out; have z8 := HC18.out; have z9 := HC20.out; omega))
  clear hb
  go_wp2_with fail
  go_ret
  exact ⟨rfl, HB20.out⟩

/-! ### The row's step. -/
set_option maxRecDepth 100000 in
theorem lifted (os : Os) (started : os.Started) (H : Type) (enc : TypeId × Value → H) :
    ReturnsInHanded {} Try.checked os 10 .any (Rows.fnExactLevelBetweenSpec.pre6 enc Try.prog Try.f10 Rows.fnExactLevelBetweenRow.domain false) (Rows.fnExactLevelBetweenSpec.post enc Try.prog Try.f10 false true false false) := by
  refine returnsInHanded_of_change (C := Try.checked) own started (by kernel_rfl) Try.func10
    (ChangeSpec.witness6 (enc := enc) (C := Try.checked) false ⟨#[], #[.slice none 0 0, .slice none 0 0, .int .i64 0, .int .i64 0, .int .i64 0], []⟩ 8 (by kernel_rfl) (by kernel_rfl) (by kernel_rfl) (by kernel_rfl)) ?_
  intro W base args ds gs before hval0 hW hcnd _
  have hval : ∀ (j : Nat) t v, Try.f10.params[j]? = some t → args[j]? = some v → Value.okWide Try.prog W .any base t v := hval0
  have hW' := hW
  obtain ⟨p, q, hA0, hV, rfl, hfz, hnd⟩ := hW
  have hA : DataW.TrodAll enc Try.prog W 0 (fun _ => true) true Try.f10.params.toList args.toList ds p := hA0
  rw [Try.params10] at hA hval
  obtain ⟨v0, vs0, d0, ds0, p0, q0, hargs, rfl, rfl, h0, r0⟩ := trodAll_cons hA
  obtain ⟨v1, vs1, d1, ds1, p1, q1, rfl, rfl, rfl, h1, r1⟩ := trodAll_cons r0
  obtain ⟨v2, vs2, d2, ds2, p2, q2, rfl, rfl, rfl, h2, r2⟩ := trodAll_cons r1
  obtain ⟨v3, vs3, d3, ds3, p3, q3, rfl, rfl, rfl, h3, r3⟩ := trodAll_cons r2
  obtain ⟨v4, vs4, d4, ds4, p4, q4, rfl, rfl, rfl, h4, r4⟩ := trodAll_cons r3
  obtain ⟨rfl, rfl, rfl⟩ := trodAll_nil r4
  obtain rfl : args = #[v0, v1, v2, v3, v4] := by cases args; simp_all
  obtain ⟨rfl, rfl⟩ := trodVars_none hV
  have k0 := h0
  have lt0 : ∀ x ∈ p0, x.block < W.heap.size := by obtain ⟨m, hm⟩ := k0; exact DataW.trod_lt m _ _ _ hm
  obtain ⟨A0, n0, c0, rfl⟩ := okWide_slice Try.underlying93 (hval 0 93 v0 rfl rfl)
  obtain ⟨m0, l0, w0⟩ := open_tides h0
  have k1 := h1
  have lt1 : ∀ x ∈ p1, x.block < W.heap.size := by obtain ⟨m, hm⟩ := k1; exact DataW.trod_lt m _ _ _ hm
  obtain ⟨A1, n1, c1, rfl⟩ := okWide_slice Try.underlying93 (hval 1 93 v1 rfl rfl)
  obtain ⟨m1, l1, w1⟩ := open_tides h1
  have k2 := h2
  have lt2 : ∀ x ∈ p2, x.block < W.heap.size := by obtain ⟨m, hm⟩ := k2; exact DataW.trod_lt m _ _ _ hm
  obtain ⟨x2, rfl⟩ := open_num (hval 2 3 v2 rfl rfl) h2
  have k3 := h3
  have lt3 : ∀ x ∈ p3, x.block < W.heap.size := by obtain ⟨m, hm⟩ := k3; exact DataW.trod_lt m _ _ _ hm
  obtain ⟨x3, rfl⟩ := open_num (hval 3 3 v3 rfl rfl) h3
  have k4 := h4
  have lt4 : ∀ x ∈ p4, x.block < W.heap.size := by obtain ⟨m, hm⟩ := k4; exact DataW.trod_lt m _ _ _ hm
  obtain ⟨x4, rfl⟩ := open_num (hval 4 3 v4 rfl rfl) h4
  clear hA0 hval0
  refine (walk A0 n0 c0 l0 A1 n1 c1 l1 x2 x3 x4 W w0 m0 w1 m1).mono fun e W1 ⟨he, bel⟩ => ?_
  subst he
  exact ⟨_, rfl, _, _, _, [], _, [], hW', trodAll_mk1 (shut_bool Try.underlying4 _), (trodAll_cons_mk (Below.trod laidOut (by kernel_rfl) (of_decide_eq_true (by kernel_rfl)) k0 bel lt0) (trodAll_cons_mk (Below.trod laidOut (by kernel_rfl) (of_decide_eq_true (by kernel_rfl)) k1 bel lt1) (trodAll_cons_mk (Below.trod laidOut (by kernel_rfl) (of_decide_eq_true (by kernel_rfl)) k2 bel lt2) (trodAll_cons_mk (Below.trod laidOut (by kernel_rfl) (of_decide_eq_true (by kernel_rfl)) k3 bel lt3) (trodAll_cons_mk (Below.trod laidOut (by kernel_rfl) (of_decide_eq_true (by kernel_rfl)) k4 bel lt4) trodAll_mk0))))), rfl, bel.frame _, fun h => by cases h⟩

/-- The statement. -/
theorem proved : Rows.FnExactLevelBetweenSaid :=
  OpenClaim.holds_of_wide 10 Try.f10 rfl rfl rfl rfl rfl rfl rfl ⟨rfl, rfl, rfl, rfl, rfl⟩ rfl rfl rfl rfl rfl (by kernel_rfl) Try.func10 (by kernel_rfl)
    (of_decide_eq_true (by kernel_rfl)) (by unfold Func.isWrapper; first | (rw [if_pos (by decide +kernel)]; kernel_rfl) | (rw [if_neg (by decide +kernel)]; exact ⟨rfl, rfl⟩))
    (fun os started H enc _ => lifted os started H enc)
#print axioms proved
end Go.Proofs.Ytdmnkmdlochogaa.fnExactLevelBetween
