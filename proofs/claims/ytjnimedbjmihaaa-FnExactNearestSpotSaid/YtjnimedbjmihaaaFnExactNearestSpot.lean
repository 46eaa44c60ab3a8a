/-
  Proved here: for every slice of spots and every spot the law laws.FnExactNearestSpot returns true (impl.NearestSpot answers as spec.NearestSpot and writes into no argument), and both arguments read afterwards as before.
  Conditions: none beyond the row's own.
-/
import Derived.Test.YtjnimedbjmihaaaOpen
import Derived.Test.YtjnimedbjmihaaaNear
namespace Go.Proofs.Ytjnimedbjmihaaa.fnExactNearestSpot
open Go.Joins Go.ChangeShapes Go.WideShapes Go.ChangeAt Go.RowKit Go.Deep
set_option linter.unusedVariables false

/-! ### The walk: the Go text returns true, and nothing that was there has turned. -/
set_option maxHeartbeats 800000 in
theorem walk (A : Option Addr) (n c : Nat) (l : List (Int × Int)) (px py : Int) (w : World) (hs : Spots w w.heap.size A n l) (hm : n ≤ maxLen) :
    Calls Try.prog 8 #[.slice A n c, .agg #[.int .i64 px, .int .i64 py]] w fun e w' => e = .returned (.bool true) ∧ Below w.heap.size w w' := by
  by_cases h0 : (1048576 : Int) < n
  · go_enter Try.func8, Try.ntmps8
    go_wp2_with (go_at_call 45; refine (sz_neg A n c _ h0 hm).mono ?_; rintro e w' ⟨rfl, rfl⟩)
    go_ret
    exact ⟨rfl, (Below.refl _ _).alloc (Nat.le_refl _) _⟩
  have hle : n ≤ 1048576 := by omega
  obtain rfl := hs.1
  have HS := Lib.hid (spots_alloc hs (.cells #[.int .i64 px, .int .i64 py] 54))
  have HW := Lib.hid ((Below.refl w.heap.size w).alloc (Nat.le_refl _) (.cells #[.int .i64 px, .int .i64 py] 54))
  have c0 : (w.alloc (.cells #[.int .i64 px, .int .i64 py] 54)).cell? ⟨w.heap.size, 0, none⟩ = some (.int .i64 px) := World.cell?_alloc_new _ _ _ _
  have c1 : (w.alloc (.cells #[.int .i64 px, .int .i64 py] 54)).cell? ⟨w.heap.size, 1, none⟩ = some (.int .i64 py) := World.cell?_alloc_new _ _ _ _
  clear hs h0
  go_enter Try.func8, Try.ntmps8
  go_wp2_with (go_at_call 45; refine (sz_pos A _ c _ hle).mono ?_; rintro e w' ⟨rfl, rfl⟩)
  generalize (w.alloc (.cells #[.int .i64 px, .int .i64 py] 54)) = W0 at *
  go_region_held3 (fun W => W.cell? ⟨w.heap.size, 0, none⟩ = some (.int .i64 px) ∧ W.cell? ⟨w.heap.size, 1, none⟩ = some (.int .i64 py) ∧ Hid (Below W0.heap.size W0 W)) (first | (exact ⟨c0, c1, Lib.hid (Below.refl _ _).drew⟩) | assumption | (exact next2 hb (by assumption))) ((first | (go_at_call 46; refine (copy_any A _ c l _ (spots_more HS.out (show _ ∧ _ ∧ Hid (Below W0.heap.size W0 _) from by assumption).2.2.out) hle).mono ?_; rintro e w1 ⟨g1, rfl, hF, hb⟩; have HF := Lib.hid (spots_of_fill hF rfl); clear hF; dsimp only) | (go_at_call 44; refine (toSpot_any _ _ _).mono ?_; rintro e w1 ⟨rfl, hb⟩; have HF2 := Lib.hid (spots_more HF.out hb); dsimp only) | (go_at_call 18; refine (near_spec _ _ l _ _ _ HF2.out hm).mono ?_; rintro e w1 ⟨rfl, hb⟩; dsimp only)))
  have hk : w1.cell? ⟨w.heap.size, 0, none⟩ = some (.int .i64 px) ∧ w1.cell? ⟨w.heap.size, 1, none⟩ = some (.int .i64 py) ∧ Hid (Below W0.heap.size W0 w1) := by assumption
  obtain ⟨d0, d1, HB1⟩ := hk
  have HS1 := Lib.hid (spots_more HS.out HB1.out)
  have HT1 := Lib.hid (bthen HW.out HB1.out HW.out.size)
  clear c0 c1
  go_wp2_with fail
  refine (copy_any A _ c l _ HS1.out hle).mono ?_
  rintro e w2 ⟨g2, rfl, hF, hb⟩
  have HF2 := Lib.hid (spots_of_fill hF rfl)
  have HS2 := Lib.hid (spots_more HS1.out hb)
  have HT2 := Lib.hid (bthen HT1.out hb HT1.out.size)
  have c0 := cell_next hb d0
  have c1 := cell_next hb d1
  clear hF hb d0 d1
  go_wp2_with fail
  refine (toSpot_any _ _ _).mono ?_
  rintro e w3 ⟨rfl, hb⟩
  have HF3 := Lib.hid (spots_more HF2.out hb)
  have HS3 := Lib.hid (spots_more HS2.out hb)
  have HT3 := Lib.hid (bthen HT2.out hb HT2.out.size)
  clear hb c0 c1
  go_wp2_with fail
  refine (near_impl _ _ l _ _ _ HF3.out hm).mono ?_
  rintro e w4 ⟨rfl, hb⟩
  have HF4 := Lib.hid (spots_more HF3.out hb)
  have HS4 := Lib.hid (spots_more HS3.out hb)
  have HT4 := Lib.hid (bthen HT3.out hb HT3.out.size)
  clear hb
  go_wp2_with fail
  refine (copy_any A _ c l _ HS4.out hle).mono ?_
  rintro e w5 ⟨g5, rfl, hF, hb⟩
  have HF5 := Lib.hid (spots_of_fill hF rfl)
  have HG5 := Lib.hid (spots_more HF4.out hb)
  have HT5 := Lib.hid (bthen HT4.out hb HT4.out.size)
  clear hF hb
  go_wp2_with fail
  refine (eq_same _ _ _ _ _ l _ HG5.out HF5.out hm).mono ?_
  rintro e w6 ⟨rfl, hb⟩
  have HT6 := Lib.hid (bthen HT5.out hb HT5.out.size)
  clear hb
  go_wp2_with fail
  go_ret
  exact ⟨rfl, HT6.out⟩

/-! ### The row's step. -/
set_option maxRecDepth 100000 in
theorem lifted (os : Os) (started : os.Started) (H : Type) (enc : TypeId × Value → H) :
    ReturnsInHanded {} Try.checked os 8 .any (Rows.fnExactNearestSpotSpec.pre6 enc Try.prog Try.f8 Rows.fnExactNearestSpotRow.domain false) (Rows.fnExactNearestSpotSpec.post enc Try.prog Try.f8 false true false false) := by
  refine returnsInHanded_of_change (C := Try.checked) own started (by kernel_rfl) Try.func8
    (ChangeSpec.witness6 (enc := enc) (C := Try.checked) false ⟨#[], #[.slice none 0 0, .agg #[.int .i64 0, .int .i64 0]], []⟩ 8 (by kernel_rfl) (by kernel_rfl) (by kernel_rfl) (by kernel_rfl)) ?_
  intro W base args ds gs before hval0 hW hcnd _
  have hval : ∀ (j : Nat) t v, Try.f8.params[j]? = some t → args[j]? = some v → Value.okWide Try.prog W .any base t v := hval0
  have hW' := hW
  obtain ⟨p, q, hA0, hV, rfl, hfz, hnd⟩ := hW
  have hA : DataW.TrodAll enc Try.prog W 0 (fun _ => true) true Try.f8.params.toList args.toList ds p := hA0
  rw [Try.params8] at hA hval
  obtain ⟨v0, vs0, d0, ds0, p0, q0, hargs, rfl, rfl, h0, r0⟩ := trodAll_cons hA
  obtain ⟨v1, vs1, d1, ds1, p1, q1, rfl, rfl, rfl, h1, r1⟩ := trodAll_cons r0
  obtain ⟨rfl, rfl, rfl⟩ := trodAll_nil r1
  obtain rfl : args = #[v0, v1] := by cases args; simp_all
  obtain ⟨rfl, rfl⟩ := trodVars_none hV
  have k0 := h0
  have lt0 : ∀ x ∈ p0, x.block < W.heap.size := by obtain ⟨m, hm⟩ := k0; exact DataW.trod_lt m _ _ _ hm
  obtain ⟨A0, n0, c0, rfl⟩ := okWide_slice Try.underlying57 (hval 0 57 v0 rfl rfl)
  obtain ⟨m0, l0, w0⟩ := open_spots h0
  have k1 := h1
  have lt1 : ∀ x ∈ p1, x.block < W.heap.size := by obtain ⟨m, hm⟩ := k1; exact DataW.trod_lt m _ _ _ hm
  obtain ⟨x1, y1, rfl⟩ := open_spot (hval 1 54 v1 rfl rfl) h1
  clear hA0 hval0
  refine (walk A0 n0 c0 l0 x1 y1 W w0 m0).mono fun e W1 ⟨he, bel⟩ => ?_
  subst he
  exact ⟨_, rfl, _, _, _, [], _, [], hW', trodAll_mk1 (shut_bool Try.underlying4 _), (trodAll_cons_mk (Below.trod laidOut (by kernel_rfl) (of_decide_eq_true (by kernel_rfl)) k0 bel lt0) (trodAll_cons_mk (Below.trod laidOut (by kernel_rfl) (of_decide_eq_true (by kernel_rfl)) k1 bel lt1) trodAll_mk0)), rfl, bel.frame _, fun h => by cases h⟩

/-- The statement. -/
theorem proved : Rows.FnExactNearestSpotSaid :=
  OpenClaim.holds_of_wide 8 Try.f8 rfl rfl rfl rfl rfl rfl rfl ⟨rfl, rfl, rfl, rfl, rfl⟩ rfl rfl rfl rfl rfl (by kernel_rfl) Try.func8 (by kernel_rfl)
    (of_decide_eq_true (by kernel_rfl)) (by unfold Func.isWrapper; first | (rw [if_pos (by decide +kernel)]; kernel_rfl) | (rw [if_neg (by decide +kernel)]; exact ⟨rfl, rfl⟩))
    (fun os started H enc _ => lifted os started H enc)
#print axioms proved
end Go.Proofs.Ytjnimedbjmihaaa.fnExactNearestSpot
