/-
  Proved here: for every cast and depth the law laws.FnExactMeanSpeed returns true (impl.MeanSpeed answers as spec.MeanSpeed and writes into no argument), and the arguments read afterwards as before.
  Conditions: none beyond the row's own.
-/
import Derived.Test.YtdmnkmdlochogabZo
import Derived.Test.YtdmnkmdlochogabZg
import Derived.Test.YtdmnkmdlochogabZx
namespace Go.Proofs.Ytdmnkmdlochogab.fnExactMeanSpeed
open Go.Joins Go.ChangeShapes Go.WideShapes Go.ChangeAt Go.RowKit Go.Deep
set_option linter.unusedVariables false

/-! ### The walk: the Go text returns true, and nothing that was there has turned. -/
set_option maxRecDepth 20000 in
set_option maxHeartbeats 3200000 in
theorem walk (id tm x y : Int) (A : Option Addr) (n c : Nat) (l : List (Int × Int)) (d : Int) (w : World) (hs : Spots w w.heap.size A n l) (hm : n ≤ maxLen) :
    Calls Try.prog 12 #[.agg #[.int .i64 id, .int .i64 tm, .int .i64 x, .int .i64 y, .slice A n c], .int .i64 d] w fun e w' => e = .returned (.bool true) ∧ Below w.heap.size w w' := by
  have HX := Lib.hid (box1 (cs := #[.int .i64 id, .int .i64 tm, .int .i64 x, .int .i64 y, .slice A n c]) (T := 88) (Below.refl _ _) (w := w))
  by_cases h0 : (1048576 : Int) < n
  · go_enter Try.func12, Try.ntmps12
    go_wp2_with fail
    refine (szK_neg _ _ _ _ _ _ _ _ _ (by omega) (by omega) hm h0).mono ?_
    rintro e w1 ⟨rfl, hb⟩
    have HT := Lib.hid (bthen HX.out.1 hb HX.out.1.size)
    clear hb
    go_wp2_with fail
    go_ret
    exact ⟨rfl, HT.out⟩
  have hle : n ≤ 1048576 := by omega
  have hsz : 0 ≤ (1048576 : Int) - n := by omega
  obtain rfl := hs.1
  have HSz := Lib.hid (And.intro hle hsz)
  obtain ⟨V0, hV⟩ : ∃ W, W = w.alloc (.cells #[.int .i64 id, .int .i64 tm, .int .i64 x, .int .i64 y, .slice A l.length c] 88) := ⟨_, rfl⟩
  have HN0 : Hid (Below w.heap.size w V0 ∧ Has V0 w.heap.size [.int .i64 id, .int .i64 tm, .int .i64 x, .int .i64 y, .slice A l.length c]) := by rw [hV]; exact box1 (Below.refl _ _)
  have HB0 := Lib.hid HN0.out.1
  have HX0 := Lib.hid HN0.out.2
  have HC0 := Lib.hid HN0.out.2.1
  have HE0 := Lib.hid hV
  clear hV h0 HX
  go_enter Try.func12, Try.ntmps12
  go_wp2_with fail
  rw [← HE0.out]
  refine (szK_pos _ _ _ _ _ _ _ _ _ (by omega) (by omega)).mono ?_
  rintro e w1 ⟨rfl, hb⟩
  have HB2 := Lib.hid (bthen HB0.out hb HB0.out.size)
  have HC2 := Lib.hid hb.size
  have HX0_2 := Lib.hid (HX0.out.next hb)
  clear hb
  have q0_0 := HX0_2.out.at_ 0 _ rfl
  have q0_1 := HX0_2.out.at_ 1 _ rfl
  have q0_2 := HX0_2.out.at_ 2 _ rfl
  have q0_3 := HX0_2.out.at_ 3 _ rfl
  have q0_4 := HX0_2.out.at_ 4 _ rfl
  go_wp2_with fail
  refine (toCast_any _ _ _ _ _ _ _ l _ (spots_at hs HB2.out) hle).mono ?_
  rintro e w3 ⟨g3, rfl, hO, hb⟩
  have HB4 := Lib.hid (bthen HB2.out hb HB2.out.size)
  have HC4 := Lib.hid hb.size
  have HX0_4 := Lib.hid (HX0_2.out.next hb)
  clear hb
  have HO3 := Lib.hid hO
  clear hO q0_0 q0_1 q0_2 q0_3 q0_4
  go_wp2_with fail
  refine (mean_spec _ _ _ _ d _ _ _ l _ (HO3.out.spots (by have z0 := HC0.out; have z1 := HC2.out; have z2 := HC4.out; omega)) hm).mono ?_
  rintro e w5 ⟨rfl, hb⟩
  have HB6 := Lib.hid (bthen HB4.out hb HB4.out.size)
  have HC6 := Lib.hid hb.size
  have HX0_6 := Lib.hid (HX0_4.out.next hb)
  have HR0_6 := Lib.hid (HO3.out.on hb (by have z0 := HC0.out; have z1 := HC2.out; have z2 := HC4.out; have z3 := HC6.out; omega))
  clear hb
  have q0_0 := HX0_6.out.at_ 0 _ rfl
  have q0_1 := HX0_6.out.at_ 1 _ rfl
  have q0_2 := HX0_6.out.at_ 2 _ rfl
  have q0_3 := HX0_6.out.at_ 3 _ rfl
  have q0_4 := HX0_6.out.at_ 4 _ rfl
  go_wp2_with fail
  refine (toCast_any _ _ _ _ _ _ _ l _ (spots_at hs HB6.out) hle).mono ?_
  rintro e w7 ⟨g7, rfl, hO, hb⟩
  have HB8 := Lib.hid (bthen HB6.out hb HB6.out.size)
  have HC8 := Lib.hid hb.size
  have HX0_8 := Lib.hid (HX0_6.out.next hb)
  clear hb
  have HO7 := Lib.hid hO
  clear hO q0_0 q0_1 q0_2 q0_3 q0_4
  obtain ⟨V9, hV⟩ : ∃ W, W = w7.alloc (.cells #[.int .i64 id, .int .i64 tm, .int .i64 x, .int .i64 y, .slice (some ⟨g7, 0, none⟩) l.length l.length] 64) := ⟨_, rfl⟩
  have HN9 : Hid (Below w7.heap.size w7 V9 ∧ Has V9 w7.heap.size [.int .i64 id, .int .i64 tm, .int .i64 x, .int .i64 y, .slice (some ⟨g7, 0, none⟩) l.length l.length]) := by rw [hV]; exact box1 (Below.refl _ _)
  have hb := HN9.out.1
  have HB10 := Lib.hid (bthen HB8.out hb HB8.out.size)
  have HC10 := Lib.hid hb.size
  have HX0_10 := Lib.hid (HX0_8.out.next hb)
  have HR0_10 := Lib.hid (HO7.out.on hb (by have z0 := HC0.out; have z1 := HC2.out; have z2 := HC4.out; have z3 := HC6.out; have z4 := HC8.out; have z5 := HC10.out; omega))
  clear hb
  have HD9 := Lib.hid HN9.out.2.1
  have HNx9 := Lib.hid HN9.out.2
  have HE9 := Lib.hid hV
  clear hV
  have q1_0 := HNx9.out.at_ 0 _ rfl
  have q1_1 := HNx9.out.at_ 1 _ rfl
  have q1_2 := HNx9.out.at_ 2 _ rfl
  have q1_3 := HNx9.out.at_ 3 _ rfl
  have q1_4 := HNx9.out.at_ 4 _ rfl
  go_wp2_with fail
  try rw [← HE9.out]
  refine (mean_impl _ _ _ _ d _ _ _ l _ (HR0_10.out.spots (by have z0 := HC0.out; have z1 := HC2.out; have z2 := HC4.out; have z3 := HC6.out; have z4 := HC8.out; have z5 := HC10.out; have z6 := HD9.out; omega)) hm).mono ?_
  rintro e w11 ⟨rfl, hb⟩
  have HB12 := Lib.hid (bthen HB10.out hb HB10.out.size)
  have HC12 := Lib.hid hb.size
  have HX0_12 := Lib.hid (HX0_10.out.next hb)
  have HX1_12 := Lib.hid (HNx9.out.next hb)
  have HR0_12 := Lib.hid (HR0_10.out.on hb (by have z0 := HC0.out; have z1 := HC2.out; have z2 := HC4.out; have z3 := HC6.out; have z4 := HC8.out; have z5 := HC10.out; have z6 := HD9.out; have z7 := HC12.out; omega))
  clear hb
  clear q1_0 q1_1 q1_2 q1_3 q1_4
  have q0_0 := HX0_12.out.at_ 0 _ rfl
  have q0_1 := HX0_12.out.at_ 1 _ rfl
  have q0_2 := HX0_12.out.at_ 2 _ rfl
  have q0_3 := HX0_12.out.at_ 3 _ rfl
  have q0_4 := HX0_12.out.at_ 4 _ rfl
  have q1_0 := HX1_12.out.at_ 0 _ rfl
  have q1_1 := HX1_12.out.at_ 1 _ rfl
  have q1_2 := HX1_12.out.at_ 2 _ rfl
  have q1_3 := HX1_12.out.at_ 3 _ rfl
  have q1_4 := HX1_12.out.at_ 4 _ rfl
  go_wp2_with fail
  have HK : Hid ((∀ W : World, Below w11.heap.size w11 W → W.cell? ⟨w.heap.size, 0, none⟩ = some (.int .i64 id) ∧ W.cell? ⟨w.heap.size, 1, none⟩ = some (.int .i64 tm) ∧ W.cell? ⟨w.heap.size, 2, none⟩ = some (.int .i64 x) ∧ W.cell? ⟨w.heap.size, 3, none⟩ = some (.int .i64 y) ∧ W.cell? ⟨w.heap.size, 4, none⟩ = some (.slice A l.length c) ∧ W.cell? ⟨w7.heap.size, 0, none⟩ = some (.int .i64 id) ∧ W.cell? ⟨w7.heap.size, 1, none⟩ = some (.int .i64 tm) ∧ W.cell? ⟨w7.heap.size, 2, none⟩ = some (.int .i64 x) ∧ W.cell? ⟨w7.heap.size, 3, none⟩ = some (.int .i64 y) ∧ W.cell? ⟨w7.heap.size, 4, none⟩ = some (.slice (some ⟨g7, 0, none⟩) l.length l.length) ∧ Hid (Below w11.heap.size w11 W)) ∧ (∀ W : World, (W.cell? ⟨w.heap.size, 0, none⟩ = some (.int .i64 id) ∧ W.cell? ⟨w.heap.size, 1, none⟩ = some (.int .i64 tm) ∧ W.cell? ⟨w.heap.size, 2, none⟩ = some (.int .i64 x) ∧ W.cell? ⟨w.heap.size, 3, none⟩ = some (.int .i64 y) ∧ W.cell? ⟨w.heap.size, 4, none⟩ = some (.slice A l.length c) ∧ W.cell? ⟨w7.heap.size, 0, none⟩ = some (.int .i64 id) ∧ W.cell? ⟨w7.heap.size, 1, none⟩ = some (.int .i64 tm) ∧ W.cell? ⟨w7.heap.size, 2, none⟩ = some (.int .i64 x) ∧ W.cell? ⟨w7.heap.size, 3, none⟩ = some (.int .i64 y) ∧ W.cell? ⟨w7.heap.size, 4, none⟩ = some (.slice (some ⟨g7, 0, none⟩) l.length l.length) ∧ Hid (Below w11.heap.size w11 W)) → Below w11.heap.size w11 W)) := Lib.hid ⟨fun W h => ⟨cell_next h (by assumption), cell_next h (by assumption), cell_next h (by assumption), cell_next h (by assumption), cell_next h (by assumption), cell_next h (by assumption), cell_next h (by assumption), cell_next h (by assumption), cell_next h (by assumption), cell_next h (by assumption), Lib.hid h⟩, fun W h => h.2.2.2.2.2.2.2.2.2.2.out⟩
  go_region_held3 (fun W => W.cell? ⟨w.heap.size, 0, none⟩ = some (.int .i64 id) ∧ W.cell? ⟨w.heap.size, 1, none⟩ = some (.int .i64 tm) ∧ W.cell? ⟨w.heap.size, 2, none⟩ = some (.int .i64 x) ∧ W.cell? ⟨w.heap.size, 3, none⟩ = some (.int .i64 y) ∧ W.cell? ⟨w.heap.size, 4, none⟩ = some (.slice A l.length c) ∧ W.cell? ⟨w7.heap.size, 0, none⟩ = some (.int .i64 id) ∧ W.cell? ⟨w7.heap.size, 1, none⟩ = some (.int .i64 tm) ∧ W.cell? ⟨w7.heap.size, 2, none⟩ = some (.int .i64 x) ∧ W.cell? ⟨w7.heap.size, 3, none⟩ = some (.int .i64 y) ∧ W.cell? ⟨w7.heap.size, 4, none⟩ = some (.slice (some ⟨g7, 0, none⟩) l.length l.length) ∧ Hid (Below w11.heap.size w11 W)) (first | with_reducible assumption | with_reducible exact HK.out.1 _ (Below.refl _ _).drew | with_reducible exact HK.out.1 _ (bthen (HK.out.2 _ (by assumption)) hb (HK.out.2 _ (by assumption)).size) | with_reducible exact HK.out.1 _ ((HK.out.2 _ (by assumption)).alloc (HK.out.2 _ (by assumption)).size _) | with_reducible exact HK.out.1 _ (HBw.out.alloc HBw.out.size _) | with_reducible exact HK.out.1 _ ((Below.refl _ _).alloc (Nat.le_refl _) _) | with_reducible exact HK.out.1 _ ((HK.out.2 _ (by assumption)).alloc (HK.out.2 _ (by assumption)).size _).drew | with_reducible exact HK.out.1 _ (HBw.out.alloc HBw.out.size _).drew | with_reducible exact HK.out.1 _ ((Below.refl _ _).alloc (Nat.le_refl _) _).drew) ((first | (go_at_call 78; refine (toCast_any _ _ _ _ _ _ _ l _ (spots_at hs (bthen HB12.out (HK.out.2 _ (by assumption)) HB12.out.size)) HSz.out.1).mono ?_; rintro e w13 ⟨g13, rfl, hO, hb⟩; have HO7 := Lib.hid hO; have HBB := Lib.hid (bthen (HK.out.2 _ (by assumption)) hb (HK.out.2 _ (by assumption)).size); have HR7 := Lib.hid (HR0_12.out.on HBB.out (by have z0 := HC0.out; have z1 := HC2.out; have z2 := HC4.out; have z3 := HC6.out; have z4 := HC8.out; have z5 := HC10.out; have z6 := HD9.out; have z7 := HC12.out; omega)); have HZ7 := Lib.hid HBB.out.size; clear hO; dsimp only) | (go_at_call 79; refine (eqK_same _ _ _ _ _ _ _ _ _ l _ (HR7.out.spots (by have z0 := HC0.out; have z1 := HC2.out; have z2 := HC4.out; have z3 := HC6.out; have z4 := HC8.out; have z5 := HC10.out; have z6 := HD9.out; have z7 := HC12.out; have z8 := HZ7.out; omega)) (HO7.out.spots (Nat.le_refl _)) hm).mono ?_; rintro e w13x ⟨rfl, hb⟩; have HBw := Lib.hid (bthen (HK.out.2 _ (by assumption)) hb (HK.out.2 _ (by assumption)).size); dsimp only)))
  have hb := HK.out.2 _ (by assumption)
  clear HK q0_0 q0_1 q0_2 q0_3 q0_4 q1_0 q1_1 q1_2 q1_3 q1_4
  skip
  have HT := Lib.hid (bthen HB12.out hb HB12.out.size)
  clear hb
  go_wp2_with fail
  go_ret
  exact ⟨rfl, HT.out⟩

/-! ### The row's step. -/
set_option maxRecDepth 100000 in
theorem lifted (os : Os) (started : os.Started) (H : Type) (enc : TypeId × Value → H) :
    ReturnsInHanded {} Try.checked os 12 .any (Rows.fnExactMeanSpeedSpec.pre6 enc Try.prog Try.f12 Rows.fnExactMeanSpeedRow.domain false) (Rows.fnExactMeanSpeedSpec.post enc Try.prog Try.f12 false true false false) := by
  refine returnsInHanded_of_change (C := Try.checked) own started (by kernel_rfl) Try.func12
    (ChangeSpec.witness6 (enc := enc) (C := Try.checked) false ⟨#[], #[.agg #[.int .i64 0, .int .i64 0, .int .i64 0, .int .i64 0, .slice none 0 0], .int .i64 0], []⟩ 8 (by kernel_rfl) (by kernel_rfl) (by kernel_rfl) (by kernel_rfl)) ?_
  intro W base args ds gs before hval0 hW hcnd _
  have hval : ∀ (j : Nat) t v, Try.f12.params[j]? = some t → args[j]? = some v → Value.okWide Try.prog W .any base t v := hval0
  have hW' := hW
  obtain ⟨p, q, hA0, hV, rfl, hfz, hnd⟩ := hW
  have hA : DataW.TrodAll enc Try.prog W 0 (fun _ => true) true Try.f12.params.toList args.toList ds p := hA0
  rw [Try.params12] at hA hval
  obtain ⟨v0, vs0, d0, ds0, p0, q0, hargs, rfl, rfl, h0, r0⟩ := trodAll_cons hA
  obtain ⟨v1, vs1, d1, ds1, p1, q1, rfl, rfl, rfl, h1, r1⟩ := trodAll_cons r0
  obtain ⟨rfl, rfl, rfl⟩ := trodAll_nil r1
  obtain rfl : args = #[v0, v1] := by cases args; simp_all
  obtain ⟨rfl, rfl⟩ := trodVars_none hV
  have k0 := h0
  have lt0 : ∀ x ∈ p0, x.block < W.heap.size := by obtain ⟨m, hm⟩ := k0; exact DataW.trod_lt m _ _ _ hm
  obtain ⟨id0, tm0, x0, y0, A0, n0, c0, rfl, m0, l0, w0⟩ := open_cast (hval 0 88 v0 rfl rfl) h0
  have k1 := h1
  have lt1 : ∀ x ∈ p1, x.block < W.heap.size := by obtain ⟨m, hm⟩ := k1; exact DataW.trod_lt m _ _ _ hm
  obtain ⟨x1, rfl⟩ := open_num (hval 1 3 v1 rfl rfl) h1
  clear hA0 hval0
  refine (walk id0 tm0 x0 y0 A0 n0 c0 l0 x1 W w0 m0).mono fun e W1 ⟨he, bel⟩ => ?_
  subst he
  exact ⟨_, rfl, _, _, _, [], _, [], hW', trodAll_mk1 (shut_bool Try.underlying4 _), (trodAll_cons_mk (Below.trod laidOut (by kernel_rfl) (of_decide_eq_true (by kernel_rfl)) k0 bel lt0) (trodAll_cons_mk (Below.trod laidOut (by kernel_rfl) (of_decide_eq_true (by kernel_rfl)) k1 bel lt1) trodAll_mk0)), rfl, bel.frame _, fun h => by cases h⟩

/-- The statement. -/
theorem proved : Rows.FnExactMeanSpeedSaid :=
  OpenClaim.holds_of_wide 12 Try.f12 rfl rfl rfl rfl rfl rfl rfl ⟨rfl, rfl, rfl, rfl, rfl⟩ rfl rfl rfl rfl rfl (by kernel_rfl) Try.func12 (by kernel_rfl)
    (of_decide_eq_true (by kernel_rfl)) (by unfold Func.isWrapper; first | (rw [if_pos (by decide +kernel)]; kernel_rfl) | (rw [if_neg (by decide +kernel)]; exact ⟨rfl, rfl⟩))
    (fun os started H enc _ => lifted os started H enc)
#print axioms proved
end Go.Proofs.Ytdmnkmdlochogab.fnExactMeanSpeed
