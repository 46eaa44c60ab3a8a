/-
  Proved here: for every two spots the law laws.FnExactLengthBetween returns true (impl.LengthBetween answers as spec.LengthBetween), and both arguments read afterwards as before.
  Conditions: none beyond the row's own.
-/
import Derived.Test.YtjnimedbjmihaaaOpen
import Derived.Test.YtjnimedbjmihaaaLen
namespace Go.Proofs.Ytjnimedbjmihaaa.fnExactLengthBetween
open Go.Joins Go.ChangeShapes Go.WideShapes Go.ChangeAt Go.RowKit Go.Deep
set_option linter.unusedVariables false

abbrev Keep2 (w W : World) (x0 y0 x1 y1 : Int) : Prop :=
  W.cell? ⟨w.heap.size, 0, none⟩ = some (.int .i64 x0) ∧ W.cell? ⟨w.heap.size, 1, none⟩ = some (.int .i64 y0) ∧ W.cell? ⟨w.heap.size + 1, 0, none⟩ = some (.int .i64 x1) ∧ W.cell? ⟨w.heap.size + 1, 1, none⟩ = some (.int .i64 y1) ∧ Hid (Below w.heap.size w W ∧ w.heap.size + 2 ≤ W.heap.size)
theorem keep_next {w W W1 : World} {x0 y0 x1 y1 : Int} (hb : Below W.heap.size W W1)
    (h : W.cell? ⟨w.heap.size, 0, none⟩ = some (.int .i64 x0) ∧ W.cell? ⟨w.heap.size, 1, none⟩ = some (.int .i64 y0) ∧ W.cell? ⟨w.heap.size + 1, 0, none⟩ = some (.int .i64 x1) ∧ W.cell? ⟨w.heap.size + 1, 1, none⟩ = some (.int .i64 y1) ∧ Hid (Below w.heap.size w W ∧ w.heap.size + 2 ≤ W.heap.size)) :
    W1.cell? ⟨w.heap.size, 0, none⟩ = some (.int .i64 x0) ∧ W1.cell? ⟨w.heap.size, 1, none⟩ = some (.int .i64 y0) ∧ W1.cell? ⟨w.heap.size + 1, 0, none⟩ = some (.int .i64 x1) ∧ W1.cell? ⟨w.heap.size + 1, 1, none⟩ = some (.int .i64 y1) ∧ Hid (Below w.heap.size w W1 ∧ w.heap.size + 2 ≤ W1.heap.size) := by
  obtain ⟨h0, h1, h2, h3, h4⟩ := h
  have hz := h4.out.2
  refine ⟨(hb.cell (by simp; omega)).trans h0, (hb.cell (by simp; omega)).trans h1, (hb.cell (by simp; omega)).trans h2, (hb.cell (by simp; omega)).trans h3, Lib.hid ⟨bthen h4.out.1 hb (by omega), Nat.le_trans hz hb.size⟩⟩
/-! ### The walk: the Go text returns true, and nothing that was there has turned. -/
set_option maxHeartbeats 800000 in
theorem walk (x0 y0 x1 y1 : Int) (w : World) :
    Calls Try.prog 14 #[.agg #[.int .i64 x0, .int .i64 y0], .agg #[.int .i64 x1, .int .i64 y1]] w fun e w' => e = .returned (.bool true) ∧ Below w.heap.size w w' := by
  go_enter Try.func14, Try.ntmps14
  go_wp2_with fail
  go_region_held3 (fun W => W.cell? ⟨w.heap.size, 0, none⟩ = some (.int .i64 x0) ∧ W.cell? ⟨w.heap.size, 1, none⟩ = some (.int .i64 y0) ∧ W.cell? ⟨w.heap.size + 1, 0, none⟩ = some (.int .i64 x1) ∧ W.cell? ⟨w.heap.size + 1, 1, none⟩ = some (.int .i64 y1) ∧ Hid (Below w.heap.size w W ∧ w.heap.size + 2 ≤ W.heap.size)) (first | (exact ⟨by go_simp, by go_simp, by go_simp, by go_simp, Lib.hid ⟨((((Below.refl w.heap.size w).alloc (Nat.le_refl _) _).alloc (by simp) _)).drew, by simp⟩⟩) | assumption | (exact keep_next hb (by assumption))) ((first | (go_at_call 44; refine (toSpot_any _ _ _).mono ?_; rintro e w1 ⟨rfl, hb⟩; dsimp only) | (go_at_call 43; refine (len_spec _ _ _ _ _).mono ?_; rintro e w1 ⟨rfl, hb⟩; dsimp only)))
  have hk : Keep2 w w1 x0 y0 x1 y1 := by assumption
  obtain ⟨c0, c1, c2, c3, HB⟩ := hk
  go_wp2_with fail
  go_region_held3 (fun W => W.cell? ⟨w.heap.size, 0, none⟩ = some (.int .i64 x0) ∧ W.cell? ⟨w.heap.size, 1, none⟩ = some (.int .i64 y0) ∧ W.cell? ⟨w.heap.size + 1, 0, none⟩ = some (.int .i64 x1) ∧ W.cell? ⟨w.heap.size + 1, 1, none⟩ = some (.int .i64 y1) ∧ Hid (Below w.heap.size w W ∧ w.heap.size + 2 ≤ W.heap.size)) (first | (exact ⟨c0, c1, c2, c3, Lib.hid ⟨HB.out.1.drew, HB.out.2⟩⟩) | assumption | (exact keep_next hb (by assumption))) ((first | (go_at_call 44; refine (toSpot_any _ _ _).mono ?_; rintro e w1 ⟨rfl, hb⟩; dsimp only) | (go_at_call 42; refine (len_impl _ _ _ _ _).mono ?_; rintro e w1 ⟨rfl, hb⟩; dsimp only)))
  have hk : Keep2 w w1 x0 y0 x1 y1 := by assumption
  have HB2 := hk.2.2.2.2
  go_wp2_with fail
  go_ret
  exact ⟨rfl, HB2.out.1⟩

/-! ### The row's step. -/
set_option maxRecDepth 100000 in
theorem lifted (os : Os) (started : os.Started) (H : Type) (enc : TypeId × Value → H) :
    ReturnsInHanded {} Try.checked os 14 .any (Rows.fnExactLengthBetweenSpec.pre6 enc Try.prog Try.f14 Rows.fnExactLengthBetweenRow.domain false) (Rows.fnExactLengthBetweenSpec.post enc Try.prog Try.f14 false true false false) := by
  refine returnsInHanded_of_change (C := Try.checked) own started (by kernel_rfl) Try.func14
    (ChangeSpec.witness6 (enc := enc) (C := Try.checked) false ⟨#[], #[.agg #[.int .i64 0, .int .i64 0], .agg #[.int .i64 0, .int .i64 0]], []⟩ 8 (by kernel_rfl) (by kernel_rfl) (by kernel_rfl) (by kernel_rfl)) ?_
  intro W base args ds gs before hval0 hW hcnd _
  have hval : ∀ (j : Nat) t v, Try.f14.params[j]? = some t → args[j]? = some v → Value.okWide Try.prog W .any base t v := hval0
  have hW' := hW
  obtain ⟨p, q, hA0, hV, rfl, hfz, hnd⟩ := hW
  have hA : DataW.TrodAll enc Try.prog W 0 (fun _ => true) true Try.f14.params.toList args.toList ds p := hA0
  rw [Try.params14] at hA hval
  obtain ⟨v0, vs0, d0, ds0, p0, q0, hargs, rfl, rfl, h0, r0⟩ := trodAll_cons hA
  obtain ⟨v1, vs1, d1, ds1, p1, q1, rfl, rfl, rfl, h1, r1⟩ := trodAll_cons r0
  obtain ⟨rfl, rfl, rfl⟩ := trodAll_nil r1
  obtain rfl : args = #[v0, v1] := by cases args; simp_all
  obtain ⟨rfl, rfl⟩ := trodVars_none hV
  have k0 := h0
  have lt0 : ∀ x ∈ p0, x.block < W.heap.size := by obtain ⟨m, hm⟩ := k0; exact DataW.trod_lt m _ _ _ hm
  obtain ⟨x0, y0, rfl⟩ := open_spot (hval 0 54 v0 rfl rfl) h0
  have k1 := h1
  have lt1 : ∀ x ∈ p1, x.block < W.heap.size := by obtain ⟨m, hm⟩ := k1; exact DataW.trod_lt m _ _ _ hm
  obtain ⟨x1, y1, rfl⟩ := open_spot (hval 1 54 v1 rfl rfl) h1
  clear hA0 hval0
  refine (walk x0 y0 x1 y1 W).mono fun e W1 ⟨he, bel⟩ => ?_
  subst he
  exact ⟨_, rfl, _, _, _, [], _, [], hW', trodAll_mk1 (shut_bool Try.underlying4 _), (trodAll_cons_mk (Below.trod laidOut (by kernel_rfl) (of_decide_eq_true (by kernel_rfl)) k0 bel lt0) (trodAll_cons_mk (Below.trod laidOut (by kernel_rfl) (of_decide_eq_true (by kernel_rfl)) k1 bel lt1) trodAll_mk0)), rfl, bel.frame _, fun h => by cases h⟩

/-- The statement. -/
theorem proved : Rows.FnExactLengthBetweenSaid :=
  OpenClaim.holds_of_wide 14 Try.f14 rfl rfl rfl rfl rfl rfl rfl ⟨rfl, rfl, rfl, rfl, rfl⟩ rfl rfl rfl rfl rfl (by kernel_rfl) Try.func14 (by kernel_rfl)
    (of_decide_eq_true (by kernel_rfl)) (by unfold Func.isWrapper; first | (rw [if_pos (by decide +kernel)]; kernel_rfl) | (rw [if_neg (by decide +kernel)]; exact ⟨rfl, rfl⟩))
    (fun os started H enc _ => lifted os started H enc)
#print axioms proved
end Go.Proofs.Ytjnimedbjmihaaa.fnExactLengthBetween
