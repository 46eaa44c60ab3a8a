/-
  Proved here: for every box the law laws.FnExactCellsIn returns true (impl.CellsIn answers as spec.CellsIn and writes into no argument), and the arguments read afterwards as before.
  Conditions: none beyond the row's own.
-/
import Derived.Test.YtagfgaohdpoegaaLl
import Derived.Test.YtagfgaohdpoegaaCe
namespace Go.Proofs.Ytagfgaohdpoegaa.fnExactCellsIn
open Go.Joins Go.ChangeShapes Go.WideShapes Go.ChangeAt Go.RowKit Go.Deep
set_option linter.unusedVariables false

/-! ### The walk: the Go text returns true, and nothing that was there has turned. -/
set_option maxHeartbeats 1600000 in
theorem walk (a b d e : Int) (w : World) :
    Calls Try.prog 8 #[.agg #[.int .i64 a, .int .i64 b, .int .i64 d, .int .i64 e]] w fun z w' => z = .returned (.bool true) ∧ Below w.heap.size w w' := by
  go_enter Try.func8, Try.ntmps8
  go_wp2_with fail
  refine (toBoxS_anyN a b d e _).mono ?_
  rintro z w1 ⟨rfl, hb⟩
  have HX := Lib.hid (box1 hb)
  clear hb
  go_wp2_with fail
  refine (cellsIn_spec a b d e _).mono ?_
  rintro z w2 ⟨rfl, hb⟩
  have HX2 := Lib.hid (And.intro (bthen HX.out.1 hb HX.out.1.size) (HX.out.2.next hb))
  clear hb
  obtain ⟨a0, a1, a2, a3⟩ := box_four HX2.out.2
  go_wp2_with fail
  refine (toBoxS_anyN a b d e _).mono ?_
  rintro z w3 ⟨rfl, hb⟩
  have HX3 := Lib.hid (bthen HX2.out.1 hb HX2.out.1.size)
  clear hb a0 a1 a2 a3
  go_wp2_with fail
  refine (cellsIn_impl a b d e _).mono ?_
  rintro z w4 ⟨rfl, hb⟩
  have HX4 := Lib.hid (bthen HX3.out hb HX3.out.size)
  clear hb
  go_wp2_with fail
  go_ret
  exact ⟨rfl, HX4.out⟩

/-! ### The row's step. -/
set_option maxRecDepth 100000 in
theorem lifted (os : Os) (started : os.Started) (H : Type) (enc : TypeId × Value → H) :
    ReturnsInHanded {} Try.checked os 8 .any (Rows.fnExactCellsInSpec.pre6 enc Try.prog Try.f8 Rows.fnExactCellsInRow.domain false) (Rows.fnExactCellsInSpec.post enc Try.prog Try.f8 false true false false) := by
  refine returnsInHanded_of_change (C := Try.checked) own started (by kernel_rfl) Try.func8
    (ChangeSpec.witness6 (enc := enc) (C := Try.checked) false ⟨#[], #[.agg #[.int .i64 0, .int .i64 0, .int .i64 0, .int .i64 0]], []⟩ 8 (by kernel_rfl) (by kernel_rfl) (by kernel_rfl) (by kernel_rfl)) ?_
  intro W base args ds gs before hval0 hW hcnd _
  have hval : ∀ (j : Nat) t v, Try.f8.params[j]? = some t → args[j]? = some v → Value.okWide Try.prog W .any base t v := hval0
  have hW' := hW
  obtain ⟨p, q, hA0, hV, rfl, hfz, hnd⟩ := hW
  have hA : DataW.TrodAll enc Try.prog W 0 (fun _ => true) true Try.f8.params.toList args.toList ds p := hA0
  rw [Try.params8] at hA hval
  obtain ⟨v0, vs0, d0, ds0, p0, q0, hargs, rfl, rfl, h0, r0⟩ := trodAll_cons hA
  obtain ⟨rfl, rfl, rfl⟩ := trodAll_nil r0
  obtain rfl : args = #[v0] := by cases args; simp_all
  obtain ⟨rfl, rfl⟩ := trodVars_none hV
  have k0 := h0
  have lt0 : ∀ x ∈ p0, x.block < W.heap.size := by obtain ⟨m, hm⟩ := k0; exact DataW.trod_lt m _ _ _ hm
  obtain ⟨a0, b0, c0, e0, rfl⟩ := open_boxS (hval 0 63 v0 rfl rfl) h0
  clear hA0 hval0
  refine (walk a0 b0 c0 e0 W).mono fun e W1 ⟨he, bel⟩ => ?_
  subst he
  exact ⟨_, rfl, _, _, _, [], _, [], hW', trodAll_mk1 (shut_bool Try.underlying4 _), (trodAll_cons_mk (Below.trod laidOut (by kernel_rfl) (of_decide_eq_true (by kernel_rfl)) k0 bel lt0) trodAll_mk0), rfl, bel.frame _, fun h => by cases h⟩

/-- The statement. -/
theorem proved : Rows.FnExactCellsInSaid :=
  OpenClaim.holds_of_wide 8 Try.f8 rfl rfl rfl rfl rfl rfl rfl ⟨rfl, rfl, rfl, rfl, rfl⟩ rfl rfl rfl rfl rfl (by kernel_rfl) Try.func8 (by kernel_rfl)
    (of_decide_eq_true (by kernel_rfl)) (by unfold Func.isWrapper; first | (rw [if_pos (by decide +kernel)]; kernel_rfl) | (rw [if_neg (by decide +kernel)]; exact ⟨rfl, rfl⟩))
    (fun os started H enc _ => lifted os started H enc)
#print axioms proved
end Go.Proofs.Ytagfgaohdpoegaa.fnExactCellsIn
