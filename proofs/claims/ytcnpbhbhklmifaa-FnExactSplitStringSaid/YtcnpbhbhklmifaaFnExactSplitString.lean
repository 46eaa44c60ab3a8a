/-
  Proved here: for every two strings the law laws.FnExactSplitString returns true (impl.SplitString answers as spec.SplitString and its answer owns its memory), and both arguments read afterwards as before.
  Conditions: none beyond the row's own (each string at most the length that the form reads).
-/
import Derived.Test.YtcnpbhbhklmifaaRows
import Derived.Test.YtcnpbhbhklmifaaMark
import Derived.WalkKit
import Derived.ProofKit
import Derived.OpenShut
import Derived.ShutString
namespace Go.Proofs.Ytcnpbhbhklmifaa.fnExactSplitString
open Go.ChangeShapes Go.WideShapes Go.ChangeAt Go.RowKit
open Go.ChangeMaps (open_string shut_string)
set_option linter.unusedVariables false      -- a walk need not use every 'w<i>' (that an integer argument fits its kind)

theorem own : ownKnob Try.prog.godebug = none := by kernel_rfl

theorem own_cells {B g cap : Nat} {xs : List ByteArray} {w : World} (h : w.ownsRow B 9 1 (.slice (some ⟨g, 0, none⟩) xs.length cap) xs.length (xs.map Value.string)) : Cells w g 0 xs := fun j x hx => by
  have hj : j < xs.length := (List.getElem?_eq_some_iff.1 hx).1
  have := h.cellAt j (by omega)
  rw [Nat.zero_add, this]
  simp [hx]

/-! ### The walk: the Go text returns true, and the world has at most new blocks. -/
theorem walk (a0 : ByteArray) (a1 : ByteArray) (w0 : a0.size ≤ maxLen) (w1 : a1.size ≤ maxLen) (w : World) :
    Calls Try.prog 4 #[.string a0, .string a1] w fun e w' => e = .returned (.bool true) ∧ Below w.heap.size w w' := by
  by_cases h0 : (1048576 : Int) < a0.size
  · go_enter Try.func4, Try.ntmps4
    go_wp2
    go_ret
    exact ⟨rfl, Below.refl _ _⟩
  by_cases h1 : (1048576 : Int) < a1.size
  · go_enter Try.func4, Try.ntmps4
    go_wp2
    go_ret
    exact ⟨rfl, Below.refl _ _⟩
  obtain ⟨xs, R, hl, hS, hI⟩ := split_both a0 a1
  have HS := Lib.hid hS
  have HI := Lib.hid hI
  clear hS hI
  go_enter Try.func4, Try.ntmps4
  go_wp2_with fail
  refine (HS.out _).mono ?_
  rintro e w1 ⟨g1, c1, rfl, hr1, hb1⟩
  have HR1 := Lib.hid hr1
  have HB1 := Lib.hid hb1
  have HG1 := Lib.hid (hr1.lt g1 rfl).2
  clear hr1 hb1
  go_wp2_with fail
  refine (HI.out _).mono ?_
  rintro e w2 ⟨g2, c2, rfl, hr2, hb2⟩
  have HC1 := Lib.hid (own_cells (own_below HR1.out hb2))
  have HR2 := Lib.hid hr2
  have HB2 := Lib.hid hb2
  have HG2 := Lib.hid (hr2.lt g2 rfl)
  clear hr2 hb2
  go_wp2_with fail
  refine (eq_true g2 0 c2 g1 0 c1 xs w2 (own_cells HR2.out) HC1.out (by unfold maxLen; omega)).mono ?_
  rintro e w' ⟨rfl, k2, rfl⟩
  have HD2 := Lib.hid (below_drewN w2 k2)
  go_wp2_with fail
  refine (mark_row g2 c2 w1.heap.size xs _ hl (by have h1 := HB2.out.size; have h2 := HD2.out.size; omega) (own_below HR2.out HD2.out)).mono ?_
  rintro e w3 ⟨rfl, hr3, hb3⟩
  have HM3 := Lib.hid (marked_of hr3)
  have HG3 := Lib.hid (hr3.lt g2 rfl)
  have HB3 := Lib.hid ((HB2.out.trans (HD2.out.mono HB2.out.size)).trans hb3)
  have HC3 := Lib.hid (HC1.out.below ((HD2.out.mono HB2.out.size).trans hb3) HG1.out)
  clear hr3 hb3
  go_wp2_with fail
  refine (held_row g2 c2 xs.length w3 hl HG3.out.2 HM3.out).mono ?_
  rintro e w4 ⟨rfl, hb4⟩
  have HM4 := Lib.hid (HM3.out.below hb4 HG3.out.2)
  have HB4 := Lib.hid (HB3.out.trans (hb4.mono HB3.out.size))
  have HC4 := Lib.hid (HC3.out.below hb4 (by have h1 := HG1.out; have h2 := HB3.out.size; omega))
  have hb4s := Lib.hid hb4.size
  clear hb4
  go_wp2_with fail
  refine (HI.out _).mono ?_
  rintro e w5 ⟨g5, c5, rfl, hr5, hb5⟩
  have HR5 := Lib.hid hr5
  have HC5 := Lib.hid (HC4.out.below hb5 (by have h1 := HG1.out; have h2 := HB4.out.size; omega))
  have HX4 := Lib.hid (show g2 < w4.heap.size from Nat.lt_of_lt_of_le HG3.out.2 hb4s.out)
  have HM5 := Lib.hid (HM4.out.below hb5 HX4.out)
  have HX5 := Lib.hid (show g2 < w5.heap.size from Nat.lt_of_lt_of_le HX4.out hb5.size)
  have HB5 := Lib.hid (HB4.out.trans (hb5.mono HB4.out.size))
  clear hr5 hb5
  go_wp2_with fail
  refine (eq_true g5 0 c5 g1 0 c1 xs w5 (own_cells HR5.out) HC5.out (by unfold maxLen; omega)).mono ?_
  rintro e w' ⟨rfl, k5, rfl⟩
  have HD5 := Lib.hid (below_drewN w5 k5)
  go_wp2_with fail
  refine (held_row g2 c2 xs.length _ hl (Nat.lt_of_lt_of_le HX5.out HD5.out.size) (HM5.out.below HD5.out HX5.out)).mono ?_
  rintro e w6 ⟨rfl, hb6⟩
  have HB6 := Lib.hid ((HB5.out.trans (HD5.out.mono HB5.out.size)).trans (hb6.mono (by have h1 := HB5.out.size; have h2 := HD5.out.size; omega)))
  clear hb6
  go_wp2_with fail
  go_ret
  exact ⟨rfl, HB1.out.trans (HB6.out.mono HB1.out.size)⟩

/-! ### The row's step. -/
set_option maxRecDepth 100000 in
theorem lifted (os : Os) (started : os.Started) (H : Type) (enc : TypeId × Value → H) :
    ReturnsInHanded {} Try.checked os 4 .any (Rows.fnExactSplitStringSpec.pre6 enc Try.prog Try.f4 Rows.fnExactSplitStringRow.domain false) (Rows.fnExactSplitStringSpec.post enc Try.prog Try.f4 false true false false) := by
  refine returnsInHanded_of_change (C := Try.checked) own started (by kernel_rfl) Try.func4
    (ChangeSpec.witness6 (enc := enc) (C := Try.checked) false ⟨#[], #[.string ByteArray.empty, .string ByteArray.empty], []⟩ 8 (by kernel_rfl) (by kernel_rfl) (by kernel_rfl) (by kernel_rfl)) ?_
  intro W base args ds gs before hval0 hW hcnd _
  have hval : ∀ (j : Nat) t v, Try.f4.params[j]? = some t → args[j]? = some v → Value.okWide Try.prog W .any base t v := hval0
  have hW' := hW
  obtain ⟨p, q, hA0, hV, rfl, hfz, hnd⟩ := hW
  have hA : DataW.TrodAll enc Try.prog W 0 (fun _ => true) true Try.f4.params.toList args.toList ds p := hA0
  rw [Try.params4] at hA hval
  obtain ⟨v0, vs0, d0, ds0, p0, q0, hargs, rfl, rfl, h0, r0⟩ := trodAll_cons hA
  obtain ⟨v1, vs1, d1, ds1, p1, q1, rfl, rfl, rfl, h1, r1⟩ := trodAll_cons r0
  obtain ⟨rfl, rfl, rfl⟩ := trodAll_nil r1
  obtain rfl : args = #[v0, v1] := by cases args; simp_all
  obtain ⟨rfl, rfl⟩ := trodVars_none hV
  obtain ⟨a0, rfl, rfl, rfl, w0⟩ := open_string Try.underlying9 (hval 0 9 v0 rfl rfl) h0
  obtain ⟨a1, rfl, rfl, rfl, w1⟩ := open_string Try.underlying9 (hval 1 9 v1 rfl rfl) h1
  clear hA0 hval0
  simp only [List.append_nil] at hW'
  refine (walk a0 a1 w0 w1 W).mono fun e W' ⟨he, hg⟩ => ?_
  subst he
  refine ⟨_, rfl, _, _, _, [], [], [], hW', ?_, ?_, rfl, hg.frame _, fun h => by cases h⟩
  · exact trodAll_mk1 (shut_bool Try.underlying4 _)
  · exact (trodAll_cons_mk (shut_string Try.underlying9 w0) (trodAll_cons_mk (shut_string Try.underlying9 w1) trodAll_mk0))

theorem over : Rows.fnExactSplitStringRow.holds Try.pinned (OpenSpec.ofChange Rows.fnExactSplitStringSpec) :=
  OpenClaim.holds_of_wide 4 Try.f4 rfl rfl rfl rfl rfl rfl rfl ⟨rfl, rfl, rfl, rfl, rfl⟩ rfl rfl rfl rfl rfl (by kernel_rfl) Try.func4 (by kernel_rfl)
    (of_decide_eq_true (by kernel_rfl)) (by unfold Func.isWrapper; first | (rw [if_pos (by decide +kernel)]; kernel_rfl) | (rw [if_neg (by decide +kernel)]; exact ⟨rfl, rfl⟩))
    (fun os started H enc _ => lifted os started H enc)

/-- The statement. -/
theorem proved : Rows.FnExactSplitStringSaid :=
  over
#print axioms proved
end Go.Proofs.Ytcnpbhbhklmifaa.fnExactSplitString
