/-
  Soundings: contracts of impl.isDoubt, isDepth, IsSpot, IsSounding, AreSoundings, spec.l2Depth, l2Grid, l2Spot, l8One, l8Good, IsSounding, AreSoundings over this translation. Conditions: stated at each theorem.
-/
import Derived.Test.YtdmnkmdlochogabQo
import Derived.Test.YtdmnkmdlochogabPerm
namespace Go.Proofs.Ytdmnkmdlochogab
open Go.RowKit
set_option linter.unusedVariables false

theorem gridS_spec (n : Int) (v : Bool) (h : inB n 0 1000 = v) (w : World) :
    Calls Try.prog 160 #[.int .i64 n] w fun e w' => e = .returned (.bool v) ∧ w = w' := by
  have H := Lib.hid h
  clear h
  go_enter Try.func160, Try.ntmps160
  go_wp2_with fail
  refine (l1In_v _ _ _ _ H.out _).mono ?_
  rintro e w' ⟨rfl, rfl⟩
  go_wp2_with fail
  go_ret
  exact ⟨rfl, rfl⟩
def spS (x y : Int) : Bool := inB x 0 1000 && inB y 0 1000
theorem spS_yes {x y : Int} (h : spS x y = true) : (0 ≤ x ∧ x ≤ 1000) ∧ (0 ≤ y ∧ y ≤ 1000) := by
  unfold spS at h
  rw [Bool.and_eq_true] at h
  exact ⟨inB_yes h.1, inB_yes h.2⟩
theorem spotS_impl (x y : Int) (v : Bool) (h : spS x y = v) (w : World) :
    Calls Try.prog 145 #[.agg #[.int .i64 x, .int .i64 y]] w fun e w' => e = .returned (.bool v) ∧ Below w.heap.size w w' := by
  subst h
  rcases hx : inB x 0 1000 with _ | _
  · have HX := Lib.hid hx
    have HR : Hid (spS x y = false) := by unfold Hid spS; rw [hx]; rfl
    clear hx
    go_enter Try.func145, Try.ntmps145
    go_wp2_with fail
    refine (within_v _ _ _ _ HX.out _).mono ?_
    rintro e w' ⟨rfl, rfl⟩
    go_wp2_with fail
    go_ret
    exact ⟨ret_bool HR.out.symm, (Below.refl _ _).alloc (Nat.le_refl _) _⟩
  · have HX := Lib.hid hx
    obtain ⟨v, hv⟩ : ∃ v, inB y 0 1000 = v := ⟨_, rfl⟩
    have HY := Lib.hid hv
    have HR : Hid (spS x y = v) := by unfold Hid spS; rw [hx, hv]; rfl
    clear hx hv
    go_enter Try.func145, Try.ntmps145
    go_wp2_with fail
    refine (within_v _ _ _ _ HX.out _).mono ?_
    rintro e w' ⟨rfl, rfl⟩
    go_wp2_with fail
    refine (within_v _ _ _ _ HY.out _).mono ?_
    rintro e w' ⟨rfl, rfl⟩
    go_wp2_with fail
    go_ret
    exact ⟨ret_bool HR.out.symm, (Below.refl _ _).alloc (Nat.le_refl _) _⟩
theorem spotS_spec (x y : Int) (v : Bool) (h : spS x y = v) (w : World) :
    Calls Try.prog 147 #[.agg #[.int .i64 x, .int .i64 y]] w fun e w' => e = .returned (.bool v) ∧ Below w.heap.size w w' := by
  subst h
  rcases hx : inB x 0 1000 with _ | _
  · have HX := Lib.hid hx
    have HR : Hid (spS x y = false) := by unfold Hid spS; rw [hx]; rfl
    clear hx
    go_enter Try.func147, Try.ntmps147
    go_wp2_with fail
    refine (gridS_spec _ _ HX.out _).mono ?_
    rintro e w' ⟨rfl, rfl⟩
    go_wp2_with fail
    go_ret
    exact ⟨ret_bool HR.out.symm, (Below.refl _ _).alloc (Nat.le_refl _) _⟩
  · have HX := Lib.hid hx
    obtain ⟨v, hv⟩ : ∃ v, inB y 0 1000 = v := ⟨_, rfl⟩
    have HY := Lib.hid hv
    have HR : Hid (spS x y = v) := by unfold Hid spS; rw [hx, hv]; rfl
    clear hx hv
    go_enter Try.func147, Try.ntmps147
    go_wp2_with fail
    refine (gridS_spec _ _ HX.out _).mono ?_
    rintro e w' ⟨rfl, rfl⟩
    go_wp2_with fail
    refine (gridS_spec _ _ HY.out _).mono ?_
    rintro e w' ⟨rfl, rfl⟩
    go_wp2_with fail
    go_ret
    exact ⟨ret_bool HR.out.symm, (Below.refl _ _).alloc (Nat.le_refl _) _⟩
/-! ### One sounding -/
theorem sdB_is (v : SD) (a b c d : Bool) (h1 : inB v.id 1 999 = a) (h2 : spS v.x v.y = b) (h3 : inB v.dep (-1000) 20000 = c) (h4 : inB v.dbt 0 500 = d) : sdB v = (a && b && c && d) := by
  subst h1; subst h2; subst h3; subst h4
  unfold sdB spS
  rcases inB v.id 1 999 with _ | _
  · rfl
  · rcases inB v.x 0 1000 with _ | _
    · rfl
    · rfl
/-! ### Rows -/
theorem sds_long {L : List SD} (h : ¬ L.length ≤ 12) : sdsB L = false := by unfold sdsB; rw [decide_eq_false h]; rfl
theorem sds_bad {L : List SD} {k : Nat} (h : k < L.length) (hb : sstepB L k = false) : sdsB L = false := by unfold sdsB; rw [sgoodK_bad h hb, Bool.and_false]
theorem sds_fine {L : List SD} (h : L.length ≤ 12) (hb : sgoodK L L.length = true) : sdsB L = true := by unfold sdsB; rw [hb, decide_eq_true h]; rfl
theorem step_invalid {L : List SD} {k : Nat} {v : SD} (h : L[k]? = some v) (hb : sdB v = false) : sstepB L k = false := by unfold sstepB; rw [sdAt_at h, hb]; rfl
theorem step_order {L : List SD} {k : Nat} {v v' : SD} (h : L[k + 1]? = some v) (h' : L[k]? = some v') (hb : ¬ v'.id < v.id) : sstepB L (k + 1) = false := by
  unfold sstepB; rw [sdAt_at h, Nat.add_sub_cancel, sdAt_at h', decide_eq_false hb]; simp
theorem step_fine0 {L : List SD} {v : SD} (h : L[0]? = some v) (hb : sdB v = true) : sstepB L 0 = true := by unfold sstepB; rw [sdAt_at h, hb]; rfl
theorem step_fine {L : List SD} {k : Nat} {v v' : SD} (h : L[k + 1]? = some v) (h' : L[k]? = some v') (hb : sdB v = true) (ho : v'.id < v.id) : sstepB L (k + 1) = true := by
  unfold sstepB; rw [sdAt_at h, Nat.add_sub_cancel, sdAt_at h', hb, decide_eq_true ho]; simp
end Go.Proofs.Ytdmnkmdlochogab
