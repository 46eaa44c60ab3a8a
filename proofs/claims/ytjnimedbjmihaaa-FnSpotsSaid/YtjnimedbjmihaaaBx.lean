/-
  Contracts of laws.toBox, laws.eqBox, spec.l2Box, spec.IsBox, impl.spansOf, impl.IsBox, impl.boxFrom over this translation. Conditions: stated at each theorem.
-/
import Derived.Test.YtjnimedbjmihaaaAre
namespace Go.Proofs.Ytjnimedbjmihaaa
open Go.RowKit

/-- From lo to hi within the grid. -/
def spanB (lo hi : Int) : Bool := decide (0 ≤ lo ∧ lo ≤ hi ∧ hi ≤ 1000)
/-- Is this a box? -/
def boxB (a b c d : Int) : Bool := spanB a c && spanB b d
theorem boxB_yes {a b c d : Int} (h : boxB a b c d = true) : (0 ≤ a ∧ a ≤ c ∧ c ≤ 1000) ∧ (0 ≤ b ∧ b ≤ d ∧ d ≤ 1000) := by
  unfold boxB at h
  rw [Bool.and_eq_true] at h
  exact ⟨of_decide_eq_true h.1, of_decide_eq_true h.2⟩
theorem boxB_mk {a b c d : Int} (h1 : 0 ≤ a ∧ a ≤ c ∧ c ≤ 1000) (h2 : 0 ≤ b ∧ b ≤ d ∧ d ≤ 1000) : boxB a b c d = true := by
  unfold boxB
  rw [Bool.and_eq_true]
  exact ⟨decide_eq_true h1, decide_eq_true h2⟩
theorem boxB_no {a b c d : Int} (h : ¬ ((0 ≤ a ∧ a ≤ c ∧ c ≤ 1000) ∧ (0 ≤ b ∧ b ≤ d ∧ d ≤ 1000))) : boxB a b c d = false := by
  rcases hv : boxB a b c d with _ | _
  · rfl
  · exact absurd (boxB_yes hv) h
theorem toBox_any (a b c d : Int) (w : World) :
    Calls Try.prog 49 #[.agg #[.int .i64 a, .int .i64 b, .int .i64 c, .int .i64 d]] w fun e w' => e = .returned (.agg #[.int .i64 a, .int .i64 b, .int .i64 c, .int .i64 d]) ∧ Below w.heap.size w w' := by
  go_enter Try.func49, Try.ntmps49
  go_wp2
  refine bodyPost_ret (v := .agg #[.int .i64 a, .int .i64 b, .int .i64 c, .int .i64 d]) (by simp [results, Try.results49, go_sem]) rfl ⟨rfl, ?_⟩
  repeat (first | exact Below.refl _ _ | refine Below.setCell ?_ (by simp; try omega) _ | refine Below.alloc ?_ (by simp; try omega) _)
theorem eqBox_same (a b c d : Int) (w : World) :
    Calls Try.prog 48 #[.agg #[.int .i64 a, .int .i64 b, .int .i64 c, .int .i64 d], .agg #[.int .i64 a, .int .i64 b, .int .i64 c, .int .i64 d]] w fun e w' => e = .returned (.bool true) ∧ Below w.heap.size w w' := by
  go_enter Try.func48, Try.ntmps48
  go_wp2
  go_ret
  refine ⟨rfl, ?_⟩
  repeat (first | exact Below.refl _ _ | refine Below.alloc ?_ (by simp; try omega) _)
theorem grid_v (n : Int) (v : Bool) (h : gridB n = v) (w : World) :
    Calls Try.prog 78 #[.int .i64 n] w fun e w' => e = .returned (.bool v) ∧ w = w' := h ▸ grid_any n w
set_option maxHeartbeats 800000 in
theorem l2Box_any (a b c d : Int) (w : World) :
    Calls Try.prog 67 #[.agg #[.int .i64 a, .int .i64 b, .int .i64 c, .int .i64 d]] w fun e w' => e = .returned (.bool (boxB a b c d)) ∧ Below w.heap.size w w' := by
  rcases h1 : gridB a with _ | _
  · have H1 := Lib.hid h1
    have HR := Lib.hid (boxB_no (a := a) (b := b) (c := c) (d := d) (by have := inB_no h1; omega))
    clear h1
    go_enter Try.func67, Try.ntmps67
    go_wp2_with fail
    refine (grid_v _ _ H1.out _).mono ?_
    rintro e w' ⟨rfl, rfl⟩
    go_wp2_with fail
    go_ret
    exact ⟨ret_bool HR.out.symm, (Below.refl _ _).alloc (Nat.le_refl _) _⟩
  rcases h2 : gridB b with _ | _
  · have H1 := Lib.hid h1
    have H2 := Lib.hid h2
    have HR := Lib.hid (boxB_no (a := a) (b := b) (c := c) (d := d) (by have := inB_no h2; omega))
    clear h1 h2
    go_enter Try.func67, Try.ntmps67
    go_wp2_with fail
    refine (grid_v _ _ H1.out _).mono ?_
    rintro e w' ⟨rfl, rfl⟩
    go_wp2_with fail
    refine (grid_v _ _ H2.out _).mono ?_
    rintro e w' ⟨rfl, rfl⟩
    go_wp2_with fail
    go_ret
    exact ⟨ret_bool HR.out.symm, (Below.refl _ _).alloc (Nat.le_refl _) _⟩
  rcases h3 : gridB c with _ | _
  · have H1 := Lib.hid h1
    have H2 := Lib.hid h2
    have H3 := Lib.hid h3
    have HR := Lib.hid (boxB_no (a := a) (b := b) (c := c) (d := d) (by have := inB_no h3; have := inB_yes h1; omega))
    clear h1 h2 h3
    go_enter Try.func67, Try.ntmps67
    go_wp2_with fail
    refine (grid_v _ _ H1.out _).mono ?_
    rintro e w' ⟨rfl, rfl⟩
    go_wp2_with fail
    refine (grid_v _ _ H2.out _).mono ?_
    rintro e w' ⟨rfl, rfl⟩
    go_wp2_with fail
    refine (grid_v _ _ H3.out _).mono ?_
    rintro e w' ⟨rfl, rfl⟩
    go_wp2_with fail
    go_ret
    exact ⟨ret_bool HR.out.symm, (Below.refl _ _).alloc (Nat.le_refl _) _⟩
  rcases h4 : gridB d with _ | _
  · have H1 := Lib.hid h1
    have H2 := Lib.hid h2
    have H3 := Lib.hid h3
    have H4 := Lib.hid h4
    have HR := Lib.hid (boxB_no (a := a) (b := b) (c := c) (d := d) (by have := inB_no h4; have := inB_yes h2; omega))
    clear h1 h2 h3 h4
    go_enter Try.func67, Try.ntmps67
    go_wp2_with fail
    refine (grid_v _ _ H1.out _).mono ?_
    rintro e w' ⟨rfl, rfl⟩
    go_wp2_with fail
    refine (grid_v _ _ H2.out _).mono ?_
    rintro e w' ⟨rfl, rfl⟩
    go_wp2_with fail
    refine (grid_v _ _ H3.out _).mono ?_
    rintro e w' ⟨rfl, rfl⟩
    go_wp2_with fail
    refine (grid_v _ _ H4.out _).mono ?_
    rintro e w' ⟨rfl, rfl⟩
    go_wp2_with fail
    go_ret
    exact ⟨ret_bool HR.out.symm, (Below.refl _ _).alloc (Nat.le_refl _) _⟩
  have H1 := Lib.hid h1
  have H2 := Lib.hid h2
  have H3 := Lib.hid h3
  have H4 := Lib.hid h4
  by_cases h5 : a ≤ c
  · by_cases h6 : b ≤ d
    · have HR := Lib.hid (boxB_mk (a := a) (b := b) (c := c) (d := d) (by have := inB_yes h1; have := inB_yes h3; omega) (by have := inB_yes h2; have := inB_yes h4; omega))
      clear h1 h2 h3 h4
      go_enter Try.func67, Try.ntmps67
      go_wp2_with fail
      refine (grid_v _ _ H1.out _).mono ?_
      rintro e w' ⟨rfl, rfl⟩
      go_wp2_with fail
      refine (grid_v _ _ H2.out _).mono ?_
      rintro e w' ⟨rfl, rfl⟩
      go_wp2_with fail
      refine (grid_v _ _ H3.out _).mono ?_
      rintro e w' ⟨rfl, rfl⟩
      go_wp2_with fail
      refine (grid_v _ _ H4.out _).mono ?_
      rintro e w' ⟨rfl, rfl⟩
      go_wp2_with fail
      go_ret
      exact ⟨ret_bool HR.out.symm, (Below.refl _ _).alloc (Nat.le_refl _) _⟩
    · have HR := Lib.hid (boxB_no (a := a) (b := b) (c := c) (d := d) (by omega))
      clear h1 h2 h3 h4
      go_enter Try.func67, Try.ntmps67
      go_wp2_with fail
      refine (grid_v _ _ H1.out _).mono ?_
      rintro e w' ⟨rfl, rfl⟩
      go_wp2_with fail
      refine (grid_v _ _ H2.out _).mono ?_
      rintro e w' ⟨rfl, rfl⟩
      go_wp2_with fail
      refine (grid_v _ _ H3.out _).mono ?_
      rintro e w' ⟨rfl, rfl⟩
      go_wp2_with fail
      refine (grid_v _ _ H4.out _).mono ?_
      rintro e w' ⟨rfl, rfl⟩
      go_wp2_with fail
      go_ret
      exact ⟨ret_bool (by rw [HR.out]; exact decide_eq_false (by omega)), (Below.refl _ _).alloc (Nat.le_refl _) _⟩
  · have HR := Lib.hid (boxB_no (a := a) (b := b) (c := c) (d := d) (by omega))
    clear h1 h2 h3 h4
    go_enter Try.func67, Try.ntmps67
    go_wp2_with fail
    refine (grid_v _ _ H1.out _).mono ?_
    rintro e w' ⟨rfl, rfl⟩
    go_wp2_with fail
    refine (grid_v _ _ H2.out _).mono ?_
    rintro e w' ⟨rfl, rfl⟩
    go_wp2_with fail
    refine (grid_v _ _ H3.out _).mono ?_
    rintro e w' ⟨rfl, rfl⟩
    go_wp2_with fail
    refine (grid_v _ _ H4.out _).mono ?_
    rintro e w' ⟨rfl, rfl⟩
    go_wp2_with fail
    go_ret
    exact ⟨ret_bool HR.out.symm, (Below.refl _ _).alloc (Nat.le_refl _) _⟩
theorem isBox_spec (a b c d : Int) (w : World) :
    Calls Try.prog 37 #[.agg #[.int .i64 a, .int .i64 b, .int .i64 c, .int .i64 d]] w fun e w' => e = .returned (.bool (boxB a b c d)) ∧ Below w.heap.size w w' := by
  go_enter Try.func37, Try.ntmps37
  go_wp2_with fail
  refine (l2Box_any a b c d _).mono ?_
  rintro e w1 ⟨rfl, hb⟩
  have HB := Lib.hid (box1 hb)
  clear hb
  go_wp2_with fail
  go_ret
  exact ⟨rfl, HB.out.1⟩

/-! ### What a box covers along its axes -/
theorem spans_any (a b c d : Int) (w : World) :
    Calls Try.prog 62 #[.agg #[.int .i64 a, .int .i64 b, .int .i64 c, .int .i64 d]] w fun e w' => e = .returned (.agg #[.int .i64 a, .int .i64 c, .int .i64 b, .int .i64 d]) ∧ Below w.heap.size w w' := by
  go_enter Try.func62, Try.ntmps62
  go_wp2
  refine bodyPost_ret (v := .agg #[.int .i64 a, .int .i64 c, .int .i64 b, .int .i64 d]) (by simp [results, Try.results62, go_sem]) rfl ⟨rfl, ?_⟩
  repeat (first | exact Below.refl _ _ | refine Below.setCell ?_ (by simp; try omega) _ | refine Below.alloc ?_ (by simp; try omega) _)
theorem from_any (a b c d : Int) (w : World) :
    Calls Try.prog 69 #[.agg #[.int .i64 a, .int .i64 c, .int .i64 b, .int .i64 d]] w fun e w' => e = .returned (.agg #[.int .i64 a, .int .i64 b, .int .i64 c, .int .i64 d]) ∧ Below w.heap.size w w' := by
  go_enter Try.func69, Try.ntmps69
  go_wp2
  refine bodyPost_ret (v := .agg #[.int .i64 a, .int .i64 b, .int .i64 c, .int .i64 d]) (by simp [results, Try.results69, go_sem]) rfl ⟨rfl, ?_⟩
  repeat (first | exact Below.refl _ _ | refine Below.setCell ?_ (by simp; try omega) _ | refine Below.alloc ?_ (by simp; try omega) _)
theorem isBox_impl (a b c d : Int) (w : World) :
    Calls Try.prog 26 #[.agg #[.int .i64 a, .int .i64 b, .int .i64 c, .int .i64 d]] w fun e w' => e = .returned (.bool (boxB a b c d)) ∧ Below w.heap.size w w' := by
  have i0 : ∀ w, (Instr.index 84 (.agg #[.int .i64 a, .int .i64 c, .int .i64 b, .int .i64 d]) (.int .i64 0)).run Try.prog w = .ok (.agg #[.int .i64 a, .int .i64 c]) w := fun _ => by kernel_rfl
  have i1 : ∀ w, (Instr.index 84 (.agg #[.int .i64 a, .int .i64 c, .int .i64 b, .int .i64 d]) (.int .i64 1)).run Try.prog w = .ok (.agg #[.int .i64 b, .int .i64 d]) w := fun _ => by kernel_rfl
  rcases h1 : spanB a c with _ | _
  · have HN := Lib.hid (of_decide_eq_false h1)
    have HR : Hid (boxB a b c d = false) := by unfold Hid boxB; rw [h1]; rfl
    clear h1
    go_enter Try.func26, Try.ntmps26
    go_wp2_with fail
    refine (spans_any a b c d _).mono ?_
    rintro e w1 ⟨rfl, hb⟩
    have HB := Lib.hid (box1 hb)
    clear hb
    go_wp2_with fail
    refine wp_loop_rounds 1 ?_
    rw [rounds_succ]
    go_wp2_with fail
    all_goals (first | (exfalso; have := HN.out; omega) | (go_ret; exact ⟨ret_bool HR.out.symm, HB.out.1.alloc HB.out.1.size _⟩))
  have HP := Lib.hid (of_decide_eq_true h1)
  rcases h2 : spanB b d with _ | _
  · have HN := Lib.hid (of_decide_eq_false h2)
    have HR : Hid (boxB a b c d = false) := by unfold Hid boxB; rw [h1, h2]; rfl
    obtain ⟨p1, p2, p3⟩ := HP.out
    clear h1 h2
    go_enter Try.func26, Try.ntmps26
    go_wp2_with fail
    refine (spans_any a b c d _).mono ?_
    rintro e w1 ⟨rfl, hb⟩
    have HB := Lib.hid (box1 hb)
    clear hb
    go_wp2_with fail
    refine wp_loop_rounds 2 ?_
    rw [rounds_succ]
    go_wp2_with fail
    rw [rounds_succ]
    go_wp2_with fail
    all_goals (first | (exfalso; have := HN.out; omega) | (go_ret; exact ⟨ret_bool HR.out.symm, (HB.out.1.alloc HB.out.1.size _).alloc (by have := HB.out.1.size; simp; omega) _⟩))
  · have HR : Hid (boxB a b c d = true) := by unfold Hid boxB; rw [h1, h2]; rfl
    obtain ⟨p1, p2, p3⟩ := HP.out
    obtain ⟨q1, q2, q3⟩ := of_decide_eq_true h2
    clear h1 h2
    go_enter Try.func26, Try.ntmps26
    go_wp2_with fail
    refine (spans_any a b c d _).mono ?_
    rintro e w1 ⟨rfl, hb⟩
    have HB := Lib.hid (box1 hb)
    clear hb
    go_wp2_with fail
    refine wp_loop_rounds 3 ?_
    rw [rounds_succ]
    go_wp2_with fail
    rw [rounds_succ]
    go_wp2_with fail
    rw [rounds_succ]
    go_wp2_with fail
    go_ret
    exact ⟨ret_bool HR.out.symm, (HB.out.1.alloc HB.out.1.size _).alloc (by have := HB.out.1.size; simp; omega) _⟩
end Go.Proofs.Ytjnimedbjmihaaa
