/-
  Boxes and distances: contracts of spec.l2Box, IsBox, l2In, l2Square, SquareBetween, impl.spansOf, IsBox, isInBox, squareOf, SquareBetween over this translation. Conditions: stated at each theorem.
-/
import Derived.Test.YtdmnkmdlochogabQv
namespace Go.Proofs.Ytdmnkmdlochogab
open Go.RowKit

def gridB (n : Int) : Bool := inB n 0 1000
theorem grid_v (n : Int) (v : Bool) (h : gridB n = v) (w : World) :
    Calls Try.prog 160 #[.int .i64 n] w fun e w' => e = .returned (.bool v) ∧ w = w' := gridS_spec n v h w
/-- From lo to hi within the grid. -/
def spanB (lo hi : Int) : Bool := decide (0 ≤ lo ∧ lo ≤ hi ∧ hi ≤ 1000)
/-- Is this a box? -/
def boxB (a b c d : Int) : Bool := spanB a c && spanB b d
theorem boxB_yes {a b c d : Int} (h : boxB a b c d = true) : (0 ≤ a ∧ a ≤ c ∧ c ≤ 1000) ∧ (0 ≤ b ∧ b ≤ d ∧ d ≤ 1000) := by
  unfold boxB at h
  rw [Bool.and_eq_true] at h
  exact ⟨of_decide_eq_true h.1, of_decide_eq_true h.2⟩
theorem boxB_mk {a b c d : Int} (h1 : 0 ≤ a ∧ a ≤ c ∧ c ≤ 1000) (h2 : 0 ≤ b ∧ b ≤ d ∧ d ≤ 1000) : boxB a b c d = true := by
  unfold boxB
  rw [Bool.and_eq_true]
  exact ⟨decide_eq_true h1, decide_eq_true h2⟩
theorem boxB_no {a b c d : Int} (h : ¬ ((0 ≤ a ∧ a ≤ c ∧ c ≤ 1000) ∧ (0 ≤ b ∧ b ≤ d ∧ d ≤ 1000))) : boxB a b c d = false := by
  rcases hv : boxB a b c d with _ | _
  · rfl
  · exact absurd (boxB_yes hv) h
set_option maxHeartbeats 800000 in
theorem l2Box_any (a b c d : Int) (w : World) :
    Calls Try.prog 88 #[.agg #[.int .i64 a, .int .i64 b, .int .i64 c, .int .i64 d]] w fun e w' => e = .returned (.bool (boxB a b c d)) ∧ Below w.heap.size w w' := by
  rcases h1 : gridB a with _ | _
  · have H1 := Lib.hid h1
    have HR := Lib.hid (boxB_no (a := a) (b := b) (c := c) (d := d) (by have := inB_no h1; omega))
    clear h1
    go_enter Try.func88, Try.ntmps88
    go_wp2_with fail
    refine (grid_v _ _ H1.out _).mono ?_
    rintro e w' ⟨rfl, rfl⟩
    go_wp2_with fail
    go_ret
    exact ⟨ret_bool HR.out.symm, (Below.refl _ _).alloc (Nat.le_refl _) _⟩
  rcases h2 : gridB b with _ | _
  · have H1 := Lib.hid h1
    have H2 := Lib.hid h2
    have HR := Lib.hid (boxB_no (a := a) (b := b) (c := c) (d := d) (by have := inB_no h2; omega))
    clear h1 h2
    go_enter Try.func88, Try.ntmps88
    go_wp2_with fail
    refine (grid_v _ _ H1.out _).mono ?_
    rintro e w' ⟨rfl, rfl⟩
    go_wp2_with fail
    refine (grid_v _ _ H2.out _).mono ?_
    rintro e w' ⟨rfl, rfl⟩
    go_wp2_with fail
    go_ret
    exact ⟨ret_bool HR.out.symm, (Below.refl _ _).alloc (Nat.le_refl _) _⟩
  rcases h3 : gridB c with _ | _
  · have H1 := Lib.hid h1
    have H2 := Lib.hid h2
    have H3 := Lib.hid h3
    have HR := Lib.hid (boxB_no (a := a) (b := b) (c := c) (d := d) (by have := inB_no h3; have := inB_yes h1; omega))
    clear h1 h2 h3
    go_enter Try.func88, Try.ntmps88
    go_wp2_with fail
    refine (grid_v _ _ H1.out _).mono ?_
    rintro e w' ⟨rfl, rfl⟩
    go_wp2_with fail
    refine (grid_v _ _ H2.out _).mono ?_
    rintro e w' ⟨rfl, rfl⟩
    go_wp2_with fail
    refine (grid_v _ _ H3.out _).mono ?_
    rintro e w' ⟨rfl, rfl⟩
    go_wp2_with fail
    go_ret
    exact ⟨ret_bool HR.out.symm, (Below.refl _ _).alloc (Nat.le_refl _) _⟩
  rcases h4 : gridB d with _ | _
  · have H1 := Lib.hid h1
    have H2 := Lib.hid h2
    have H3 := Lib.hid h3
    have H4 := Lib.hid h4
    have HR := Lib.hid (boxB_no (a := a) (b := b) (c := c) (d := d) (by have := inB_no h4; have := inB_yes h2; omega))
    clear h1 h2 h3 h4
    go_enter Try.func88, Try.ntmps88
    go_wp2_with fail
    refine (grid_v _ _ H1.out _).mono ?_
    rintro e w' ⟨rfl, rfl⟩
    go_wp2_with fail
    refine (grid_v _ _ H2.out _).mono ?_
    rintro e w' ⟨rfl, rfl⟩
    go_wp2_with fail
    refine (grid_v _ _ H3.out _).mono ?_
    rintro e w' ⟨rfl, rfl⟩
    go_wp2_with fail
    refine (grid_v _ _ H4.out _).mono ?_
    rintro e w' ⟨rfl, rfl⟩
    go_wp2_with fail
    go_ret
    exact ⟨ret_bool HR.out.symm, (Below.refl _ _).alloc (Nat.le_refl _) _⟩
  have H1 := Lib.hid h1
  have H2 := Lib.hid h2
  have H3 := Lib.hid h3
  have H4 := Lib.hid h4
  by_cases h5 : a ≤ c
  · by_cases h6 : b ≤ d
    · have HR := Lib.hid (boxB_mk (a := a) (b := b) (c := c) (d := d) (by have := inB_yes h1; have := inB_yes h3; omega) (by have := inB_yes h2; have := inB_yes h4; omega))
      clear h1 h2 h3 h4
      go_enter Try.func88, Try.ntmps88
      go_wp2_with fail
      refine (grid_v _ _ H1.out _).mono ?_
      rintro e w' ⟨rfl, rfl⟩
      go_wp2_with fail
      refine (grid_v _ _ H2.out _).mono ?_
      rintro e w' ⟨rfl, rfl⟩
      go_wp2_with fail
      refine (grid_v _ _ H3.out _).mono ?_
      rintro e w' ⟨rfl, rfl⟩
      go_wp2_with fail
      refine (grid_v _ _ H4.out _).mono ?_
      rintro e w' ⟨rfl, rfl⟩
      go_wp2_with fail
      go_ret
      exact ⟨ret_bool HR.out.symm, (Below.refl _ _).alloc (Nat.le_refl _) _⟩
    · have HR := Lib.hid (boxB_no (a := a) (b := b) (c := c) (d := d) (by omega))
      clear h1 h2 h3 h4
      go_enter Try.func88, Try.ntmps88
      go_wp2_with fail
      refine (grid_v _ _ H1.out _).mono ?_
      rintro e w' ⟨rfl, rfl⟩
      go_wp2_with fail
      refine (grid_v _ _ H2.out _).mono ?_
      rintro e w' ⟨rfl, rfl⟩
      go_wp2_with fail
      refine (grid_v _ _ H3.out _).mono ?_
      rintro e w' ⟨rfl, rfl⟩
      go_wp2_with fail
      refine (grid_v _ _ H4.out _).mono ?_
      rintro e w' ⟨rfl, rfl⟩
      go_wp2_with fail
      go_ret
      exact ⟨ret_bool (by rw [HR.out]; exact decide_eq_false (by omega)), (Below.refl _ _).alloc (Nat.le_refl _) _⟩
  · have HR := Lib.hid (boxB_no (a := a) (b := b) (c := c) (d := d) (by omega))
    clear h1 h2 h3 h4
    go_enter Try.func88, Try.ntmps88
    go_wp2_with fail
    refine (grid_v _ _ H1.out _).mono ?_
    rintro e w' ⟨rfl, rfl⟩
    go_wp2_with fail
    refine (grid_v _ _ H2.out _).mono ?_
    rintro e w' ⟨rfl, rfl⟩
    go_wp2_with fail
    refine (grid_v _ _ H3.out _).mono ?_
    rintro e w' ⟨rfl, rfl⟩
    go_wp2_with fail
    refine (grid_v _ _ H4.out _).mono ?_
    rintro e w' ⟨rfl, rfl⟩
    go_wp2_with fail
    go_ret
    exact ⟨ret_bool HR.out.symm, (Below.refl _ _).alloc (Nat.le_refl _) _⟩
theorem spans_any (a b c d : Int) (w : World) :
    Calls Try.prog 158 #[.agg #[.int .i64 a, .int .i64 b, .int .i64 c, .int .i64 d]] w fun e w' => e = .returned (.agg #[.int .i64 a, .int .i64 c, .int .i64 b, .int .i64 d]) ∧ Below w.heap.size w w' := by
  go_enter Try.func158, Try.ntmps158
  go_wp2
  refine bodyPost_ret (v := .agg #[.int .i64 a, .int .i64 c, .int .i64 b, .int .i64 d]) (by simp [results, Try.results158, go_sem]) rfl ⟨rfl, ?_⟩
  repeat (first | exact Below.refl _ _ | refine Below.setCell ?_ (by simp; try omega) _ | refine Below.alloc ?_ (by simp; try omega) _)
theorem isBox_impl (a b c d : Int) (w : World) :
    Calls Try.prog 85 #[.agg #[.int .i64 a, .int .i64 b, .int .i64 c, .int .i64 d]] w fun e w' => e = .returned (.bool (boxB a b c d)) ∧ Below w.heap.size w w' := by
  have i0 : ∀ w, (Instr.index 165 (.agg #[.int .i64 a, .int .i64 c, .int .i64 b, .int .i64 d]) (.int .i64 0)).run Try.prog w = .ok (.agg #[.int .i64 a, .int .i64 c]) w := fun _ => by kernel_rfl
  have i1 : ∀ w, (Instr.index 165 (.agg #[.int .i64 a, .int .i64 c, .int .i64 b, .int .i64 d]) (.int .i64 1)).run Try.prog w = .ok (.agg #[.int .i64 b, .int .i64 d]) w := fun _ => by kernel_rfl
  rcases h1 : spanB a c with _ | _
  · have HN := Lib.hid (of_decide_eq_false h1)
    have HR : Hid (boxB a b c d = false) := by unfold Hid boxB; rw [h1]; rfl
    clear h1
    go_enter Try.func85, Try.ntmps85
    go_wp2_with fail
    refine (spans_any a b c d _).mono ?_
    rintro e w1 ⟨rfl, hb⟩
    have HB := Lib.hid (box1 hb)
    clear hb
    go_wp2_with fail
    refine wp_loop_rounds 1 ?_
    rw [rounds_succ]
    go_wp2_with fail
    all_goals (first | (exfalso; have := HN.out; omega) | (go_ret; exact ⟨ret_bool HR.out.symm, HB.out.1.alloc HB.out.1.size _⟩))
  have HP := Lib.hid (of_decide_eq_true h1)
  rcases h2 : spanB b d with _ | _
  · have HN := Lib.hid (of_decide_eq_false h2)
    have HR : Hid (boxB a b c d = false) := by unfold Hid boxB; rw [h1, h2]; rfl
    obtain ⟨p1, p2, p3⟩ := HP.out
    clear h1 h2
    go_enter Try.func85, Try.ntmps85
    go_wp2_with fail
    refine (spans_any a b c d _).mono ?_
    rintro e w1 ⟨rfl, hb⟩
    have HB := Lib.hid (box1 hb)
    clear hb
    go_wp2_with fail
    refine wp_loop_rounds 2 ?_
    rw [rounds_succ]
    go_wp2_with fail
    rw [rounds_succ]
    go_wp2_with fail
    all_goals (first | (exfalso; have := HN.out; omega) | (go_ret; exact ⟨ret_bool HR.out.symm, (HB.out.1.alloc HB.out.1.size _).alloc (by have := HB.out.1.size; simp; omega) _⟩))
  · have HR : Hid (boxB a b c d = true) := by unfold Hid boxB; rw [h1, h2]; rfl
    obtain ⟨p1, p2, p3⟩ := HP.out
    obtain ⟨q1, q2, q3⟩ := of_decide_eq_true h2
    clear h1 h2
    go_enter Try.func85, Try.ntmps85
    go_wp2_with fail
    refine (spans_any a b c d _).mono ?_
    rintro e w1 ⟨rfl, hb⟩
    have HB := Lib.hid (box1 hb)
    clear hb
    go_wp2_with fail
    refine wp_loop_rounds 3 ?_
    rw [rounds_succ]
    go_wp2_with fail
    rw [rounds_succ]
    go_wp2_with fail
    rw [rounds_succ]
    go_wp2_with fail
    go_ret
    exact ⟨ret_bool HR.out.symm, (HB.out.1.alloc HB.out.1.size _).alloc (by have := HB.out.1.size; simp; omega) _⟩
theorem isBox_impl_w (a b c d : Int) (v : Bool) (h : boxB a b c d = v) (w : World) :
    Calls Try.prog 85 #[.agg #[.int .i64 a, .int .i64 b, .int .i64 c, .int .i64 d]] w fun e w' => e = .returned (.bool v) ∧ Below w.heap.size w w' := h ▸ isBox_impl a b c d w
theorem l2Box_w (a b c d : Int) (v : Bool) (h : boxB a b c d = v) (w : World) :
    Calls Try.prog 88 #[.agg #[.int .i64 a, .int .i64 b, .int .i64 c, .int .i64 d]] w fun e w' => e = .returned (.bool v) ∧ Below w.heap.size w w' := h ▸ l2Box_any a b c d w
def inBoxB (a b c d x y : Int) : Bool := inB x a c && inB y b d
theorem mul_bd (d : Int) (h1 : -1000 ≤ d) (h2 : d ≤ 1000) : 0 ≤ d * d ∧ d * d ≤ 1000000 := by
  have h3 := Int.mul_nonneg (show 0 ≤ 1000 - d by omega) (show 0 ≤ 1000 + d by omega)
  rw [Int.sub_mul, Int.mul_add, Int.mul_add] at h3
  have e : d * 1000 = 1000 * d := Int.mul_comm _ _
  have h4 : 0 ≤ d * d := by
    rcases Int.le_total 0 d with h | h
    · exact Int.mul_nonneg h h
    · rw [← Int.neg_mul_neg]; exact Int.mul_nonneg (by omega) (by omega)
  omega
/-- The square of the distance of two spots. -/
def sqI (ax ay bx by_ : Int) : Int := (ax - bx) * (ax - bx) + (ay - by_) * (ay - by_)
theorem sqI_swap (ax ay bx by_ : Int) : (bx - ax) * (bx - ax) + (by_ - ay) * (by_ - ay) = sqI ax ay bx by_ := by
  unfold sqI
  rw [show bx - ax = -(ax - bx) by omega, show by_ - ay = -(ay - by_) by omega, Int.neg_mul_neg, Int.neg_mul_neg]
/-- A coordinate. -/
def Grid (n : Int) : Prop := 0 ≤ n ∧ n ≤ 1000
theorem sqI_bd {ax ay bx by_ : Int} (h1 : Grid ax) (h2 : Grid ay) (h3 : Grid bx) (h4 : Grid by_) : 0 ≤ sqI ax ay bx by_ ∧ sqI ax ay bx by_ ≤ 2000000 := by
  unfold Grid at h1 h2 h3 h4
  have e1 := mul_bd (ax - bx) (by omega) (by omega)
  have e2 := mul_bd (ay - by_) (by omega) (by omega)
  unfold sqI
  omega
theorem sub_i64 {a b : Int} (h1 : 0 ≤ a ∧ a ≤ 1000) (h2 : 0 ≤ b ∧ b ≤ 1000) : IntKind.i64.wrap (a - b) = a - b := IntWalk.i64_in _ (by omega)
set_option maxHeartbeats 800000 in
theorem sq_impl (ax ay bx by_ : Int) (h1 : Grid ax) (h2 : Grid ay) (h3 : Grid bx) (h4 : Grid by_) (w : World) :
    Calls Try.prog 146 #[.agg #[.int .i64 ax, .int .i64 ay], .agg #[.int .i64 bx, .int .i64 by_]] w fun e w' => e = .returned (.int .i64 (sqI ax ay bx by_)) ∧ Below w.heap.size w w' := by
  unfold Grid at h1 h2 h3 h4
  have e1 := mul_bd (bx - ax) (by omega) (by omega)
  have e2 := mul_bd (by_ - ay) (by omega) (by omega)
  have HS := Lib.hid (sqI_swap ax ay bx by_)
  obtain ⟨d, hd⟩ : ∃ d, d = bx - ax := ⟨_, rfl⟩
  obtain ⟨d', hd'⟩ : ∃ d, d = by_ - ay := ⟨_, rfl⟩
  rw [← hd, ← hd'] at HS
  rw [← hd] at e1
  rw [← hd'] at e2
  have hw1 : IntKind.i64.wrap (bx - ax) = d := by rw [hd]; exact sub_i64 h3 h1
  have hw2 : IntKind.i64.wrap (by_ - ay) = d' := by rw [hd']; exact sub_i64 h4 h2
  clear hd hd' h1 h2 h3 h4
  go_enter Try.func146, Try.ntmps146
  go_wp2_with fail
  go_quiet (fail)
  clear hw1 hw2
  go_wp2_with fail
  go_ret
  refine ⟨ret_int HS.out, ?_⟩
  repeat (first | exact Below.refl _ _ | refine bdrewN ?_ _ | refine Below.alloc ?_ (by simp; try omega) _)
set_option maxHeartbeats 800000 in
/-! ### SquareBetween -/
def sqK (ax ay bx by_ : Int) : Bool := spS ax ay && spS bx by_
def sqN (ax ay bx by_ : Int) : Int := if sqK ax ay bx by_ = true then sqI ax ay bx by_ else 0
theorem ret_ib {k : IntKind} {a b : Int} {x y : Bool} (h : a = b) (h' : x = y) : Ending.returned (.tuple #[.int k a, .bool x]) = .returned (.tuple #[.int k b, .bool y]) := by rw [h, h']
theorem sqb_no {ax ay bx by_ : Int} (h : sqK ax ay bx by_ = false) : Ending.returned (.tuple #[.int .i64 0, .bool false]) = .returned (.tuple #[.int .i64 (sqN ax ay bx by_), .bool (sqK ax ay bx by_)]) :=
  ret_ib (by unfold sqN; rw [h]; rfl) h.symm
theorem sqb_yes {ax ay bx by_ : Int} (h : sqK ax ay bx by_ = true) : Ending.returned (.tuple #[.int .i64 (sqI ax ay bx by_), .bool true]) = .returned (.tuple #[.int .i64 (sqN ax ay bx by_), .bool (sqK ax ay bx by_)]) :=
  ret_ib (by unfold sqN; rw [if_pos h]) h.symm
/-- What SquareBetween hands back. -/
def SqbPost (ax ay bx by_ : Int) (w : World) (e : Ending) (w' : World) : Prop :=
  e = .returned (.tuple #[.int .i64 (sqN ax ay bx by_), .bool (sqK ax ay bx by_)]) ∧ Below w.heap.size w w'
set_option maxHeartbeats 800000 in
set_option maxHeartbeats 800000 in
theorem inBox_at (a b c d x y : Int) (v : Bool) (h : inBoxB a b c d x y = v) : inBoxB a b c d x y = v := h
end Go.Proofs.Ytdmnkmdlochogab
