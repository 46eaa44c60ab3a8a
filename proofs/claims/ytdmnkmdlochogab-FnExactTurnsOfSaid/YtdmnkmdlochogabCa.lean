/-
  Cells and lines: contracts of impl.isCellIn, stripOf, spec.l9Side, l9Cell, l9Covers, l9Count, l9Whole over this translation. Conditions: stated at each theorem.
-/
import Derived.Test.YtdmnkmdlochogabLo
namespace Go.Proofs.Ytdmnkmdlochogab
open Go.RowKit
set_option linter.unusedVariables false

theorem whB_in (x s e n : Int) (r c : Nat) (a b : Bool) (h1 : inB ((r : Int) * 50) s (n - 50) = a) (h2 : inB ((c : Int) * 50) x (e - 50) = b) : whB x s e n r c = (a && b) := by
  subst h1; subst h2
  unfold whB inB
  by_cases p1 : s ≤ (r : Int) * 50 <;> by_cases p2 : (r : Int) * 50 + 50 ≤ n <;> by_cases p3 : x ≤ (c : Int) * 50 <;> by_cases p4 : (c : Int) * 50 + 50 ≤ e <;> simp [p1, p2, p3, p4] <;> omega
theorem cv_wh (v : LN) (r c : Int) : cvB v r c = whB v.fr (v.y - v.sw) v.to (v.y + v.sw) r c := rfl
def Mid9 (n : Int) : Prop := -2000 ≤ n ∧ n ≤ 2000
theorem strip_impl (v : LN) (hv : lnB v = true) (w : World) :
    Calls Try.prog 101 #[.agg #[.int .i64 v.id, .int .i64 v.y, .int .i64 v.fr, .int .i64 v.to, .int .i64 v.sw]] w fun z w' => z = .returned (.agg #[.int .i64 v.fr, .int .i64 (v.y - v.sw), .int .i64 v.to, .int .i64 (v.y + v.sw)]) ∧ Below w.heap.size w w' := by
  obtain ⟨q1, q2, q3, q4, q5, q6⟩ := lnB_parts hv
  clear hv
  go_enter Try.func101, Try.ntmps101
  go_wp2
  refine bodyPost_ret (v := .agg #[.int .i64 v.fr, .int .i64 (v.y - v.sw), .int .i64 v.to, .int .i64 (v.y + v.sw)]) (by simp [results, Try.results101, go_sem]) rfl ⟨rfl, ?_⟩
  repeat (first | exact Below.refl _ _ | refine Below.setCell ?_ (by simp; try omega) _ | refine Below.alloc ?_ (by simp; try omega) _)
/-- Does the cell occur? -/
def ceB (r c : Int) : Bool := inB r 0 19 && inB c 0 19
theorem cvK_hit {L : List LN} {r c : Int} {k : Nat} {u : LN} (h : L[k]? = some u) (hb : cvB u r c = true) : cvK L r c (k + 1) = cvK L r c k + 1 := by rw [cvK, lnAt_at h, hb]; rfl
theorem cvK_miss {L : List LN} {r c : Int} {k : Nat} {u : LN} (h : L[k]? = some u) (hb : cvB u r c = false) : cvK L r c (k + 1) = cvK L r c k := by rw [cvK, lnAt_at h, hb]; rfl
end Go.Proofs.Ytdmnkmdlochogab
