/-
  Contracts of spec.l1Least, spec.l1Most, spec.l2Reduce, impl.lowestTerms over this translation. Conditions: stated at each theorem.
-/
import Derived.Test.YtjekmmekkfmplaaFl
import Derived.BigRegion
import Derived.Deep.QuietTactic
import Derived.BigQuiet
namespace Go.Proofs.Ytjekmmekkfmplaa
open Go.RowKit

theorem least_any (a b : Int) (w : World) :
    Calls Try.prog 77 #[.int .i64 a, .int .i64 b] w fun e w' => e = .returned (.int .i64 (min a b)) ∧ w = w' := by
  by_cases h : a < b
  · have H : Hid (a = min a b) := by unfold Hid; omega
    go_enter Try.func77, Try.ntmps77
    go_wp2
    go_ret
    exact ⟨ret_int H.out, rfl⟩
  · have H : Hid (b = min a b) := by unfold Hid; omega
    go_enter Try.func77, Try.ntmps77
    go_wp2
    go_ret
    exact ⟨ret_int H.out, rfl⟩
theorem most_any (a b : Int) (w : World) :
    Calls Try.prog 76 #[.int .i64 a, .int .i64 b] w fun e w' => e = .returned (.int .i64 (max a b)) ∧ w = w' := by
  by_cases h : b < a
  · have H : Hid (a = max a b) := by unfold Hid; omega
    go_enter Try.func76, Try.ntmps76
    go_wp2
    go_ret
    exact ⟨ret_int H.out, rfl⟩
  · have H : Hid (b = max a b) := by unfold Hid; omega
    go_enter Try.func76, Try.ntmps76
    go_wp2
    go_ret
    exact ⟨ret_int H.out, rfl⟩

theorem ws_v (n v : Int) (h : max n (-n) = v) (w : World) (h1 : -9223372036854775807 ≤ n) (h2 : n ≤ 9223372036854775807) :
    Calls Try.prog 78 #[.int .i64 n] w fun e w' => e = .returned (.int .i64 v) ∧ w = w' := by
  by_cases hneg : n < -n
  · have H : Hid (-n = v) := by unfold Hid; omega
    clear h
    go_enter Try.func78, Try.ntmps78
    go_wp2_with fail
    go_ret
    exact ⟨ret_int H.out, rfl⟩
  · have H : Hid (n = v) := by unfold Hid; omega
    clear h
    go_enter Try.func78, Try.ntmps78
    go_wp2_with fail
    go_ret
    exact ⟨ret_int H.out, rfl⟩
def gd (num : Int) (den : Nat) : Nat := Nat.gcd num.natAbs den
def RedPost (num : Int) (den : Nat) (w : World) (e : Ending) (w' : World) : Prop :=
  e = .returned (.tuple #[.int .i64 (num.tdiv (gd num den : Nat)), .int .i64 ((den : Int) / (gd num den : Nat))]) ∧ Below w.heap.size w w'
end Go.Proofs.Ytjekmmekkfmplaa
