/-
  Is a code too long: contract of laws.vBig over this translation. Conditions: stated at the theorem.
-/
import Derived.Test.YtjekmmekkfmplaaBase
namespace Go.Proofs.Ytjekmmekkfmplaa
open Go.RowKit

theorem vBig_any (A : Option Addr) (n c : Nat) (v : Bool) (h : decide ((65536 : Int) < n) = v) (w : World) : Calls Try.prog 15 #[.slice A n c] w fun e w' => e = .returned (.bool v) ∧ w = w' := by
  subst h
  by_cases hc : (65536 : Int) < n
  · have H := Lib.hid (decide_eq_true hc)
    go_enter Try.func15, Try.ntmps15
    go_wp2_with fail
    go_ret
    exact ⟨ret_bool H.out.symm, rfl⟩
  · have H := Lib.hid (decide_eq_false hc)
    go_enter Try.func15, Try.ntmps15
    go_wp2_with fail
    go_ret
    exact ⟨ret_bool H.out.symm, rfl⟩
end Go.Proofs.Ytjekmmekkfmplaa
