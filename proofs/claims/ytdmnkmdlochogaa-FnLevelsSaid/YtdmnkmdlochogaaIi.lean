/-
  What the laws do with rows of numbers: contracts of laws.eqIntS, markIntS, heldIntS over this translation. Conditions: stated at each theorem.
-/
import Derived.Test.YtdmnkmdlochogaaBase
namespace Go.Proofs.Ytdmnkmdlochogaa
open Go.RowKit

/-! ### laws.markIntS, laws.heldIntS -/
def MarkPost (lo hi : Nat) (A : Option Addr) (n : Nat) (w : World) (e : Ending) (w' : World) : Prop :=
  e = .returned (.int .i64 ((n : Int) + 1)) ∧ IFun w' lo hi A n (fun j => (j : Int) + 1) ∧ Far lo hi w w'
end Go.Proofs.Ytdmnkmdlochogaa
