/-
  The text of a mark: contract of laws.markText over this translation. Conditions: stated at each theorem.
-/
import Derived.Test.YtdmnkmdlochogaaBase
import Derived.Laws.IdiomStrings
namespace Go.Proofs.Ytdmnkmdlochogaa
open Go.RowKit

/-! ### laws.markText -/
/-- The digits of u ahead of b. -/
def mtS : Nat → Nat → ByteArray → ByteArray
  | 0, _, b => b
  | k + 1, u, b => if u = 0 then b else mtS k (u / 10) (ByteArray.mk #[UInt8.ofNat (48 + u % 10)] ++ b)
theorem mtS_zero (k : Nat) (b : ByteArray) : mtS k 0 b = b := by cases k <;> simp [mtS]
/-- The text that a mark lays for v. -/
def mtf (v : Nat) : ByteArray := if v = 0 then ⟨#[109, 48]⟩ else ByteArray.mk #[109] ++ mtS 13 v ⟨#[]⟩
end Go.Proofs.Ytdmnkmdlochogaa
