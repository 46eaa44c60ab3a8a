/-
  What the laws do with gauges: contracts of laws.szGauge, toGauge, eqGauge, markGauge, heldGauge over this translation. Conditions: stated at each theorem.
-/
import Derived.Test.YtlggcfeclbcfaaaRd
namespace Go.Proofs.Ytlggcfeclbcfaaa
open Go.RowKit

/-! ### laws.szGauge -/
/-! ### laws.toGauge -/
def CopyG (id ze : Int) (nm : ByteArray) (l : List (Int × Int)) (w : World) (e : Ending) (w' : World) : Prop :=
  ∃ g, e = .returned (.agg #[.int .i64 id, .string nm, .int .i64 ze, .slice (some ⟨g, 0, none⟩) l.length l.length]) ∧ Own2 w' w.heap.size w'.heap.size (some ⟨g, 0, none⟩) l.length l ∧ Below w.heap.size w w'
/-! ### laws.eqGauge -/
/-! ### laws.markGauge, laws.heldGauge -/
end Go.Proofs.Ytlggcfeclbcfaaa
