/-
  Stores one behind the other in a block. Proved of every world. Conditions: stated at each theorem.
-/
import Derived.Test.YtllfmjnniagjfaaRc
namespace Go.Proofs.Ytllfmjnniagjfaa
open Go.RowKit Go.Sort

def setL (w : World) (g o : Nat) : List Value → World
  | [] => w
  | v :: vs => setL (w.setCell ⟨g, o, none⟩ v) g (o + 1) vs
theorem setL_grown (vs : List Value) : ∀ (w : World) (g o : Nat), w.grownBy (setL w g o vs) (some g) := by
  induction vs with
  | nil => intro w g o; exact ⟨rfl, rfl, rfl, Nat.le_refl _, fun _ _ _ => rfl⟩
  | cons v vs ih => intro w g o; exact grown_trans (set_grown w g o v) (ih _ g (o + 1))
/-- What grew from w by the reader's block g and by a block that w did not have yet. -/
theorem grown_new {w w1 w2 : World} {g b : Nat} (h : w.grownBy w1 (some g)) (k : w1.grownBy w2 (some b)) (hb : w.heap.size ≤ b) : w.grownBy w2 (some g) :=
  ⟨k.os.trans h.os, k.tape.trans h.tape, k.output.trans h.output, Nat.le_trans h.size k.size, fun i hi hne => (k.block i (Nat.lt_of_lt_of_le hi h.size) (fun e => by have := Option.some.inj e; omega)).trans (h.block i hi hne)⟩
end Go.Proofs.Ytllfmjnniagjfaa
