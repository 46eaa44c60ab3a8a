/-
  Draws with soundings: contracts of spec.DrawAreSoundings, DrawMeanDepth, DrawSupportedDepth, DrawShoalestIn, DrawLowerAll over this translation. Conditions: stated at each theorem.
-/
import Derived.Test.YtklbefdpfhidkaaDoorRu
namespace Go.Proofs.YtklbefdpfhidkaaDoor
open Go.RowKit Go.Sort
set_option linter.unusedVariables false

/-- A row of soundings that is drawn. -/
def DrawnS (w : World) (L : List SD) (gb cap : Nat) (w' : World) : Prop :=
  L.length ≤ 13 ∧ Ids L ∧ L.length ≤ cap ∧ Sds w' w'.heap.size (some ⟨gb, 0, none⟩) L.length L ∧ Below w.heap.size w w'
def DrawS0 (w : World) (e : Ending) (w' : World) : Prop := ∃ (L : List SD) (gb cap : Nat), e = .returned (.slice (some ⟨gb, 0, none⟩) L.length cap) ∧ DrawnS w L gb cap w'
def DrawS2 (w : World) (e : Ending) (w' : World) : Prop := ∃ (L : List SD) (gb cap : Nat) (x y : Int), e = .returned (.tuple #[.slice (some ⟨gb, 0, none⟩) L.length cap, .int .i64 x, .int .i64 y]) ∧ DrawnS w L gb cap w'
def DrawSP (w : World) (e : Ending) (w' : World) : Prop := ∃ (L : List SD) (gb cap : Nat) (x y r : Int), e = .returned (.tuple #[.slice (some ⟨gb, 0, none⟩) L.length cap, .agg #[.int .i64 x, .int .i64 y], .int .i64 r]) ∧ DrawnS w L gb cap w'
def DrawSB (w : World) (e : Ending) (w' : World) : Prop := ∃ (L : List SD) (gb cap : Nat) (x y z u : Int), e = .returned (.tuple #[.slice (some ⟨gb, 0, none⟩) L.length cap, .agg #[.int .i64 x, .int .i64 y, .int .i64 z, .int .i64 u]]) ∧ DrawnS w L gb cap w'
theorem below_reader {w W : World} {o : Obj} (hg : (w.alloc o).grownBy W (some w.heap.size)) : Below w.heap.size w W := below_of ((Below.refl w.heap.size w).alloc (Nat.le_refl _) o) hg (by simp) (Nat.le_refl _)
theorem below_reader1 {w W : World} {o o' : Obj} (hg : ((w.alloc o).alloc o').grownBy W (some (w.heap.size + 1))) : Below w.heap.size w W := below_of (((Below.refl w.heap.size w).alloc (Nat.le_refl _) o).alloc (by simp) o') hg (by simp; omega) (by omega)
end Go.Proofs.YtklbefdpfhidkaaDoor
