/-
  Readings: contracts of laws.szReadingS, toReading, toReadingS, eqReading, eqReadingS, markReadingS, heldReadingS over this translation. Conditions: stated at each theorem.
-/
import Derived.Test.YtdmnkmdlochogabBase
namespace Go.Proofs.Ytdmnkmdlochogab
open Go.RowKit

/-! ### laws.szReadingS -/
/-- What laws.toReadingS hands back: a new row of the same readings. -/
def CopyR (l : List (Int × Int)) (w : World) (e : Ending) (w' : World) : Prop :=
  ∃ g, e = .returned (.slice (some ⟨g, 0, none⟩) l.length l.length) ∧ Own2 w' w.heap.size w'.heap.size (some ⟨g, 0, none⟩) l.length l ∧ Below w.heap.size w w'
/-! ### laws.eqReadingS -/
/-! ### laws.markReadingS, laws.heldReadingS -/
/-- The pairs of l, the first k of which are marks. -/
def Mk2 (w : World) (lo hi : Nat) (A : Option Addr) (n k : Nat) : Prop :=
  ∀ j, j < n → ∃ (g : Nat) (x y : Int), A = some ⟨g, 0, none⟩ ∧ lo ≤ g ∧ g < hi ∧ (j < k → x = 2 * (j : Int) + 1 ∧ y = 2 * (j : Int) + 2) ∧
    w.cell? ⟨g, j * 2, none⟩ = some (.int .i64 x) ∧ w.cell? ⟨g, j * 2 + 1, none⟩ = some (.int .i64 y) ∧ w.frozen? ⟨g, j * 2, none⟩ = false ∧ w.frozen? ⟨g, j * 2 + 1, none⟩ = false
theorem mk2_start {w : World} {lo hi n : Nat} {A : Option Addr} {l : List (Int × Int)} (h : Own2 w lo hi A n l) : Mk2 w lo hi A n 0 := fun j hj => by
  obtain ⟨g, x, y, hA, a, b, _, r⟩ := h.2 j hj
  exact ⟨g, x, y, hA, a, b, fun h => absurd h (by omega), r⟩
theorem mk2_end {w : World} {lo hi n : Nat} {A : Option Addr} (h : Mk2 w lo hi A n n) : Own2 w lo hi A n (marks2 n) := ⟨marks2_len n, fun j hj => by
  obtain ⟨g, x, y, hA, a, b, he, r⟩ := h j hj
  obtain ⟨rfl, rfl⟩ := he hj
  exact ⟨g, _, _, hA, a, b, marks2_at n j hj, r⟩⟩
theorem mk2_step {w : World} {lo hi n k g : Nat} (h : Mk2 w lo hi (some ⟨g, 0, none⟩) n k) :
    Mk2 ((w.setCell ⟨g, k * 2, none⟩ (.int .i64 (2 * (k : Int) + 1))).setCell ⟨g, k * 2 + 1, none⟩ (.int .i64 (2 * (k : Int) + 1 + 1))) lo hi (some ⟨g, 0, none⟩) n (k + 1) := fun j hj => by
  obtain ⟨g', x, y, hA, a, b, he, c0, c1, f0, f1⟩ := h j hj
  have e : g' = g := by injection hA with h; injection h with h; exact h.symm
  subst e
  have F0 : ((w.setCell ⟨g', k * 2, none⟩ (.int .i64 (2 * (k : Int) + 1))).setCell ⟨g', k * 2 + 1, none⟩ (.int .i64 (2 * (k : Int) + 1 + 1))).frozen? ⟨g', j * 2, none⟩ = false := (World.frozen?_setCell _ _ _ _).trans ((World.frozen?_setCell _ _ _ _).trans f0)
  have F1 : ((w.setCell ⟨g', k * 2, none⟩ (.int .i64 (2 * (k : Int) + 1))).setCell ⟨g', k * 2 + 1, none⟩ (.int .i64 (2 * (k : Int) + 1 + 1))).frozen? ⟨g', j * 2 + 1, none⟩ = false := (World.frozen?_setCell _ _ _ _).trans ((World.frozen?_setCell _ _ _ _).trans f1)
  by_cases e : j = k
  · subst e
    exact ⟨g', _, _, rfl, a, b, fun _ => ⟨rfl, by omega⟩, (World.cell?_setCell_other _ _ _ _ (by simp)).trans (World.cell?_setCell_same _ _ _ c0), World.cell?_setCell_same _ _ _ ((World.cell?_setCell_other _ _ _ _ (by simp)).trans c1), F0, F1⟩
  · exact ⟨g', x, y, rfl, a, b, fun h => he (by omega), (World.cell?_setCell_other _ _ _ _ (by simp; try omega)).trans ((World.cell?_setCell_other _ _ _ _ (by simp; try omega)).trans c0), (World.cell?_setCell_other _ _ _ _ (by simp; try omega)).trans ((World.cell?_setCell_other _ _ _ _ (by simp; try omega)).trans c1), F0, F1⟩
def MarkedR (lo hi : Nat) (A : Option Addr) (n : Nat) (w : World) (e : Ending) (w' : World) : Prop :=
  e = .returned (.int .i64 (2 * (n : Int) + 1)) ∧ Own2 w' lo hi A n (marks2 n) ∧ Far lo hi w w'
end Go.Proofs.Ytdmnkmdlochogab
