/-
  Rows of values laid into a block from a place on. Proved of every world. Conditions: stated at each theorem.
-/
import Derived.Test.YtllfmjnniagjfaaSl
import Derived.Test.YtllfmjnniagjfaaFb
namespace Go.Proofs.Ytllfmjnniagjfaa
open Go.RowKit

/-! ### A row of values laid from a place on -/
theorem setL_other (vs : List Value) : ∀ (w : World) (g o b q : Nat), (b ≠ g ∨ q < o ∨ o + vs.length ≤ q) → (setL w g o vs).cell? ⟨b, q, none⟩ = w.cell? ⟨b, q, none⟩ := by
  induction vs with
  | nil => intro w g o b q _; rfl
  | cons v vs ih =>
    intro w g o b q h
    simp only [List.length_cons] at h
    show (setL (w.setCell ⟨g, o, none⟩ v) g (o + 1) vs).cell? ⟨b, q, none⟩ = _
    rw [ih _ g (o + 1) b q (by omega)]
    refine World.cell?_setCell_other _ _ _ _ fun e => ?_
    injection e with e1 e2
    omega
theorem setL_at (vs : List Value) : ∀ (w : World) (g o : Nat), (∀ i, i < vs.length → ∃ u, w.cell? ⟨g, o + i, none⟩ = some u) → ∀ i u, vs[i]? = some u → (setL w g o vs).cell? ⟨g, o + i, none⟩ = some u := by
  induction vs with
  | nil => intro w g o _ i u hu; simp at hu
  | cons v vs ih =>
    intro w g o h i u hu
    show (setL (w.setCell ⟨g, o, none⟩ v) g (o + 1) vs).cell? ⟨g, o + i, none⟩ = some u
    obtain ⟨u0, hu0⟩ := h 0 (by simp)
    cases i with
    | zero =>
      have e : v = u := by simpa using hu
      subst e
      rw [setL_other vs _ g (o + 1) g (o + 0) (by omega)]
      exact World.cell?_setCell_same _ _ _ hu0
    | succ i =>
      have := ih (w.setCell ⟨g, o, none⟩ v) g (o + 1) (fun j hj => by
        obtain ⟨u1, hu1⟩ := h (j + 1) (by simp; omega)
        refine ⟨u1, (World.cell?_setCell_other _ _ _ _ fun e => ?_).trans ?_⟩
        · injection e with e1 e2; omega
        · rw [show o + 1 + j = o + (j + 1) by omega]; exact hu1) i u (by simpa using hu)
      rwa [show o + 1 + i = o + (i + 1) by omega] at this
theorem setL_frozen (vs : List Value) : ∀ (w : World) (g o : Nat) (p : Addr), (setL w g o vs).frozen? p = w.frozen? p := by
  induction vs with
  | nil => intro w g o p; rfl
  | cons v vs ih => intro w g o p; exact (ih _ _ _ _).trans (World.frozen?_setCell _ _ _ _)
theorem setL_size (vs : List Value) : ∀ (w : World) (g o : Nat), (setL w g o vs).heap.size = w.heap.size := by
  induction vs with
  | nil => intro w g o; rfl
  | cons v vs ih => intro w g o; exact (ih _ _ _).trans (by simp [World.setCell])
theorem setL_below (vs : List Value) : ∀ {B : Nat} {a w : World} (_ : Below B a w) {g : Nat} (_ : B ≤ g) (o : Nat), Below B a (setL w g o vs) := by
  induction vs with
  | nil => intro B a w h g hg o; exact h
  | cons v vs ih => intro B a w h g hg o; exact ih (h.setCell (p := ⟨g, o, none⟩) hg v) hg (o + 1)

theorem setL_farB (vs : List Value) : ∀ {lo hi : Nat} {a w : World} (_ : FarB lo hi a w) {g : Nat} (_ : lo ≤ g) (_ : g < hi) (o : Nat), FarB lo hi a (setL w g o vs) := by
  induction vs with
  | nil => intro lo hi a w h g h1 h2 o; exact h
  | cons v vs ih => intro lo hi a w h g h1 h2 o; exact ih (h.setCell (p := ⟨g, o, none⟩) h1 h2 v) h1 h2 (o + 1)
end Go.Proofs.Ytllfmjnniagjfaa
