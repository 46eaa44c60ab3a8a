/-
  How a slice of strata reads. Conditions: stated at each theorem.
-/
import Derived.Test.YtdmnkmdlochogabOg
namespace Go.Proofs.Ytdmnkmdlochogab
open Go.Joins Go.ChangeShapes Go.WideShapes Go.ChangeAt Go.RowKit Go.Deep

theorem cellsStratumL : Try.prog.cellsOf 153 = 2 := by kernel_rfl
section
variable {H : Type} {enc : TypeId × Value → H} {w : World}
/-- A slice of strata reads as a list of pairs. -/
theorem open_strata {A : Option Addr} {n c : Nat} {d : DataW H} {p : List MemPlace} (h : DataW.Trod enc Try.prog w 0 (fun _ => true) true 80 (.slice A n c) d p) :
    n ≤ maxLen ∧ ∃ l, Spots w w.heap.size A n l := by
  obtain ⟨fuel, hf⟩ := h
  rcases open_slice Try.underlying80 hf with ⟨hcs, _⟩ | ⟨a, len, cap, m, n', D, Pl, hcs, _, hl, hm, hmm, _, hx⟩
  · simp [Value.cells] at hcs
    obtain ⟨rfl, rfl, rfl⟩ := hcs
    exact ⟨by unfold maxLen; omega, [], rfl, fun k hk => absurd hk (by omega)⟩
  · simp [Value.cells] at hcs
    obtain ⟨rfl, rfl, rfl⟩ := hcs
    simp only [if_true] at hmm
    rw [cellsStratumL] at hx
    have key : ∀ i, i < n → ∃ z : Int × Int, w.cell? (a.add (i * 2)) = some (.int .i64 z.1) ∧ w.cell? ((a.add (i * 2)).add 1) = some (.int .i64 z.2) := fun i hi => by
      obtain ⟨cs', hc, ht⟩ := hx i (by omega)
      obtain ⟨_, hlen, hat⟩ := World.cells?_some hc
      match cs', hlen with
      | [v0, v1], _ =>
        obtain ⟨y0, y1, m', _, _, h0, h1⟩ := trod_struct2 Try.underlying153 ht
        simp only [cells3] at h0 h1
        obtain ⟨x, rfl⟩ : ∃ x : Int, v0 = .int .i64 x := int_cell (n := m') h0
        obtain ⟨y, rfl⟩ : ∃ x : Int, v1 = .int .i64 x := int_cell (n := m') h1
        exact ⟨(x, y), by simpa [Addr.add] using hat 0 (by omega), hat 1 (by omega)⟩
    refine ⟨by omega, ?_⟩
    obtain ⟨f, hfx⟩ := choose_lt (α := Int × Int) key
    refine ⟨(List.range n).map f, by simp, fun k hk => ?_⟩
    obtain ⟨h0, h1⟩ := hfx k hk
    obtain ⟨b, o, spot⟩ := a
    have hspot : spot = none := by simpa [Addr.add] using World.cell?_spot (hfx 0 (by omega)).1
    subst hspot
    rw [add_none] at h0 h1
    rw [add_none] at h1
    exact ⟨b, o, (f k).1, (f k).2, rfl, World.block_lt_of_cell? w _ h0, by simp [hk], h0, h1⟩
end
end Go.Proofs.Ytdmnkmdlochogab
