/-
  How the arguments of the laws on spots and boxes read: a spot by value, a box by value, a slice of spots. Conditions: stated at each theorem.
-/
import Derived.Test.YtjnimedbjmihaaaRow
import Derived.ProofKit
import Derived.OpenShut
import Derived.ShutString
import Derived.SizedLaws
import Derived.Lib.SmallJoins
import Derived.Deep.Slices
import Derived.Deep.Fields
import Derived.ChangeSame
import Derived.ChangeOld
import Derived.Below
import Derived.Carry
namespace Go.Proofs.Ytjnimedbjmihaaa
open Go.Joins Go.ChangeShapes Go.WideShapes Go.ChangeAt Go.RowKit Go.Deep

theorem laidOut : laidOutB Try.prog = true := by kernel_rfl
theorem own : ownKnob Try.prog.godebug = none := by kernel_rfl
theorem cells3 : Try.prog.cellsOf 3 = 1 := by kernel_rfl
theorem cellsSpotL : Try.prog.cellsOf 54 = 2 := by kernel_rfl
theorem cellsBoxL : Try.prog.cellsOf 65 = 4 := by kernel_rfl
section
variable {H : Type} {enc : TypeId × Value → H} {w : World} {base : Nat} {spare : Nat → Bool} {held : Bool} {r : Reach} {b0 : Nat}
theorem int_cell {n : Nat} {v : Value} {y : DataW H × List MemPlace} (h : DataW.trod enc Try.prog w base spare held n 3 [v] = some y) : ∃ x : Int, v = .int .i64 x := by
  obtain ⟨x, hc, _⟩ := DataW.trod_int Try.underlying3 h
  exact ⟨x, by simpa using hc⟩
theorem open_spot {v : Value} {d : DataW H} {p : List MemPlace} (hv : Value.okWide Try.prog w r b0 54 v) (h : DataW.Trod enc Try.prog w base spare held 54 v d p) :
    ∃ x y : Int, v = .agg #[.int .i64 x, .int .i64 y] := by
  obtain ⟨v0, v1, y0, y1, n, rfl, _, _, h0, h1⟩ := open_agg2 Try.underlying54 (by kernel_rfl) cellsSpotL hv h
  obtain ⟨x, rfl⟩ := int_cell h0
  obtain ⟨y, rfl⟩ := int_cell h1
  exact ⟨x, y, rfl⟩
theorem open_box {v : Value} {d : DataW H} {p : List MemPlace} (hv : Value.okWide Try.prog w r b0 65 v) (h : DataW.Trod enc Try.prog w base spare held 65 v d p) :
    ∃ a b c d : Int, v = .agg #[.int .i64 a, .int .i64 b, .int .i64 c, .int .i64 d] := by
  obtain ⟨v0, v1, v2, v3, y0, y1, y2, y3, n, rfl, _, _, h0, h1, h2, h3⟩ := open_agg4 Try.underlying65 (by kernel_rfl) cellsBoxL hv h
  obtain ⟨a, rfl⟩ := int_cell h0
  obtain ⟨b, rfl⟩ := int_cell h1
  obtain ⟨c, rfl⟩ := int_cell h2
  obtain ⟨d, rfl⟩ := int_cell h3
  exact ⟨a, b, c, d, rfl⟩
/-- A place within a row, of an address without a spot. -/
theorem add_none (b o i : Nat) : (⟨b, o, none⟩ : Addr).add i = ⟨b, o + i, none⟩ := by
  unfold Addr.add
  split
  · rename_i h; simp
  · rfl
/-- A slice of spots reads as a list of spots. -/
theorem open_spots {A : Option Addr} {n c : Nat} {d : DataW H} {p : List MemPlace} (h : DataW.Trod enc Try.prog w 0 (fun _ => true) true 57 (.slice A n c) d p) :
    n ≤ maxLen ∧ ∃ l, Spots w w.heap.size A n l := by
  obtain ⟨fuel, hf⟩ := h
  rcases open_slice Try.underlying57 hf with ⟨hcs, _⟩ | ⟨a, len, cap, m, n', D, Pl, hcs, _, hl, hm, hmm, _, hx⟩
  · simp [Value.cells] at hcs
    obtain ⟨rfl, rfl, rfl⟩ := hcs
    exact ⟨by unfold maxLen; omega, [], rfl, fun k hk => absurd hk (by omega)⟩
  · simp [Value.cells] at hcs
    obtain ⟨rfl, rfl, rfl⟩ := hcs
    simp only [if_true] at hmm
    rw [cellsSpotL] at hx
    have key : ∀ i, i < n → ∃ z : Int × Int, w.cell? (a.add (i * 2)) = some (.int .i64 z.1) ∧ w.cell? ((a.add (i * 2)).add 1) = some (.int .i64 z.2) := fun i hi => by
      obtain ⟨cs', hc, ht⟩ := hx i (by omega)
      obtain ⟨_, hlen, hat⟩ := World.cells?_some hc
      match cs', hlen with
      | [v0, v1], _ =>
        obtain ⟨y0, y1, m', _, _, h0, h1⟩ := trod_struct2 Try.underlying54 ht
        simp only [cells3] at h0 h1
        obtain ⟨x, rfl⟩ : ∃ x : Int, v0 = .int .i64 x := int_cell (n := m') h0
        obtain ⟨y, rfl⟩ : ∃ x : Int, v1 = .int .i64 x := int_cell (n := m') h1
        exact ⟨(x, y), by simpa [Addr.add] using hat 0 (by omega), hat 1 (by omega)⟩
    refine ⟨by omega, ?_⟩
    obtain ⟨f, hfx⟩ := choose_lt (α := Int × Int) key
    refine ⟨(List.range n).map f, by simp, fun k hk => ?_⟩
    obtain ⟨h0, h1⟩ := hfx k hk
    obtain ⟨b, o, spot⟩ := a
    have hspot : spot = none := by simpa [Addr.add] using World.cell?_spot (hfx 0 (by omega)).1
    subst hspot
    rw [add_none] at h0 h1
    rw [add_none] at h1
    exact ⟨b, o, (f k).1, (f k).2, rfl, World.block_lt_of_cell? w _ h0, by simp [hk], h0, h1⟩
end
end Go.Proofs.Ytjnimedbjmihaaa
