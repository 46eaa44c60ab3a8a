/-
  How the arguments of the laws on readings and gauges read. Conditions: stated at each theorem.
-/
import Derived.Test.YtdmnkmdlochogaaBase
import Derived.ProofKit
import Derived.OpenShut
import Derived.ShutString
import Derived.SizedLaws
import Derived.Lib.SmallJoins
import Derived.Deep.Slices
import Derived.Deep.Fields
import Derived.ChangeSame
import Derived.ChangeOld
import Derived.ChangeArms
import Derived.Below
import Derived.Carry
namespace Go.Proofs.Ytdmnkmdlochogaa
open Go.Joins Go.ChangeShapes Go.WideShapes Go.ChangeAt Go.RowKit Go.Deep

theorem laidOut : laidOutB Try.prog = true := by kernel_rfl
theorem own : ownKnob Try.prog.godebug = none := by kernel_rfl
theorem cells3 : Try.prog.cellsOf 3 = 1 := by kernel_rfl
theorem cellsStr : Try.prog.cellsOf 9 = 1 := by kernel_rfl
theorem cellsReadL : Try.prog.cellsOf 188 = 2 := by kernel_rfl
theorem cellsRowL : Try.prog.cellsOf 147 = 1 := by kernel_rfl
theorem cellsGaugeL : Try.prog.cellsOf 149 = 4 := by kernel_rfl
section
variable {H : Type} {enc : TypeId × Value → H} {w : World} {base : Nat} {spare : Nat → Bool} {held : Bool} {r : Reach} {b0 : Nat}
theorem int_cell {n : Nat} {v : Value} {y : DataW H × List MemPlace} (h : DataW.trod enc Try.prog w base spare held n 3 [v] = some y) : ∃ x : Int, v = .int .i64 x := by
  obtain ⟨x, hc, _⟩ := DataW.trod_int Try.underlying3 h
  exact ⟨x, by simpa using hc⟩
theorem str_cell {n : Nat} {v : Value} {y : DataW H × List MemPlace} (h : DataW.trod enc Try.prog w base spare held n 9 [v] = some y) : ∃ s : ByteArray, v = .string s ∧ s.size ≤ maxLen := by
  obtain ⟨x, hc, _, hs⟩ := DataW.trod_string Try.underlying9 h
  exact ⟨x, by simpa using hc, hs⟩
set_option maxRecDepth 100000 in
theorem open_num {v : Value} {d : DataW H} {p : List MemPlace} (hv : Value.okWide Try.prog w r b0 3 v) (h : DataW.Trod enc Try.prog w base spare held 3 v d p) : ∃ x : Int, v = .int .i64 x := by
  obtain ⟨x, h, _⟩ := open_int Try.underlying3 hv h
  exact ⟨x, h⟩
set_option maxRecDepth 100000 in
theorem open_reading {v : Value} {d : DataW H} {p : List MemPlace} (hv : Value.okWide Try.prog w r b0 188 v) (h : DataW.Trod enc Try.prog w base spare held 188 v d p) :
    ∃ x y : Int, v = .agg #[.int .i64 x, .int .i64 y] := by
  obtain ⟨v0, v1, y0, y1, n, rfl, _, _, h0, h1⟩ := open_agg2 Try.underlying188 (by kernel_rfl) cellsReadL hv h
  obtain ⟨x, rfl⟩ := int_cell h0
  obtain ⟨y, rfl⟩ := int_cell h1
  exact ⟨x, y, rfl⟩
/-- A place within a row, of an address without a spot. -/
theorem add_none (b o i : Nat) : (⟨b, o, none⟩ : Addr).add i = ⟨b, o + i, none⟩ := by
  unfold Addr.add
  split
  · rename_i h; simp
  · rfl
/-- A slice of readings reads as a list of pairs. -/
theorem row_cell {n : Nat} {v : Value} {y : DataW H × List MemPlace} (h : DataW.trod enc Try.prog w 0 (fun _ => true) true n 147 [v] = some y) :
    ∃ (A : Option Addr) (n c : Nat), v = .slice A n c ∧ n ≤ maxLen ∧ ∃ l, Spots w w.heap.size A n l := by
  rcases open_slice Try.underlying147 h with ⟨hcs, _⟩ | ⟨a, len, cap, m, n', D, Pl, hcs, _, hl, hm, hmm, _, hx⟩
  · exact ⟨none, 0, 0, by simpa using hcs, by unfold maxLen; omega, [], rfl, fun k hk => absurd hk (by omega)⟩
  · refine ⟨some a, len, cap, by simpa using hcs, by omega, ?_⟩
    simp only [if_true] at hmm
    rw [cellsReadL] at hx
    have key : ∀ i, i < len → ∃ z : Int × Int, w.cell? (a.add (i * 2)) = some (.int .i64 z.1) ∧ w.cell? ((a.add (i * 2)).add 1) = some (.int .i64 z.2) := fun i hi => by
      obtain ⟨cs', hc, ht⟩ := hx i (by omega)
      obtain ⟨_, hlen, hat⟩ := World.cells?_some hc
      match cs', hlen with
      | [v0, v1], _ =>
        obtain ⟨y0, y1, m', _, _, h0, h1⟩ := trod_struct2 Try.underlying188 ht
        simp only [cells3] at h0 h1
        obtain ⟨x, rfl⟩ : ∃ x : Int, v0 = .int .i64 x := int_cell (n := m') h0
        obtain ⟨y, rfl⟩ : ∃ x : Int, v1 = .int .i64 x := int_cell (n := m') h1
        exact ⟨(x, y), by simpa [Addr.add] using hat 0 (by omega), hat 1 (by omega)⟩
    obtain ⟨f, hfx⟩ := choose_lt (α := Int × Int) key
    refine ⟨(List.range len).map f, by simp, fun k hk => ?_⟩
    obtain ⟨h0, h1⟩ := hfx k hk
    obtain ⟨b, o, spot⟩ := a
    have hspot : spot = none := by simpa [Addr.add] using World.cell?_spot (hfx 0 (by omega)).1
    subst hspot
    rw [add_none] at h0 h1
    rw [add_none] at h1
    exact ⟨b, o, (f k).1, (f k).2, rfl, World.block_lt_of_cell? w _ h0, by simp [hk], h0, h1⟩
set_option maxRecDepth 100000 in
theorem open_gauge {v : Value} {d : DataW H} {p : List MemPlace} (hv : Value.okWide Try.prog w r b0 149 v) (h : DataW.Trod enc Try.prog w 0 (fun _ => true) true 149 v d p) :
    ∃ (id : Int) (nm : ByteArray) (ze : Int) (A : Option Addr) (n c : Nat), v = .agg #[.int .i64 id, .string nm, .int .i64 ze, .slice A n c] ∧ nm.size ≤ maxLen ∧ n ≤ maxLen ∧ ∃ l, Spots w w.heap.size A n l := by
  obtain ⟨v0, v1, v2, v3, y0, y1, y2, y3, n, rfl, _, _, h0, h1, h2, h3⟩ := open_agg4 Try.underlying149 (by kernel_rfl) cellsGaugeL hv h
  obtain ⟨id, rfl⟩ := int_cell h0
  obtain ⟨nm, rfl, hn⟩ := str_cell h1
  obtain ⟨ze, rfl⟩ := int_cell h2
  obtain ⟨A, m, c, rfl, hm, hs⟩ := row_cell h3
  exact ⟨id, nm, ze, A, m, c, rfl, hn, hm, hs⟩
end
end Go.Proofs.Ytdmnkmdlochogaa
