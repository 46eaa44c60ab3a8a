/-
  How a spot reads, as the laws of chapter 7 take one. Conditions: stated at the theorem.
-/
import Derived.Test.YtnpcnafjjgkfgaaZo
import Derived.Test.YtnpcnafjjgkfgaaPerm
namespace Go.Proofs.Ytnpcnafjjgkfgaa
open Go.Joins Go.ChangeShapes Go.WideShapes Go.ChangeAt Go.RowKit Go.Deep

set_option maxRecDepth 100000 in
theorem open_spotk {H : Type} {enc : TypeId × Value → H} {w : World} {base : Nat} {spare : Nat → Bool} {held : Bool} {r : Reach} {b0 : Nat} {v : Value} {d : DataW H} {p : List MemPlace} (hv : Value.okWide Try.prog w r b0 52 v) (h : DataW.Trod enc Try.prog w base spare held 52 v d p) :
    ∃ x y : Int, v = .agg #[.int .i64 x, .int .i64 y] := by
  obtain ⟨v0, v1, y0, y1, n, rfl, _, _, h0, h1⟩ := open_agg2 Try.underlying52 (by kernel_rfl) cellsSpotK hv h
  obtain ⟨x, rfl⟩ := int_cell h0
  obtain ⟨y, rfl⟩ := int_cell h1
  exact ⟨x, y, rfl⟩
end Go.Proofs.Ytnpcnafjjgkfgaa
