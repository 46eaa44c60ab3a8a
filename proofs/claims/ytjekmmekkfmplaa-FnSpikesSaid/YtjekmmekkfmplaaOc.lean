/-
  How a code argument reads. Conditions: stated at each theorem.
-/
import Derived.Test.YtjekmmekkfmplaaOg
import Derived.Test.YtjekmmekkfmplaaRc
import Derived.OpenShut
import Derived.Deep.Slices
namespace Go.Proofs.Ytjekmmekkfmplaa
open Go.RowKit

open Go.Joins Go.ChangeShapes Go.WideShapes Go.ChangeAt Go.Deep in
theorem open_code {H : Type} {enc : TypeId × Value → H} {w : World} {A : Option Addr} {n c : Nat} {d : DataW H} {p : List MemPlace} (h : DataW.Trod enc Try.prog w 0 (fun _ => true) true 22 (.slice A n c) d p) :
    n ≤ maxLen ∧ CodeRow w.heap.size A n w := by
  obtain ⟨fuel, hf⟩ := h
  rcases open_ints Try.underlying22 Try.underlying5 (by kernel_rfl) hf with ⟨hcs, _⟩ | ⟨x, l, c', zs, hcs, _, hl, hm, hz, _, hcell, hwz⟩
  · simp [Value.cells] at hcs
    obtain ⟨rfl, rfl, rfl⟩ := hcs
    exact ⟨by unfold maxLen; omega, fun j hj => absurd hj (by omega)⟩
  · simp [Value.cells] at hcs
    obtain ⟨rfl, rfl, rfl⟩ := hcs
    refine ⟨by omega, fun j hj => ?_⟩
    have hz' : zs.length = c := by simpa using hz
    have h1 := hcell j (by omega)
    have hlt := World.block_lt_of_cell? w _ h1
    have hblk : (x.add j).block = x.block := by unfold Addr.add; split <;> rfl
    have hmem : zs.getD j 0 ∈ zs := by
      rw [List.getD_eq_getElem?_getD, List.getElem?_eq_getElem (by omega)]
      exact List.getElem_mem _
    have h3 := bounds_u8 (hwz _ hmem)
    refine ⟨x, (zs.getD j 0).toNat, rfl, by rw [← hblk]; exact hlt, by omega, ?_⟩
    rw [h1]
    have e : (((zs.getD j 0).toNat : Nat) : Int) = zs.getD j 0 := by omega
    rw [e]
end Go.Proofs.Ytjekmmekkfmplaa
