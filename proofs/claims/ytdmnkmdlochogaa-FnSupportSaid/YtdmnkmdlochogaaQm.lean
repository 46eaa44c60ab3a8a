/-
  Marks of soundings: rows of soundings of the call's own; contracts of laws.markSoundingS, heldSoundingS over this translation. Conditions: stated at each theorem.
-/
import Derived.Test.YtdmnkmdlochogaaQl
namespace Go.Proofs.Ytdmnkmdlochogaa
open Go.RowKit

/-- The slice value with address A and n elements holds the soundings L; its block lies from lo on and below hi, and may be written. -/
def OwnS (w : World) (lo hi : Nat) (A : Option Addr) (n : Nat) (L : List SD) : Prop :=
  L.length = n ∧ (n = 0 ∨ ∃ g, A = some ⟨g, 0, none⟩ ∧ g < hi ∧ FillS w lo g n n L)
theorem OwnS.on {w w' : World} {lo hi B n : Nat} {A : Option Addr} {L : List SD} (h : OwnS w lo hi A n L) (hb : Below B w w') (hB : hi ≤ B) : OwnS w' lo hi A n L :=
  ⟨h.1, h.2.imp id fun ⟨g, hA, hg, hF⟩ => ⟨g, hA, hg, hF.on hb (Nat.lt_of_lt_of_le hg hB) hb.size⟩⟩
theorem OwnS.wide {w : World} {lo hi lo' hi' n : Nat} {A : Option Addr} {L : List SD} (h : OwnS w lo hi A n L) (h1 : lo' ≤ lo) (h2 : hi ≤ hi') : OwnS w lo' hi' A n L :=
  ⟨h.1, h.2.imp id fun ⟨g, hA, hg, hF⟩ => ⟨g, hA, Nat.lt_of_lt_of_le hg h2, hF.wide h1⟩⟩
theorem fillS_far {w w' : World} {lo' hi' B g n k : Nat} {L : List SD} (h : FillS w B g n k L) (hf : FarB lo' hi' w w') (hd : g < lo' ∨ hi' ≤ g) : FillS w' B g n k L := by
  have hb := hf.block g h.lt hd
  have hc : ∀ j, w'.cell? ⟨g, j, none⟩ = w.cell? ⟨g, j, none⟩ := fun j => World.cell?_of_block (a := ⟨g, j, none⟩) hb
  exact ⟨h.low, Nat.lt_of_lt_of_le h.lt hf.size, fun j => (World.frozen?_of_block (a := ⟨g, j, none⟩) hb).trans (h.free j), fun j hj => by
    obtain ⟨u, hu⟩ := h.cells j hj
    exact ⟨u, (hc j).trans hu⟩, fun j hj => by
    obtain ⟨v, hv, h5⟩ := h.done j hj
    exact ⟨v, hv, at5_other h5 fun q _ _ => hc q⟩⟩
theorem OwnS.farB {w w' : World} {lo hi lo' hi' n : Nat} {A : Option Addr} {L : List SD} (h : OwnS w lo hi A n L) (hf : FarB lo' hi' w w') (hd : hi ≤ lo' ∨ hi' ≤ lo) : OwnS w' lo hi A n L :=
  ⟨h.1, h.2.imp id fun ⟨g, hA, hg, hF⟩ => ⟨g, hA, hg, fillS_far hF hf (by have := hF.low; omega)⟩⟩
theorem OwnS.sds {w : World} {lo hi n : Nat} {A : Option Addr} {L : List SD} (h : OwnS w lo hi A n L) : Sds w w.heap.size A n L := by
  obtain ⟨hl, rfl | ⟨g, rfl, hg, hF⟩⟩ := h
  · exact ⟨hl, fun k hk => absurd hk (by omega)⟩
  · exact sds_of_fill hF hl
theorem ownS_of_fill {w : World} {B g n : Nat} {L : List SD} (h : FillS w B g n n L) (hn : L.length = n) : OwnS w B w.heap.size (some ⟨g, 0, none⟩) n L := ⟨hn, .inr ⟨g, rfl, h.lt, h⟩⟩

/-- What marking from m on leaves of one sounding. -/
def markS (m : Nat) : SD := ⟨m, (m : Int) + 1, (m : Int) + 1 + 1, (m : Int) + 1 + 1 + 1, (m : Int) + 1 + 1 + 1 + 1⟩
def marksS (n : Nat) : List SD := (List.range n).map fun j => markS (5 * j + 1)
theorem marksS_len (n : Nat) : (marksS n).length = n := by simp [marksS]
theorem marksS_at (n k : Nat) (h : k < n) : (marksS n)[k]? = some (markS (5 * k + 1)) := by simp [marksS, h]
end Go.Proofs.Ytdmnkmdlochogaa
