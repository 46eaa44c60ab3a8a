/-
  Marks of lines: rows of lines of the call's own; contracts of laws.markSurveyLineS, heldSurveyLineS over this translation. Conditions: stated at each theorem.
-/
import Derived.Test.YtdmnkmdlochogabLl
namespace Go.Proofs.Ytdmnkmdlochogab
open Go.RowKit

/-- The slice value with address A and n elements holds the lines L; its block lies from lo on and below hi, and may be written. -/
def OwnSN (w : World) (lo hi : Nat) (A : Option Addr) (n : Nat) (L : List LN) : Prop :=
  L.length = n ∧ (n = 0 ∨ ∃ g, A = some ⟨g, 0, none⟩ ∧ g < hi ∧ FillSN w lo g n n L)
theorem OwnSN.on {w w' : World} {lo hi B n : Nat} {A : Option Addr} {L : List LN} (h : OwnSN w lo hi A n L) (hb : Below B w w') (hB : hi ≤ B) : OwnSN w' lo hi A n L :=
  ⟨h.1, h.2.imp id fun ⟨g, hA, hg, hF⟩ => ⟨g, hA, hg, hF.on hb (Nat.lt_of_lt_of_le hg hB) hb.size⟩⟩
theorem OwnSN.wide {w : World} {lo hi lo' hi' n : Nat} {A : Option Addr} {L : List LN} (h : OwnSN w lo hi A n L) (h1 : lo' ≤ lo) (h2 : hi ≤ hi') : OwnSN w lo' hi' A n L :=
  ⟨h.1, h.2.imp id fun ⟨g, hA, hg, hF⟩ => ⟨g, hA, Nat.lt_of_lt_of_le hg h2, hF.wide h1⟩⟩
theorem fillS_farN {w w' : World} {lo' hi' B g n k : Nat} {L : List LN} (h : FillSN w B g n k L) (hf : FarB lo' hi' w w') (hd : g < lo' ∨ hi' ≤ g) : FillSN w' B g n k L := by
  have hb := hf.block g h.lt hd
  have hc : ∀ j, w'.cell? ⟨g, j, none⟩ = w.cell? ⟨g, j, none⟩ := fun j => World.cell?_of_block (a := ⟨g, j, none⟩) hb
  exact ⟨h.low, Nat.lt_of_lt_of_le h.lt hf.size, fun j => (World.frozen?_of_block (a := ⟨g, j, none⟩) hb).trans (h.free j), fun j hj => by
    obtain ⟨u, hu⟩ := h.cells j hj
    exact ⟨u, (hc j).trans hu⟩, fun j hj => by
    obtain ⟨v, hv, h5⟩ := h.done j hj
    exact ⟨v, hv, at5_otherN h5 fun q _ _ => hc q⟩⟩
theorem OwnSN.farB {w w' : World} {lo hi lo' hi' n : Nat} {A : Option Addr} {L : List LN} (h : OwnSN w lo hi A n L) (hf : FarB lo' hi' w w') (hd : hi ≤ lo' ∨ hi' ≤ lo) : OwnSN w' lo hi A n L :=
  ⟨h.1, h.2.imp id fun ⟨g, hA, hg, hF⟩ => ⟨g, hA, hg, fillS_farN hF hf (by have := hF.low; omega)⟩⟩
theorem OwnSN.sds {w : World} {lo hi n : Nat} {A : Option Addr} {L : List LN} (h : OwnSN w lo hi A n L) : SdsN w w.heap.size A n L := by
  obtain ⟨hl, rfl | ⟨g, rfl, hg, hF⟩⟩ := h
  · exact ⟨hl, fun k hk => absurd hk (by omega)⟩
  · exact sds_of_fillN hF hl
theorem ownS_of_fillN {w : World} {B g n : Nat} {L : List LN} (h : FillSN w B g n n L) (hn : L.length = n) : OwnSN w B w.heap.size (some ⟨g, 0, none⟩) n L := ⟨hn, .inr ⟨g, rfl, h.lt, h⟩⟩

/-- What marking from m on leaves of one line. -/
def markSN (m : Nat) : LN := ⟨m, (m : Int) + 1, (m : Int) + 1 + 1, (m : Int) + 1 + 1 + 1, (m : Int) + 1 + 1 + 1 + 1⟩
def marksSN (n : Nat) : List LN := (List.range n).map fun j => markSN (5 * j + 1)
theorem marksS_lenN (n : Nat) : (marksSN n).length = n := by simp [marksSN]
theorem marksS_atN (n k : Nat) (h : k < n) : (marksSN n)[k]? = some (markSN (5 * k + 1)) := by simp [marksSN, h]
end Go.Proofs.Ytdmnkmdlochogab
