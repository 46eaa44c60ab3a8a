/-
  DERIVED. GIVEN WITH THE SEED: THE CARDS: each row of YtfffahkommbheaaDoorRows.lean that lists a variable, with what it lists TIED to the program's text (the seventh form; the later family's looks); each row that meets fmt, with fmt's text TOLD by the authors' own Lean function (tested against real Go, not proved from fmt's source: count such statements apart). THE CARD IS WHAT COUNTS. Prove the row's statement (the work); the ties are given (YtfffahkommbheaaDoorTie.lean); close each card by the builder's one call (the guide's Derived/Test/ToyasCard.lean, 'card_holds'). Laid BY PROGRAM, IN A SANDBOX (cutbox-door.mjs). By AI agents, Wed Nov 11 2026. No macro, syntax, notation, axiom, sorry.
-/
import Derived.Test.YtfffahkommbheaaDoorRows
import GoSem.ClaimSeven
namespace Go.Proofs.YtfffahkommbheaaDoor
namespace Rows

/-- THE TIED CARD OF 'laws.FnOffsets'. -/
def fnOffsetsCard : Claim7 := { stood := { row := fnOffsetsRow, standIns := [], harness := (true, "7ad22f4a05dbe92afea6b7e73491ae4349577ec302aa817f924871d733a9e41e"), looks := false }, kinds := [], alts := [], laidByText := true, laidKinds := [.data, .data, .data], laidTests := true, laidLooks := .later }
def FnOffsetsCardSaid : Prop := Claim7.holds Tryd.pinned (.plain (OpenSpec.ofChange fnOffsetsSpec)) fnOffsetsCard

/-- THE TIED CARD OF 'laws.FnExactCraftText'. -/
def fnExactCraftTextCard : Claim7 := { stood := { row := fnExactCraftTextRow, standIns := [], harness := (true, "7ad22f4a05dbe92afea6b7e73491ae4349577ec302aa817f924871d733a9e41e"), looks := false }, kinds := [], alts := [], laidByText := true, laidKinds := [.data, .data, .data], laidTests := true, laidLooks := .later }
def FnExactCraftTextCardSaid : Prop := Claim7.holds Tryd.pinned (.plain (OpenSpec.ofChange fnExactCraftTextSpec)) fnExactCraftTextCard

/-- THE SECOND FORM's CARD OF 'laws.FnOffsets'. -/
def fnOffsetsUptoCard : Claim7 := { stood := { row := fnOffsetsUptoRow, standIns := [], harness := (true, "7ad22f4a05dbe92afea6b7e73491ae4349577ec302aa817f924871d733a9e41e"), looks := false }, kinds := [], alts := [], laidByText := true, laidKinds := [.data, .data, .data], laidTests := true, laidLooks := .later }
def FnOffsetsUptoCardSaid : Prop := Claim7.holds Tryd.pinned (.plain (OpenSpec.upto fnOffsetsSpec)) fnOffsetsUptoCard

/-- THE SECOND FORM's CARD OF 'laws.FnExactCraftText'. -/
def fnExactCraftTextUptoCard : Claim7 := { stood := { row := fnExactCraftTextUptoRow, standIns := [], harness := (true, "7ad22f4a05dbe92afea6b7e73491ae4349577ec302aa817f924871d733a9e41e"), looks := false }, kinds := [], alts := [], laidByText := true, laidKinds := [.data, .data, .data], laidTests := true, laidLooks := .later }
def FnExactCraftTextUptoCardSaid : Prop := Claim7.holds Tryd.pinned (.plain (OpenSpec.upto fnExactCraftTextSpec)) fnExactCraftTextUptoCard
end Rows
end Go.Proofs.YtfffahkommbheaaDoor
