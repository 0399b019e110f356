/-
  DERIVED. GIVEN WITH THE SEED: THE CARDS: each row of YtfbddgpekbhpfabDoorRows.lean that lists a variable, with what it lists TIED to the program's text (the seventh form; the later family's looks); each row that meets fmt, with fmt's text TOLD by the authors' own Lean function (tested against real Go, not proved from fmt's source: count such statements apart). THE CARD IS WHAT COUNTS. Prove the row's statement (the work); the ties are given (YtfbddgpekbhpfabDoorTie.lean); close each card by the builder's one call (the guide's Derived/Test/ToyasCard.lean, 'card_holds'). Laid BY PROGRAM, IN A SANDBOX (cutbox-door.mjs). By AI agents, Wed Nov 11 2026. No macro, syntax, notation, axiom, sorry.
-/
import Derived.Test.YtfbddgpekbhpfabDoorRows
import GoSem.ClaimSeven
namespace Go.Proofs.YtfbddgpekbhpfabDoor
namespace Rows

/-- THE TIED CARD OF 'stairwellkeep.JsonParts'. -/
def jsonPartsCard : Claim7 := { stood := { row := jsonPartsRow, standIns := [], harness := (true, "006b03a918b59c2be1ac5ff869369950f1ae75386736ce4a07d6b8e2d954d04a"), looks := true }, kinds := [], alts := [], laidByText := true, laidKinds := [.data, .data, .data, .sentinel, .sentinel], laidTests := true, laidLooks := .later }
def JsonPartsCardSaid : Prop := Claim7.holds Tryd.pinned (.plain (OpenSpec.ofChange jsonPartsSpec)) jsonPartsCard

/-- THE TIED CARD OF 'stairwelllaw.PointSplits'. -/
def pointSplitsCard : Claim7 := { stood := { row := pointSplitsRow, standIns := [], harness := (true, "006b03a918b59c2be1ac5ff869369950f1ae75386736ce4a07d6b8e2d954d04a"), looks := true }, kinds := [], alts := [], laidByText := true, laidKinds := [.data, .pinned], laidTests := true, laidLooks := .later }
def PointSplitsCardSaid : Prop := Claim7.holds Tryd.pinned (.plain (OpenSpec.ofChange pointSplitsSpec)) pointSplitsCard

/-- THE TIED CARD OF 'stairwelllaw.PointDoes'. -/
def pointDoesCard : Claim7 := { stood := { row := pointDoesRow, standIns := [], harness := (true, "006b03a918b59c2be1ac5ff869369950f1ae75386736ce4a07d6b8e2d954d04a"), looks := true }, kinds := [], alts := [], laidByText := true, laidKinds := [.data, .pinned], laidTests := true, laidLooks := .later }
def PointDoesCardSaid : Prop := Claim7.holds Tryd.pinned (.plain (OpenSpec.ofChange pointDoesSpec)) pointDoesCard

/-- THE TIED CARD OF 'stairwellkeep.PointBack'. -/
def pointBackCard : Claim7 := { stood := { row := pointBackRow, standIns := [], harness := (true, "006b03a918b59c2be1ac5ff869369950f1ae75386736ce4a07d6b8e2d954d04a"), looks := true }, kinds := [], alts := [], laidByText := true, laidKinds := [.data, .pinned], laidTests := true, laidLooks := .later }
def PointBackCardSaid : Prop := Claim7.holds Tryd.pinned (.plain (OpenSpec.ofChange pointBackSpec)) pointBackCard

/-- THE TIED CARD OF 'stairwellkeep.PointAdds'. -/
def pointAddsCard : Claim7 := { stood := { row := pointAddsRow, standIns := [], harness := (true, "006b03a918b59c2be1ac5ff869369950f1ae75386736ce4a07d6b8e2d954d04a"), looks := true }, kinds := [], alts := [], laidByText := true, laidKinds := [.data, .pinned], laidTests := true, laidLooks := .later }
def PointAddsCardSaid : Prop := Claim7.holds Tryd.pinned (.plain (OpenSpec.ofChange pointAddsSpec)) pointAddsCard

/-- THE TIED CARD OF 'stairwellkeep.PointUndoes'. -/
def pointUndoesCard : Claim7 := { stood := { row := pointUndoesRow, standIns := [], harness := (true, "006b03a918b59c2be1ac5ff869369950f1ae75386736ce4a07d6b8e2d954d04a"), looks := true }, kinds := [], alts := [], laidByText := true, laidKinds := [.data, .pinned], laidTests := true, laidLooks := .later }
def PointUndoesCardSaid : Prop := Claim7.holds Tryd.pinned (.plain (OpenSpec.ofChange pointUndoesSpec)) pointUndoesCard

/-- THE SECOND FORM's CARD OF 'stairwellkeep.JsonParts'. -/
def jsonPartsUptoCard : Claim7 := { stood := { row := jsonPartsUptoRow, standIns := [], harness := (true, "006b03a918b59c2be1ac5ff869369950f1ae75386736ce4a07d6b8e2d954d04a"), looks := true }, kinds := [], alts := [], laidByText := true, laidKinds := [.data, .data, .data, .sentinel, .sentinel], laidTests := true, laidLooks := .later }
def JsonPartsUptoCardSaid : Prop := Claim7.holds Tryd.pinned (.plain (OpenSpec.upto jsonPartsSpec)) jsonPartsUptoCard

/-- THE SECOND FORM's CARD OF 'stairwelllaw.PointSplits'. -/
def pointSplitsUptoCard : Claim7 := { stood := { row := pointSplitsUptoRow, standIns := [], harness := (true, "006b03a918b59c2be1ac5ff869369950f1ae75386736ce4a07d6b8e2d954d04a"), looks := true }, kinds := [], alts := [], laidByText := true, laidKinds := [.data, .pinned], laidTests := true, laidLooks := .later }
def PointSplitsUptoCardSaid : Prop := Claim7.holds Tryd.pinned (.plain (OpenSpec.upto pointSplitsSpec)) pointSplitsUptoCard

/-- THE SECOND FORM's CARD OF 'stairwelllaw.PointDoes'. -/
def pointDoesUptoCard : Claim7 := { stood := { row := pointDoesUptoRow, standIns := [], harness := (true, "006b03a918b59c2be1ac5ff869369950f1ae75386736ce4a07d6b8e2d954d04a"), looks := true }, kinds := [], alts := [], laidByText := true, laidKinds := [.data, .pinned], laidTests := true, laidLooks := .later }
def PointDoesUptoCardSaid : Prop := Claim7.holds Tryd.pinned (.plain (OpenSpec.upto pointDoesSpec)) pointDoesUptoCard

/-- THE SECOND FORM's CARD OF 'stairwellkeep.PointBack'. -/
def pointBackUptoCard : Claim7 := { stood := { row := pointBackUptoRow, standIns := [], harness := (true, "006b03a918b59c2be1ac5ff869369950f1ae75386736ce4a07d6b8e2d954d04a"), looks := true }, kinds := [], alts := [], laidByText := true, laidKinds := [.data, .pinned], laidTests := true, laidLooks := .later }
def PointBackUptoCardSaid : Prop := Claim7.holds Tryd.pinned (.plain (OpenSpec.upto pointBackSpec)) pointBackUptoCard

/-- THE SECOND FORM's CARD OF 'stairwellkeep.PointAdds'. -/
def pointAddsUptoCard : Claim7 := { stood := { row := pointAddsUptoRow, standIns := [], harness := (true, "006b03a918b59c2be1ac5ff869369950f1ae75386736ce4a07d6b8e2d954d04a"), looks := true }, kinds := [], alts := [], laidByText := true, laidKinds := [.data, .pinned], laidTests := true, laidLooks := .later }
def PointAddsUptoCardSaid : Prop := Claim7.holds Tryd.pinned (.plain (OpenSpec.upto pointAddsSpec)) pointAddsUptoCard

/-- THE SECOND FORM's CARD OF 'stairwellkeep.PointUndoes'. -/
def pointUndoesUptoCard : Claim7 := { stood := { row := pointUndoesUptoRow, standIns := [], harness := (true, "006b03a918b59c2be1ac5ff869369950f1ae75386736ce4a07d6b8e2d954d04a"), looks := true }, kinds := [], alts := [], laidByText := true, laidKinds := [.data, .pinned], laidTests := true, laidLooks := .later }
def PointUndoesUptoCardSaid : Prop := Claim7.holds Tryd.pinned (.plain (OpenSpec.upto pointUndoesSpec)) pointUndoesUptoCard
end Rows
end Go.Proofs.YtfbddgpekbhpfabDoor
