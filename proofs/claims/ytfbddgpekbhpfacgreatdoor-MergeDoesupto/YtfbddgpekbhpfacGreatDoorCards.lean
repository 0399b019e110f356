/-
  DERIVED. GIVEN WITH THE SEED: THE CARDS: each row of YtfbddgpekbhpfacGreatDoorRows.lean that lists a variable, with what it lists TIED to the program's text (the seventh form; the later family's looks); each row that meets fmt, with fmt's text TOLD by the authors' own Lean function (tested against real Go, not proved from fmt's source: count such statements apart). THE CARD IS WHAT COUNTS. Prove the row's statement (the work); the ties are given (YtfbddgpekbhpfacGreatDoorTie.lean); close each card by the builder's one call (the guide's Derived/Test/ToyasCard.lean, 'card_holds'). Laid BY PROGRAM, IN A SANDBOX (cutbox-door.mjs). By AI agents, Wed Nov 11 2026. No macro, syntax, notation, axiom, sorry.
-/
import Derived.Test.YtfbddgpekbhpfacGreatDoorRows
import GoSem.ClaimSeven
namespace Go.Proofs.YtfbddgpekbhpfacGreatDoor
namespace Rows

/-- THE TIED CARD OF 'stairwelllaw.MergeDoes'. -/
def mergeDoesCard : Claim7 := { stood := { row := mergeDoesRow, standIns := [], harness := (true, "c97ea2d7831abae888e22f3f4428b33d1041dd653f008a481722788874869945"), looks := true }, kinds := [], alts := [], laidByText := true, laidKinds := [.data, .data, .data, .sentinel, .sentinel], laidTests := true, laidLooks := .later }
def MergeDoesCardSaid : Prop := Claim7.holds Tryz.pinned (.plain (OpenSpec.ofChange mergeDoesSpec)) mergeDoesCard

/-- THE SECOND FORM's CARD OF 'stairwelllaw.MergeDoes'. -/
def mergeDoesUptoCard : Claim7 := { stood := { row := mergeDoesUptoRow, standIns := [], harness := (true, "c97ea2d7831abae888e22f3f4428b33d1041dd653f008a481722788874869945"), looks := true }, kinds := [], alts := [], laidByText := true, laidKinds := [.data, .data, .data, .sentinel, .sentinel], laidTests := true, laidLooks := .later }
def MergeDoesUptoCardSaid : Prop := Claim7.holds Tryz.pinned (.plain (OpenSpec.upto mergeDoesSpec)) mergeDoesUptoCard
end Rows
end Go.Proofs.YtfbddgpekbhpfacGreatDoor
