/-
  DERIVED. GIVEN WITH THE SEED: THE CARDS: each row of YthaoelchpaofkadDoorRows.lean that lists a variable, with what it lists TIED to the program's text (the seventh form; the later family's looks); each row that meets fmt, with fmt's text TOLD by the authors' own Lean function (tested against real Go, not proved from fmt's source: count such statements apart). THE CARD IS WHAT COUNTS. Prove the row's statement (the work); the ties are given (YthaoelchpaofkadDoorTie.lean); close each card by the builder's one call (the guide's Derived/Test/ToyasCard.lean, 'card_holds'). Laid BY PROGRAM, IN A SANDBOX (cutbox-door.mjs). By AI agents, Wed Nov 11 2026. No macro, syntax, notation, axiom, sorry.
-/
import Derived.Test.YthaoelchpaofkadDoorRows
import GoSem.ClaimSeven
namespace Go.Proofs.YthaoelchpaofkadDoor
namespace Rows

/-- THE TIED CARD OF 'stairwellkeep.MergeDiffs'. -/
def mergeDiffsCard : Claim7 := { stood := { row := mergeDiffsRow, standIns := [], harness := (true, "9547a9962690c7082d268e4450257282c7a0874dd1865bbd8174eabf0cc92442"), looks := true }, kinds := [], alts := [], laidByText := true, laidKinds := [.data, .data, .data, .sentinel, .sentinel], laidTests := true, laidLooks := .later }
def MergeDiffsCardSaid : Prop := Claim7.holds Tryd.pinned (.plain (OpenSpec.ofChange mergeDiffsSpec)) mergeDiffsCard

/-- THE TIED CARD OF 'stairwellkeep.MergeTwice'. -/
def mergeTwiceCard : Claim7 := { stood := { row := mergeTwiceRow, standIns := [], harness := (true, "9547a9962690c7082d268e4450257282c7a0874dd1865bbd8174eabf0cc92442"), looks := true }, kinds := [], alts := [], laidByText := true, laidKinds := [.data, .data, .data, .sentinel, .sentinel], laidTests := true, laidLooks := .later }
def MergeTwiceCardSaid : Prop := Claim7.holds Tryd.pinned (.plain (OpenSpec.ofChange mergeTwiceSpec)) mergeTwiceCard

/-- THE TIED CARD OF 'stairwellkeep.MergeSame'. -/
def mergeSameCard : Claim7 := { stood := { row := mergeSameRow, standIns := [], harness := (true, "9547a9962690c7082d268e4450257282c7a0874dd1865bbd8174eabf0cc92442"), looks := true }, kinds := [], alts := [], laidByText := true, laidKinds := [.data, .data, .data, .sentinel, .sentinel], laidTests := true, laidLooks := .later }
def MergeSameCardSaid : Prop := Claim7.holds Tryd.pinned (.plain (OpenSpec.ofChange mergeSameSpec)) mergeSameCard

/-- THE SECOND FORM's CARD OF 'stairwellkeep.MergeDiffs'. -/
def mergeDiffsUptoCard : Claim7 := { stood := { row := mergeDiffsUptoRow, standIns := [], harness := (true, "9547a9962690c7082d268e4450257282c7a0874dd1865bbd8174eabf0cc92442"), looks := true }, kinds := [], alts := [], laidByText := true, laidKinds := [.data, .data, .data, .sentinel, .sentinel], laidTests := true, laidLooks := .later }
def MergeDiffsUptoCardSaid : Prop := Claim7.holds Tryd.pinned (.plain (OpenSpec.upto mergeDiffsSpec)) mergeDiffsUptoCard

/-- THE SECOND FORM's CARD OF 'stairwellkeep.MergeTwice'. -/
def mergeTwiceUptoCard : Claim7 := { stood := { row := mergeTwiceUptoRow, standIns := [], harness := (true, "9547a9962690c7082d268e4450257282c7a0874dd1865bbd8174eabf0cc92442"), looks := true }, kinds := [], alts := [], laidByText := true, laidKinds := [.data, .data, .data, .sentinel, .sentinel], laidTests := true, laidLooks := .later }
def MergeTwiceUptoCardSaid : Prop := Claim7.holds Tryd.pinned (.plain (OpenSpec.upto mergeTwiceSpec)) mergeTwiceUptoCard

/-- THE SECOND FORM's CARD OF 'stairwellkeep.MergeSame'. -/
def mergeSameUptoCard : Claim7 := { stood := { row := mergeSameUptoRow, standIns := [], harness := (true, "9547a9962690c7082d268e4450257282c7a0874dd1865bbd8174eabf0cc92442"), looks := true }, kinds := [], alts := [], laidByText := true, laidKinds := [.data, .data, .data, .sentinel, .sentinel], laidTests := true, laidLooks := .later }
def MergeSameUptoCardSaid : Prop := Claim7.holds Tryd.pinned (.plain (OpenSpec.upto mergeSameSpec)) mergeSameUptoCard
end Rows
end Go.Proofs.YthaoelchpaofkadDoor
