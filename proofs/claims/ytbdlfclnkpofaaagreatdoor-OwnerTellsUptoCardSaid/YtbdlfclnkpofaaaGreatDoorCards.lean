/-
  DERIVED. GIVEN WITH THE SEED: THE CARDS: each row of YtbdlfclnkpofaaaGreatDoorRows.lean that lists a variable, with what it lists TIED to the program's text (the seventh form; the later family's looks); each row that meets fmt, with fmt's text TOLD by the authors' own Lean function (tested against real Go, not proved from fmt's source: count such statements apart). THE CARD IS WHAT COUNTS. Prove the row's statement (the work); the ties are given (YtbdlfclnkpofaaaGreatDoorTie.lean); close each card by the builder's one call (the guide's Derived/Test/ToyasCard.lean, 'card_holds'). Laid BY PROGRAM, IN A SANDBOX (cutbox-door.mjs). By AI agents, Wed Nov 11 2026. No macro, syntax, notation, axiom, sorry.
-/
import Derived.Test.YtbdlfclnkpofaaaGreatDoorRows
import GoSem.ClaimSeven
namespace Go.Proofs.YtbdlfclnkpofaaaGreatDoor
namespace Rows

/-- THE TIED CARD OF 'stairwelllaw.OwnerApplies'. -/
def ownerAppliesCard : Claim7 := { stood := { row := ownerAppliesRow, standIns := [], harness := (true, "800214cc3072575bd3fb14257104b355a2ea99b481f834613260dcfb6a35ba3f"), looks := true }, kinds := [], alts := [], laidByText := true, laidKinds := [.data, .data, .data, .data, .sentinel, .sentinel, .pinned], laidTests := true, laidLooks := .later }
def OwnerAppliesCardSaid : Prop := Claim7.holds Tryz.pinned (.plain (OpenSpec.ofChange ownerAppliesSpec)) ownerAppliesCard

/-- THE TIED CARD OF 'stairwelllaw.OwnerTells'. -/
def ownerTellsCard : Claim7 := { stood := { row := ownerTellsRow, standIns := [], harness := (true, "800214cc3072575bd3fb14257104b355a2ea99b481f834613260dcfb6a35ba3f"), looks := true }, kinds := [], alts := [], laidByText := true, laidKinds := [.data, .data, .data, .data, .sentinel, .sentinel, .pinned], laidTests := true, laidLooks := .later }
def OwnerTellsCardSaid : Prop := Claim7.holds Tryz.pinned (.plain (OpenSpec.ofChange ownerTellsSpec)) ownerTellsCard

/-- THE SECOND FORM's CARD OF 'stairwelllaw.OwnerApplies'. -/
def ownerAppliesUptoCard : Claim7 := { stood := { row := ownerAppliesUptoRow, standIns := [], harness := (true, "800214cc3072575bd3fb14257104b355a2ea99b481f834613260dcfb6a35ba3f"), looks := true }, kinds := [], alts := [], laidByText := true, laidKinds := [.data, .data, .data, .data, .sentinel, .sentinel, .pinned], laidTests := true, laidLooks := .later }
def OwnerAppliesUptoCardSaid : Prop := Claim7.holds Tryz.pinned (.plain (OpenSpec.upto ownerAppliesSpec)) ownerAppliesUptoCard

/-- THE SECOND FORM's CARD OF 'stairwelllaw.OwnerTells'. -/
def ownerTellsUptoCard : Claim7 := { stood := { row := ownerTellsUptoRow, standIns := [], harness := (true, "800214cc3072575bd3fb14257104b355a2ea99b481f834613260dcfb6a35ba3f"), looks := true }, kinds := [], alts := [], laidByText := true, laidKinds := [.data, .data, .data, .data, .sentinel, .sentinel, .pinned], laidTests := true, laidLooks := .later }
def OwnerTellsUptoCardSaid : Prop := Claim7.holds Tryz.pinned (.plain (OpenSpec.upto ownerTellsSpec)) ownerTellsUptoCard
end Rows
end Go.Proofs.YtbdlfclnkpofaaaGreatDoor
