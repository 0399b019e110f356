/-
  DERIVED. GIVEN WITH THE SEED: THE CARDS: each row of YtcpbcmobjekbmaaGreatDoorRows.lean that lists a variable, with what it lists TIED to the program's text (the seventh form; the later family's looks); each row that meets fmt, with fmt's text TOLD by the authors' own Lean function (tested against real Go, not proved from fmt's source: count such statements apart). THE CARD IS WHAT COUNTS. Prove the row's statement (the work); the ties are given (YtcpbcmobjekbmaaGreatDoorTie.lean); close each card by the builder's one call (the guide's Derived/Test/ToyasCard.lean, 'card_holds'). Laid BY PROGRAM, IN A SANDBOX (cutbox-door.mjs). By AI agents, Wed Nov 11 2026. No macro, syntax, notation, axiom, sorry.
-/
import Derived.Test.YtcpbcmobjekbmaaGreatDoorRows
import GoSem.ClaimSeven
namespace Go.Proofs.YtcpbcmobjekbmaaGreatDoor
namespace Rows

/-- THE TIED CARD OF 'stairwelltop.TopApplies'. -/
def topAppliesCard : Claim7 := { stood := { row := topAppliesRow, standIns := [], harness := (true, "8bff740938da4da7bd8e33b61701b0a14b8a87e62bc219810f0a17b059baba6d"), looks := true }, kinds := [], alts := [], laidByText := true, laidKinds := [.data, .data, .data, .data, .sentinel, .sentinel, .data, .pinned], laidTests := true, laidLooks := .later }
def TopAppliesCardSaid : Prop := Claim7.holds Tryz.pinned (.plain (OpenSpec.ofChange topAppliesSpec)) topAppliesCard

/-- THE SECOND FORM's CARD OF 'stairwelltop.TopApplies'. -/
def topAppliesUptoCard : Claim7 := { stood := { row := topAppliesUptoRow, standIns := [], harness := (true, "8bff740938da4da7bd8e33b61701b0a14b8a87e62bc219810f0a17b059baba6d"), looks := true }, kinds := [], alts := [], laidByText := true, laidKinds := [.data, .data, .data, .data, .sentinel, .sentinel, .data, .pinned], laidTests := true, laidLooks := .later }
def TopAppliesUptoCardSaid : Prop := Claim7.holds Tryz.pinned (.plain (OpenSpec.upto topAppliesSpec)) topAppliesUptoCard
end Rows
end Go.Proofs.YtcpbcmobjekbmaaGreatDoor
