/-
  DERIVED. GIVEN WITH THE SEED: THE CARDS: each row of YtckkpcojhppmkaaGreatDoorRows.lean that lists a variable, with what it lists TIED to the program's text (the seventh form; the later family's looks); each row that meets fmt, with fmt's text TOLD by the authors' own Lean function (tested against real Go, not proved from fmt's source: count such statements apart). THE CARD IS WHAT COUNTS. Prove the row's statement (the work); the ties are given (YtckkpcojhppmkaaGreatDoorTie.lean); close each card by the builder's one call (the guide's Derived/Test/ToyasCard.lean, 'card_holds'). Laid BY PROGRAM, IN A SANDBOX (cutbox-door.mjs). By AI agents, Wed Nov 11 2026. No macro, syntax, notation, axiom, sorry.
-/
import Derived.Test.YtckkpcojhppmkaaGreatDoorRows
import GoSem.ClaimSeven
namespace Go.Proofs.YtckkpcojhppmkaaGreatDoor
namespace Rows

/-- THE TIED CARD OF 'stairwelltop.TopGood'. -/
def topGoodCard : Claim7 := { stood := { row := topGoodRow, standIns := [], harness := (true, "8f8f466cd115d7ce7a40464ac4f02db4c27ba4ab6b5e7d43f0fd4f64324092ed"), looks := true }, kinds := [], alts := [], laidByText := true, laidKinds := [.data, .data, .data, .data, .sentinel, .sentinel, .data, .pinned], laidTests := true, laidLooks := .later }
def TopGoodCardSaid : Prop := Claim7.holds Tryz.pinned (.plain (OpenSpec.ofChange topGoodSpec)) topGoodCard

/-- THE TIED CARD OF 'stairwelltop.TopRolls'. -/
def topRollsCard : Claim7 := { stood := { row := topRollsRow, standIns := [], harness := (true, "8f8f466cd115d7ce7a40464ac4f02db4c27ba4ab6b5e7d43f0fd4f64324092ed"), looks := true }, kinds := [], alts := [], laidByText := true, laidKinds := [.data, .data, .data, .data, .sentinel, .sentinel, .data, .pinned], laidTests := true, laidLooks := .later }
def TopRollsCardSaid : Prop := Claim7.holds Tryz.pinned (.plain (OpenSpec.ofChange topRollsSpec)) topRollsCard

/-- THE SECOND FORM's CARD OF 'stairwelltop.TopGood'. -/
def topGoodUptoCard : Claim7 := { stood := { row := topGoodUptoRow, standIns := [], harness := (true, "8f8f466cd115d7ce7a40464ac4f02db4c27ba4ab6b5e7d43f0fd4f64324092ed"), looks := true }, kinds := [], alts := [], laidByText := true, laidKinds := [.data, .data, .data, .data, .sentinel, .sentinel, .data, .pinned], laidTests := true, laidLooks := .later }
def TopGoodUptoCardSaid : Prop := Claim7.holds Tryz.pinned (.plain (OpenSpec.upto topGoodSpec)) topGoodUptoCard

/-- THE SECOND FORM's CARD OF 'stairwelltop.TopRolls'. -/
def topRollsUptoCard : Claim7 := { stood := { row := topRollsUptoRow, standIns := [], harness := (true, "8f8f466cd115d7ce7a40464ac4f02db4c27ba4ab6b5e7d43f0fd4f64324092ed"), looks := true }, kinds := [], alts := [], laidByText := true, laidKinds := [.data, .data, .data, .data, .sentinel, .sentinel, .data, .pinned], laidTests := true, laidLooks := .later }
def TopRollsUptoCardSaid : Prop := Claim7.holds Tryz.pinned (.plain (OpenSpec.upto topRollsSpec)) topRollsUptoCard
end Rows
end Go.Proofs.YtckkpcojhppmkaaGreatDoor
