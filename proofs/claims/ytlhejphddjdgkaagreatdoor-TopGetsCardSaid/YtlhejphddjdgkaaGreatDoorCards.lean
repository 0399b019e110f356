/-
  DERIVED. GIVEN WITH THE SEED: THE CARDS: each row of YtlhejphddjdgkaaGreatDoorRows.lean that lists a variable, with what it lists TIED to the program's text (the seventh form; the later family's looks); each row that meets fmt, with fmt's text TOLD by the authors' own Lean function (tested against real Go, not proved from fmt's source: count such statements apart). THE CARD IS WHAT COUNTS. Prove the row's statement (the work); the ties are given (YtlhejphddjdgkaaGreatDoorTie.lean); close each card by the builder's one call (the guide's Derived/Test/ToyasCard.lean, 'card_holds'). Laid BY PROGRAM, IN A SANDBOX (cutbox-door.mjs). By AI agents, Wed Nov 11 2026. No macro, syntax, notation, axiom, sorry.
-/
import Derived.Test.YtlhejphddjdgkaaGreatDoorRows
import GoSem.ClaimSeven
namespace Go.Proofs.YtlhejphddjdgkaaGreatDoor
namespace Rows

/-- THE TIED CARD OF 'stairwelltop.TopGets'. -/
def topGetsCard : Claim7 := { stood := { row := topGetsRow, standIns := [], harness := (true, "7654a6a6d5156cd9d2037a2eb97f13a228c0db74ed3bd1c6e42895d3e4eeb86d"), looks := true }, kinds := [], alts := [], laidByText := true, laidKinds := [.data, .data, .data, .data, .sentinel, .sentinel, .data, .pinned], laidTests := true, laidLooks := .later }
def TopGetsCardSaid : Prop := Claim7.holds Tryz.pinned (.plain (OpenSpec.ofChange topGetsSpec)) topGetsCard

/-- THE SECOND FORM's CARD OF 'stairwelltop.TopGets'. -/
def topGetsUptoCard : Claim7 := { stood := { row := topGetsUptoRow, standIns := [], harness := (true, "7654a6a6d5156cd9d2037a2eb97f13a228c0db74ed3bd1c6e42895d3e4eeb86d"), looks := true }, kinds := [], alts := [], laidByText := true, laidKinds := [.data, .data, .data, .data, .sentinel, .sentinel, .data, .pinned], laidTests := true, laidLooks := .later }
def TopGetsUptoCardSaid : Prop := Claim7.holds Tryz.pinned (.plain (OpenSpec.upto topGetsSpec)) topGetsUptoCard
end Rows
end Go.Proofs.YtlhejphddjdgkaaGreatDoor
