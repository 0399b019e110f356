/-
  DERIVED. GIVEN WITH THE SEED: THE CARDS: each row of YtaifciobaapehaaDoorRows.lean that lists a variable, with what it lists TIED to the program's text (the seventh form; the later family's looks); each row that meets fmt, with fmt's text TOLD by the authors' own Lean function (tested against real Go, not proved from fmt's source: count such statements apart). THE CARD IS WHAT COUNTS. Prove the row's statement (the work); the ties are given (YtaifciobaapehaaDoorTie.lean); close each card by the builder's one call (the guide's Derived/Test/ToyasCard.lean, 'card_holds'). Laid BY PROGRAM, IN A SANDBOX (cutbox-door.mjs). By AI agents, Wed Nov 11 2026. No macro, syntax, notation, axiom, sorry.
-/
import Derived.Test.YtaifciobaapehaaDoorRows
import GoSem.ClaimSeven
namespace Go.Proofs.YtaifciobaapehaaDoor
namespace Rows

/-- THE TIED CARD OF 'stairwelllaw.PointDoes'. -/
def pointDoesCard : Claim7 := { stood := { row := pointDoesRow, standIns := [], harness := (true, "fbb7969744b18ca992e16a989983aaab81750650730410a7703ba08a377e50c5"), looks := false }, kinds := [], alts := [], laidByText := true, laidKinds := [.data, .pinned], laidTests := true, laidLooks := .later }
def PointDoesCardSaid : Prop := Claim7.holds Tryd.pinned (.plain (OpenSpec.ofChange pointDoesSpec)) pointDoesCard

/-- THE TIED CARD OF 'stairwelllaw.PatchReads'. -/
def patchReadsCard : Claim7 := { stood := { row := patchReadsRow, standIns := [], harness := (true, "fbb7969744b18ca992e16a989983aaab81750650730410a7703ba08a377e50c5"), looks := false }, kinds := [], alts := [], laidByText := true, laidKinds := [.data, .data, .pinned], laidTests := true, laidLooks := .later }
def PatchReadsCardSaid : Prop := Claim7.holds Tryd.pinned (.plain (OpenSpec.ofChange patchReadsSpec)) patchReadsCard

/-- THE TIED CARD OF 'stairwelllaw.PatchDoes'. -/
def patchDoesCard : Claim7 := { stood := { row := patchDoesRow, standIns := [], harness := (true, "fbb7969744b18ca992e16a989983aaab81750650730410a7703ba08a377e50c5"), looks := false }, kinds := [], alts := [], laidByText := true, laidKinds := [.data, .pinned], laidTests := true, laidLooks := .later }
def PatchDoesCardSaid : Prop := Claim7.holds Tryd.pinned (.plain (OpenSpec.ofChange patchDoesSpec)) patchDoesCard

/-- THE SECOND FORM's CARD OF 'stairwelllaw.PointDoes'. -/
def pointDoesUptoCard : Claim7 := { stood := { row := pointDoesUptoRow, standIns := [], harness := (true, "fbb7969744b18ca992e16a989983aaab81750650730410a7703ba08a377e50c5"), looks := false }, kinds := [], alts := [], laidByText := true, laidKinds := [.data, .pinned], laidTests := true, laidLooks := .later }
def PointDoesUptoCardSaid : Prop := Claim7.holds Tryd.pinned (.plain (OpenSpec.upto pointDoesSpec)) pointDoesUptoCard

/-- THE SECOND FORM's CARD OF 'stairwelllaw.PatchReads'. -/
def patchReadsUptoCard : Claim7 := { stood := { row := patchReadsUptoRow, standIns := [], harness := (true, "fbb7969744b18ca992e16a989983aaab81750650730410a7703ba08a377e50c5"), looks := false }, kinds := [], alts := [], laidByText := true, laidKinds := [.data, .data, .pinned], laidTests := true, laidLooks := .later }
def PatchReadsUptoCardSaid : Prop := Claim7.holds Tryd.pinned (.plain (OpenSpec.upto patchReadsSpec)) patchReadsUptoCard

/-- THE SECOND FORM's CARD OF 'stairwelllaw.PatchDoes'. -/
def patchDoesUptoCard : Claim7 := { stood := { row := patchDoesUptoRow, standIns := [], harness := (true, "fbb7969744b18ca992e16a989983aaab81750650730410a7703ba08a377e50c5"), looks := false }, kinds := [], alts := [], laidByText := true, laidKinds := [.data, .pinned], laidTests := true, laidLooks := .later }
def PatchDoesUptoCardSaid : Prop := Claim7.holds Tryd.pinned (.plain (OpenSpec.upto patchDoesSpec)) patchDoesUptoCard
end Rows
end Go.Proofs.YtaifciobaapehaaDoor
