/- What the listed variables of a row over package point give; a world for its witness. -/
import Derived.Test.YtmdemcjmcnfjmaaGreatDoorKd
import Derived.Test.YtmdemcjmcnfjmaaGreatDoorKg
import Derived.Test.YtmdemcjmcnfjmaaGreatDoorWc
import Derived.Shelf.Vars
set_option linter.unusedSimpArgs false
set_option linter.unusedVariables false
namespace Go.Proofs.YtmdemcjmcnfjmaaGreatDoor
open Go.ChangeShapes Go.WideShapes Go.ChangeAt Go.RowKit

def laidPt : List (String × DataW Unit) := [("unicode/utf8.acceptRanges", Rows.laid_unicode_utf8_acceptRanges), ("unicode/utf8.first", Rows.laid_unicode_utf8_first)]
set_option maxRecDepth 100000 in
theorem glob_pt {W : World} (h : W.ShapedOpen Tryz.prog) : GlobM W :=
  cell_of_shapedOpen_int (t := 3) (zero := #[.int .i64 0]) h (of_decide_eq_true (by kernel_rfl)) (by kernel_rfl) rfl (by kernel_rfl) (by kernel_rfl) Tryz.underlying3
noncomputable def ptWorld (os : Os) : World :=
  let w0 := World.holding Tryz.prog os ⟨#[], #[], []⟩
  { w0 with heap := putAt (putAt w0.heap 2 (flatCells Rows.laid_unicode_utf8_acceptRanges)) 1 (flatCells Rows.laid_unicode_utf8_first) }
set_option maxRecDepth 100000 in
theorem pt_met (os : Os) (args : Array Value) : laidMet Tryz.prog laidPt ((ptWorld os).forCall (fun _ _ => 0) ⟨#[], args, []⟩).memory :=
  laidMet_of_run' 8 (by kernel_rfl) (by kernel_rfl)
end Go.Proofs.YtmdemcjmcnfjmaaGreatDoor
