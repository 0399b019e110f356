/- The listed variables of a row over all packages, and a world for its witness. -/
import Derived.Test.YtmclhhgccinhpaaGreatDoorKg
set_option linter.unusedSimpArgs false
set_option linter.unusedVariables false
namespace Go.Proofs.YtmclhhgccinhpaaGreatDoor
open Go.ChangeShapes Go.WideShapes Go.ChangeAt Go.RowKit

def laidTop : List (String × DataW Unit) := [("math/bits.deBruijn32tab", Rows.laid_math_bits_deBruijn32tab), ("math/bits.deBruijn64tab", Rows.laid_math_bits_deBruijn64tab), ("internal/strconv.uint64pow10", Rows.laid_internal_strconv_uint64pow10), ("unicode/utf8.acceptRanges", Rows.laid_unicode_utf8_acceptRanges), ("strconv.ErrRange", Rows.laid_strconv_ErrRange), ("strconv.ErrSyntax", Rows.laid_strconv_ErrSyntax), ("stairwell/patch.words", Rows.laid_stairwell_patch_words), ("unicode/utf8.first", Rows.laid_unicode_utf8_first)]
def textCells : DataW Unit → Array Value
  | .agg l => (l.map fun | .lit (.string s) => Value.string ⟨s.toArray⟩ | _ => .string ⟨#[]⟩).toArray
  | _ => #[]
noncomputable def topWorld (os : Os) : World :=
  let w0 := World.holding Tryz.prog os ⟨#[.cells #[errText Rows.laid_strconv_ErrRange] 270, .cells #[errText Rows.laid_strconv_ErrSyntax] 270], #[], []⟩
  { w0 with heap := putAt (putAt (putAt (putAt (putAt (putAt (putAt (putAt w0.heap 3 (tabCells Rows.laid_math_bits_deBruijn32tab)) 4 (tabCells Rows.laid_math_bits_deBruijn64tab)) 1 (tabCells Rows.laid_internal_strconv_uint64pow10))
      8 (flatCells Rows.laid_unicode_utf8_acceptRanges)) 6 #[.iface 268 (.pointer (some ⟨low, 0, none⟩))]) 5 #[.iface 268 (.pointer (some ⟨low + 1, 0, none⟩))])
      2 (textCells Rows.laid_stairwell_patch_words)) 7 (flatCells Rows.laid_unicode_utf8_first) }
set_option maxRecDepth 100000 in
theorem top_met (os : Os) (args : Array Value) : laidMet Tryz.prog laidTop ((topWorld os).forCall (fun _ _ => 0) ⟨#[], args, []⟩).memory :=
  laidMet_of_run' 8 (by kernel_rfl) (by kernel_rfl)
end Go.Proofs.YtmclhhgccinhpaaGreatDoor
