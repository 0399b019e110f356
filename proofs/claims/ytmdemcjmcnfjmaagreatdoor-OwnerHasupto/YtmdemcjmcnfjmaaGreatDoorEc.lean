/- The listed variables of a row over package owner, what they give, and a world for its witness. -/
import Derived.Test.YtmdemcjmcnfjmaaGreatDoorKa
import Derived.Test.YtmdemcjmcnfjmaaGreatDoorKx
import Derived.Test.YtmdemcjmcnfjmaaGreatDoorEb
set_option linter.unusedSimpArgs false
set_option linter.unusedVariables false
namespace Go.Proofs.YtmdemcjmcnfjmaaGreatDoor
open Go.ChangeShapes Go.WideShapes Go.ChangeAt Go.RowKit

def laidOw : List (String × DataW Unit) := [("math/bits.deBruijn32tab", Rows.laid_math_bits_deBruijn32tab), ("math/bits.deBruijn64tab", Rows.laid_math_bits_deBruijn64tab), ("internal/strconv.uint64pow10", Rows.laid_internal_strconv_uint64pow10), ("unicode/utf8.acceptRanges", Rows.laid_unicode_utf8_acceptRanges), ("strconv.ErrRange", Rows.laid_strconv_ErrRange), ("strconv.ErrSyntax", Rows.laid_strconv_ErrSyntax), ("unicode/utf8.first", Rows.laid_unicode_utf8_first)]
theorem glob_ow {W : World} (h : laidMet Tryz.prog laidOw W) : Glob W := by
  have h3 := h.tail.tail
  have h4 := h3.tail.tail
  have h5 := h4.tail
  rw [powData] at h3
  have hp := Lib.tabIs_of_head gPow gPowType Tryz.underlying197 Tryz.underlying136 cellsU64 cellsPow h3
  obtain ⟨a1, s1, hv1, -, -, -⟩ := laid_sentinel h4 gRange gRangeType Tryz.underlying76 rowErr Tryz.underlying193 Tryz.underlying195 rfl rfl Tryz.underlying9 cellsErrS cellsString
  obtain ⟨a2, s2, hv2, -, -, -⟩ := laid_sentinel h5 gSyntax gSyntaxType Tryz.underlying76 rowErr Tryz.underlying193 Tryz.underlying195 rfl rfl Tryz.underlying9 cellsErrS cellsString
  obtain ⟨t1, f1, e1⟩ := var_block gRange hv1
  obtain ⟨t2, f2, e2⟩ := var_block gSyntax hv2
  obtain ⟨t3, f3, e3⟩ := var_block gPow hp
  exact ⟨⟨_, _, t2, f2, e2⟩, ⟨_, _, t1, f1, e1⟩, t3, f3, e3⟩
noncomputable def owWorld (os : Os) : World :=
  let w0 := World.holding Tryz.prog os ⟨#[.cells #[errText Rows.laid_strconv_ErrRange] 195, .cells #[errText Rows.laid_strconv_ErrSyntax] 195], #[], []⟩
  { w0 with heap := putAt (putAt (putAt (putAt (putAt (putAt (putAt w0.heap 6 (tabCells Rows.laid_math_bits_deBruijn32tab)) 7 (tabCells Rows.laid_math_bits_deBruijn64tab)) 5 (tabCells Rows.laid_internal_strconv_uint64pow10))
      2 (flatCells Rows.laid_unicode_utf8_acceptRanges)) 4 #[.iface 193 (.pointer (some ⟨low, 0, none⟩))]) 3 #[.iface 193 (.pointer (some ⟨low + 1, 0, none⟩))]) 1 (flatCells Rows.laid_unicode_utf8_first) }
set_option maxRecDepth 100000 in
theorem ow_met (os : Os) (args : Array Value) : laidMet Tryz.prog laidOw ((owWorld os).forCall (fun _ _ => 0) ⟨#[], args, []⟩).memory :=
  laidMet_of_run' 8 (by kernel_rfl) (by kernel_rfl)
end Go.Proofs.YtmdemcjmcnfjmaaGreatDoor
