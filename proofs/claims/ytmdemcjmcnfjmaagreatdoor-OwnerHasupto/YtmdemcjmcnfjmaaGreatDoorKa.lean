/- What the listed variables of a row give: the facts that the walks ask of a world, and a world in which they stand. -/
import Derived.Test.YtmdemcjmcnfjmaaGreatDoorCards
import Derived.Test.YtmdemcjmcnfjmaaGreatDoorTie
import Derived.Test.YtmdemcjmcnfjmaaGreatDoorKg
import Derived.Test.YtmdemcjmcnfjmaaGreatDoorRf
import Derived.WalkKit
import Derived.ProofKit
import Derived.OpenShut
import Derived.ShutString
import Derived.Deep.DeepHandedRow
import Derived.Deep.DeepWitnessRowRef
import Derived.Lib.LaidTab
import Derived.Stop.LaidErr
import Derived.SevenTiedAt
import Derived.SizedLaws
set_option linter.unusedSimpArgs false
set_option linter.unusedVariables false
namespace Go.Proofs.YtmdemcjmcnfjmaaGreatDoor
open Go.ChangeShapes Go.WideShapes Go.ChangeAt Go.RowKit

theorem gPow : Tryz.prog.globalNamed "internal/strconv.uint64pow10" = some 5 := by kernel_rfl
theorem gPowType : (Tryz.prog.globals[5]?).map (·.type) = some 197 := by kernel_rfl
theorem gRange : Tryz.prog.globalNamed "strconv.ErrRange" = some 4 := by kernel_rfl
theorem gRangeType : (Tryz.prog.globals[4]?).map (·.type) = some 76 := by kernel_rfl
theorem gSyntax : Tryz.prog.globalNamed "strconv.ErrSyntax" = some 3 := by kernel_rfl
theorem gSyntaxType : (Tryz.prog.globals[3]?).map (·.type) = some 76 := by kernel_rfl
theorem cellsPow : Tryz.prog.cellsOf 197 = 20 := by kernel_rfl
theorem cellsU64 : Tryz.prog.cellsOf 136 = 1 := by kernel_rfl
theorem cellsErrS : Tryz.prog.cellsOf 195 = 1 := by kernel_rfl
theorem star : "*" ++ "errors.errorString" = "*errors.errorString" := by decide
theorem rowErr (u : TypeId) (h : Tryz.prog.typeName? 3 u = some "*errors.errorString") : u = 193 :=
  typeName_ptr_named (nm := "errors.errorString") (by rw [star]; kernel_rfl) (by kernel_rfl) (by decide) u (by rw [star]; exact h)

def laidAll : List (String × DataW Unit) := [("math/bits.deBruijn32tab", Rows.laid_math_bits_deBruijn32tab), ("math/bits.deBruijn64tab", Rows.laid_math_bits_deBruijn64tab), ("internal/strconv.uint64pow10", Rows.laid_internal_strconv_uint64pow10), ("strconv.ErrRange", Rows.laid_strconv_ErrRange), ("strconv.ErrSyntax", Rows.laid_strconv_ErrSyntax)]
theorem powData : (Rows.laid_internal_strconv_uint64pow10 : DataW Unit) = Lib.tabData .u64 Lib.pow10Tab := by kernel_rfl
theorem glob_of {W : World} (h : laidMet Tryz.prog laidAll W) : Glob W := by
  have h3 := h.tail.tail
  have h4 := h3.tail
  have h5 := h4.tail
  rw [powData] at h3
  have hp := Lib.tabIs_of_head gPow gPowType Tryz.underlying197 Tryz.underlying136 cellsU64 cellsPow h3
  obtain ⟨a1, s1, hv1, -, -, -⟩ := laid_sentinel h4 gRange gRangeType Tryz.underlying76 rowErr Tryz.underlying193 Tryz.underlying195 rfl rfl Tryz.underlying9 cellsErrS cellsString
  obtain ⟨a2, s2, hv2, -, -, -⟩ := laid_sentinel h5 gSyntax gSyntaxType Tryz.underlying76 rowErr Tryz.underlying193 Tryz.underlying195 rfl rfl Tryz.underlying9 cellsErrS cellsString
  obtain ⟨t1, f1, e1⟩ := var_block gRange hv1
  obtain ⟨t2, f2, e2⟩ := var_block gSyntax hv2
  obtain ⟨t3, f3, e3⟩ := var_block gPow hp
  exact ⟨⟨_, _, t2, f2, e2⟩, ⟨_, _, t1, f1, e1⟩, t3, f3, e3⟩

noncomputable def laidWorld (os : Os) : World :=
  let w0 := World.holding Tryz.prog os ⟨#[.cells #[errText Rows.laid_strconv_ErrRange] 195, .cells #[errText Rows.laid_strconv_ErrSyntax] 195], #[], []⟩
  { w0 with heap := putAt (putAt (putAt (putAt (putAt w0.heap 6 (tabCells Rows.laid_math_bits_deBruijn32tab)) 7 (tabCells Rows.laid_math_bits_deBruijn64tab)) 5 (tabCells Rows.laid_internal_strconv_uint64pow10))
      4 #[.iface 193 (.pointer (some ⟨low, 0, none⟩))]) 3 #[.iface 193 (.pointer (some ⟨low + 1, 0, none⟩))] }
set_option maxRecDepth 100000 in
theorem laid_met (os : Os) (args : Array Value) : laidMet Tryz.prog laidAll ((laidWorld os).forCall (fun _ _ => 0) ⟨#[], args, []⟩).memory :=
  laidMet_of_run' 8 (by kernel_rfl) (by kernel_rfl)
end Go.Proofs.YtmdemcjmcnfjmaaGreatDoor
