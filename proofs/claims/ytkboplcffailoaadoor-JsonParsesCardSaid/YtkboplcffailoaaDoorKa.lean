/- What the listed variables of a row give: the facts that the walks ask of a world, and a world in which they stand. -/
import Derived.Test.YtkboplcffailoaaDoorCards
import Derived.Test.YtkboplcffailoaaDoorTie
import Derived.Test.YtkboplcffailoaaDoorKg
import Derived.Test.YtkboplcffailoaaDoorRf
import Derived.WalkKit
import Derived.ProofKit
import Derived.OpenShut
import Derived.ShutString
import Derived.Deep.DeepHandedRow
import Derived.Deep.DeepWitnessRowRef
import Derived.Lib.LaidTab
import Derived.Stop.LaidErr
import Derived.SevenTiedAt
import Derived.SizedLaws
set_option linter.unusedSimpArgs false
set_option linter.unusedVariables false
namespace Go.Proofs.YtkboplcffailoaaDoor
open Go.ChangeShapes Go.WideShapes Go.ChangeAt Go.RowKit

theorem gPow : Tryd.prog.globalNamed "internal/strconv.uint64pow10" = some 3 := by kernel_rfl
theorem gPowType : (Tryd.prog.globals[3]?).map (·.type) = some 110 := by kernel_rfl
theorem gRange : Tryd.prog.globalNamed "strconv.ErrRange" = some 2 := by kernel_rfl
theorem gRangeType : (Tryd.prog.globals[2]?).map (·.type) = some 61 := by kernel_rfl
theorem gSyntax : Tryd.prog.globalNamed "strconv.ErrSyntax" = some 1 := by kernel_rfl
theorem gSyntaxType : (Tryd.prog.globals[1]?).map (·.type) = some 61 := by kernel_rfl
theorem cellsPow : Tryd.prog.cellsOf 110 = 20 := by kernel_rfl
theorem cellsU64 : Tryd.prog.cellsOf 84 = 1 := by kernel_rfl
theorem cellsErrS : Tryd.prog.cellsOf 107 = 1 := by kernel_rfl
theorem star : "*" ++ "errors.errorString" = "*errors.errorString" := by decide
theorem rowErr (u : TypeId) (h : Tryd.prog.typeName? 3 u = some "*errors.errorString") : u = 105 :=
  typeName_ptr_named (nm := "errors.errorString") (by rw [star]; kernel_rfl) (by kernel_rfl) (by decide) u (by rw [star]; exact h)

def laidAll : List (String × DataW Unit) := [("math/bits.deBruijn32tab", Rows.laid_math_bits_deBruijn32tab), ("math/bits.deBruijn64tab", Rows.laid_math_bits_deBruijn64tab), ("internal/strconv.uint64pow10", Rows.laid_internal_strconv_uint64pow10), ("strconv.ErrRange", Rows.laid_strconv_ErrRange), ("strconv.ErrSyntax", Rows.laid_strconv_ErrSyntax)]
theorem powData : (Rows.laid_internal_strconv_uint64pow10 : DataW Unit) = Lib.tabData .u64 Lib.pow10Tab := by kernel_rfl
theorem glob_of {W : World} (h : laidMet Tryd.prog laidAll W) : Glob W := by
  have h3 := h.tail.tail
  have h4 := h3.tail
  have h5 := h4.tail
  rw [powData] at h3
  have hp := Lib.tabIs_of_head gPow gPowType Tryd.underlying110 Tryd.underlying84 cellsU64 cellsPow h3
  obtain ⟨a1, s1, hv1, -, -, -⟩ := laid_sentinel h4 gRange gRangeType Tryd.underlying61 rowErr Tryd.underlying105 Tryd.underlying107 rfl rfl Tryd.underlying9 cellsErrS cellsString
  obtain ⟨a2, s2, hv2, -, -, -⟩ := laid_sentinel h5 gSyntax gSyntaxType Tryd.underlying61 rowErr Tryd.underlying105 Tryd.underlying107 rfl rfl Tryd.underlying9 cellsErrS cellsString
  obtain ⟨t1, f1, e1⟩ := var_block gRange hv1
  obtain ⟨t2, f2, e2⟩ := var_block gSyntax hv2
  obtain ⟨t3, f3, e3⟩ := var_block gPow hp
  exact ⟨⟨_, _, t2, f2, e2⟩, ⟨_, _, t1, f1, e1⟩, t3, f3, e3⟩

noncomputable def laidWorld (os : Os) : World :=
  let w0 := World.holding Tryd.prog os ⟨#[.cells #[errText Rows.laid_strconv_ErrRange] 107, .cells #[errText Rows.laid_strconv_ErrSyntax] 107], #[], []⟩
  { w0 with heap := putAt (putAt (putAt (putAt (putAt w0.heap 4 (tabCells Rows.laid_math_bits_deBruijn32tab)) 5 (tabCells Rows.laid_math_bits_deBruijn64tab)) 3 (tabCells Rows.laid_internal_strconv_uint64pow10))
      2 #[.iface 105 (.pointer (some ⟨low, 0, none⟩))]) 1 #[.iface 105 (.pointer (some ⟨low + 1, 0, none⟩))] }
set_option maxRecDepth 100000 in
theorem laid_met (os : Os) (args : Array Value) : laidMet Tryd.prog laidAll ((laidWorld os).forCall (fun _ _ => 0) ⟨#[], args, []⟩).memory :=
  laidMet_of_run' 8 (by kernel_rfl) (by kernel_rfl)
end Go.Proofs.YtkboplcffailoaaDoor
