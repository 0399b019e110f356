import Derived.Test.YtlhejphddjdgkaaGreatDoorG1
set_option maxRecDepth 100000
set_option maxHeartbeats 40000000
set_option linter.unusedSimpArgs false
set_option linter.unusedVariables false
namespace Go.Proofs.YtlhejphddjdgkaaGreatDoor
section
open Go.ChangeShapes Go.WideShapes Go.ChangeAt Go.RowKit
def lS:List (String × DataW Unit):=[("math/bits.deBruijn32tab",Rows.laid_math_bits_deBruijn32tab),("math/bits.deBruijn64tab",Rows.laid_math_bits_deBruijn64tab),("internal/strconv.uint64pow10",Rows.laid_internal_strconv_uint64pow10),("unicode/utf8.acceptRanges",Rows.laid_unicode_utf8_acceptRanges),("strconv.ErrRange",Rows.laid_strconv_ErrRange),("strconv.ErrSyntax",Rows.laid_strconv_ErrSyntax),("stairwell/patch.words",Rows.laid_stairwell_patch_words),("unicode/utf8.first",Rows.laid_unicode_utf8_first)]
def C4:DataW Unit->Array Value
 | .agg l=>(l.map fun | .lit (.string s)=>Value.string ⟨s.toArray⟩ | _=>.string ⟨#[]⟩).toArray
 | _=>#[]
noncomputable def kr (os:Os):World:=
 let w0:=World.holding Tryz.prog os ⟨#[.cells #[Aw Rows.laid_strconv_ErrRange] 279,.cells #[Aw Rows.laid_strconv_ErrSyntax] 279],#[],[]⟩
 { w0 with heap:=nF (nF (nF (nF (nF (nF (nF (nF w0.heap 2 (pu Rows.laid_math_bits_deBruijn32tab)) 3 (pu Rows.laid_math_bits_deBruijn64tab)) 1 (pu Rows.laid_internal_strconv_uint64pow10))
  8 (sE Rows.laid_unicode_utf8_acceptRanges)) 6 #[.iface 277 (.pointer (some ⟨low,0,none⟩))]) 5 #[.iface 277 (.pointer (some ⟨low+1,0,none⟩))])
  4 (C4 Rows.laid_stairwell_patch_words)) 7 (sE Rows.laid_unicode_utf8_first) }
theorem Af(os:Os)(args:Array Value):laidMet Tryz.prog lS ((kr os).forCall (fun _ _=>0) ⟨#[],args,[]⟩).memory:=
 laidMet_of_run' 8 (by kernel_rfl) (by kernel_rfl)
end
end Go.Proofs.YtlhejphddjdgkaaGreatDoor
