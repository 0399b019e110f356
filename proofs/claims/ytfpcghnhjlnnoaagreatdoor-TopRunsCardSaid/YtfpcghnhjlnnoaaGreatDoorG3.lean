import Derived.Shelf.SlSortCmp.NoneTotal
import Derived.Shelf.SlCmpFuncs.BinarySearchFunc
import Derived.Shelf.SlicesE.IndexFunc
import Derived.Shelf.SlicesQ.IndexFunc
import Derived.Shelf.Small.Wraps
import Derived.Shelf.Small.Strs
import Derived.Test.YtfpcghnhjlnnoaaGreatDoorProg
import Derived.Shelf.Strings.BuilderK
import Derived.Shelf.Strconv.Itoa3
import Derived.Shelf.Strconv.ErrVarAll
import Derived.Shelf.Strings.Shaped
import Derived.Shelf.Strconv.AppendIntPublic10
import Derived.Shelf.Strings.SplitShaped
import Derived.Shelf.Unicode.DecodeSlow
import Derived.Shelf.Slices.Turned
import Derived.Shelf.Slices.Empties2
set_option maxRecDepth 100000
set_option maxHeartbeats 40000000
set_option linter.unusedSimpArgs false
set_option linter.unusedVariables false
namespace Go.Proofs
open Go.Shelf
open Tryz
def Tryz.laysSort_ren:Go.Shelf.Ren:=⟨fun | 6=>162 | 15=>197 | 14=>196 | 28=>234 | 29=>185 | 20=>226 | 21=>227 | 22=>228 | 23=>229 | 24=>230 | 25=>231 | 26=>232 | 27=>233 | 46=>248 | 47=>249 | 48=>250 | 49=>251 | 50=>252 | 57=>261 | n=>n,fun | 22=>33 | 24=>9 | 25=>86 | 3=>3 | 39=>105 | 0=>0 | 53=>219 | 55=>158 | 4=>4 | 46=>249 | 45=>248 | 50=>72 | 5=>5 | 9=>9 | 66=>272 | 70=>113 | 76=>286 | 77=>287 | n=>n,fun | n=>n⟩
theorem Tryz.laysSort:Go.Proofs.SlLaysF.n6 prog Tryz.laysSort_ren:={
 mixed:=by kernel_rfl
 f6:=⟨f162.name,by decide,func162.trans (congrArg some (by kernel_rfl))⟩
 f14:=⟨f196.name,by decide,func196.trans (congrArg some (by kernel_rfl))⟩
 f15:=func197.trans (congrArg some (by kernel_rfl))
 f20:=⟨f226.name,by decide,func226.trans (congrArg some (by kernel_rfl))⟩
 f21:=⟨f227.name,by decide,func227.trans (congrArg some (by kernel_rfl))⟩
 f22:=⟨f228.name,by decide,func228.trans (congrArg some (by kernel_rfl))⟩
 f23:=⟨f229.name,by decide,func229.trans (congrArg some (by kernel_rfl))⟩
 f24:=⟨f230.name,by decide,func230.trans (congrArg some (by kernel_rfl))⟩
 f25:=⟨f231.name,by decide,func231.trans (congrArg some (by kernel_rfl))⟩
 f26:=⟨f232.name,by decide,func232.trans (congrArg some (by kernel_rfl))⟩
 f27:=⟨f233.name,by decide,func233.trans (congrArg some (by kernel_rfl))⟩
 f28:=func234.trans (congrArg some (by kernel_rfl))
 f29:=func185.trans (congrArg some (by kernel_rfl))
 f46:=⟨f248.name,by decide,func248.trans (congrArg some (by kernel_rfl))⟩
 f47:=func249.trans (congrArg some (by kernel_rfl))
 f48:=func250.trans (congrArg some (by kernel_rfl))
 f49:=⟨f251.name,by decide,func251.trans (congrArg some (by kernel_rfl))⟩
 f50:=⟨f252.name,by decide,func252.trans (congrArg some (by kernel_rfl))⟩
 f57:=⟨f261.name,by decide,func261.trans (congrArg some (by kernel_rfl))⟩
 t0:=underlying0
 a0:=isAgg0
 z0:=sizeOf0
 v0:=zeroValue0
 t3:=underlying3
 a3:=isAgg3
 z3:=sizeOf3
 v3:=zeroValue3
 t4:=underlying4
 a4:=isAgg4
 z4:=sizeOf4
 v4:=zeroValue4
 t5:=underlying5
 a5:=isAgg5
 z5:=sizeOf5
 v5:=zeroValue5
 t9:=underlying9
 a9:=isAgg9
 z9:=sizeOf9
 v9:=zeroValue9
 t22:=underlying33
 a22:=isAgg33
 z22:=sizeOf33
 v22:=zeroValue33
 a24:=isAgg9
 z24:=sizeOf9
 t25:=underlying86
 a25:=isAgg86
 z25:=sizeOf86
 v25:=zeroValue86
 t39:=underlying105
 a39:=isAgg105
 z39:=sizeOf105
 v39:=zeroValue105
 t45:=underlying248
 a45:=isAgg248
 z45:=sizeOf248
 v45:=zeroValue248
 t46:=underlying249
 a46:=isAgg249
 z46:=sizeOf249
 v46:=zeroValue249
 t50:=underlying72
 a50:=isAgg72
 z50:=sizeOf72
 v50:=zeroValue72
 t53:=underlying219
 a53:=isAgg219
 z53:=sizeOf219
 v53:=zeroValue219
 t55:=underlying158
 a55:=isAgg158
 z55:=sizeOf158
 v55:=zeroValue158
 t66:=underlying272
 a66:=isAgg272
 z66:=sizeOf272
 v66:=zeroValue272
 t70:=underlying113
 a70:=isAgg113
 z70:=sizeOf113
 v70:=zeroValue113
 t76:=underlying286
 a76:=isAgg286
 z76:=sizeOf286
 v76:=zeroValue286
 t77:=underlying287
 a77:=isAgg287
 z77:=sizeOf287
 v77:=zeroValue287 }
def Tryz.lays103_ren:Go.Shelf.Ren:=⟨fun | 103=>165 | 210=>198 | 206=>190 | n=>n,fun | 9=>9 | 4=>4 | 24=>199 | 3=>3 | n=>n,fun | n=>n⟩
theorem Tryz.lays103:Go.Proofs.Lays.n103 prog Tryz.lays103_ren:={
 mixed:=by kernel_rfl
 f103:=func165.trans (congrArg some (by kernel_rfl))
 f206:=func190.trans (congrArg some (by kernel_rfl))
 f210:=func198.trans (congrArg some (by kernel_rfl))
 t3:=underlying3
 a3:=isAgg3
 z3:=sizeOf3
 v3:=zeroValue3
 t4:=underlying4
 a4:=isAgg4
 z4:=sizeOf4
 v4:=zeroValue4
 t9:=underlying9
 a9:=isAgg9
 z9:=sizeOf9
 v9:=zeroValue9
 t24:=underlying199
 a24:=isAgg199
 z24:=sizeOf199
 v24:=zeroValue199 }
theorem Tryz.strings_CutPrefix (s p:ByteArray) (w:World) :
 Calls prog 165 #[.string s,.string p] w fun e w'=>e=.returned (.tuple #[.string ⟨(Lib.trimPrefix s.data.toList p.data.toList).toArray⟩,.bool (Lib.hasPrefix s.data.toList p.data.toList)])/\w'=w:=Any.strings_CutPrefix Tryz.lays103 s p w
def Tryz.lays106o_ren:Go.Shelf.Ren:=⟨fun | 106=>47 | 213=>62 | 265=>76 | n=>n,fun | 9=>9 | 3=>3 | n=>n,fun | n=>n⟩
theorem Tryz.lays106o:Go.Proofs.Lays.n106 prog Tryz.lays106o_ren:={
 mixed:=by kernel_rfl
 f106:=func47.trans (congrArg some (by kernel_rfl))
 f213:=func62.trans (congrArg some (by kernel_rfl))
 f265:=func76.trans (congrArg some (by kernel_rfl))
 t3:=underlying3
 a3:=isAgg3
 z3:=sizeOf3
 v3:=zeroValue3
 t9:=underlying9
 a9:=isAgg9
 z9:=sizeOf9
 v9:=zeroValue9 }
theorem Tryz.strCompare (a b:ByteArray) (w:World) :
 Calls prog 47 #[.string a,.string b] w fun e w'=>e=.returned (.int .i64 (Lib.compareBytes a.data.toList b.data.toList))/\w'=w:=Any.strings_Compare Tryz.lays106o a b w
end Go.Proofs
namespace Go.Proofs
open Go.Shelf
open Tryz
def Tryz.lays193_ren:Go.Shelf.Ren:=⟨fun | 193=>33 | n=>n,fun | 31=>33 | 9=>9 | 4=>4 | 3=>3 | 0=>0 | n=>n,fun | n=>n⟩
theorem Tryz.lays193:Go.Proofs.Lays.n193 prog Tryz.lays193_ren:={
 mixed:=by kernel_rfl
 f193:=func33.trans (congrArg some (by kernel_rfl))
 t0:=underlying0
 a0:=isAgg0
 z0:=sizeOf0
 v0:=zeroValue0
 t3:=underlying3
 a3:=isAgg3
 z3:=sizeOf3
 v3:=zeroValue3
 t4:=underlying4
 a4:=isAgg4
 z4:=sizeOf4
 v4:=zeroValue4
 t9:=underlying9
 a9:=isAgg9
 z9:=sizeOf9
 v9:=zeroValue9
 t31:=underlying33
 a31:=isAgg33
 z31:=sizeOf33
 v31:=zeroValue33 }
open Go.RowKit Go.Lib in
theorem Tryz.slices_Equal_string (b1 o1 n c b2 o2 m d:Nat) (xs ys:List ByteArray) (w:World) (hx:n<=xs.length) (hy:m<=ys.length) (hbig:n<=9223372036854775807) (hbig2:m<=9223372036854775807) (hc1:∀ j,j < xs.length->w.cell? ⟨b1,o1+j,none⟩=some (.string (xs.getD j ByteArray.empty))) (hc2:∀ j,j < ys.length->w.cell? ⟨b2,o2+j,none⟩=some (.string (ys.getD j ByteArray.empty))) :
 Calls prog 33 #[.slice (some ⟨b1,o1,none⟩) n c,.slice (some ⟨b2,o2,none⟩) m d] w fun e w'=>e=.returned (.bool (decide (xs.take n=ys.take m)))/\∃ q,w'=w.drewN q:=Any.slices_Equal_string Tryz.lays193 b1 o1 n c b2 o2 m d xs ys w hx hy hbig hbig2 hc1 hc2
open Go.RowKit Go.Lib in
theorem Tryz.slices_Equal_string_empty (a1 a2:Option Addr) (c m d:Nat) (w:World) (hbig2:m<=9223372036854775807) :
 Calls prog 33 #[.slice a1 0 c,.slice a2 m d] w fun e w'=>e=.returned (.bool (decide (m=0)))/\w'=w:=Any.slices_Equal_string_empty Tryz.lays193 a1 a2 c m d w hbig2
open Go.RowKit Go.Lib in
theorem Tryz.slices_Equal_string_lens (a1 a2:Option Addr) (n c m d:Nat) (w:World) (hnm:n≠m) :
 Calls prog 33 #[.slice a1 n c,.slice a2 m d] w fun e w'=>e=.returned (.bool false)/\w'=w:=Any.slices_Equal_string_lens Tryz.lays193 a1 a2 n c m d w hnm
end Go.Proofs
