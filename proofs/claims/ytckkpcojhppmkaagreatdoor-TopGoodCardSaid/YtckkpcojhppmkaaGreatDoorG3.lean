import Derived.Shelf.SlSortCmp.NoneTotal
import Derived.Shelf.SlCmpFuncs.BinarySearchFunc
import Derived.Shelf.SlicesE.IndexFunc
import Derived.Shelf.SlicesQ.IndexFunc
import Derived.Shelf.Small.Wraps
import Derived.Shelf.Small.Strs
import Derived.Test.YtckkpcojhppmkaaGreatDoorProg
import Derived.Shelf.Strings.BuilderK
import Derived.Shelf.Utf8.RuneCount
import Derived.Shelf.Strings.Builder2Cap
import Derived.Shelf.Strconv.Itoa3
import Derived.Shelf.Strconv.ErrVarAll
import Derived.Shelf.Strconv.ParseUintEmpty
import Derived.Shelf.Strconv.ParseUint10b64
import Derived.Shelf.Strconv.ParseUint10b32
import Derived.Shelf.Strconv.ParseUint10b16
import Derived.Shelf.Strconv.ParseUint10b8
import Derived.Shelf.Strings.Shaped
import Derived.Shelf.Strconv.AppendIntPublic10
import Derived.Shelf.Strings.SplitShaped
import Derived.Shelf.Strings.Explode
import Derived.Shelf.Unicode.DecodeAny
import Derived.Shelf.Slices.Turned
import Derived.Shelf.Slices.Clone
import Derived.Shelf.Slices.Empties2
import Derived.Shelf.SlicesE.Clone
set_option maxRecDepth 100000
set_option maxHeartbeats 40000000
set_option linter.unusedSimpArgs false
set_option linter.unusedVariables false
namespace Go.Proofs
open Go.Shelf
open Tryz
def Tryz.laysSort_ren:Go.Shelf.Ren:=⟨fun | 6=>186 | 15=>218 | 14=>217 | 28=>247 | 29=>208 | 20=>239 | 21=>240 | 22=>241 | 23=>242 | 24=>243 | 25=>244 | 26=>245 | 27=>246 | 46=>256 | 47=>257 | 48=>258 | 49=>259 | 50=>260 | 57=>263 | n=>n,fun | 22=>33 | 24=>9 | 25=>105 | 3=>3 | 39=>127 | 0=>0 | 53=>186 | 55=>190 | 4=>4 | 46=>261 | 45=>260 | 50=>88 | 5=>5 | 9=>9 | 66=>280 | 70=>71 | 76=>289 | 77=>290 | n=>n,fun | n=>n⟩
theorem Tryz.laysSort:Go.Proofs.SlLaysF.n6 prog Tryz.laysSort_ren:={
 mixed:=by kernel_rfl
 f6:=⟨f186.name,by decide,func186.trans (congrArg some (by kernel_rfl))⟩
 f14:=⟨f217.name,by decide,func217.trans (congrArg some (by kernel_rfl))⟩
 f15:=func218.trans (congrArg some (by kernel_rfl))
 f20:=⟨f239.name,by decide,func239.trans (congrArg some (by kernel_rfl))⟩
 f21:=⟨f240.name,by decide,func240.trans (congrArg some (by kernel_rfl))⟩
 f22:=⟨f241.name,by decide,func241.trans (congrArg some (by kernel_rfl))⟩
 f23:=⟨f242.name,by decide,func242.trans (congrArg some (by kernel_rfl))⟩
 f24:=⟨f243.name,by decide,func243.trans (congrArg some (by kernel_rfl))⟩
 f25:=⟨f244.name,by decide,func244.trans (congrArg some (by kernel_rfl))⟩
 f26:=⟨f245.name,by decide,func245.trans (congrArg some (by kernel_rfl))⟩
 f27:=⟨f246.name,by decide,func246.trans (congrArg some (by kernel_rfl))⟩
 f28:=func247.trans (congrArg some (by kernel_rfl))
 f29:=func208.trans (congrArg some (by kernel_rfl))
 f46:=⟨f256.name,by decide,func256.trans (congrArg some (by kernel_rfl))⟩
 f47:=func257.trans (congrArg some (by kernel_rfl))
 f48:=func258.trans (congrArg some (by kernel_rfl))
 f49:=⟨f259.name,by decide,func259.trans (congrArg some (by kernel_rfl))⟩
 f50:=⟨f260.name,by decide,func260.trans (congrArg some (by kernel_rfl))⟩
 f57:=⟨f263.name,by decide,func263.trans (congrArg some (by kernel_rfl))⟩
 t0:=underlying0
 a0:=isAgg0
 z0:=sizeOf0
 v0:=zeroValue0
 t3:=underlying3
 a3:=isAgg3
 z3:=sizeOf3
 v3:=zeroValue3
 t4:=underlying4
 a4:=isAgg4
 z4:=sizeOf4
 v4:=zeroValue4
 t5:=underlying5
 a5:=isAgg5
 z5:=sizeOf5
 v5:=zeroValue5
 t9:=underlying9
 a9:=isAgg9
 z9:=sizeOf9
 v9:=zeroValue9
 t22:=underlying33
 a22:=isAgg33
 z22:=sizeOf33
 v22:=zeroValue33
 a24:=isAgg9
 z24:=sizeOf9
 t25:=underlying105
 a25:=isAgg105
 z25:=sizeOf105
 v25:=zeroValue105
 t39:=underlying127
 a39:=isAgg127
 z39:=sizeOf127
 v39:=zeroValue127
 t45:=underlying260
 a45:=isAgg260
 z45:=sizeOf260
 v45:=zeroValue260
 t46:=underlying261
 a46:=isAgg261
 z46:=sizeOf261
 v46:=zeroValue261
 t50:=underlying88
 a50:=isAgg88
 z50:=sizeOf88
 v50:=zeroValue88
 t53:=underlying186
 a53:=isAgg186
 z53:=sizeOf186
 v53:=zeroValue186
 t55:=underlying190
 a55:=isAgg190
 z55:=sizeOf190
 v55:=zeroValue190
 t66:=underlying280
 a66:=isAgg280
 z66:=sizeOf280
 v66:=zeroValue280
 t70:=underlying71
 a70:=isAgg71
 z70:=sizeOf71
 v70:=zeroValue71
 t76:=underlying289
 a76:=isAgg289
 z76:=sizeOf289
 v76:=zeroValue289
 t77:=underlying290
 a77:=isAgg290
 z77:=sizeOf290
 v77:=zeroValue290 }
def Tryz.lays103_ren:Go.Shelf.Ren:=⟨fun | 103=>189 | 210=>219 | 206=>212 | n=>n,fun | 9=>9 | 4=>4 | 24=>225 | 3=>3 | n=>n,fun | n=>n⟩
theorem Tryz.lays103:Go.Proofs.Lays.n103 prog Tryz.lays103_ren:={
 mixed:=by kernel_rfl
 f103:=func189.trans (congrArg some (by kernel_rfl))
 f206:=func212.trans (congrArg some (by kernel_rfl))
 f210:=func219.trans (congrArg some (by kernel_rfl))
 t3:=underlying3
 a3:=isAgg3
 z3:=sizeOf3
 v3:=zeroValue3
 t4:=underlying4
 a4:=isAgg4
 z4:=sizeOf4
 v4:=zeroValue4
 t9:=underlying9
 a9:=isAgg9
 z9:=sizeOf9
 v9:=zeroValue9
 t24:=underlying225
 a24:=isAgg225
 z24:=sizeOf225
 v24:=zeroValue225 }
theorem Tryz.strings_CutPrefix (s p:ByteArray) (w:World) :
 Calls prog 189 #[.string s,.string p] w fun e w'=>e=.returned (.tuple #[.string ⟨(Lib.trimPrefix s.data.toList p.data.toList).toArray⟩,.bool (Lib.hasPrefix s.data.toList p.data.toList)])/\w'=w:=Any.strings_CutPrefix Tryz.lays103 s p w
def Tryz.lays106o_ren:Go.Shelf.Ren:=⟨fun | 106=>66 | 213=>82 | 265=>99 | n=>n,fun | 9=>9 | 3=>3 | n=>n,fun | n=>n⟩
theorem Tryz.lays106o:Go.Proofs.Lays.n106 prog Tryz.lays106o_ren:={
 mixed:=by kernel_rfl
 f106:=func66.trans (congrArg some (by kernel_rfl))
 f213:=func82.trans (congrArg some (by kernel_rfl))
 f265:=func99.trans (congrArg some (by kernel_rfl))
 t3:=underlying3
 a3:=isAgg3
 z3:=sizeOf3
 v3:=zeroValue3
 t9:=underlying9
 a9:=isAgg9
 z9:=sizeOf9
 v9:=zeroValue9 }
theorem Tryz.strCompare (a b:ByteArray) (w:World) :
 Calls prog 66 #[.string a,.string b] w fun e w'=>e=.returned (.int .i64 (Lib.compareBytes a.data.toList b.data.toList))/\w'=w:=Any.strings_Compare Tryz.lays106o a b w
end Go.Proofs
namespace Go.Proofs
open Go.Shelf
open Tryz
def Tryz.lays193_ren:Go.Shelf.Ren:=⟨fun | 193=>112 | n=>n,fun | 31=>33 | 9=>9 | 4=>4 | 3=>3 | 0=>0 | n=>n,fun | n=>n⟩
theorem Tryz.lays193:Go.Proofs.Lays.n193 prog Tryz.lays193_ren:={
 mixed:=by kernel_rfl
 f193:=func112.trans (congrArg some (by kernel_rfl))
 t0:=underlying0
 a0:=isAgg0
 z0:=sizeOf0
 v0:=zeroValue0
 t3:=underlying3
 a3:=isAgg3
 z3:=sizeOf3
 v3:=zeroValue3
 t4:=underlying4
 a4:=isAgg4
 z4:=sizeOf4
 v4:=zeroValue4
 t9:=underlying9
 a9:=isAgg9
 z9:=sizeOf9
 v9:=zeroValue9
 t31:=underlying33
 a31:=isAgg33
 z31:=sizeOf33
 v31:=zeroValue33 }
open Go.RowKit Go.Lib in
theorem Tryz.slices_Equal_string (b1 o1 n c b2 o2 m d:Nat) (xs ys:List ByteArray) (w:World) (hx:n<=xs.length) (hy:m<=ys.length) (hbig:n<=9223372036854775807) (hbig2:m<=9223372036854775807) (hc1:∀ j,j < xs.length->w.cell? ⟨b1,o1+j,none⟩=some (.string (xs.getD j ByteArray.empty))) (hc2:∀ j,j < ys.length->w.cell? ⟨b2,o2+j,none⟩=some (.string (ys.getD j ByteArray.empty))) :
 Calls prog 112 #[.slice (some ⟨b1,o1,none⟩) n c,.slice (some ⟨b2,o2,none⟩) m d] w fun e w'=>e=.returned (.bool (decide (xs.take n=ys.take m)))/\∃ q,w'=w.drewN q:=Any.slices_Equal_string Tryz.lays193 b1 o1 n c b2 o2 m d xs ys w hx hy hbig hbig2 hc1 hc2
open Go.RowKit Go.Lib in
theorem Tryz.slices_Equal_string_empty (a1 a2:Option Addr) (c m d:Nat) (w:World) (hbig2:m<=9223372036854775807) :
 Calls prog 112 #[.slice a1 0 c,.slice a2 m d] w fun e w'=>e=.returned (.bool (decide (m=0)))/\w'=w:=Any.slices_Equal_string_empty Tryz.lays193 a1 a2 c m d w hbig2
open Go.RowKit Go.Lib in
theorem Tryz.slices_Equal_string_lens (a1 a2:Option Addr) (n c m d:Nat) (w:World) (hnm:n≠m) :
 Calls prog 112 #[.slice a1 n c,.slice a2 m d] w fun e w'=>e=.returned (.bool false)/\w'=w:=Any.slices_Equal_string_lens Tryz.lays193 a1 a2 n c m d w hnm
end Go.Proofs
