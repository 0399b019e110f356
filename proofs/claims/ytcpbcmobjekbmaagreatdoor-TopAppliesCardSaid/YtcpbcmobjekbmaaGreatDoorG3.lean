import Derived.Shelf.SlSortCmp.NoneTotal
import Derived.Shelf.SlCmpFuncs.BinarySearchFunc
import Derived.Shelf.SlicesE.IndexFunc
import Derived.Shelf.SlicesQ.IndexFunc
import Derived.Shelf.Small.Wraps
import Derived.Shelf.Small.Strs
import Derived.Test.YtcpbcmobjekbmaaGreatDoorProg
import Derived.Shelf.Strings.BuilderK
import Derived.Shelf.Utf8.RuneCount
import Derived.Shelf.Strings.Builder2Cap
import Derived.Shelf.Strconv.Itoa3
import Derived.Shelf.Strconv.ErrVarAll
import Derived.Shelf.Strconv.ParseUintEmpty
import Derived.Shelf.Strconv.ParseUint10b64
import Derived.Shelf.Strconv.ParseUint10b32
import Derived.Shelf.Strconv.ParseUint10b16
import Derived.Shelf.Strconv.ParseUint10b8
import Derived.Shelf.Strings.Shaped
import Derived.Shelf.Strconv.AppendIntPublic10
import Derived.Shelf.Strings.SplitShaped
import Derived.Shelf.Strings.Explode
import Derived.Shelf.Unicode.DecodeAny
import Derived.Shelf.Slices.Turned
import Derived.Shelf.Slices.Clone
import Derived.Shelf.Slices.Empties2
import Derived.Shelf.SlicesE.Clone
set_option maxRecDepth 100000
set_option maxHeartbeats 40000000
set_option linter.unusedSimpArgs false
set_option linter.unusedVariables false
namespace Go.Proofs
open Go.Shelf
open Tryz
def Tryz.laysSort_ren:Go.Shelf.Ren:=⟨fun | 6=>22 | 15=>44 | 14=>43 | 28=>84 | 29=>85 | 20=>76 | 21=>77 | 22=>78 | 23=>79 | 24=>80 | 25=>81 | 26=>82 | 27=>83 | 46=>110 | 47=>111 | 48=>112 | 49=>113 | 50=>114 | 57=>145 | n=>n,fun | 22=>32 | 24=>9 | 25=>68 | 3=>3 | 39=>89 | 0=>0 | 53=>123 | 55=>125 | 4=>4 | 46=>117 | 45=>116 | 50=>92 | 5=>5 | 9=>9 | 66=>148 | 70=>82 | 76=>183 | 77=>184 | n=>n,fun | n=>n⟩
theorem Tryz.laysSort:Go.Proofs.SlLaysF.n6 prog Tryz.laysSort_ren:={
 mixed:=by kernel_rfl
 f6:=⟨f22.name,by decide,func22.trans (congrArg some (by kernel_rfl))⟩
 f14:=⟨f43.name,by decide,func43.trans (congrArg some (by kernel_rfl))⟩
 f15:=func44.trans (congrArg some (by kernel_rfl))
 f20:=⟨f76.name,by decide,func76.trans (congrArg some (by kernel_rfl))⟩
 f21:=⟨f77.name,by decide,func77.trans (congrArg some (by kernel_rfl))⟩
 f22:=⟨f78.name,by decide,func78.trans (congrArg some (by kernel_rfl))⟩
 f23:=⟨f79.name,by decide,func79.trans (congrArg some (by kernel_rfl))⟩
 f24:=⟨f80.name,by decide,func80.trans (congrArg some (by kernel_rfl))⟩
 f25:=⟨f81.name,by decide,func81.trans (congrArg some (by kernel_rfl))⟩
 f26:=⟨f82.name,by decide,func82.trans (congrArg some (by kernel_rfl))⟩
 f27:=⟨f83.name,by decide,func83.trans (congrArg some (by kernel_rfl))⟩
 f28:=func84.trans (congrArg some (by kernel_rfl))
 f29:=func85.trans (congrArg some (by kernel_rfl))
 f46:=⟨f110.name,by decide,func110.trans (congrArg some (by kernel_rfl))⟩
 f47:=func111.trans (congrArg some (by kernel_rfl))
 f48:=func112.trans (congrArg some (by kernel_rfl))
 f49:=⟨f113.name,by decide,func113.trans (congrArg some (by kernel_rfl))⟩
 f50:=⟨f114.name,by decide,func114.trans (congrArg some (by kernel_rfl))⟩
 f57:=⟨f145.name,by decide,func145.trans (congrArg some (by kernel_rfl))⟩
 t0:=underlying0
 a0:=isAgg0
 z0:=sizeOf0
 v0:=zeroValue0
 t3:=underlying3
 a3:=isAgg3
 z3:=sizeOf3
 v3:=zeroValue3
 t4:=underlying4
 a4:=isAgg4
 z4:=sizeOf4
 v4:=zeroValue4
 t5:=underlying5
 a5:=isAgg5
 z5:=sizeOf5
 v5:=zeroValue5
 t9:=underlying9
 a9:=isAgg9
 z9:=sizeOf9
 v9:=zeroValue9
 t22:=underlying32
 a22:=isAgg32
 z22:=sizeOf32
 v22:=zeroValue32
 a24:=isAgg9
 z24:=sizeOf9
 t25:=underlying68
 a25:=isAgg68
 z25:=sizeOf68
 v25:=zeroValue68
 t39:=underlying89
 a39:=isAgg89
 z39:=sizeOf89
 v39:=zeroValue89
 t45:=underlying116
 a45:=isAgg116
 z45:=sizeOf116
 v45:=zeroValue116
 t46:=underlying117
 a46:=isAgg117
 z46:=sizeOf117
 v46:=zeroValue117
 t50:=underlying92
 a50:=isAgg92
 z50:=sizeOf92
 v50:=zeroValue92
 t53:=underlying123
 a53:=isAgg123
 z53:=sizeOf123
 v53:=zeroValue123
 t55:=underlying125
 a55:=isAgg125
 z55:=sizeOf125
 v55:=zeroValue125
 t66:=underlying148
 a66:=isAgg148
 z66:=sizeOf148
 v66:=zeroValue148
 t70:=underlying82
 a70:=isAgg82
 z70:=sizeOf82
 v70:=zeroValue82
 t76:=underlying183
 a76:=isAgg183
 z76:=sizeOf183
 v76:=zeroValue183
 t77:=underlying184
 a77:=isAgg184
 z77:=sizeOf184
 v77:=zeroValue184 }
def Tryz.lays103_ren:Go.Shelf.Ren:=⟨fun | 103=>234 | 210=>251 | 206=>99 | n=>n,fun | 9=>9 | 4=>4 | 24=>271 | 3=>3 | n=>n,fun | n=>n⟩
theorem Tryz.lays103:Go.Proofs.Lays.n103 prog Tryz.lays103_ren:={
 mixed:=by kernel_rfl
 f103:=func234.trans (congrArg some (by kernel_rfl))
 f206:=func99.trans (congrArg some (by kernel_rfl))
 f210:=func251.trans (congrArg some (by kernel_rfl))
 t3:=underlying3
 a3:=isAgg3
 z3:=sizeOf3
 v3:=zeroValue3
 t4:=underlying4
 a4:=isAgg4
 z4:=sizeOf4
 v4:=zeroValue4
 t9:=underlying9
 a9:=isAgg9
 z9:=sizeOf9
 v9:=zeroValue9
 t24:=underlying271
 a24:=isAgg271
 z24:=sizeOf271
 v24:=zeroValue271 }
theorem Tryz.strings_CutPrefix (s p:ByteArray) (w:World) :
 Calls prog 234 #[.string s,.string p] w fun e w'=>e=.returned (.tuple #[.string ⟨(Lib.trimPrefix s.data.toList p.data.toList).toArray⟩,.bool (Lib.hasPrefix s.data.toList p.data.toList)])/\w'=w:=Any.strings_CutPrefix Tryz.lays103 s p w
def Tryz.lays106o_ren:Go.Shelf.Ren:=⟨fun | 106=>23 | 213=>45 | 265=>86 | n=>n,fun | 9=>9 | 3=>3 | n=>n,fun | n=>n⟩
theorem Tryz.lays106o:Go.Proofs.Lays.n106 prog Tryz.lays106o_ren:={
 mixed:=by kernel_rfl
 f106:=func23.trans (congrArg some (by kernel_rfl))
 f213:=func45.trans (congrArg some (by kernel_rfl))
 f265:=func86.trans (congrArg some (by kernel_rfl))
 t3:=underlying3
 a3:=isAgg3
 z3:=sizeOf3
 v3:=zeroValue3
 t9:=underlying9
 a9:=isAgg9
 z9:=sizeOf9
 v9:=zeroValue9 }
theorem Tryz.strCompare (a b:ByteArray) (w:World) :
 Calls prog 23 #[.string a,.string b] w fun e w'=>e=.returned (.int .i64 (Lib.compareBytes a.data.toList b.data.toList))/\w'=w:=Any.strings_Compare Tryz.lays106o a b w
end Go.Proofs
namespace Go.Proofs
open Go.Shelf
open Tryz
def Tryz.lays193_ren:Go.Shelf.Ren:=⟨fun | 193=>51 | n=>n,fun | 31=>32 | 9=>9 | 4=>4 | 3=>3 | 0=>0 | n=>n,fun | n=>n⟩
theorem Tryz.lays193:Go.Proofs.Lays.n193 prog Tryz.lays193_ren:={
 mixed:=by kernel_rfl
 f193:=func51.trans (congrArg some (by kernel_rfl))
 t0:=underlying0
 a0:=isAgg0
 z0:=sizeOf0
 v0:=zeroValue0
 t3:=underlying3
 a3:=isAgg3
 z3:=sizeOf3
 v3:=zeroValue3
 t4:=underlying4
 a4:=isAgg4
 z4:=sizeOf4
 v4:=zeroValue4
 t9:=underlying9
 a9:=isAgg9
 z9:=sizeOf9
 v9:=zeroValue9
 t31:=underlying32
 a31:=isAgg32
 z31:=sizeOf32
 v31:=zeroValue32 }
open Go.RowKit Go.Lib in
theorem Tryz.slices_Equal_string (b1 o1 n c b2 o2 m d:Nat) (xs ys:List ByteArray) (w:World) (hx:n<=xs.length) (hy:m<=ys.length) (hbig:n<=9223372036854775807) (hbig2:m<=9223372036854775807) (hc1:∀ j,j < xs.length->w.cell? ⟨b1,o1+j,none⟩=some (.string (xs.getD j ByteArray.empty))) (hc2:∀ j,j < ys.length->w.cell? ⟨b2,o2+j,none⟩=some (.string (ys.getD j ByteArray.empty))) :
 Calls prog 51 #[.slice (some ⟨b1,o1,none⟩) n c,.slice (some ⟨b2,o2,none⟩) m d] w fun e w'=>e=.returned (.bool (decide (xs.take n=ys.take m)))/\∃ q,w'=w.drewN q:=Any.slices_Equal_string Tryz.lays193 b1 o1 n c b2 o2 m d xs ys w hx hy hbig hbig2 hc1 hc2
open Go.RowKit Go.Lib in
theorem Tryz.slices_Equal_string_empty (a1 a2:Option Addr) (c m d:Nat) (w:World) (hbig2:m<=9223372036854775807) :
 Calls prog 51 #[.slice a1 0 c,.slice a2 m d] w fun e w'=>e=.returned (.bool (decide (m=0)))/\w'=w:=Any.slices_Equal_string_empty Tryz.lays193 a1 a2 c m d w hbig2
open Go.RowKit Go.Lib in
theorem Tryz.slices_Equal_string_lens (a1 a2:Option Addr) (n c m d:Nat) (w:World) (hnm:n≠m) :
 Calls prog 51 #[.slice a1 n c,.slice a2 m d] w fun e w'=>e=.returned (.bool false)/\w'=w:=Any.slices_Equal_string_lens Tryz.lays193 a1 a2 n c m d w hnm
end Go.Proofs
