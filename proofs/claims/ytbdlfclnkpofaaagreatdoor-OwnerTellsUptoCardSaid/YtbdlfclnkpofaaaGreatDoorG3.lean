import Derived.Shelf.SlSortCmp.NoneTotal
import Derived.Shelf.SlCmpFuncs.BinarySearchFunc
import Derived.Shelf.SlicesE.IndexFunc
import Derived.Shelf.SlicesQ.IndexFunc
import Derived.Shelf.Small.Wraps
import Derived.Shelf.Small.Strs
import Derived.Test.YtbdlfclnkpofaaaGreatDoorProg
set_option maxRecDepth 100000
set_option maxHeartbeats 40000000
set_option linter.unusedSimpArgs false
set_option linter.unusedVariables false
namespace Go.Proofs
open Go.Shelf
open Tryz
def Tryz.laysSort_ren:Go.Shelf.Ren:=⟨fun | 6=>47 | 15=>79 | 14=>78 | 28=>119 | 29=>120 | 20=>111 | 21=>112 | 22=>113 | 23=>114 | 24=>115 | 25=>116 | 26=>117 | 27=>118 | 46=>147 | 47=>148 | 48=>149 | 49=>150 | 50=>151 | 57=>164 | n=>n,fun | 22=>22 | 24=>9 | 25=>75 | 3=>3 | 39=>98 | 0=>0 | 53=>130 | 55=>132 | 4=>4 | 46=>124 | 45=>123 | 50=>85 | 5=>5 | 9=>9 | 66=>143 | 70=>89 | 76=>158 | 77=>78 | n=>n,fun | n=>n⟩
theorem Tryz.laysSort:Go.Proofs.SlLaysF.n6 prog Tryz.laysSort_ren:={
 mixed:=by kernel_rfl
 f6:=⟨f47.name,by decide,func47.trans (congrArg some (by kernel_rfl))⟩
 f14:=⟨f78.name,by decide,func78.trans (congrArg some (by kernel_rfl))⟩
 f15:=func79.trans (congrArg some (by kernel_rfl))
 f20:=⟨f111.name,by decide,func111.trans (congrArg some (by kernel_rfl))⟩
 f21:=⟨f112.name,by decide,func112.trans (congrArg some (by kernel_rfl))⟩
 f22:=⟨f113.name,by decide,func113.trans (congrArg some (by kernel_rfl))⟩
 f23:=⟨f114.name,by decide,func114.trans (congrArg some (by kernel_rfl))⟩
 f24:=⟨f115.name,by decide,func115.trans (congrArg some (by kernel_rfl))⟩
 f25:=⟨f116.name,by decide,func116.trans (congrArg some (by kernel_rfl))⟩
 f26:=⟨f117.name,by decide,func117.trans (congrArg some (by kernel_rfl))⟩
 f27:=⟨f118.name,by decide,func118.trans (congrArg some (by kernel_rfl))⟩
 f28:=func119.trans (congrArg some (by kernel_rfl))
 f29:=func120.trans (congrArg some (by kernel_rfl))
 f46:=⟨f147.name,by decide,func147.trans (congrArg some (by kernel_rfl))⟩
 f47:=func148.trans (congrArg some (by kernel_rfl))
 f48:=func149.trans (congrArg some (by kernel_rfl))
 f49:=⟨f150.name,by decide,func150.trans (congrArg some (by kernel_rfl))⟩
 f50:=⟨f151.name,by decide,func151.trans (congrArg some (by kernel_rfl))⟩
 f57:=⟨f164.name,by decide,func164.trans (congrArg some (by kernel_rfl))⟩
 t0:=underlying0
 a0:=isAgg0
 z0:=sizeOf0
 v0:=zeroValue0
 t3:=underlying3
 a3:=isAgg3
 z3:=sizeOf3
 v3:=zeroValue3
 t4:=underlying4
 a4:=isAgg4
 z4:=sizeOf4
 v4:=zeroValue4
 t5:=underlying5
 a5:=isAgg5
 z5:=sizeOf5
 v5:=zeroValue5
 t9:=underlying9
 a9:=isAgg9
 z9:=sizeOf9
 v9:=zeroValue9
 t22:=underlying22
 a22:=isAgg22
 z22:=sizeOf22
 v22:=zeroValue22
 a24:=isAgg9
 z24:=sizeOf9
 t25:=underlying75
 a25:=isAgg75
 z25:=sizeOf75
 v25:=zeroValue75
 t39:=underlying98
 a39:=isAgg98
 z39:=sizeOf98
 v39:=zeroValue98
 t45:=underlying123
 a45:=isAgg123
 z45:=sizeOf123
 v45:=zeroValue123
 t46:=underlying124
 a46:=isAgg124
 z46:=sizeOf124
 v46:=zeroValue124
 t50:=underlying85
 a50:=isAgg85
 z50:=sizeOf85
 v50:=zeroValue85
 t53:=underlying130
 a53:=isAgg130
 z53:=sizeOf130
 v53:=zeroValue130
 t55:=underlying132
 a55:=isAgg132
 z55:=sizeOf132
 v55:=zeroValue132
 t66:=underlying143
 a66:=isAgg143
 z66:=sizeOf143
 v66:=zeroValue143
 t70:=underlying89
 a70:=isAgg89
 z70:=sizeOf89
 v70:=zeroValue89
 t76:=underlying158
 a76:=isAgg158
 z76:=sizeOf158
 v76:=zeroValue158
 t77:=underlying78
 a77:=isAgg78
 z77:=sizeOf78
 v77:=zeroValue78 }
def Tryz.lays103_ren:Go.Shelf.Ren:=⟨fun | 103=>85 | 210=>123 | 206=>124 | n=>n,fun | 9=>9 | 4=>4 | 24=>101 | 3=>3 | n=>n,fun | n=>n⟩
theorem Tryz.lays103:Go.Proofs.Lays.n103 prog Tryz.lays103_ren:={
 mixed:=by kernel_rfl
 f103:=func85.trans (congrArg some (by kernel_rfl))
 f206:=func124.trans (congrArg some (by kernel_rfl))
 f210:=func123.trans (congrArg some (by kernel_rfl))
 t3:=underlying3
 a3:=isAgg3
 z3:=sizeOf3
 v3:=zeroValue3
 t4:=underlying4
 a4:=isAgg4
 z4:=sizeOf4
 v4:=zeroValue4
 t9:=underlying9
 a9:=isAgg9
 z9:=sizeOf9
 v9:=zeroValue9
 t24:=underlying101
 a24:=isAgg101
 z24:=sizeOf101
 v24:=zeroValue101 }
theorem Tryz.strings_CutPrefix (s p:ByteArray) (w:World) :
 Calls prog 85 #[.string s,.string p] w fun e w'=>e=.returned (.tuple #[.string ⟨(Lib.trimPrefix s.data.toList p.data.toList).toArray⟩,.bool (Lib.hasPrefix s.data.toList p.data.toList)])/\w'=w:=Any.strings_CutPrefix Tryz.lays103 s p w
def Tryz.lays106o_ren:Go.Shelf.Ren:=⟨fun | 106=>48 | 213=>80 | 265=>121 | n=>n,fun | 9=>9 | 3=>3 | n=>n,fun | n=>n⟩
theorem Tryz.lays106o:Go.Proofs.Lays.n106 prog Tryz.lays106o_ren:={
 mixed:=by kernel_rfl
 f106:=func48.trans (congrArg some (by kernel_rfl))
 f213:=func80.trans (congrArg some (by kernel_rfl))
 f265:=func121.trans (congrArg some (by kernel_rfl))
 t3:=underlying3
 a3:=isAgg3
 z3:=sizeOf3
 v3:=zeroValue3
 t9:=underlying9
 a9:=isAgg9
 z9:=sizeOf9
 v9:=zeroValue9 }
theorem Tryz.strCompare (a b:ByteArray) (w:World) :
 Calls prog 48 #[.string a,.string b] w fun e w'=>e=.returned (.int .i64 (Lib.compareBytes a.data.toList b.data.toList))/\w'=w:=Any.strings_Compare Tryz.lays106o a b w
end Go.Proofs
