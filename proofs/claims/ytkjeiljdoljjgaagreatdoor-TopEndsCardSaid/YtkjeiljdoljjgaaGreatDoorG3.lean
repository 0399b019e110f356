import Derived.Shelf.SlSortCmp.NoneTotal
import Derived.Shelf.SlCmpFuncs.BinarySearchFunc
import Derived.Shelf.SlicesE.IndexFunc
import Derived.Shelf.SlicesQ.IndexFunc
import Derived.Shelf.Small.Wraps
import Derived.Shelf.Small.Strs
import Derived.Test.YtkjeiljdoljjgaaGreatDoorProg
set_option maxRecDepth 100000
set_option maxHeartbeats 40000000
set_option linter.unusedSimpArgs false
set_option linter.unusedVariables false
namespace Go.Proofs
open Go.Shelf
open Tryz
def Tryz.laysSort_ren:Go.Shelf.Ren:=⟨fun | 6=>160 | 15=>195 | 14=>194 | 28=>232 | 29=>183 | 20=>224 | 21=>225 | 22=>226 | 23=>227 | 24=>228 | 25=>229 | 26=>230 | 27=>231 | 46=>246 | 47=>247 | 48=>248 | 49=>249 | 50=>250 | 57=>259 | n=>n,fun | 22=>32 | 24=>9 | 25=>88 | 3=>3 | 39=>107 | 0=>0 | 53=>221 | 55=>160 | 4=>4 | 46=>250 | 45=>249 | 50=>72 | 5=>5 | 9=>9 | 66=>273 | 70=>115 | 76=>287 | 77=>288 | n=>n,fun | n=>n⟩
theorem Tryz.laysSort:Go.Proofs.SlLaysF.n6 prog Tryz.laysSort_ren:={
 mixed:=by kernel_rfl
 f6:=⟨f160.name,by decide,func160.trans (congrArg some (by kernel_rfl))⟩
 f14:=⟨f194.name,by decide,func194.trans (congrArg some (by kernel_rfl))⟩
 f15:=func195.trans (congrArg some (by kernel_rfl))
 f20:=⟨f224.name,by decide,func224.trans (congrArg some (by kernel_rfl))⟩
 f21:=⟨f225.name,by decide,func225.trans (congrArg some (by kernel_rfl))⟩
 f22:=⟨f226.name,by decide,func226.trans (congrArg some (by kernel_rfl))⟩
 f23:=⟨f227.name,by decide,func227.trans (congrArg some (by kernel_rfl))⟩
 f24:=⟨f228.name,by decide,func228.trans (congrArg some (by kernel_rfl))⟩
 f25:=⟨f229.name,by decide,func229.trans (congrArg some (by kernel_rfl))⟩
 f26:=⟨f230.name,by decide,func230.trans (congrArg some (by kernel_rfl))⟩
 f27:=⟨f231.name,by decide,func231.trans (congrArg some (by kernel_rfl))⟩
 f28:=func232.trans (congrArg some (by kernel_rfl))
 f29:=func183.trans (congrArg some (by kernel_rfl))
 f46:=⟨f246.name,by decide,func246.trans (congrArg some (by kernel_rfl))⟩
 f47:=func247.trans (congrArg some (by kernel_rfl))
 f48:=func248.trans (congrArg some (by kernel_rfl))
 f49:=⟨f249.name,by decide,func249.trans (congrArg some (by kernel_rfl))⟩
 f50:=⟨f250.name,by decide,func250.trans (congrArg some (by kernel_rfl))⟩
 f57:=⟨f259.name,by decide,func259.trans (congrArg some (by kernel_rfl))⟩
 t0:=underlying0
 a0:=isAgg0
 z0:=sizeOf0
 v0:=zeroValue0
 t3:=underlying3
 a3:=isAgg3
 z3:=sizeOf3
 v3:=zeroValue3
 t4:=underlying4
 a4:=isAgg4
 z4:=sizeOf4
 v4:=zeroValue4
 t5:=underlying5
 a5:=isAgg5
 z5:=sizeOf5
 v5:=zeroValue5
 t9:=underlying9
 a9:=isAgg9
 z9:=sizeOf9
 v9:=zeroValue9
 t22:=underlying32
 a22:=isAgg32
 z22:=sizeOf32
 v22:=zeroValue32
 a24:=isAgg9
 z24:=sizeOf9
 t25:=underlying88
 a25:=isAgg88
 z25:=sizeOf88
 v25:=zeroValue88
 t39:=underlying107
 a39:=isAgg107
 z39:=sizeOf107
 v39:=zeroValue107
 t45:=underlying249
 a45:=isAgg249
 z45:=sizeOf249
 v45:=zeroValue249
 t46:=underlying250
 a46:=isAgg250
 z46:=sizeOf250
 v46:=zeroValue250
 t50:=underlying72
 a50:=isAgg72
 z50:=sizeOf72
 v50:=zeroValue72
 t53:=underlying221
 a53:=isAgg221
 z53:=sizeOf221
 v53:=zeroValue221
 t55:=underlying160
 a55:=isAgg160
 z55:=sizeOf160
 v55:=zeroValue160
 t66:=underlying273
 a66:=isAgg273
 z66:=sizeOf273
 v66:=zeroValue273
 t70:=underlying115
 a70:=isAgg115
 z70:=sizeOf115
 v70:=zeroValue115
 t76:=underlying287
 a76:=isAgg287
 z76:=sizeOf287
 v76:=zeroValue287
 t77:=underlying288
 a77:=isAgg288
 z77:=sizeOf288
 v77:=zeroValue288 }
def Tryz.lays103_ren:Go.Shelf.Ren:=⟨fun | 103=>163 | 210=>196 | 206=>188 | n=>n,fun | 9=>9 | 4=>4 | 24=>201 | 3=>3 | n=>n,fun | n=>n⟩
theorem Tryz.lays103:Go.Proofs.Lays.n103 prog Tryz.lays103_ren:={
 mixed:=by kernel_rfl
 f103:=func163.trans (congrArg some (by kernel_rfl))
 f206:=func188.trans (congrArg some (by kernel_rfl))
 f210:=func196.trans (congrArg some (by kernel_rfl))
 t3:=underlying3
 a3:=isAgg3
 z3:=sizeOf3
 v3:=zeroValue3
 t4:=underlying4
 a4:=isAgg4
 z4:=sizeOf4
 v4:=zeroValue4
 t9:=underlying9
 a9:=isAgg9
 z9:=sizeOf9
 v9:=zeroValue9
 t24:=underlying201
 a24:=isAgg201
 z24:=sizeOf201
 v24:=zeroValue201 }
theorem Tryz.strings_CutPrefix (s p:ByteArray) (w:World) :
 Calls prog 163 #[.string s,.string p] w fun e w'=>e=.returned (.tuple #[.string ⟨(Lib.trimPrefix s.data.toList p.data.toList).toArray⟩,.bool (Lib.hasPrefix s.data.toList p.data.toList)])/\w'=w:=Any.strings_CutPrefix Tryz.lays103 s p w
def Tryz.lays106o_ren:Go.Shelf.Ren:=⟨fun | 106=>44 | 213=>60 | 265=>74 | n=>n,fun | 9=>9 | 3=>3 | n=>n,fun | n=>n⟩
theorem Tryz.lays106o:Go.Proofs.Lays.n106 prog Tryz.lays106o_ren:={
 mixed:=by kernel_rfl
 f106:=func44.trans (congrArg some (by kernel_rfl))
 f213:=func60.trans (congrArg some (by kernel_rfl))
 f265:=func74.trans (congrArg some (by kernel_rfl))
 t3:=underlying3
 a3:=isAgg3
 z3:=sizeOf3
 v3:=zeroValue3
 t9:=underlying9
 a9:=isAgg9
 z9:=sizeOf9
 v9:=zeroValue9 }
theorem Tryz.strCompare (a b:ByteArray) (w:World) :
 Calls prog 44 #[.string a,.string b] w fun e w'=>e=.returned (.int .i64 (Lib.compareBytes a.data.toList b.data.toList))/\w'=w:=Any.strings_Compare Tryz.lays106o a b w
end Go.Proofs
