import Derived.Shelf.SlSortCmp.NoneTotal
import Derived.Shelf.SlCmpFuncs.BinarySearchFunc
import Derived.Shelf.SlicesE.IndexFunc
import Derived.Shelf.SlicesQ.IndexFunc
import Derived.Shelf.Small.Wraps
import Derived.Shelf.Small.Strs
import Derived.Test.YtlhejphddjdgkaaGreatDoorProg
import Derived.Shelf.Strings.BuilderK
import Derived.Shelf.Utf8.RuneCount
import Derived.Shelf.Strings.Builder2Cap
import Derived.Shelf.Strconv.Itoa3
import Derived.Shelf.Strconv.ErrVarAll
import Derived.Shelf.Strconv.ParseUintEmpty
import Derived.Shelf.Strconv.ParseUint10b64
import Derived.Shelf.Strconv.ParseUint10b32
import Derived.Shelf.Strconv.ParseUint10b16
import Derived.Shelf.Strconv.ParseUint10b8
import Derived.Shelf.Strings.Shaped
import Derived.Shelf.Strconv.AppendIntPublic10
import Derived.Shelf.Strings.SplitShaped
import Derived.Shelf.Strings.Explode
import Derived.Shelf.Unicode.DecodeAny
import Derived.Shelf.Slices.Turned
import Derived.Shelf.Slices.Clone
import Derived.Shelf.Slices.Empties2
import Derived.Shelf.SlicesE.Clone
set_option maxRecDepth 100000
set_option maxHeartbeats 40000000
set_option linter.unusedSimpArgs false
set_option linter.unusedVariables false
namespace Go.Proofs
open Go.Shelf
open Tryz
def Tryz.laysSort_ren:Go.Shelf.Ren:=⟨fun | 6=>162 | 15=>191 | 14=>190 | 28=>226 | 29=>119 | 20=>218 | 21=>219 | 22=>220 | 23=>221 | 24=>222 | 25=>223 | 26=>224 | 27=>225 | 46=>240 | 47=>241 | 48=>242 | 49=>243 | 50=>244 | 57=>253 | n=>n,fun | 22=>29 | 24=>9 | 25=>90 | 3=>3 | 39=>109 | 0=>0 | 53=>166 | 55=>115 | 4=>4 | 46=>247 | 45=>246 | 50=>69 | 5=>5 | 9=>9 | 66=>268 | 70=>78 | 76=>282 | 77=>283 | n=>n,fun | n=>n⟩
theorem Tryz.laysSort:Go.Proofs.SlLaysF.n6 prog Tryz.laysSort_ren:={
 mixed:=by kernel_rfl
 f6:=⟨f162.name,by decide,func162.trans (congrArg some (by kernel_rfl))⟩
 f14:=⟨f190.name,by decide,func190.trans (congrArg some (by kernel_rfl))⟩
 f15:=func191.trans (congrArg some (by kernel_rfl))
 f20:=⟨f218.name,by decide,func218.trans (congrArg some (by kernel_rfl))⟩
 f21:=⟨f219.name,by decide,func219.trans (congrArg some (by kernel_rfl))⟩
 f22:=⟨f220.name,by decide,func220.trans (congrArg some (by kernel_rfl))⟩
 f23:=⟨f221.name,by decide,func221.trans (congrArg some (by kernel_rfl))⟩
 f24:=⟨f222.name,by decide,func222.trans (congrArg some (by kernel_rfl))⟩
 f25:=⟨f223.name,by decide,func223.trans (congrArg some (by kernel_rfl))⟩
 f26:=⟨f224.name,by decide,func224.trans (congrArg some (by kernel_rfl))⟩
 f27:=⟨f225.name,by decide,func225.trans (congrArg some (by kernel_rfl))⟩
 f28:=func226.trans (congrArg some (by kernel_rfl))
 f29:=func119.trans (congrArg some (by kernel_rfl))
 f46:=⟨f240.name,by decide,func240.trans (congrArg some (by kernel_rfl))⟩
 f47:=func241.trans (congrArg some (by kernel_rfl))
 f48:=func242.trans (congrArg some (by kernel_rfl))
 f49:=⟨f243.name,by decide,func243.trans (congrArg some (by kernel_rfl))⟩
 f50:=⟨f244.name,by decide,func244.trans (congrArg some (by kernel_rfl))⟩
 f57:=⟨f253.name,by decide,func253.trans (congrArg some (by kernel_rfl))⟩
 t0:=underlying0
 a0:=isAgg0
 z0:=sizeOf0
 v0:=zeroValue0
 t3:=underlying3
 a3:=isAgg3
 z3:=sizeOf3
 v3:=zeroValue3
 t4:=underlying4
 a4:=isAgg4
 z4:=sizeOf4
 v4:=zeroValue4
 t5:=underlying5
 a5:=isAgg5
 z5:=sizeOf5
 v5:=zeroValue5
 t9:=underlying9
 a9:=isAgg9
 z9:=sizeOf9
 v9:=zeroValue9
 t22:=underlying29
 a22:=isAgg29
 z22:=sizeOf29
 v22:=zeroValue29
 a24:=isAgg9
 z24:=sizeOf9
 t25:=underlying90
 a25:=isAgg90
 z25:=sizeOf90
 v25:=zeroValue90
 t39:=underlying109
 a39:=isAgg109
 z39:=sizeOf109
 v39:=zeroValue109
 t45:=underlying246
 a45:=isAgg246
 z45:=sizeOf246
 v45:=zeroValue246
 t46:=underlying247
 a46:=isAgg247
 z46:=sizeOf247
 v46:=zeroValue247
 t50:=underlying69
 a50:=isAgg69
 z50:=sizeOf69
 v50:=zeroValue69
 t53:=underlying166
 a53:=isAgg166
 z53:=sizeOf166
 v53:=zeroValue166
 t55:=underlying115
 a55:=isAgg115
 z55:=sizeOf115
 v55:=zeroValue115
 t66:=underlying268
 a66:=isAgg268
 z66:=sizeOf268
 v66:=zeroValue268
 t70:=underlying78
 a70:=isAgg78
 z70:=sizeOf78
 v70:=zeroValue78
 t76:=underlying282
 a76:=isAgg282
 z76:=sizeOf282
 v76:=zeroValue282
 t77:=underlying283
 a77:=isAgg283
 z77:=sizeOf283
 v77:=zeroValue283 }
def Tryz.lays103_ren:Go.Shelf.Ren:=⟨fun | 103=>165 | 210=>192 | 206=>184 | n=>n,fun | 9=>9 | 4=>4 | 24=>202 | 3=>3 | n=>n,fun | n=>n⟩
theorem Tryz.lays103:Go.Proofs.Lays.n103 prog Tryz.lays103_ren:={
 mixed:=by kernel_rfl
 f103:=func165.trans (congrArg some (by kernel_rfl))
 f206:=func184.trans (congrArg some (by kernel_rfl))
 f210:=func192.trans (congrArg some (by kernel_rfl))
 t3:=underlying3
 a3:=isAgg3
 z3:=sizeOf3
 v3:=zeroValue3
 t4:=underlying4
 a4:=isAgg4
 z4:=sizeOf4
 v4:=zeroValue4
 t9:=underlying9
 a9:=isAgg9
 z9:=sizeOf9
 v9:=zeroValue9
 t24:=underlying202
 a24:=isAgg202
 z24:=sizeOf202
 v24:=zeroValue202 }
theorem Tryz.strings_CutPrefix (s p:ByteArray) (w:World) :
 Calls prog 165 #[.string s,.string p] w fun e w'=>e=.returned (.tuple #[.string ⟨(Lib.trimPrefix s.data.toList p.data.toList).toArray⟩,.bool (Lib.hasPrefix s.data.toList p.data.toList)])/\w'=w:=Any.strings_CutPrefix Tryz.lays103 s p w
def Tryz.lays106o_ren:Go.Shelf.Ren:=⟨fun | 106=>45 | 213=>64 | 265=>82 | n=>n,fun | 9=>9 | 3=>3 | n=>n,fun | n=>n⟩
theorem Tryz.lays106o:Go.Proofs.Lays.n106 prog Tryz.lays106o_ren:={
 mixed:=by kernel_rfl
 f106:=func45.trans (congrArg some (by kernel_rfl))
 f213:=func64.trans (congrArg some (by kernel_rfl))
 f265:=func82.trans (congrArg some (by kernel_rfl))
 t3:=underlying3
 a3:=isAgg3
 z3:=sizeOf3
 v3:=zeroValue3
 t9:=underlying9
 a9:=isAgg9
 z9:=sizeOf9
 v9:=zeroValue9 }
theorem Tryz.strCompare (a b:ByteArray) (w:World) :
 Calls prog 45 #[.string a,.string b] w fun e w'=>e=.returned (.int .i64 (Lib.compareBytes a.data.toList b.data.toList))/\w'=w:=Any.strings_Compare Tryz.lays106o a b w
end Go.Proofs
namespace Go.Proofs
open Go.Shelf
open Tryz
def Tryz.lays193_ren:Go.Shelf.Ren:=⟨fun | 193=>70 | n=>n,fun | 31=>29 | 9=>9 | 4=>4 | 3=>3 | 0=>0 | n=>n,fun | n=>n⟩
theorem Tryz.lays193:Go.Proofs.Lays.n193 prog Tryz.lays193_ren:={
 mixed:=by kernel_rfl
 f193:=func70.trans (congrArg some (by kernel_rfl))
 t0:=underlying0
 a0:=isAgg0
 z0:=sizeOf0
 v0:=zeroValue0
 t3:=underlying3
 a3:=isAgg3
 z3:=sizeOf3
 v3:=zeroValue3
 t4:=underlying4
 a4:=isAgg4
 z4:=sizeOf4
 v4:=zeroValue4
 t9:=underlying9
 a9:=isAgg9
 z9:=sizeOf9
 v9:=zeroValue9
 t31:=underlying29
 a31:=isAgg29
 z31:=sizeOf29
 v31:=zeroValue29 }
open Go.RowKit Go.Lib in
theorem Tryz.slices_Equal_string (b1 o1 n c b2 o2 m d:Nat) (xs ys:List ByteArray) (w:World) (hx:n<=xs.length) (hy:m<=ys.length) (hbig:n<=9223372036854775807) (hbig2:m<=9223372036854775807) (hc1:∀ j,j < xs.length->w.cell? ⟨b1,o1+j,none⟩=some (.string (xs.getD j ByteArray.empty))) (hc2:∀ j,j < ys.length->w.cell? ⟨b2,o2+j,none⟩=some (.string (ys.getD j ByteArray.empty))) :
 Calls prog 70 #[.slice (some ⟨b1,o1,none⟩) n c,.slice (some ⟨b2,o2,none⟩) m d] w fun e w'=>e=.returned (.bool (decide (xs.take n=ys.take m)))/\∃ q,w'=w.drewN q:=Any.slices_Equal_string Tryz.lays193 b1 o1 n c b2 o2 m d xs ys w hx hy hbig hbig2 hc1 hc2
open Go.RowKit Go.Lib in
theorem Tryz.slices_Equal_string_empty (a1 a2:Option Addr) (c m d:Nat) (w:World) (hbig2:m<=9223372036854775807) :
 Calls prog 70 #[.slice a1 0 c,.slice a2 m d] w fun e w'=>e=.returned (.bool (decide (m=0)))/\w'=w:=Any.slices_Equal_string_empty Tryz.lays193 a1 a2 c m d w hbig2
open Go.RowKit Go.Lib in
theorem Tryz.slices_Equal_string_lens (a1 a2:Option Addr) (n c m d:Nat) (w:World) (hnm:n≠m) :
 Calls prog 70 #[.slice a1 n c,.slice a2 m d] w fun e w'=>e=.returned (.bool false)/\w'=w:=Any.slices_Equal_string_lens Tryz.lays193 a1 a2 n c m d w hnm
end Go.Proofs
