/- What quoted of json's reader does. -/
import Derived.Shelf.Strings.Builder1
import Derived.Shelf.Small.Bits
import Derived.Shelf.Small.Strs
import Derived.Shelf.Small.Wraps
import Derived.Shelf.Strconv.Atoi
import Derived.Shelf.Strconv.Itoa0
import Derived.Shelf.Strconv.Itoa1
import Derived.Shelf.LaysM
import Derived.Shelf.Strconv.Itoa2
import Derived.Shelf.Strconv.Itoa3
import Derived.Shelf.Strconv.AtoiErrFast
import Derived.Shelf.Strconv.ParseIntEmpty
import Derived.Shelf.Strconv.AtoiFail
import Derived.Shelf.Strconv.Clone
import Derived.Shelf.Strconv.SyntaxError
import Derived.Shelf.LaysC
import Derived.Shelf.Strconv.ToError
import Derived.Shelf.Strconv.Lower
import Derived.Shelf.Strconv.ParseUint10
import Derived.Shelf.Strconv.ParseUint10Empty
import Derived.Shelf.Strconv.ParseUint10Any
import Derived.Shelf.Strconv.ParseInt10
import Derived.Shelf.Strconv.AtoiLong
import Derived.Shelf.Strconv.AtoiInnerAll
import Derived.Shelf.Strconv.RangeError
import Derived.Shelf.Strconv.ToErrorRange
import Derived.Shelf.Strconv.AtoiAll
import Derived.Shelf.Strconv.ErrVarAll
import Derived.Shelf.Strings.Search1
import Derived.Shelf.Strings.Search2
import Derived.Shelf.Strings.Search3
import Derived.Shelf.Strings.Count
import Derived.Shelf.Strings.Shaped
import Derived.Shelf.Strings.Prefix
import Derived.Shelf.Strings.Split
import Derived.Shelf.Unicode.DecodeSlow
import Derived.Shelf.Slices.Turned
import Derived.Shelf.Slices.Equal
import Derived.Shelf.Slices.Empties2
import Derived.Ground.SlgfProg
import Derived.Shelf.SlicesE.IndexFunc
import Derived.Ground.SlsfProg
import Derived.Shelf.SlSortCmp.Insertion
import Derived.Shelf.SlSortCmp.SiftDown1
import Derived.Shelf.SlSortCmp.HeapSort1
import Derived.Shelf.SlSortCmp.Insertion1
import Derived.Shelf.SlSortCmp.Median1
import Derived.Shelf.SlSortCmp.Pivot1
import Derived.Shelf.SlSortCmp.ReverseRange1
import Derived.Shelf.SlSortCmp.PartialInsertion1
import Derived.Shelf.SlSortCmp.PartitionEqual1
import Derived.Shelf.SlSortCmp.Partition1
import Derived.Shelf.SlSortCmp.Pdq1
import Derived.Shelf.SlSortCmp.Whole1
import Derived.Test.YtmdemcjmcnfjmaaGreatDoorProg
import Derived.WalkKit
import Derived.WalkSpells
import Derived.WalkLawsBesides
import Derived.Deep.QuietTactic
import Derived.BigQuiet
import Derived.Deep.LoopGhost
import Derived.OneCell
import Derived.Deep.RegionHeld3
import Derived.Deep.AppendLies
import Derived.Test.YtmdemcjmcnfjmaaGreatDoorRows
import Derived.ProofKit
import Derived.OpenShut
import Derived.ShutString
import Derived.Deep.DeepHandedRow
import Derived.Deep.DeepWitnessRowRef
import Derived.SizedLaws
import Derived.Test.YtmdemcjmcnfjmaaGreatDoorCards
import Derived.Test.YtmdemcjmcnfjmaaGreatDoorTie
import Derived.Lib.LaidTab
import Derived.Stop.LaidErr
import Derived.SevenTiedAt
import Derived.Lib.Bytealg
import Derived.Laws.IdiomStrings
import Derived.Laws.BytesArg
set_option linter.unusedSimpArgs false
set_option linter.unusedVariables false
namespace Go.Proofs
open Go.Shelf
def Tryz.lays137_ren:Go.Shelf.Ren:=⟨fun | 137=>98 | 217=>137 | 266=>155 | n=>n,fun | 9=>9 | 5=>5 | 3=>3 | n=>n,fun | n=>n⟩
theorem Tryz.lays137:Go.Proofs.Lays.n137 Tryz.prog Tryz.lays137_ren:={
 mixed:=by kernel_rfl
 f137:=Tryz.func98.trans (congrArg some (by kernel_rfl))
 f217:=Tryz.func137.trans (congrArg some (by kernel_rfl))
 f266:=Tryz.func155.trans (congrArg some (by kernel_rfl))
 t3:=Tryz.underlying3
 a3:=Tryz.isAgg3
 z3:=Tryz.sizeOf3
 v3:=Tryz.zeroValue3
 t5:=Tryz.underlying5
 a5:=Tryz.isAgg5
 z5:=Tryz.sizeOf5
 v5:=Tryz.zeroValue5
 t9:=Tryz.underlying9
 a9:=Tryz.isAgg9
 z9:=Tryz.sizeOf9
 v9:=Tryz.zeroValue9 }
open Go.RowKit in
theorem Tryz.strings_IndexByte (s:ByteArray) (c:Int) (w:World) :
 Calls Tryz.prog 98 #[.string s,.int .u8 c] w fun e w'=>e=.returned (.int .i64 (Lib.indexByte s.data.toList c.toNat.toUInt8))/\w'=w:=Any.strings_IndexByte Tryz.lays137 s c w
def Tryz.laysM171_ren:Go.Shelf.Ren:=⟨fun | 171=>136 | 243=>154 | 246=>168 | 283=>174 | 284=>175 | 285=>176 | 286=>177 | 129=>109 | 317=>180 | 318=>181 | 319=>182 | 320=>183 | 337=>184 | 338=>185 | n=>n,fun | 3=>3 | 9=>9 | 2=>2 | 4=>4 | 171=>188 | 0=>0 | 53=>136 | 37=>72 | 5=>5 | 173=>190 | 212=>197 | 51=>134 | 20=>20 | 213=>198 | 46=>102 | 232=>200 | 233=>201 | n=>n,fun | 17=>5 | 18=>6 | 19=>7 | n=>n⟩
theorem Tryz.laysM171:Go.Proofs.LaysM.n171 Tryz.prog Tryz.laysM171_ren:={
 mixed:=by kernel_rfl
 f129:=Tryz.func109.trans (congrArg some (by kernel_rfl))
 f171:=Tryz.func136.trans (congrArg some (by kernel_rfl))
 f243:=Tryz.func154.trans (congrArg some (by kernel_rfl))
 f246:=Tryz.func168.trans (congrArg some (by kernel_rfl))
 f283:=Tryz.func174.trans (congrArg some (by kernel_rfl))
 f284:=Tryz.func175.trans (congrArg some (by kernel_rfl))
 f285:=Tryz.func176.trans (congrArg some (by kernel_rfl))
 f286:=Tryz.func177.trans (congrArg some (by kernel_rfl))
 f317:=Tryz.func180.trans (congrArg some (by kernel_rfl))
 f318:=Tryz.func181.trans (congrArg some (by kernel_rfl))
 f319:=Tryz.func182.trans (congrArg some (by kernel_rfl))
 f320:=Tryz.func183.trans (congrArg some (by kernel_rfl))
 f337:=Tryz.func184.trans (congrArg some (by kernel_rfl))
 f338:=Tryz.func185.trans (congrArg some (by kernel_rfl))
 t0:=Tryz.underlying0
 a0:=Tryz.isAgg0
 z0:=Tryz.sizeOf0
 v0:=Tryz.zeroValue0
 t2:=Tryz.underlying2
 a2:=Tryz.isAgg2
 z2:=Tryz.sizeOf2
 v2:=Tryz.zeroValue2
 t3:=Tryz.underlying3
 a3:=Tryz.isAgg3
 z3:=Tryz.sizeOf3
 v3:=Tryz.zeroValue3
 t4:=Tryz.underlying4
 a4:=Tryz.isAgg4
 z4:=Tryz.sizeOf4
 v4:=Tryz.zeroValue4
 t5:=Tryz.underlying5
 a5:=Tryz.isAgg5
 z5:=Tryz.sizeOf5
 v5:=Tryz.zeroValue5
 t9:=Tryz.underlying9
 a9:=Tryz.isAgg9
 z9:=Tryz.sizeOf9
 v9:=Tryz.zeroValue9
 t20:=Tryz.underlying20
 a20:=Tryz.isAgg20
 z20:=Tryz.sizeOf20
 v20:=Tryz.zeroValue20
 t37:=Tryz.underlying72
 a37:=Tryz.isAgg72
 z37:=Tryz.sizeOf72
 v37:=Tryz.zeroValue72
 t46:=Tryz.underlying102
 a46:=Tryz.isAgg102
 z46:=Tryz.sizeOf102
 v46:=Tryz.zeroValue102
 t51:=Tryz.underlying134
 a51:=Tryz.isAgg134
 z51:=Tryz.sizeOf134
 v51:=Tryz.zeroValue134
 t53:=Tryz.underlying136
 a53:=Tryz.isAgg136
 z53:=Tryz.sizeOf136
 v53:=Tryz.zeroValue136
 t171:=Tryz.underlying188
 a171:=Tryz.isAgg188
 z171:=Tryz.sizeOf188
 v171:=Tryz.zeroValue188
 t173:=Tryz.underlying190
 a173:=Tryz.isAgg190
 z173:=Tryz.sizeOf190
 v173:=Tryz.zeroValue190
 t212:=Tryz.underlying197
 a212:=Tryz.isAgg197
 z212:=Tryz.sizeOf197
 v212:=Tryz.zeroValue197
 t213:=Tryz.underlying198
 a213:=Tryz.isAgg198
 z213:=Tryz.sizeOf198
 t232:=Tryz.underlying200
 a232:=Tryz.isAgg200
 z232:=Tryz.sizeOf200
 v232:=Tryz.zeroValue200
 t233:=Tryz.underlying201
 a233:=Tryz.isAgg201
 z233:=Tryz.sizeOf201
 v233:=Tryz.zeroValue201
 g17:=by kernel_rfl
 g18:=by kernel_rfl
 g19:=by kernel_rfl
 i0:=by kernel_rfl
 i2:=by kernel_rfl
 i3:=by kernel_rfl
 i4:=by kernel_rfl
 i5:=by kernel_rfl
 i9:=by kernel_rfl
 i20:=by kernel_rfl
 i37:=by kernel_rfl
 i46:=by kernel_rfl
 i51:=by kernel_rfl
 i53:=by kernel_rfl
 i171:=by kernel_rfl
 i173:=by kernel_rfl
 i212:=by kernel_rfl
 i232:=by kernel_rfl
 i233:=by kernel_rfl
 m17:=by kernel_rfl
 m18:=by kernel_rfl
 m19:=by kernel_rfl }
def Tryz.laysC172_ren:Go.Shelf.Ren:=⟨fun | 172=>135 | 244=>152 | 245=>153 | 247=>163 | 279=>164 | 280=>165 | 281=>166 | 282=>167 | 287=>171 | 316=>172 | 171=>136 | 205=>173 | 321=>178 | 322=>179 | 243=>154 | 246=>168 | 283=>174 | 284=>175 | 285=>176 | 286=>177 | 129=>109 | 317=>180 | 318=>181 | 319=>182 | 320=>183 | 337=>184 | 338=>185 | n=>n,fun | 9=>9 | 3=>3 | 75=>76 | 76=>78 | 4=>4 | 5=>5 | 167=>169 | 37=>72 | 0=>0 | 85=>170 | 2=>2 | 168=>172 | 53=>136 | 175=>183 | 46=>102 | 210=>186 | 127=>107 | 145=>195 | 143=>193 | 21=>21 | 171=>188 | 173=>190 | 212=>197 | 51=>134 | 20=>20 | 213=>198 | 232=>200 | 233=>201 | 80=>80 | n=>n,fun | 15=>3 | 16=>4 | 17=>5 | 18=>6 | 19=>7 | n=>n⟩
theorem Tryz.laysC172:Go.Proofs.LaysC.n172 Tryz.prog Tryz.laysC172_ren:={
 mixed:=by kernel_rfl
 f129:=Tryz.func109.trans (congrArg some (by kernel_rfl))
 f171:=Tryz.func136.trans (congrArg some (by kernel_rfl))
 f172:=Tryz.func135.trans (congrArg some (by kernel_rfl))
 f205:=Tryz.func173.trans (congrArg some (by kernel_rfl))
 f243:=Tryz.func154.trans (congrArg some (by kernel_rfl))
 f244:=Tryz.func152.trans (congrArg some (by kernel_rfl))
 f245:=Tryz.func153.trans (congrArg some (by kernel_rfl))
 f246:=Tryz.func168.trans (congrArg some (by kernel_rfl))
 f247:=Tryz.func163.trans (congrArg some (by kernel_rfl))
 f279:=Tryz.func164.trans (congrArg some (by kernel_rfl))
 f280:=Tryz.func165.trans (congrArg some (by kernel_rfl))
 f281:=Tryz.func166.trans (congrArg some (by kernel_rfl))
 f282:=Tryz.func167.trans (congrArg some (by kernel_rfl))
 f283:=Tryz.func174.trans (congrArg some (by kernel_rfl))
 f284:=Tryz.func175.trans (congrArg some (by kernel_rfl))
 f285:=Tryz.func176.trans (congrArg some (by kernel_rfl))
 f286:=Tryz.func177.trans (congrArg some (by kernel_rfl))
 f287:=Tryz.func171.trans (congrArg some (by kernel_rfl))
 f316:=Tryz.func172.trans (congrArg some (by kernel_rfl))
 f317:=Tryz.func180.trans (congrArg some (by kernel_rfl))
 f318:=Tryz.func181.trans (congrArg some (by kernel_rfl))
 f319:=Tryz.func182.trans (congrArg some (by kernel_rfl))
 f320:=Tryz.func183.trans (congrArg some (by kernel_rfl))
 f321:=Tryz.func178.trans (congrArg some (by kernel_rfl))
 f322:=Tryz.func179.trans (congrArg some (by kernel_rfl))
 f337:=Tryz.func184.trans (congrArg some (by kernel_rfl))
 f338:=Tryz.func185.trans (congrArg some (by kernel_rfl))
 t0:=Tryz.underlying0
 a0:=Tryz.isAgg0
 z0:=Tryz.sizeOf0
 v0:=Tryz.zeroValue0
 t2:=Tryz.underlying2
 a2:=Tryz.isAgg2
 z2:=Tryz.sizeOf2
 v2:=Tryz.zeroValue2
 t3:=Tryz.underlying3
 a3:=Tryz.isAgg3
 z3:=Tryz.sizeOf3
 v3:=Tryz.zeroValue3
 t4:=Tryz.underlying4
 a4:=Tryz.isAgg4
 z4:=Tryz.sizeOf4
 v4:=Tryz.zeroValue4
 t5:=Tryz.underlying5
 a5:=Tryz.isAgg5
 z5:=Tryz.sizeOf5
 v5:=Tryz.zeroValue5
 t9:=Tryz.underlying9
 a9:=Tryz.isAgg9
 z9:=Tryz.sizeOf9
 v9:=Tryz.zeroValue9
 t20:=Tryz.underlying20
 a20:=Tryz.isAgg20
 z20:=Tryz.sizeOf20
 v20:=Tryz.zeroValue20
 t21:=Tryz.underlying21
 a21:=Tryz.isAgg21
 z21:=Tryz.sizeOf21
 v21:=Tryz.zeroValue21
 t37:=Tryz.underlying72
 a37:=Tryz.isAgg72
 z37:=Tryz.sizeOf72
 v37:=Tryz.zeroValue72
 t46:=Tryz.underlying102
 a46:=Tryz.isAgg102
 z46:=Tryz.sizeOf102
 v46:=Tryz.zeroValue102
 t51:=Tryz.underlying134
 a51:=Tryz.isAgg134
 z51:=Tryz.sizeOf134
 v51:=Tryz.zeroValue134
 t53:=Tryz.underlying136
 a53:=Tryz.isAgg136
 z53:=Tryz.sizeOf136
 v53:=Tryz.zeroValue136
 t75:=Tryz.underlying76
 a75:=Tryz.isAgg76
 z75:=Tryz.sizeOf76
 v75:=Tryz.zeroValue76
 t76:=Tryz.underlying78
 a76:=Tryz.isAgg78
 z76:=Tryz.sizeOf78
 v76:=Tryz.zeroValue78
 t85:=Tryz.underlying170
 a85:=Tryz.isAgg170
 z85:=Tryz.sizeOf170
 v85:=Tryz.zeroValue170
 t127:=Tryz.underlying107
 a127:=Tryz.isAgg107
 z127:=Tryz.sizeOf107
 v127:=Tryz.zeroValue107
 t143:=Tryz.underlying193
 a143:=Tryz.isAgg193
 z143:=Tryz.sizeOf193
 v143:=Tryz.zeroValue193
 t145:=Tryz.underlying195
 a145:=Tryz.isAgg195
 z145:=Tryz.sizeOf195
 v145:=Tryz.zeroValue195
 t167:=Tryz.underlying169
 a167:=Tryz.isAgg169
 z167:=Tryz.sizeOf169
 v167:=Tryz.zeroValue169
 t168:=Tryz.underlying172
 a168:=Tryz.isAgg172
 z168:=Tryz.sizeOf172
 v168:=Tryz.zeroValue172
 t171:=Tryz.underlying188
 a171:=Tryz.isAgg188
 z171:=Tryz.sizeOf188
 v171:=Tryz.zeroValue188
 t173:=Tryz.underlying190
 a173:=Tryz.isAgg190
 z173:=Tryz.sizeOf190
 v173:=Tryz.zeroValue190
 t175:=Tryz.underlying183
 a175:=Tryz.isAgg183
 z175:=Tryz.sizeOf183
 v175:=Tryz.zeroValue183
 t210:=Tryz.underlying186
 a210:=Tryz.isAgg186
 z210:=Tryz.sizeOf186
 v210:=Tryz.zeroValue186
 t212:=Tryz.underlying197
 a212:=Tryz.isAgg197
 z212:=Tryz.sizeOf197
 v212:=Tryz.zeroValue197
 t213:=Tryz.underlying198
 a213:=Tryz.isAgg198
 z213:=Tryz.sizeOf198
 t232:=Tryz.underlying200
 a232:=Tryz.isAgg200
 z232:=Tryz.sizeOf200
 v232:=Tryz.zeroValue200
 t233:=Tryz.underlying201
 a233:=Tryz.isAgg201
 z233:=Tryz.sizeOf201
 v233:=Tryz.zeroValue201
 g15:=by kernel_rfl
 g16:=by kernel_rfl
 g17:=by kernel_rfl
 g18:=by kernel_rfl
 g19:=by kernel_rfl
 t80:=Tryz.underlying80
 a80:=Tryz.isAgg80
 z80:=Tryz.sizeOf80
 v80:=Tryz.zeroValue80
 i0:=by kernel_rfl
 i2:=by kernel_rfl
 i3:=by kernel_rfl
 i4:=by kernel_rfl
 i5:=by kernel_rfl
 i9:=by kernel_rfl
 i20:=by kernel_rfl
 i21:=by kernel_rfl
 i37:=by kernel_rfl
 i46:=by kernel_rfl
 i51:=by kernel_rfl
 i53:=by kernel_rfl
 i75:=by kernel_rfl
 i76:=by kernel_rfl
 i80:=by kernel_rfl
 i85:=by kernel_rfl
 i127:=by kernel_rfl
 i143:=by kernel_rfl
 i145:=by kernel_rfl
 i167:=by kernel_rfl
 i168:=by kernel_rfl
 i171:=by kernel_rfl
 i173:=by kernel_rfl
 i175:=by kernel_rfl
 i210:=by kernel_rfl
 i212:=by kernel_rfl
 i232:=by kernel_rfl
 i233:=by kernel_rfl
 m15:=by kernel_rfl
 m16:=by kernel_rfl
 m17:=by kernel_rfl
 m18:=by kernel_rfl
 m19:=by kernel_rfl
 c0:=by kernel_rfl
 c2:=by kernel_rfl
 c3:=by kernel_rfl
 c4:=by kernel_rfl
 c5:=by kernel_rfl
 c9:=by kernel_rfl
 c20:=by kernel_rfl
 c21:=by kernel_rfl
 c37:=by kernel_rfl
 c46:=by kernel_rfl
 c51:=by kernel_rfl
 c53:=by kernel_rfl
 c75:=by kernel_rfl
 c76:=by kernel_rfl
 c80:=by kernel_rfl
 c85:=by kernel_rfl
 c127:=by kernel_rfl
 c143:=by kernel_rfl
 c145:=by kernel_rfl
 c167:=by kernel_rfl
 c168:=by kernel_rfl
 c171:=by kernel_rfl
 c173:=by kernel_rfl
 c175:=by kernel_rfl
 c210:=by kernel_rfl
 c212:=by kernel_rfl
 c213:=by kernel_rfl
 c232:=by kernel_rfl
 c233:=by kernel_rfl }
def Tryz.lays99_ren:Go.Shelf.Ren:=⟨fun | 99=>83 | 206=>126 | n=>n,fun | 9=>9 | 4=>4 | 3=>3 | n=>n,fun | n=>n⟩
theorem Tryz.lays99:Go.Proofs.Lays.n99 Tryz.prog Tryz.lays99_ren:={
 mixed:=by kernel_rfl
 f99:=Tryz.func83.trans (congrArg some (by kernel_rfl))
 f206:=Tryz.func126.trans (congrArg some (by kernel_rfl))
 t3:=Tryz.underlying3
 a3:=Tryz.isAgg3
 z3:=Tryz.sizeOf3
 v3:=Tryz.zeroValue3
 t4:=Tryz.underlying4
 a4:=Tryz.isAgg4
 z4:=Tryz.sizeOf4
 v4:=Tryz.zeroValue4
 t9:=Tryz.underlying9
 a9:=Tryz.isAgg9
 z9:=Tryz.sizeOf9
 v9:=Tryz.zeroValue9 }
open Go.RowKit Go.Lib in
theorem Tryz.strings_HasPrefix (s p:ByteArray) (w:World) :
 Calls Tryz.prog 83 #[.string s,.string p] w fun e w'=>e=.returned (.bool (Lib.hasPrefix s.data.toList p.data.toList))/\w'=w:=Any.strings_HasPrefix Tryz.lays99 s p w
def Tryz.lays109_ren:Go.Shelf.Ren:=⟨fun | 109=>116 | n=>n,fun | 31=>22 | 9=>9 | 3=>3 | 0=>0 | 4=>4 | n=>n,fun | n=>n⟩
theorem Tryz.lays109:Go.Proofs.Lays.n109 Tryz.prog Tryz.lays109_ren:={
 mixed:=by kernel_rfl
 f109:=Tryz.func116.trans (congrArg some (by kernel_rfl))
 t0:=Tryz.underlying0
 a0:=Tryz.isAgg0
 z0:=Tryz.sizeOf0
 v0:=Tryz.zeroValue0
 t3:=Tryz.underlying3
 a3:=Tryz.isAgg3
 z3:=Tryz.sizeOf3
 v3:=Tryz.zeroValue3
 t4:=Tryz.underlying4
 a4:=Tryz.isAgg4
 z4:=Tryz.sizeOf4
 v4:=Tryz.zeroValue4
 t9:=Tryz.underlying9
 a9:=Tryz.isAgg9
 z9:=Tryz.sizeOf9
 v9:=Tryz.zeroValue9
 t31:=Tryz.underlying22
 a31:=Tryz.isAgg22
 z31:=Tryz.sizeOf22
 v31:=Tryz.zeroValue22 }
open Go.Lib in
theorem Tryz.slices_Index_string (b off n c:Nat) (zs:List ByteArray) (x:ByteArray) (w:World) (hz:n<=zs.length) (hbig:n<=9223372036854775807) (hc:∀ j,j < zs.length->w.cell? ⟨b,off+j,none⟩=some (.string (zs.getD j ByteArray.empty))) :
 Calls Tryz.prog 116 #[.slice (some ⟨b,off,none⟩) n c,.string x] w fun e w'=>e=.returned (.int .i64 (Lib.idxOfS (zs.take n) x))/\w'=w:=Any.slices_Index_string Tryz.lays109 b off n c zs x w hz hbig hc
open Go.Lib in
theorem Tryz.slices_Index_string_empty (a:Option Addr) (c:Nat) (x:ByteArray) (w:World) :
 Calls Tryz.prog 116 #[.slice a 0 c,.string x] w fun e w'=>e=.returned (.int .i64 (Lib.idxOfS [] x))/\w'=w:=Any.slices_Index_string_empty Tryz.lays109 a c x w
end Go.Proofs
namespace Go.Proofs.YtmdemcjmcnfjmaaGreatDoor
open Go.RowKit
theorem hidI {p:Prop} (h:p):Hid p:=h
theorem gb_refl (w:World) (r:Option Nat):w.grownBy w r:=⟨rfl,rfl,rfl,Nat.le_refl _,fun _ _ _=>rfl⟩
theorem gb_trans {a w w':World} {r:Option Nat} (h:a.grownBy w r) (k:w.grownBy w' r):a.grownBy w' r:=
 ⟨k.os.trans h.os,k.tape.trans h.tape,k.output.trans h.output,Nat.le_trans h.size k.size,fun i hi hr=>(k.block i (Nat.lt_of_lt_of_le hi h.size) hr).trans (h.block i hi hr)⟩
theorem gb_drew {a w:World} {r:Option Nat} (h:a.grownBy w r):a.grownBy w.drew r:=⟨h.os,h.tape,h.output,h.size,h.block⟩
theorem gb_drewN {a w:World} {r:Option Nat} (h:a.grownBy w r) (n:Nat):a.grownBy (w.drewN n) r:=⟨h.os,h.tape,h.output,h.size,h.block⟩
theorem gb_alloc {a w:World} {r:Option Nat} (h:a.grownBy w r) (o:Obj):a.grownBy (w.alloc o) r:=gb_trans h (World.grownBy_alloc w o r)
theorem gb_set {a w:World} {b:Nat} (h:a.grownBy w (some b)) (i:Nat) (v:Value):a.grownBy (w.setCell ⟨b,i,none⟩ v) (some b):=
 gb_trans h ⟨rfl,rfl,rfl,by simp[World.setCell],fun k _ hr=>Below.heap_setCell w ⟨b,i,none⟩ v k (fun e=>hr (by rw[e]))⟩
theorem gb_below {w w':World} {r:Option Nat} (h:Below w.heap.size w w'):w.grownBy w' r:=⟨h.os,h.tape,h.output,h.size,fun k hk _=>h.block k hk⟩
theorem gb_none {w w':World} (h:w.grownBy w' none):Below w.heap.size w w':=⟨h.os,h.tape,h.output,h.size,fun k hk=>h.block k hk (by simp)⟩
theorem drewN_drewN (w:World) (m n:Nat):(w.drewN m).drewN n=w.drewN (m+n):=by simp[World.drewN,Nat.add_assoc]
theorem heap_set {w:World} {b:Nat} {c:Array Value} {t:TypeId} {f:Nat × Nat} (h:w.heap[b]?=some (.cells c t f)) (i:Nat) (v:Value) :
 (w.setCell ⟨b,i,none⟩ v).heap[b]?=some (.cells (c.setIfInBounds i v) t f):=by
 have e:b < w.heap.size:=(Array.getElem?_eq_some_iff.1 h).1
 simp[World.setCell,Array.getElem?_modify,h]
theorem ba_beq (a b:ByteArray):(a == b)=(a.data == b.data):=by cases a;cases b;rfl
theorem ba_ne {a b:ByteArray} (h:a.data.toList≠b.data.toList):(a == b)=false:=by
 rw[ba_beq,beq_eq_false_iff_ne];exact fun e=>h (by rw[e])
theorem ba_eq {a b:ByteArray} (h:a.data.toList=b.data.toList):(a == b)=true:=by
 rw[ba_beq,beq_iff_eq];exact Array.toList_inj.1 h
def I64 (n:Int):Prop:=-9223372036854775808<=n/\n<=9223372036854775807
def str (l:List UInt8):Value:=.string ⟨l.toArray⟩
theorem bel_alloc (w:World) (o:Obj):Below w.heap.size w (w.alloc o):=(Below.refl _ w).alloc (Nat.le_refl _) _
theorem bel_trans {a b c:World} (h:Below a.heap.size a b) (k:Below b.heap.size b c):Below a.heap.size a c:=h.trans (k.mono h.size)
theorem h2a (w:World) (o1 o2:Obj):((w.alloc o1).alloc o2).heap[w.heap.size]?=some o1:=by
 have:=World.grownBy_alloc (w.alloc o1) o2 none
 rw[this.block _ (by simp) (by simp)];exact heap_alloc_new w o1
theorem h2b (w:World) (o1 o2:Obj):((w.alloc o1).alloc o2).heap[w.heap.size+1]?=some o2:=by
 have:=heap_alloc_new (w.alloc o1) o2
 simpa using this
theorem cell_bel {w w':World} (hb:Below w.heap.size w w') {a:Addr} {x:Value} (h:w.cell? a=some x):w'.cell? a=some x:=by
 rw[World.cell?_of_block (hb.block _ (World.block_lt_of_cell? w _ h))];exact h
theorem bel_drewN (w:World) (n:Nat):Below w.heap.size w (w.drewN n):=⟨rfl,rfl,rfl,Nat.le_refl _,fun _ _=>rfl⟩
end Go.Proofs.YtmdemcjmcnfjmaaGreatDoor
namespace Go.Proofs.YtmdemcjmcnfjmaaGreatDoor
open Go.RowKit
structure V where
 kind:Int
 n:Int
 s:List UInt8
 keys:List (List UInt8)
 l:List V
def StrsAre (w:World) (ok:Nat->Prop) (xs:List (List UInt8)) (v:Value):Prop:=
 xs.length<=maxLen/\(xs=[]/\(∃ a,v=.slice a 0 0)\/∃ b off c,v=.slice (some ⟨b,off,none⟩) xs.length c/\xs.length<=c/\c<=maxLen /\
  ∀ i x,xs[i]?=some x->x.length<=maxLen/\ok b/\w.cell? ⟨b,off+i,none⟩=some (str x))
def ValsAre (w:World) (ok:Nat->Prop) (R:V->Value->Prop) (xs:List V) (v:Value):Prop:=
 xs.length<=maxLen/\(xs=[]/\(∃ a,v=.slice a 0 0)\/∃ b off c,v=.slice (some ⟨b,off,none⟩) xs.length c/\xs.length<=c/\c<=maxLen /\
  ∀ i x,xs[i]?=some x->∃ v0 v1 v2 v3 v4,ok b/\w.cell? ⟨b,off+i * 5,none⟩=some v0/\w.cell? ⟨b,off+i * 5+1,none⟩=some v1/\w.cell? ⟨b,off+i * 5+2,none⟩=some v2 /\
   w.cell? ⟨b,off+i * 5+3,none⟩=some v3/\w.cell? ⟨b,off+i * 5+4,none⟩=some v4/\R x (.agg #[v0,v1,v2,v3,v4]))
def VIs (w:World) (ok:Nat->Prop):Nat->V->Value->Prop
 | 0,_,_=>False
 | n+1,t,v=>∃ ks ls,v=.agg #[.int .i64 t.kind,.int .i64 t.n,str t.s,ks,ls]/\I64 t.kind/\I64 t.n/\t.s.length<=maxLen/\StrsAre w ok t.keys ks/\ValsAre w ok (VIs w ok n) t.l ls
theorem StrsAre.imp {w w':World} {ok ok':Nat->Prop} {xs:List (List UInt8)} {v:Value} (h:StrsAre w ok xs v)
 (hc:∀ a x,ok a.block->w.cell? a=some x->ok' a.block/\w'.cell? a=some x):StrsAre w' ok' xs v:=by
 refine⟨h.1,?_⟩
 rcases h.2 with h | ⟨b,off,c,e,h1,h2,h3⟩
 ·exact .inl h
 ·refine .inr ⟨b,off,c,e,h1,h2,fun i x hx=>?_⟩
  obtain⟨g1,g2,g3⟩:=h3 i x hx
  exact⟨g1,hc ⟨b,off+i,none⟩ _ g2 g3⟩
theorem ValsAre.imp {w w':World} {ok ok':Nat->Prop} {R R':V->Value->Prop} {xs:List V} {v:Value} (h:ValsAre w ok R xs v)
 (hc:∀ a x,ok a.block->w.cell? a=some x->ok' a.block/\w'.cell? a=some x) (hR:∀ x v,x∈xs->R x v->R' x v):ValsAre w' ok' R' xs v:=by
 refine⟨h.1,?_⟩
 rcases h.2 with h | ⟨b,off,c,e,h1,h2,h3⟩
 ·exact .inl h
 ·refine .inr ⟨b,off,c,e,h1,h2,fun i x hx=>?_⟩
  obtain⟨v0,v1,v2,v3,v4,g,g0,g1,g2,g3,g4,g5⟩:=h3 i x hx
  exact⟨v0,v1,v2,v3,v4,(hc ⟨b,off+i * 5,none⟩ _ g g0).1,(hc ⟨b,off+i * 5,none⟩ _ g g0).2,(hc ⟨b,_,none⟩ _ g g1).2,(hc ⟨b,_,none⟩ _ g g2).2,(hc ⟨b,_,none⟩ _ g g3).2,(hc ⟨b,_,none⟩ _ g g4).2,
   hR _ _ (List.mem_of_getElem? hx) g5⟩
theorem VIs.imp {w w':World} {ok ok':Nat->Prop} (hc:∀ a x,ok a.block->w.cell? a=some x->ok' a.block/\w'.cell? a=some x) (n:Nat) :
 ∀ {t:V} {v:Value},VIs w ok n t v->VIs w' ok' n t v:=by
 induction n with
 | zero=>intro t v h;exact h
 | succ n ih=>
  intro t v h
  obtain⟨ks,ls,e,h1,h2,h3,h4,h5⟩:=h
  exact⟨ks,ls,e,h1,h2,h3,h4.imp hc,h5.imp hc fun x v _ h=>ih h⟩
theorem VIs.succ {w:World} {ok:Nat->Prop} (n:Nat):∀ {t:V} {v:Value},VIs w ok n t v->VIs w ok (n+1) t v:=by
 induction n with
 | zero=>intro t v h;exact h.elim
 | succ n ih=>
  intro t v h
  obtain⟨ks,ls,e,h1,h2,h3,h4,h5⟩:=h
  exact⟨ks,ls,e,h1,h2,h3,h4,h5.imp (fun a x h1 h2=>⟨h1,h2⟩) fun x v _ h=>ih h⟩
theorem VIs.le {w:World} {ok:Nat->Prop} {n m:Nat} (hnm:n<=m) {t:V} {v:Value} (h:VIs w ok n t v):VIs w ok m t v:=by
 induction hnm with
 | refl=>exact h
 | step _ ih=>exact ih.succ
theorem cells_grown {w w':World} {r:Option Nat} (hg:w.grownBy w' r) {ok:Nat->Prop} (hr:∀ k,ok k->some k≠r):∀ a x,ok a.block->w.cell? a=some x->ok a.block/\w'.cell? a=some x:=
 fun a x h1 h2=>⟨h1,hg.cell h2 (hr _ h1)⟩
theorem VIs.grown {w w':World} {r:Option Nat} {ok:Nat->Prop} {n:Nat} {t:V} {v:Value} (h:VIs w ok n t v) (hg:w.grownBy w' r) (hr:∀ k,ok k->some k≠r):VIs w' ok n t v:=
 VIs.imp (cells_grown hg hr) n h
theorem VIs.below {w:World} {ok:Nat->Prop} {n:Nat} {t:V} {v:Value} (h:VIs w ok n t v):VIs w (fun k=>ok k/\k < w.heap.size) n t v:=
 VIs.imp (fun a x h1 h2=>⟨⟨h1,World.block_lt_of_cell? w a h2⟩,h2⟩) n h
theorem VIs.weak {w:World} {ok ok':Nat->Prop} {n:Nat} {t:V} {v:Value} (h:VIs w ok n t v) (hk:∀ k,ok k->ok' k):VIs w ok' n t v:=
 VIs.imp (fun a x h1 h2=>⟨hk _ h1,h2⟩) n h
theorem info25:(Tryz.prog.info? 25).map (fun i=>(i.zero,i.size,i.bytes))=some (some (.agg #[.int .i64 0,.int .i64 0,.string ⟨#[]⟩,.slice none 0 0,.slice none 0 0]),5,80):=by kernel_rfl
theorem info9:(Tryz.prog.info? 9).map (fun i=>(i.zero,i.size,i.bytes))=some (some (.string ⟨#[]⟩),1,16):=by kernel_rfl
def leaf (k n:Int) (s:List UInt8):Value:=.agg #[.int .i64 k,.int .i64 n,str s,.slice none 0 0,.slice none 0 0]
def BoxIs (w:World) (g:Nat) (c0 c1 c2 c3 c4:Value):Prop:=w.heap[g]?=some (.cells #[c0,c1,c2,c3,c4] 25)
theorem BoxIs.c {w:World} {g:Nat} {c0 c1 c2 c3 c4:Value} (h:BoxIs w g c0 c1 c2 c3 c4) :
 w.cell? ⟨g,0,none⟩=some c0/\w.cell? ⟨g,1,none⟩=some c1/\w.cell? ⟨g,2,none⟩=some c2/\w.cell? ⟨g,3,none⟩=some c3/\w.cell? ⟨g,4,none⟩=some c4 /\
 w.frozen? ⟨g,0,none⟩=false/\w.frozen? ⟨g,1,none⟩=false/\w.frozen? ⟨g,2,none⟩=false/\w.frozen? ⟨g,3,none⟩=false/\w.frozen? ⟨g,4,none⟩=false:=by
 unfold BoxIs at h
 refine⟨?_,?_,?_,?_,?_,?_,?_,?_,?_,?_⟩ <;> simp[World.cell?,World.frozen?,h]
theorem BoxIs.grown {w w':World} {g:Nat} {c0 c1 c2 c3 c4:Value} {r:Option Nat} (h:BoxIs w g c0 c1 c2 c3 c4) (hg:w.grownBy w' r) (hr:some g≠r):BoxIs w' g c0 c1 c2 c3 c4:=
 (hg.block g (Array.getElem?_eq_some_iff.1 h).1 hr).trans h
theorem BoxIs.lt {w:World} {g:Nat} {c0 c1 c2 c3 c4:Value} (h:BoxIs w g c0 c1 c2 c3 c4):g < w.heap.size:=(Array.getElem?_eq_some_iff.1 h).1
def set5 (w:World) (g:Nat) (d0 d1 d2 d3 d4:Value):World:=
 ((((w.setCell ⟨g,0,none⟩ d0).setCell ⟨g,1,none⟩ d1).setCell ⟨g,2,none⟩ d2).setCell ⟨g,3,none⟩ d3).setCell ⟨g,4,none⟩ d4
theorem BoxIs.set {w:World} {g:Nat} {c0 c1 c2 c3 c4:Value} (h:BoxIs w g c0 c1 c2 c3 c4) (d0 d1 d2 d3 d4:Value):BoxIs (set5 w g d0 d1 d2 d3 d4) g d0 d1 d2 d3 d4:=
 heap_set (heap_set (heap_set (heap_set (heap_set h 0 d0) 1 d1) 2 d2) 3 d3) 4 d4
theorem set5_gb (w:World) (g:Nat) (d0 d1 d2 d3 d4:Value):w.grownBy (set5 w g d0 d1 d2 d3 d4) (some g):=
 gb_set (gb_set (gb_set (gb_set (gb_set (gb_refl _ _) _ _) _ _) _ _) _ _) _ _
end Go.Proofs.YtmdemcjmcnfjmaaGreatDoor
namespace Go.Proofs.YtmdemcjmcnfjmaaGreatDoor
open Go.ChangeShapes Go.WideShapes Go.ChangeAt Go.RowKit
theorem own:ownKnob Tryz.prog.godebug=none:=by kernel_rfl
theorem cellsString:Tryz.prog.cellsOf 9=1:=by kernel_rfl
end Go.Proofs.YtmdemcjmcnfjmaaGreatDoor
namespace Go.Proofs.YtmdemcjmcnfjmaaGreatDoor
open Go.ChangeShapes Go.WideShapes Go.ChangeAt Go.RowKit
theorem var_block {P:Program} {W:World} {name:String} {cs:Array Value} {g:Nat} (hg:P.globalNamed name=some g) (h:W.var? P name=some cs):∃ t f,W.heap[g]?=some (.cells cs t f):=by
 unfold World.var? at h
 rw[hg]at h
 simp only[Option.bind_some]at h
 split at h
 ·rename_i cs' t f e
  cases h
  exact⟨t,f,e⟩
 ·cases h
def tabCells:DataW Unit->Array Value
 | .agg l=>(l.map fun | .lit (.int k z)=>Value.int k z | _=>.int .u8 0).toArray
 | _=>#[]
def errText:DataW Unit->Value
 | .iface _ (.ptr (.agg [.lit (.string l)]))=>.string ⟨l.toArray⟩
 | _=>.string ⟨#[]⟩
noncomputable def low:Nat:=(World.holding Tryz.prog default ⟨#[],#[],[]⟩).heap.size
def putAt (h:Array Obj) (g:Nat) (cs:Array Value):Array Obj:=h.modify g fun
 | .cells _ t frozen=>.cells cs t frozen
 | o=>o
def flatCells:DataW Unit->Array Value
 | .agg l=>(l.flatMap fun | .agg m=>m.map (fun | .lit (.int k z)=>Value.int k z | _=>.int .u8 0) | .lit (.int k z)=>[Value.int k z] | _=>[]).toArray
 | _=>#[]
end Go.Proofs.YtmdemcjmcnfjmaaGreatDoor
namespace Go.Proofs.YtmdemcjmcnfjmaaGreatDoor
def isSp (c:UInt8):Bool:=c == 32 || c == 9 || c == 10 || c == 13
def markS (c:UInt8) (l:List UInt8):Option (List UInt8):=
 match l.dropWhile isSp with
 | []=>none
 | x :: r=>if x=c then some r else none
def hexv (c:UInt8):Option Nat:=
 if 48<=c.toNat/\c.toNat<=57 then some (c.toNat - 48)
 else if 97<=c.toNat/\c.toNat<=102 then some (c.toNat - 87)
 else if 65<=c.toNat/\c.toNat<=70 then some (c.toNat - 55) else none
def digS:List UInt8->Option (Nat × List UInt8)
 | []=>none
 | c :: l=>(hexv c).map fun d=>(d,l)
def digsS:Nat->Nat->List UInt8->Option (Nat × List UInt8)
 | 0,n,l=>some (n,l)
 | k+1,n,l=>(digS l).bind fun p=>digsS k (n * 16+p.1) p.2
def codedS (l:List UInt8):Option (UInt8 × List UInt8):=
 (digsS 4 0 l).bind fun p=>if p.1 < 128 then some (p.1.toUInt8,p.2) else none
def escB (c:UInt8):Option UInt8:=
 if c=34 then some 34 else if c=92 then some 92 else if c=98 then some 8 else if c=102 then some 12
 else if c=110 then some 10 else if c=114 then some 13 else if c=116 then some 9 else none
def escS:List UInt8->Option (UInt8 × List UInt8)
 | []=>none
 | c :: l=>if c=117 then codedS l else if c=47 then some (47,l) else (escB c).map fun x=>(x,l)
def bodyS:Nat->List UInt8->List UInt8->Option (List UInt8 × List UInt8)
 | 0,_,_=>none
 | _+1,_,[]=>none
 | n+1,acc,c :: l=>
  if c=34 then some (acc,l)
  else if c=92 then (escS l).bind fun p=>bodyS n (acc++[p.1]) p.2
  else if c.toNat < 32\/127<=c.toNat then none
  else bodyS n (acc++[c]) l
def quotS (l:List UInt8):Option (List UInt8 × List UInt8):=
 (markS 34 l).bind fun l=>bodyS (l.length+1) [] l
theorem digS_len {l:List UInt8} {p:Nat × List UInt8} (h:digS l=some p):p.2.length < l.length:=by
 cases l with
 | nil=>cases h
 | cons c l=>
  simp only[digS,Option.map_eq_some_iff]at h
  obtain⟨d,_,rfl⟩:=h
  simp
theorem digsS_len (k:Nat):∀ (n:Nat) (l:List UInt8) (p:Nat × List UInt8),digsS k n l=some p->p.2.length<=l.length:=by
 induction k with
 | zero=>intro n l p h;simp only[digsS,Option.some.injEq]at h;subst h;exact Nat.le_refl _
 | succ k ih=>
  intro n l p h
  simp only[digsS,Option.bind_eq_some_iff]at h
  obtain⟨q,h1,h2⟩:=h
  exact Nat.le_trans (ih _ _ _ h2) (Nat.le_of_lt (digS_len h1))
theorem codedS_len {l:List UInt8} {p:UInt8 × List UInt8} (h:codedS l=some p):p.2.length<=l.length:=by
 simp only[codedS,Option.bind_eq_some_iff]at h
 obtain⟨q,h1,h2⟩:=h
 split at h2
 ·cases h2;exact digsS_len _ _ _ _ h1
 ·cases h2
theorem escS_len {l:List UInt8} {p:UInt8 × List UInt8} (h:escS l=some p):p.2.length < l.length:=by
 cases l with
 | nil=>cases h
 | cons c l=>
  simp only[escS]at h
  split at h
  ·exact Nat.lt_succ_of_le (codedS_len h)
  ·split at h
   ·cases h;simp
   ·simp only[Option.map_eq_some_iff]at h
    obtain⟨d,_,rfl⟩:=h
    simp
theorem bodyS_fuel (n:Nat):∀ (m:Nat) (acc l:List UInt8),l.length < n->l.length < m->bodyS n acc l=bodyS m acc l:=by
 induction n with
 | zero=>intro m acc l h;omega
 | succ n ih=>
  intro m acc l h1 h2
  cases m with
  | zero=>omega
  | succ m=>
   cases l with
   | nil=>rfl
   | cons c l=>
    simp only[bodyS]
    simp only[List.length_cons]at h1 h2
    split
    ·rfl
    ·split
     ·cases he:escS l with
      | none=>rfl
      | some p=>
       have:=escS_len he
       exact ih m _ _ (by omega) (by omega)
     ·split
      ·rfl
      ·exact ih m _ _ (by omega) (by omega)
theorem bodyS_len (n:Nat):∀ (acc l:List UInt8) (p:List UInt8 × List UInt8),bodyS n acc l=some p->p.2.length < l.length:=by
 induction n with
 | zero=>intro acc l p h;cases h
 | succ n ih=>
  intro acc l p h
  cases l with
  | nil=>cases h
  | cons c l=>
   simp only[bodyS]at h
   split at h
   ·cases h;simp
   ·split at h
    ·simp only[Option.bind_eq_some_iff]at h
     obtain⟨q,h1,h2⟩:=h
     have:=ih _ _ _ h2
     have:=escS_len h1
     simp only[List.length_cons];omega
    ·split at h
     ·cases h
     ·have:=ih _ _ _ h
      simp only[List.length_cons];omega
theorem dropSp_len (l:List UInt8):(l.dropWhile isSp).length<=l.length:=(List.dropWhile_sublist _).length_le
theorem markS_len {c:UInt8} {l r:List UInt8} (h:markS c l=some r):r.length < l.length:=by
 unfold markS at h
 have:=dropSp_len l
 split at h
 ·cases h
 ·rename_i x t e
  split at h
  ·cases h
   rw[e]at this
   simp only[List.length_cons]at this
   omega
  ·cases h
theorem quotS_len {l:List UInt8} {p:List UInt8 × List UInt8} (h:quotS l=some p):p.2.length < l.length:=by
 simp only[quotS,Option.bind_eq_some_iff]at h
 obtain⟨q,h1,h2⟩:=h
 have:=bodyS_len _ _ _ _ h2
 have:=markS_len h1
 omega
theorem isSp_index (c:UInt8):(0<=Lib.indexByte [32,9,10,13] c)=(isSp c=true):=by
 simp only[Lib.indexByte,isSp,eq_iff_iff]
 by_cases h1:c=32
 ·subst h1;decide
 by_cases h2:c=9
 ·subst h2;decide
 by_cases h3:c=10
 ·subst h3;decide
 by_cases h4:c=13
 ·subst h4;decide
 simp[h1,h2,h3,h4,Ne.symm h1,Ne.symm h2,Ne.symm h3,Ne.symm h4]
end Go.Proofs.YtmdemcjmcnfjmaaGreatDoor
namespace Go.Proofs.YtmdemcjmcnfjmaaGreatDoor
open Go.RowKit
def RdIs (w:World) (b:Nat) (s:ByteArray) (i:Nat) (bad:Bool):Prop:=
 w.heap[b]?=some (.cells #[.string s,.int .i64 i,.bool bad] 97)/\i<=s.size/\s.size<=2000
theorem RdIs.c {w:World} {b:Nat} {s:ByteArray} {i:Nat} {bad:Bool} (h:RdIs w b s i bad) :
 w.cell? ⟨b,0,none⟩=some (.string s)/\w.cell? ⟨b,1,none⟩=some (.int .i64 i)/\w.cell? ⟨b,2,none⟩=some (.bool bad)/\w.frozen? ⟨b,1,none⟩=false/\w.frozen? ⟨b,2,none⟩=false:=by
 obtain⟨h,_,_⟩:=h
 refine⟨?_,?_,?_,?_,?_⟩ <;> simp[World.cell?,World.frozen?,h]
def RdAt (w:World) (b:Nat) (s:ByteArray) (l:List UInt8) (bad:Bool):Prop:=∃ i,RdIs w b s i bad/\s.data.toList.drop i=l
theorem RdAt.of_heap {w w':World} {b:Nat} {s:ByteArray} {l:List UInt8} {bad:Bool} (h:RdAt w b s l bad) (e:w'.heap[b]?=w.heap[b]?):RdAt w' b s l bad:=by
 obtain⟨i,h,e2⟩:=h
 exact⟨i,⟨e.trans h.1,h.2⟩,e2⟩
theorem RdAt.lt {w:World} {b:Nat} {s:ByteArray} {l:List UInt8} {bad:Bool} (h:RdAt w b s l bad):b < w.heap.size:=by
 obtain⟨i,h,e2⟩:=h
 exact(Array.getElem?_eq_some_iff.1 h.1).1
theorem RdAt.len {w:World} {b:Nat} {s:ByteArray} {l:List UInt8} {bad:Bool} (h:RdAt w b s l bad):l.length<=s.size/\s.size<=2000:=by
 obtain⟨i,h,e2⟩:=h
 have e:s.data.toList.length=s.size:=by simp only[Array.length_toList];rfl
 have:=congrArg List.length e2
 rw[List.length_drop,e]at this
 exact⟨by omega,h.2.2⟩
theorem RdAt.nil {w:World} {b:Nat} {s:ByteArray} {bad:Bool} (h:RdAt w b s [] bad):RdIs w b s s.size bad:=by
 obtain⟨i,h,e⟩:=h
 have e1:s.data.toList.length<=i:=List.drop_eq_nil_iff.1 e
 have h2:=h.2.1
 have e2:s.data.toList.length=s.size:=by simp only[Array.length_toList];rfl
 have e:i=s.size:=by omega
 subst e;exact h
theorem RdAt.cons {w:World} {b:Nat} {s:ByteArray} {c:UInt8} {l:List UInt8} {bad:Bool} (h:RdAt w b s (c :: l) bad) :
 ∃ i,RdIs w b s i bad/\(∃ hi:i < s.size,s[i]=c)/\s.data.toList.drop (i+1)=l:=by
 obtain⟨i,h,e⟩:=h
 have hi:i < s.data.toList.length:=by
  rcases Nat.lt_or_ge i s.data.toList.length with h | h
  ·exact h
  ·rw[List.drop_eq_nil_of_le h]at e;cases e
 rw[List.drop_eq_getElem_cons hi]at e
 simp only[List.cons.injEq]at e
 exact⟨i,h,⟨by rw[Array.length_toList]at hi;exact hi,e.1⟩,e.2⟩
set_option maxHeartbeats 400000 in
theorem fail_any (w:World) (b:Nat) (s:ByteArray) (i:Nat) (bad:Bool) (h:RdIs w b s i bad) :
 Calls Tryz.prog 129 #[.pointer (some ⟨b,0,none⟩)] w fun e w'=>e=.returned (.tuple #[])/\RdIs w' b s s.size true/\w.grownBy w' (some b):=by
 obtain⟨c0,c1,c2,f1,f2⟩:=h.c
 have H:=hidI h
 have h3:=h.2.2
 clear h
 go_enter Tryz.func129,Tryz.ntmps129
 go_wp2
 go_end0
 exact⟨rfl,⟨heap_set (heap_set H.out.1 2 _) 1 _,Nat.le_refl _,H.out.2.2⟩,gb_set (gb_set (gb_refl _ _) _ _) _ _⟩
theorem fail_at (w:World) (b:Nat) (s:ByteArray) (l:List UInt8) (bad:Bool) (h:RdAt w b s l bad) :
 Calls Tryz.prog 129 #[.pointer (some ⟨b,0,none⟩)] w fun e w'=>e=.returned (.tuple #[])/\RdAt w' b s [] true/\w.grownBy w' (some b):=by
 obtain⟨i,h,_⟩:=h
 refine(fail_any w b s i bad h).mono ?_
 rintro e w' ⟨he,hr,hg⟩
 exact⟨he,⟨s.size,hr,List.drop_eq_nil_of_le (by simp only[Array.length_toList];exact Nat.le_refl _)⟩,hg⟩
set_option maxHeartbeats 400000 in
theorem ahead_nil (w:World) (b:Nat) (s:ByteArray) (bad:Bool) (h:RdAt w b s [] bad) :
 Calls Tryz.prog 92 #[.pointer (some ⟨b,0,none⟩)] w fun e w'=>e=.returned (.int .u8 0)/\∃ n,w'=w.drewN n:=by
 obtain⟨c0,c1,c2,f1,f2⟩:=h.nil.c
 clear h
 go_enter Tryz.func92,Tryz.ntmps92
 go_wp2
 go_quiet (fail)
 go_wp2
 go_ret
 exact⟨rfl,nq,rfl⟩
set_option maxHeartbeats 400000 in
theorem ahead_cons (w:World) (b:Nat) (s:ByteArray) (c:UInt8) (l:List UInt8) (bad:Bool) (h:RdAt w b s (c :: l) bad) :
 Calls Tryz.prog 92 #[.pointer (some ⟨b,0,none⟩)] w fun e w'=>e=.returned (.int .u8 c.toNat)/\∃ n,w'=w.drewN n:=by
 obtain⟨i,h,⟨hi,hc⟩,hl⟩:=h.cons
 obtain⟨c0,c1,c2,f1,f2⟩:=h.c
 have h3:=h.2.2
 have Hc:=hidI hc
 clear h hl hc
 have e1:((i:Int) == (s.size:Int))=false:=by rw[beq_eq_false_iff_ne];omega
 go_enter Tryz.func92,Tryz.ntmps92
 go_wp2
 go_quiet (fail)
 go_wp2
 go_quiet (fail)
 go_wp2
 go_ret
 exact⟨by rw[Hc.out];rfl,_,drewN_drewN _ _ _⟩
def hd0 (l:List UInt8):UInt8:=l.headD 0
theorem ahead_at (w:World) (b:Nat) (s:ByteArray) (l:List UInt8) (bad:Bool) (h:RdAt w b s l bad) :
 Calls Tryz.prog 92 #[.pointer (some ⟨b,0,none⟩)] w fun e w'=>e=.returned (.int .u8 (hd0 l).toNat)/\∃ n,w'=w.drewN n:=by
 cases l with
 | nil=>exact ahead_nil w b s bad h
 | cons c l=>exact ahead_cons w b s c l bad h
set_option maxHeartbeats 400000 in
theorem next_nil (w:World) (b:Nat) (s:ByteArray) (bad:Bool) (h:RdAt w b s [] bad) :
 Calls Tryz.prog 131 #[.pointer (some ⟨b,0,none⟩)] w fun e w'=>e=.returned (.int .u8 0)/\RdAt w' b s [] true/\w.grownBy w' (some b):=by
 obtain⟨c0,c1,c2,f1,f2⟩:=h.nil.c
 have H:=hidI h
 clear h
 go_enter Tryz.func131,Tryz.ntmps131
 go_wp2
 go_quiet (fail)
 go_wp2_with fail
 refine(fail_at _ b s [] bad (by exact H.out.of_heap rfl)).mono ?_
 rintro e w' ⟨rfl,hr,hg⟩
 go_wp2
 go_ret
 exact⟨rfl,hr,gb_trans (gb_drewN (gb_refl _ _) _) hg⟩
set_option maxHeartbeats 400000 in
theorem next_cons (w:World) (b:Nat) (s:ByteArray) (c:UInt8) (l:List UInt8) (bad:Bool) (h:RdAt w b s (c :: l) bad) :
 Calls Tryz.prog 131 #[.pointer (some ⟨b,0,none⟩)] w fun e w'=>e=.returned (.int .u8 c.toNat)/\RdAt w' b s l bad/\w.grownBy w' (some b):=by
 obtain⟨i,h,⟨hi,hc⟩,hl⟩:=h.cons
 obtain⟨c0,c1,c2,f1,f2⟩:=h.c
 have h3:=h.2.2
 have H:=hidI h
 have Hc:=hidI hc
 have Hl:=hidI hl
 clear h hl hc
 have e1:((i:Int) == (s.size:Int))=false:=by rw[beq_eq_false_iff_ne];omega
 go_enter Tryz.func131,Tryz.ntmps131
 go_wp2
 go_quiet (fail)
 go_wp2
 go_quiet (fail)
 go_wp2
 go_ret
 refine⟨by rw[Hc.out];rfl,⟨i+1,⟨?_,by omega,H.out.2.2⟩,Hl.out⟩,gb_drewN (gb_set (gb_refl _ _) _ _) _⟩
 exact heap_set H.out.1 1 _
end Go.Proofs.YtmdemcjmcnfjmaaGreatDoor
namespace Go.Proofs.YtmdemcjmcnfjmaaGreatDoor
open Go.RowKit
set_option maxHeartbeats 1000000 in
theorem spaces_at (w:World) (b:Nat) (s:ByteArray) (l:List UInt8) (bad:Bool) (h:RdAt w b s l bad) :
 Calls Tryz.prog 64 #[.pointer (some ⟨b,0,none⟩)] w fun e w'=>e=.returned (.tuple #[])/\RdAt w' b s (l.dropWhile isSp) bad/\w.grownBy w' (some b):=by
 have H:=hidI h
 clear h
 go_enter Tryz.func64,Tryz.ntmps64
 go_wp2
 go_loopg [] l.length (fun k wr=>∃ l1,k=l1.length/\RdAt wr b s l1 bad/\l1.dropWhile isSp=l.dropWhile isSp/\w.grownBy wr (some b))
 case atStart=>exact⟨l,rfl,H.out,rfl,gb_refl _ _⟩
 case round=>
  obtain⟨l1,hk,h1,he,hg⟩:=hrel
  have A:Hid (gk=l1.length/\RdAt wr b s l1 bad/\l1.dropWhile isSp=l.dropWhile isSp/\w.grownBy wr (some b)):=⟨hk,h1,he,hg⟩
  clear hk he hg
  cases l1 with
  | nil=>
   obtain⟨c0,c1,c2,f1,f2⟩:=h1.nil.c
   clear h1
   have e0:decide ((s.size:Int) < (s.size:Int))=false:=by simp
   go_wp2_with fail
   go_quiet (fail)
   go_wp2
   go_end0
   obtain⟨hk,h1,he,hg⟩:=A.out
   refine⟨rfl,?_,gb_drewN hg _⟩
   rw[<-he];exact h1.of_heap rfl
  | cons c l2=>
   obtain⟨i,h,⟨hi,hc⟩,hl⟩:=h1.cons
   obtain⟨c0,c1,c2,f1,f2⟩:=h.c
   have h3:=h.2.2
   have H1:=hidI h
   have Hc:=hidI hc
   have Hl:=hidI hl
   clear h h1 hl hc
   have e0:(i:Int) < (s.size:Int):=by omega
   cases hsp:isSp c with
   | true=>
    have e2:0<=Lib.indexByte [32,9,10,13] s[i]:=by rw[Hc.out,isSp_index];exact hsp
    have S:=hidI hsp
    clear hsp
    go_wp2_with fail
    go_quiet ((go_at_call 98;exact Calls.quiet_of_same (Tryz.strings_IndexByte _ _ _)))
    go_wp2_with fail
    obtain⟨hk,h1,he,hg⟩:=A.out
    go_roundg l2.length
    case measure=>rw[hk];simp
    case rel=>
     refine⟨l2,rfl,⟨i+1,⟨heap_set H1.out.1 1 _,by omega,H1.out.2.2⟩,Hl.out⟩,?_,gb_drewN (gb_set hg _ _) _⟩
     rw[<-he,List.dropWhile_cons,if_pos S.out]
   | false=>
    have e2:decide (0<=Lib.indexByte [32,9,10,13] s[i])=false:=decide_eq_false (by rw[Hc.out,isSp_index];simp[hsp])
    have S:=hidI hsp
    clear hsp
    go_wp2_with fail
    go_quiet ((go_at_call 98;exact Calls.quiet_of_same (Tryz.strings_IndexByte _ _ _)))
    go_wp2_with fail
    go_end0
    obtain⟨hk,h1,he,hg⟩:=A.out
    refine⟨rfl,?_,gb_drewN hg _⟩
    rw[<-he,List.dropWhile_cons,if_neg (by rw[S.out];simp)];exact h1.of_heap rfl
set_option maxHeartbeats 400000 in
theorem mark_at (w:World) (b:Nat) (s:ByteArray) (l:List UInt8) (bad:Bool) (m:Int) (c:UInt8) (hm:m=(c.toNat:Int)) (hc0:c≠0) (h:RdAt w b s l bad) :
 Calls Tryz.prog 133 #[.pointer (some ⟨b,0,none⟩),.int .u8 m] w fun e w'=>e=.returned (.bool (markS c l).isSome)/\RdAt w' b s ((markS c l).getD (l.dropWhile isSp)) bad/\w.grownBy w' (some b):=by
 have H:=hidI h
 have M:=hidI hm
 clear h hm
 go_enter Tryz.func133,Tryz.ntmps133
 go_wp2_with fail
 refine(spaces_at _ b s l bad (by exact H.out)).mono ?_
 rintro e w1 ⟨rfl,h1,hg1⟩
 have H1:=hidI h1
 have G1:=hidI hg1
 clear h1 hg1
 go_wp2_with fail
 refine(ahead_at _ b s _ bad (by exact H1.out)).mono ?_
 rintro e w2 ⟨rfl,n,rfl⟩
 cases hl:l.dropWhile isSp with
 | nil=>
  rw[hl]at H1
  have e1:(((hd0 []).toNat:Int) != m)=true:=by
   rw[M.out,bne_iff_ne]
   intro e
   exact hc0 (UInt8.toNat_inj.1 (by simp[hd0]at e ⊢;omega))
  have HL:=hidI hl
  clear hl
  go_wp2
  go_ret
  exact⟨by simp[markS,HL.out],by simp only[markS,HL.out];exact H1.out.of_heap rfl,gb_drewN G1.out _⟩
 | cons x r=>
  rw[hl]at H1
  obtain⟨i,h,⟨hi,hc⟩,hr⟩:=H1.out.cons
  obtain⟨c0,c1,c2,f1,f2⟩:=h.c
  have h3:=h.2.2
  have H2:=hidI h
  have Hr:=hidI hr
  have HL:=hidI hl
  clear h hl hr hc
  by_cases hx:x=c
  ·have e1:(((hd0 (x :: r)).toNat:Int) != m)=false:=by rw[M.out,hx];simp[hd0]
   have HX:=hidI hx
   clear hx
   go_wp2
   go_ret
   exact⟨by simp[markS,HL.out,HX.out],by simp only[markS,HL.out,HX.out];exact⟨i+1,⟨heap_set H2.out.1 1 _,by omega,H2.out.2.2⟩,Hr.out⟩,gb_drewN (gb_set G1.out _ _) _⟩
  ·have e1:(((hd0 (x :: r)).toNat:Int) != m)=true:=by
    rw[M.out,bne_iff_ne]
    intro e
    exact hx (UInt8.toNat_inj.1 (by simp[hd0]at e ⊢;omega))
   have HX:=hidI hx
   clear hx
   go_wp2
   go_ret
   exact⟨by simp[markS,HL.out,HX.out],by simp only[markS,HL.out,HX.out];exact H1.out.of_heap rfl,gb_drewN G1.out _⟩
end Go.Proofs.YtmdemcjmcnfjmaaGreatDoor
namespace Go.Proofs.YtmdemcjmcnfjmaaGreatDoor
open Go.RowKit
def RdSt (w:World) (b:Nat) (s:ByteArray) (st:Option (List UInt8)):Prop:=RdAt w b s (st.getD []) st.isNone
theorem RdSt.of_heap {w w':World} {b:Nat} {s:ByteArray} {st:Option (List UInt8)} (h:RdSt w b s st) (e:w'.heap[b]?=w.heap[b]?):RdSt w' b s st:=RdAt.of_heap h e
theorem RdSt.lt {w:World} {b:Nat} {s:ByteArray} {st:Option (List UInt8)} (h:RdSt w b s st):b < w.heap.size:=RdAt.lt h
theorem RdSt.len {w:World} {b:Nat} {s:ByteArray} {l:List UInt8} (h:RdSt w b s (some l)):l.length<=s.size/\s.size<=2000:=RdAt.len h
theorem RdSt.grown {a w:World} {b:Nat} {s:ByteArray} {st:Option (List UInt8)} {r:Option Nat} (h:RdSt a b s st) (hg:a.grownBy w r) (hr:some b≠r):RdSt w b s st:=h.of_heap (hg.block b h.lt hr)
theorem gb_own {a w w':World} {b:Nat} {row:Option Nat} (h:a.grownBy w (some b)) (hg:w.grownBy w' row) (hr:∀ k,row=some k->a.heap.size<=k):a.grownBy w' (some b):=
 ⟨hg.os.trans h.os,hg.tape.trans h.tape,hg.output.trans h.output,Nat.le_trans h.size hg.size,fun i hi hb=>(hg.block i (Nat.lt_of_lt_of_le hi h.size) (fun e=>by have:=hr i e.symm;omega)).trans (h.block i hi hb)⟩
theorem fail_st (w:World) (b:Nat) (s:ByteArray) (st:Option (List UInt8)) (h:RdSt w b s st) :
 Calls Tryz.prog 129 #[.pointer (some ⟨b,0,none⟩)] w fun e w'=>e=.returned (.tuple #[])/\RdSt w' b s none/\w.grownBy w' (some b):=
 fail_at w b s _ _ h
def nextB:List UInt8->Option (UInt8 × List UInt8)
 | []=>none
 | c :: l=>some (c,l)
theorem next_st (w:World) (b:Nat) (s:ByteArray) (st:Option (List UInt8)) (h:RdSt w b s st) :
 Calls Tryz.prog 131 #[.pointer (some ⟨b,0,none⟩)] w fun e w'=>∃ (c:UInt8) (st':Option (List UInt8)),e=.returned (.int .u8 c.toNat)/\st.bind nextB=st'.map (fun l=>(c,l))/\(st'=none->c=0)/\RdSt w' b s st'/\w.grownBy w' (some b):=by
 match st,h with
 | none,h=>exact(next_nil w b s true h).mono fun e w' ⟨he,hr,hg⟩=>⟨0,none,he,rfl,fun _=>rfl,hr,hg⟩
 | some [],h=>exact(next_nil w b s false h).mono fun e w' ⟨he,hr,hg⟩=>⟨0,none,he,rfl,fun _=>rfl,hr,hg⟩
 | some (c :: l),h=>exact(next_cons w b s c l false h).mono fun e w' ⟨he,hr,hg⟩=>⟨c,some l,he,rfl,nofun,hr,hg⟩
theorem mark_st (w:World) (b:Nat) (s:ByteArray) (st:Option (List UInt8)) (m:Int) (c:UInt8) (hm:m=(c.toNat:Int)) (hc0:c≠0) (h:RdSt w b s st) :
 Calls Tryz.prog 133 #[.pointer (some ⟨b,0,none⟩),.int .u8 m] w fun e w'=>e=.returned (.bool (st.bind (markS c)).isSome) /\
  RdSt w' b s (if (st.bind (markS c)).isSome then st.bind (markS c) else st.map (List.dropWhile isSp))/\w.grownBy w' (some b):=by
 refine(mark_at w b s _ _ m c hm hc0 h).mono fun e w' ⟨he,hr,hg⟩=>⟨?_,?_,hg⟩
 ·cases st with
  | none=>exact he
  | some l=>exact he
 ·cases st with
  | none=>exact hr
  | some l=>
   cases hk:markS c l with
   | none=>simpa [RdSt,hk] using hr
   | some r=>simpa [RdSt,hk] using hr
set_option maxHeartbeats 400000 in
theorem need_st (w:World) (b:Nat) (s:ByteArray) (st:Option (List UInt8)) (m:Int) (c:UInt8) (hm:m=(c.toNat:Int)) (hc0:c≠0) (h:RdSt w b s st) :
 Calls Tryz.prog 130 #[.pointer (some ⟨b,0,none⟩),.int .u8 m] w fun e w'=>e=.returned (.tuple #[])/\RdSt w' b s (st.bind (markS c))/\w.grownBy w' (some b):=by
 have H:=hidI h
 have M:=hidI hm
 clear h hm
 go_enter Tryz.func130,Tryz.ntmps130
 go_wp2_with fail
 refine(mark_st _ b s st m c M.out hc0 (by exact H.out)).mono ?_
 rintro e w1 ⟨rfl,h1,hg1⟩
 have H1:=hidI h1
 have G1:=hidI hg1
 clear h1 hg1
 cases hk:st.bind (markS c) with
 | none=>
  rw[hk]at H1
  go_wp2_with fail
  refine(fail_st _ b s _ (by exact H1.out)).mono ?_
  rintro e w2 ⟨rfl,h2,hg2⟩
  go_wp2_with fail
  go_end0
  exact⟨rfl,by rw[hk];exact h2,gb_trans G1.out hg2⟩
 | some r=>
  rw[hk]at H1
  go_wp2_with fail
  go_end0
  exact⟨rfl,by rw[hk];exact H1.out,G1.out⟩
theorem u8_all {p:UInt8->Prop} (h:∀ n:Fin 256,p (UInt8.ofNat n.val)) (c:UInt8):p c:=by
 have:=h ⟨c.toNat,c.toNat_lt⟩
 simpa using this
theorem hex_index (c:UInt8):Lib.indexByte [48,49,50,51,52,53,54,55,56,57,97,98,99,100,101,102] (if 65<=c.toNat/\c.toNat<=70 then c+32 else c)=(match hexv c with | some d=>(d:Int) | none=>-1):=
 u8_all (p:=fun c=>Lib.indexByte [48,49,50,51,52,53,54,55,56,57,97,98,99,100,101,102] (if 65<=c.toNat/\c.toNat<=70 then c+32 else c)=(match hexv c with | some d=>(d:Int) | none=>-1)) (by decide +kernel) c
theorem hexv_lt (c:UInt8) (d:Nat) (h:hexv c=some d):d < 16:=by
 simp only[hexv]at h
 split at h
 ·cases h;omega
 ·split at h
  ·cases h;omega
  ·split at h
   ·cases h;omega
   ·cases h
theorem idx_at (t:ByteArray) (m r:Int) (w:World) (h:Lib.indexByte t.data.toList m.toNat.toUInt8=r) :
 Calls Tryz.prog 98 #[.string t,.int .u8 m] w fun e w'=>e=.returned (.int .i64 r)/\w'=w:=by
 subst h;exact Tryz.strings_IndexByte t m w
theorem hex_idx (c:UInt8) (m:Int) (hm:m=if 65<=c.toNat/\c.toNat<=70 then (c.toNat:Int)+32 else c.toNat) :
 Lib.indexByte [48,49,50,51,52,53,54,55,56,57,97,98,99,100,101,102] m.toNat.toUInt8=(match hexv c with | some d=>(d:Int) | none=>-1):=by
 rw[<-hex_index c]
 congr 1
 subst hm
 split
 ·rename_i h
  apply UInt8.toNat_inj.1
  rw[UInt8.toNat_add]
  simp;omega
 ·simp
theorem nextS_map {st st1:Option (List UInt8)} {c:UInt8} {α:Type} (f:UInt8->List UInt8->Option α) (hs:st.bind nextB=st1.map (fun l=>(c,l))) :
 (st.bind fun l=>match l with | []=>none | c :: l=>f c l)=st1.bind (f c):=by
 match st,st1,hs with
 | none,none,_=>rfl
 | some [],none,_=>rfl
 | some (x :: r),some l,hs=>simp[nextB]at hs;obtain⟨rfl,rfl⟩:=hs;rfl
theorem digS_next {st st1:Option (List UInt8)} {c:UInt8} (hs:st.bind nextB=st1.map (fun l=>(c,l))) :
 st.bind digS=st1.bind fun l=>(hexv c).map fun d=>(d,l):=by
 rw[<-nextS_map (fun c l=>(hexv c).map fun d=>(d,l)) hs]
 cases st with
 | none=>rfl
 | some l=>cases l <;> rfl
set_option maxRecDepth 100000 in
set_option maxHeartbeats 400000 in
theorem digit_st (w:World) (b:Nat) (s:ByteArray) (st:Option (List UInt8)) (h:RdSt w b s st) :
 Calls Tryz.prog 162 #[.pointer (some ⟨b,0,none⟩)] w fun e w'=>∃ (d:Nat) (st':Option (List UInt8)),e=.returned (.int .i64 d)/\d < 16/\st.bind digS=st'.map (fun l=>(d,l))/\RdSt w' b s st'/\w.grownBy w' (some b):=by
 have H:=hidI h
 clear h
 go_enter Tryz.func162,Tryz.ntmps162
 go_wp2_with fail
 refine(next_st _ b s st (by exact H.out)).mono ?_
 rintro e w1 ⟨c,st1,rfl,hs,h0,h1,hg1⟩
 have hD:=hidI (digS_next hs)
 have A:Hid ((st1=none->c=0)/\RdSt w1 b s st1/\w.grownBy w1 (some b)):=⟨h0,h1,hg1⟩
 clear hs h0 h1 hg1
 have hc256:(c.toNat:Int) < 256:=by have:=c.toNat_lt;omega
 have hidx:=hidI (hex_idx c)
 cases hx:hexv c with
 | some d=>
  have hd:=hexv_lt c d hx
  have hd0:0<=(d:Int):=by omega
  rw[hx]at hidx hD
  have fin:Hid (∃ (d':Nat) (st':Option (List UInt8)),Ending.returned (Value.int .i64 d)=.returned (.int .i64 d')/\d' < 16/\st.bind digS=st'.map (fun l=>(d',l))/\RdSt w1 b s st'/\w.grownBy w1 (some b)):=by
   refine⟨d,st1,rfl,hd,?_,A.out.2.1,A.out.2.2⟩
   rw[hD.out];cases st1 <;> rfl
  clear hx
  by_cases hup:65<=c.toNat/\c.toNat<=70
  ·have hu1:65<=(c.toNat:Int):=by omega
   have hu2:(c.toNat:Int)<=70:=by omega
   go_wp2_with fail
   refine(idx_at _ _ (d:Int) _ (by exact hidx.out _ (by rw[if_pos hup]))).mono ?_
   rintro e w2 ⟨rfl,rfl⟩
   go_wp2_with fail
   go_ret
   exact fin.out
  ·have hu1:¬(65<=(c.toNat:Int)/\(c.toNat:Int)<=70):=by omega
   by_cases hu2:65<=(c.toNat:Int)
   ·have hu3:¬((c.toNat:Int)<=70):=by omega
    go_wp2_with fail
    refine(idx_at _ _ (d:Int) _ (by exact hidx.out _ (by rw[if_neg hup]))).mono ?_
    rintro e w2 ⟨rfl,rfl⟩
    go_wp2_with fail
    go_ret
    exact fin.out
   ·go_wp2_with fail
    refine(idx_at _ _ (d:Int) _ (by exact hidx.out _ (by rw[if_neg hup]))).mono ?_
    rintro e w2 ⟨rfl,rfl⟩
    go_wp2_with fail
    go_ret
    exact fin.out
 | none=>
  rw[hx]at hidx hD
  have fin:Hid (∀ w2,RdSt w2 b s none->w1.grownBy w2 (some b)->∃ (d':Nat) (st':Option (List UInt8)),Ending.returned (Value.int .i64 0)=.returned (.int .i64 d')/\d' < 16/\st.bind digS=st'.map (fun l=>(d',l))/\RdSt w2 b s st'/\w.grownBy w2 (some b)):=by
   intro w2 h2 hg2
   refine⟨0,none,rfl,by omega,?_,h2,gb_trans A.out.2.2 hg2⟩
   rw[hD.out];cases st1 <;> rfl
  clear hx
  by_cases hup:65<=c.toNat/\c.toNat<=70
  ·have hu1:65<=(c.toNat:Int):=by omega
   have hu2:(c.toNat:Int)<=70:=by omega
   go_wp2_with fail
   refine(idx_at _ _ (-1) _ (by exact hidx.out _ (by rw[if_pos hup]))).mono ?_
   rintro e w2 ⟨rfl,rfl⟩
   go_wp2_with fail
   refine(fail_st _ b s _ (by exact A.out.2.1)).mono ?_
   rintro e w2 ⟨rfl,h2,hg2⟩
   go_wp2_with fail
   go_ret
   exact fin.out _ h2 hg2
  ·have hu1:¬(65<=(c.toNat:Int)/\(c.toNat:Int)<=70):=by omega
   by_cases hu2:65<=(c.toNat:Int)
   ·have hu3:¬((c.toNat:Int)<=70):=by omega
    go_wp2_with fail
    refine(idx_at _ _ (-1) _ (by exact hidx.out _ (by rw[if_neg hup]))).mono ?_
    rintro e w2 ⟨rfl,rfl⟩
    go_wp2_with fail
    refine(fail_st _ b s _ (by exact A.out.2.1)).mono ?_
    rintro e w2 ⟨rfl,h2,hg2⟩
    go_wp2_with fail
    go_ret
    exact fin.out _ h2 hg2
   ·go_wp2_with fail
    refine(idx_at _ _ (-1) _ (by exact hidx.out _ (by rw[if_neg hup]))).mono ?_
    rintro e w2 ⟨rfl,rfl⟩
    go_wp2_with fail
    refine(fail_st _ b s _ (by exact A.out.2.1)).mono ?_
    rintro e w2 ⟨rfl,h2,hg2⟩
    go_wp2_with fail
    go_ret
    exact fin.out _ h2 hg2
end Go.Proofs.YtmdemcjmcnfjmaaGreatDoor
namespace Go.Proofs.YtmdemcjmcnfjmaaGreatDoor
open Go.RowKit
theorem digsS_step {st st1 st2:Option (List UInt8)} {j n d:Nat} (h4:j < 4) (h:st.bind (digsS 4 0)=st1.bind (digsS (4 - j) n)) (hd:st1.bind digS=st2.map (fun l=>(d,l))) :
 st.bind (digsS 4 0)=st2.bind (digsS (4 - (j+1)) (n * 16+d)):=by
 rw[h]
 have e:4 - j=(4 - (j+1))+1:=by omega
 rw[e]
 cases st1 with
 | none=>cases st2 with
  | none=>rfl
  | some l=>cases hd
 | some l=>
  show digsS (4 - (j+1)+1) n l=_
  rw[digsS]
  have hd':digS l=st2.map (fun l=>(d,l)):=hd
  rw[hd']
  cases st2 <;> rfl
theorem codedS_of {st st1:Option (List UInt8)} {n:Nat} (h:st.bind (digsS 4 0)=st1.bind (digsS 0 n)) :
 st.bind codedS=st1.bind fun l=>if n < 128 then some (n.toUInt8,l) else none:=by
 cases st with
 | none=>cases st1 with
  | none=>rfl
  | some l=>cases h
 | some l=>
  have h':digsS 4 0 l=st1.bind (digsS 0 n):=h
  show codedS l=_
  rw[codedS,h']
  cases st1 <;> rfl
set_option maxRecDepth 100000 in
set_option maxHeartbeats 400000 in
theorem coded_st (w:World) (b:Nat) (s:ByteArray) (st:Option (List UInt8)) (h:RdSt w b s st) :
 Calls Tryz.prog 151 #[.pointer (some ⟨b,0,none⟩)] w fun e w'=>∃ (c:UInt8) (st':Option (List UInt8)),e=.returned (.int .u8 c.toNat)/\st.bind codedS=st'.map (fun l=>(c,l))/\RdSt w' b s st'/\w.grownBy w' (some b):=by
 have H:=hidI h
 clear h
 go_enter Tryz.func151,Tryz.ntmps151
 go_wp2_with fail
 go_loopg [3,4] 4 (fun k n i wr=>∃ (j m:Nat) (st1:Option (List UInt8)),n=.int .i64 m/\i=.int .i64 j/\j<=4/\k=4 - j/\m < 16 ^ j/\st.bind (digsS 4 0)=st1.bind (digsS (4 - j) m)/\RdSt wr b s st1/\w.grownBy wr (some b))
 case atStart=>exact⟨0,0,st,rfl,rfl,by omega,rfl,by decide,rfl,H.out,gb_refl _ _⟩
 case round=>
  obtain⟨j,m,st1,rfl,rfl,hj,hk,hm,hs,h1,hg⟩:=hrel
  have hm4:m < 65536:=Nat.lt_of_lt_of_le hm (Nat.pow_le_pow_right (n:=16) (by omega) hj)
  have A:Hid (gk=4 - j/\m < 16 ^ j/\st.bind (digsS 4 0)=st1.bind (digsS (4 - j) m)/\RdSt wr b s st1/\w.grownBy wr (some b)):=⟨hk,hm,hs,h1,hg⟩
  clear hk hm hs h1 hg
  by_cases hlt:j < 4
  ·go_wp2_with fail
   refine(digit_st _ b s st1 (by exact A.out.2.2.2.1)).mono ?_
   rintro e w1 ⟨d,st2,rfl,hd,hs2,h2,hg2⟩
   have B:Hid (st1.bind digS=st2.map (fun l=>(d,l))/\RdSt w1 b s st2/\wr.grownBy w1 (some b)):=⟨hs2,h2,hg2⟩
   clear hs2 h2 hg2
   go_wp2_with fail
   obtain⟨hk,hm,hs,h1,hg⟩:=A.out
   obtain⟨hs2,h2,hg2⟩:=B.out
   go_roundg (4 - (j+1))
   case measure=>omega
   case rel=>
    refine⟨j+1,m * 16+d,st2,by go_num,by go_num,by omega,rfl,?_,digsS_step hlt hs hs2,h2,gb_trans hg hg2⟩
    rw[Nat.pow_succ];omega
  ·have hj4:j=4:=by omega
   subst hj4
   have hcs:=hidI (codedS_of A.out.2.2.1)
   by_cases h128:m < 128
   ·go_wp2_with fail
    go_ret
    obtain⟨hk,hm,hs,h1,hg⟩:=A.out
    refine⟨m.toUInt8,st1,?_,?_,h1,hg⟩
    ·have:m.toUInt8.toNat=m:=by simp;omega
     rw[this];rfl
    ·rw[hcs.out];cases st1 <;> simp[h128]
   ·go_wp2_with fail
    refine(fail_st _ b s _ (by exact A.out.2.2.2.1)).mono ?_
    rintro e w2 ⟨rfl,h2,hg2⟩
    go_wp2_with fail
    go_ret
    obtain⟨hk,hm,hs,h1,hg⟩:=A.out
    refine⟨0,none,rfl,?_,h2,gb_trans hg hg2⟩
    rw[hcs.out];cases st1 <;> simp[h128]
theorem escS_next {st st1:Option (List UInt8)} {c:UInt8} (hs:st.bind nextB=st1.map (fun l=>(c,l))) :
 st.bind escS=st1.bind fun l=>if c=117 then codedS l else if c=47 then some (47,l) else (escB c).map fun x=>(x,l):=by
 rw[<-nextS_map (fun c l=>if c=117 then codedS l else if c=47 then some (47,l) else (escB c).map fun x=>(x,l)) hs]
 cases st with
 | none=>rfl
 | some l=>cases l <;> rfl
theorem u8_back (c:UInt8):(c.toNat:Int).toNat.toUInt8=c:=by simp
theorem u8_ne {c d:UInt8} {m:Int} (hm:m=(d.toNat:Int)) (h:c≠d):((c.toNat:Int) == m)=false:=by
 rw[beq_eq_false_iff_ne,hm];intro e;exact h (UInt8.toNat_inj.1 (by omega))
theorem let_index (c:UInt8):escB c=none->Lib.indexByte [34,92,98,102,110,114,116] c=-1:=
 u8_all (p:=fun c=>escB c=none->Lib.indexByte [34,92,98,102,110,114,116] c=-1) (by decide +kernel) c
theorem escB_cases (c:UInt8):escB c=none\/c=34\/c=92\/c=98\/c=102\/c=110\/c=114\/c=116:=
 u8_all (p:=fun c=>escB c=none\/c=34\/c=92\/c=98\/c=102\/c=110\/c=114\/c=116) (by decide +kernel) c
set_option maxRecDepth 100000 in
set_option maxHeartbeats 1000000 in
theorem escaped_st (w:World) (b:Nat) (s:ByteArray) (st:Option (List UInt8)) (h:RdSt w b s st) :
 Calls Tryz.prog 132 #[.pointer (some ⟨b,0,none⟩)] w fun e w'=>∃ (c:UInt8) (st':Option (List UInt8)),e=.returned (.int .u8 c.toNat)/\st.bind escS=st'.map (fun l=>(c,l))/\RdSt w' b s st'/\w.grownBy w' (some b):=by
 have H:=hidI h
 clear h
 go_enter Tryz.func132,Tryz.ntmps132
 go_wp2_with fail
 refine(next_st _ b s st (by exact H.out)).mono ?_
 rintro e w1 ⟨c,st1,rfl,hs,h0,h1,hg1⟩
 have E:=hidI (escS_next hs)
 have A:Hid (RdSt w1 b s st1/\w.grownBy w1 (some b)):=⟨h1,hg1⟩
 clear hs h0 h1 hg1
 by_cases c1:c=117
 ·subst c1
  go_wp2_with fail
  refine(coded_st _ b s st1 (by exact A.out.1)).mono ?_
  rintro e w2 ⟨x,st2,rfl,hs2,h2,hg2⟩
  have B:Hid (st1.bind codedS=st2.map (fun l=>(x,l))/\RdSt w2 b s st2/\w1.grownBy w2 (some b)):=⟨hs2,h2,hg2⟩
  clear hs2 h2 hg2
  go_wp2_with fail
  go_ret
  obtain⟨hs2,h2,hg2⟩:=B.out
  exact⟨x,st2,rfl,by rw[E.out,<-hs2];rfl,h2,gb_trans A.out.2 hg2⟩
 have n1:=u8_ne (m:=117) rfl c1
 by_cases c2:c=47
 ·subst c2
  go_wp2_with fail
  go_ret
  exact⟨47,st1,rfl,by rw[E.out];cases st1 <;> rfl,A.out.1,A.out.2⟩
 have n2:=u8_ne (m:=47) rfl c2
 have E2:Hid (st.bind escS=st1.bind fun l=>(escB c).map fun x=>(x,l)):=by
  have e:=E.out
  rw[e]
  cases st1 with
  | none=>rfl
  | some l=>show (if c=117 then _ else _)=_;rw[if_neg c1,if_neg c2];rfl
 clear E c1 c2
 rcases escB_cases c with hn | rfl | rfl | rfl | rfl | rfl | rfl | rfl
 ·have L:=hidI (let_index c hn)
  rw[hn]at E2
  clear hn
  go_wp2_with fail
  refine(idx_at _ _ (-1) _ (by rw[u8_back];exact L.out)).mono ?_
  rintro e w2 ⟨rfl,rfl⟩
  go_wp2_with fail
  refine(fail_st _ b s _ (by exact A.out.1)).mono ?_
  rintro e w2 ⟨rfl,h2,hg2⟩
  go_wp2_with fail
  go_ret
  exact⟨0,none,rfl,by rw[E2.out];cases st1 <;> rfl,h2,gb_trans A.out.2 hg2⟩
 ·clear n1 n2
  go_wp2_with fail
  refine(idx_at _ _ 0 _ (by rfl)).mono ?_
  rintro e w2 ⟨rfl,rfl⟩
  go_wp2_with fail
  go_ret
  exact⟨34,st1,rfl,by rw[E2.out];cases st1 <;> rfl,A.out.1,A.out.2⟩
 ·clear n1 n2
  go_wp2_with fail
  refine(idx_at _ _ 1 _ (by rfl)).mono ?_
  rintro e w2 ⟨rfl,rfl⟩
  go_wp2_with fail
  go_ret
  exact⟨92,st1,rfl,by rw[E2.out];cases st1 <;> rfl,A.out.1,A.out.2⟩
 ·clear n1 n2
  go_wp2_with fail
  refine(idx_at _ _ 2 _ (by rfl)).mono ?_
  rintro e w2 ⟨rfl,rfl⟩
  go_wp2_with fail
  go_ret
  exact⟨8,st1,rfl,by rw[E2.out];cases st1 <;> rfl,A.out.1,A.out.2⟩
 ·clear n1 n2
  go_wp2_with fail
  refine(idx_at _ _ 3 _ (by rfl)).mono ?_
  rintro e w2 ⟨rfl,rfl⟩
  go_wp2_with fail
  go_ret
  exact⟨12,st1,rfl,by rw[E2.out];cases st1 <;> rfl,A.out.1,A.out.2⟩
 ·clear n1 n2
  go_wp2_with fail
  refine(idx_at _ _ 4 _ (by rfl)).mono ?_
  rintro e w2 ⟨rfl,rfl⟩
  go_wp2_with fail
  go_ret
  exact⟨10,st1,rfl,by rw[E2.out];cases st1 <;> rfl,A.out.1,A.out.2⟩
 ·clear n1 n2
  go_wp2_with fail
  refine(idx_at _ _ 5 _ (by rfl)).mono ?_
  rintro e w2 ⟨rfl,rfl⟩
  go_wp2_with fail
  go_ret
  exact⟨13,st1,rfl,by rw[E2.out];cases st1 <;> rfl,A.out.1,A.out.2⟩
 ·clear n1 n2
  go_wp2_with fail
  refine(idx_at _ _ 6 _ (by rfl)).mono ?_
  rintro e w2 ⟨rfl,rfl⟩
  go_wp2_with fail
  go_ret
  exact⟨9,st1,rfl,by rw[E2.out];cases st1 <;> rfl,A.out.1,A.out.2⟩
end Go.Proofs.YtmdemcjmcnfjmaaGreatDoor
namespace Go.Proofs.YtmdemcjmcnfjmaaGreatDoor
open Go.RowKit
theorem infoByte:(Tryz.prog.info? 5).map (fun i=>(i.zero,i.size,i.bytes))=some (some (.int .u8 0),1,1):=by kernel_rfl
def togo:Option (List UInt8)->Nat
 | none=>0
 | some l=>l.length+1
def restS (acc:List UInt8) (st:Option (List UInt8)):Option (List UInt8 × List UInt8):=st.bind fun l=>bodyS (l.length+1) acc l
theorem restS_quote (acc l:List UInt8):restS acc (some (34 :: l))=some (acc,l):=by simp[restS,bodyS]
theorem restS_plain (acc l:List UInt8) (c:UInt8) (h1:c≠34) (h2:c≠92) (h3:¬(c.toNat < 32\/127<=c.toNat)):restS acc (some (c :: l))=restS (acc++[c]) (some l):=by
 simp only[restS,Option.bind_some,bodyS,if_neg h1,if_neg h2,if_neg h3]
 exact bodyS_fuel _ _ _ _ (by simp) (by simp)
theorem restS_bad (acc l:List UInt8) (c:UInt8) (h1:c≠34) (h2:c≠92) (h3:c.toNat < 32\/127<=c.toNat):restS acc (some (c :: l))=none:=by
 simp only[restS,Option.bind_some,bodyS,if_neg h1,if_neg h2,if_pos h3]
theorem restS_esc (acc l:List UInt8) (x:UInt8) (st:Option (List UInt8)) (h:(some l).bind escS=st.map (fun l=>(x,l))):restS acc (some (92 :: l))=restS (acc++[x]) st:=by
 have h':escS l=st.map (fun l=>(x,l)):=h
 have e34:¬((92:UInt8)=34):=by decide
 simp only[restS,Option.bind_some,bodyS,if_neg e34,if_true,h']
 cases st with
 | none=>rfl
 | some r=>
  have hl:=escS_len h'
  exact bodyS_fuel _ _ _ _ (by simp only at hl;simp;omega) (by simp)
theorem esc_togo {l:List UInt8} {x:UInt8} {st:Option (List UInt8)} (h:(some l).bind escS=st.map (fun l=>(x,l))):togo st < l.length+1:=by
 have h':escS l=st.map (fun l=>(x,l)):=h
 cases st with
 | none=>simp[togo]
 | some r=>have hl:=escS_len h';simp only at hl;simp[togo];omega
theorem byteCells_one (l:List UInt8) (c:UInt8):Lib.byteCells l++[Value.int .u8 c.toNat]=Lib.byteCells (l++[c]):=by simp[Lib.byteCells]
theorem own_kept {a w w':World} {b:Nat} {e:TypeId} {size:Nat} {v:Value} {n:Nat} {xs:List Value} (h:w.ownsRow a.heap.size e size v n xs) (hg:w.grownBy w' (some b)) (hb:b < a.heap.size):w'.ownsRow a.heap.size e size v n xs:=by
 refine h.kept hg ?_
 cases hv:v.ownBlock with
 | none=>exact .inl rfl
 | some k=>
  right
  intro e
  cases e
  have:=(h.lt b hv).1
  omega
theorem append_byte {w:World} {ops:Array Oper} {rest:List Oper} {o:Oper} {a:Act} {Q:Exit->Act->World->Prop} (hgd:o.guard=none) (s x:Operand)
 (ho:o.op=.call { callee:=.builtin .append,args:=#[s,x],argTypes:=#[72,72] }) (B:Nat) (v:Value) (acc:List UInt8) (c:UInt8) (hs:a.eval s=v)
 (hx:a.eval x=.slice (some ⟨w.heap.size,0,none⟩) 1 1) (hown:w.ownsRow B 5 1 v acc.length (Lib.byteCells acc)) (hB:B<=w.heap.size) (hl:acc.length<=1000000000)
 (hK:∀ v' w',w'.ownsRow B 5 1 v' (acc++[c]).length (Lib.byteCells (acc++[c]))->w.grownBy w' v.ownBlock->wpList Tryz.prog ops Q rest (a.put o.dst v') w') :
 wpList Tryz.prog ops Q (o :: rest) a (w.alloc (.cells #[.int .u8 c.toNat] 5)):=by
 obtain⟨i0,hi,hz0,hz1,hz2⟩:=info_parts infoByte
 refine wpList_append_own _ hgd s x 72 ho B 5 i0 (.int .u8 0) 1 1 Tryz.underlying72 hi hz0 hz1 hz2 rfl (by decide) v acc.length (Lib.byteCells acc) hs (hown.alloc _) ⟨w.heap.size,0,none⟩ 1 1 [Value.int .u8 c.toNat] hx rfl
  (by intro j u' hj;match j,hj with | 0,hj=>simp at hj;subst hj;simp[Addr.add]) (by intro u' hu';simp at hu';subst hu';rfl) (by unfold maxLen;omega) (by omega) (by simp;omega) ?_
 intro v2 w2 hown2 hgrow _
 refine hK v2 w2 ?_ (gb_trans (World.grownBy_alloc w _ _) hgrow)
 rw[byteCells_one]at hown2
 simpa using hown2
def QuotI (w:World) (b:Nat) (s:ByteArray) (T:Option (List UInt8 × List UInt8)) (k:Nat) (v:Value) (wr:World):Prop:=
 ∃ (acc:List UInt8) (st:Option (List UInt8)),k=togo st/\acc.length+k<=2002/\restS acc st=T/\wr.ownsRow w.heap.size 5 1 v acc.length (Lib.byteCells acc)/\RdSt wr b s st/\w.grownBy wr (some b)
set_option maxRecDepth 100000 in
set_option maxHeartbeats 2000000 in
theorem quoted_st (w:World) (b:Nat) (s:ByteArray) (st:Option (List UInt8)) (h:RdSt w b s st) :
 Calls Tryz.prog 94 #[.pointer (some ⟨b,0,none⟩)] w fun e w'=>∃ (t:List UInt8) (st':Option (List UInt8)),e=.returned (.string ⟨t.toArray⟩)/\st.bind quotS=st'.map (fun l=>(t,l))/\t.length<=2002/\RdSt w' b s st'/\w.grownBy w' (some b):=by
 obtain⟨i0,hi,hz0,hz1,hz2⟩:=info_parts infoByte
 have H:=hidI h
 have hbl:=h.lt
 clear h
 go_enter Tryz.func94,Tryz.ntmps94
 go_wp2_with fail
 refine(need_st _ b s st 34 34 rfl (by decide) (by exact H.out)).mono ?_
 rintro e w1 ⟨rfl,h1,hg1⟩
 have H1:=hidI h1
 have G1:=hidI hg1
 have hT:Hid (st.bind quotS=restS [] (st.bind (markS 34))):=by
  cases st with
  | none=>rfl
  | some l=>show quotS l=_;rw[quotS];rfl
 clear h1 hg1
 go_wp2_with fail
 go_loopg [3] (togo (st.bind (markS 34))) (fun k v wr=>QuotI w b s (restS [] (st.bind (markS 34))) k v wr)
 case atStart=>
  refine⟨[],st.bind (markS 34),rfl,?_,rfl,World.ownsRow_nil _ _ _ _,H1.out,G1.out⟩
  cases hk:st.bind (markS 34) with
  | none=>simp[togo]
  | some l=>
   have h1:=H1.out
   rw[hk]at h1
   have:=h1.len
   simp[togo];omega
 case round=>
  obtain⟨acc,st1,hk,hb,hr,hown,h2,hg2⟩:=hrel
  have A:Hid (gk=togo st1/\acc.length+gk<=2002/\restS acc st1=restS [] (st.bind (markS 34))/\wr.ownsRow w.heap.size 5 1 u3 acc.length (Lib.byteCells acc)/\RdSt wr b s st1/\w.grownBy wr (some b)):=⟨hk,hb,hr,hown,h2,hg2⟩
  clear hk hb hr hown hg2
  cases st1 with
  | none=>
   obtain⟨c0,c1,c2,f1,f2⟩:=(RdAt.nil h2).c
   clear h2
   go_wp2_with fail
   go_ret
   obtain⟨hk,hb,hr,hown,h2,hg2⟩:=A.out
   exact⟨[],none,rfl,by rw[hT.out,<-hr];rfl,by simp,h2,hg2⟩
  | some l=>
   have h4:=hidI h2
   obtain⟨i,h3,e3⟩:=h2
   obtain⟨c0,c1,c2,f1,f2⟩:=h3.c
   clear h3 e3
   go_wp2_with fail
   clear c0 c1 c2 f1 f2
   cases l with
   | nil=>
    refine(next_nil _ b s false (by exact h4.out)).mono ?_
    rintro e w2 ⟨rfl,h5,hg5⟩
    have B:Hid (RdSt w2 b s none/\wr.grownBy w2 (some b)):=⟨h5,hg5⟩
    clear h5 hg5
    go_wp2_with fail
    refine(fail_st _ b s _ (by exact B.out.1)).mono ?_
    rintro e w3 ⟨rfl,h6,hg6⟩
    have C:Hid (RdSt w3 b s none/\w2.grownBy w3 (some b)):=⟨h6,hg6⟩
    clear h6 hg6
    go_wp2_with fail
    obtain⟨hk,hb,hr,hown,h2,hg2⟩:=A.out
    go_roundg 0
    case measure=>rw[hk];simp[togo]
    case rel=>exact⟨acc,none,rfl,by omega,hr,own_kept (own_kept hown B.out.2 hbl) C.out.2 hbl,C.out.1,gb_trans (gb_trans hg2 B.out.2) C.out.2⟩
   | cons c l=>
    refine(next_cons _ b s c l false (by exact h4.out)).mono ?_
    rintro e w2 ⟨rfl,h5,hg5⟩
    have B:Hid (RdSt w2 b s (some l)/\wr.grownBy w2 (some b)):=⟨h5,hg5⟩
    clear h5 hg5
    by_cases e1:c=34
    ·subst e1
     obtain⟨hk,hb,hr,hown,h2,hg2⟩:=A.out
     have hown2:=own_kept hown B.out.2 hbl
     rcases hown2.2 with⟨hv,hn⟩ | ⟨g,cap,cur,hv,-,-,-,-,-,-⟩
     ·have hacc:acc=[]:=List.eq_nil_of_length_eq_zero hn
      subst hv
      clear hk hb hr hown h2 hg2 hown2 hn
      have hcv:=run_convert_bytes_nil (P:=Tryz.prog) (w:=w2) 72 5 Tryz.underlying72 Tryz.underlying5 0 0
      go_wp2_with fail
      go_ret
      obtain⟨hk,hb,hr,hown,h2,hg2⟩:=A.out
      subst hacc
      exact⟨[],some l,rfl,by rw[hT.out,<-hr,restS_quote];rfl,by simp,B.out.1,gb_trans hg2 B.out.2⟩
     ·subst hv
      have hcv:=run_convert_bytes_back (P:=Tryz.prog) w2 72 9 5 ⟨g,0,none⟩ cap acc Tryz.underlying72 Tryz.underlying5 Tryz.underlying9 (fun j hj=>hown2.cells (g:=g) rfl j _ (by simp[Lib.byteCells,hj]))
      clear hk hb hr hown h2 hg2 hown2
      go_wp2_with fail
      go_ret
      obtain⟨hk,hb,hr,hown,h2,hg2⟩:=A.out
      exact⟨acc,some l,rfl,by rw[hT.out,<-hr,restS_quote];rfl,by omega,B.out.1,gb_trans hg2 B.out.2⟩
    have n1:=u8_ne (m:=34) rfl e1
    by_cases e2:c=92
    ·subst e2
     go_wp2_with fail
     refine(escaped_st _ b s (some l) (by exact B.out.1)).mono ?_
     rintro e w3 ⟨x,st3,rfl,hs3,h6,hg6⟩
     have C:Hid ((some l).bind escS=st3.map (fun l=>(x,l))/\RdSt w3 b s st3/\w2.grownBy w3 (some b)):=⟨hs3,h6,hg6⟩
     clear hs3 h6 hg6
     have hown3:w3.ownsRow w.heap.size 5 1 u3 acc.length (Lib.byteCells acc):=own_kept (own_kept A.out.2.2.2.1 B.out.2 hbl) C.out.2.2 hbl
     have gw3:w.grownBy w3 (some b):=gb_trans (gb_trans A.out.2.2.2.2.2 B.out.2) C.out.2.2
     have hB3:=gw3.size
     have hl3:acc.length<=1000000000:=by have:=A.out.2.1;omega
     have O3:=hidI hown3
     have G3:=hidI gw3
     clear hown3 gw3
     go_wp2_with (at_builtin;go_must (refine append_byte rfl _ _ rfl w.heap.size u3 acc x rfl rfl O3.out hB3 hl3 ?_);intro v4 w4 hown4 hgrow4;refine Hid.out ?_)
     refine hidI ?_
     have D:Hid (w4.ownsRow w.heap.size 5 1 v4 (acc++[x]).length (Lib.byteCells (acc++[x]))/\w3.grownBy w4 u3.ownBlock):=⟨hown4,hgrow4⟩
     clear hown4 hgrow4
     go_wp2_with fail
     obtain⟨hk,hb,hr,hown,h2,hg2⟩:=A.out
     go_roundg (togo st3)
     case measure=>rw[hk];exact Nat.lt_trans (esc_togo C.out.1) (by simp[togo])
     case rel=>
      refine⟨acc++[x],st3,rfl,?_,?_,D.out.1,?_,?_⟩
      ·have h9:=esc_togo C.out.1
       have h8:togo (some ((92:UInt8) :: l))=l.length+2:=rfl
       rw[hk,h8]at hb
       simp only[List.length_append,List.length_cons,List.length_nil];omega
      ·rw[<-hr,restS_esc acc l x st3 C.out.1]
      ·exact C.out.2.1.grown D.out.2 (fun e=>by have:=(O3.out.lt b e.symm).1;omega)
      ·exact gb_own G3.out D.out.2 (fun k hk=>(O3.out.lt k hk).1)
    have n2:=u8_ne (m:=92) rfl e2
    by_cases e3:c.toNat < 32\/127<=c.toNat
    ·have F:Hid (restS acc (some (c :: l))=none):=restS_bad acc l c e1 e2 e3
     have go1:Hid (∀ w3,RdSt w3 b s none->w2.grownBy w3 (some b)->QuotI w b s (restS [] (st.bind (markS 34))) 0 u3 w3):=by
      intro w3 h6 hg6
      obtain⟨hk,hb,hr,hown,h2,hg2⟩:=A.out
      exact⟨acc,none,rfl,by omega,by rw[<-hr,F.out];rfl,own_kept (own_kept hown B.out.2 hbl) hg6 hbl,h6,gb_trans (gb_trans hg2 B.out.2) hg6⟩
     by_cases e4:c.toNat < 32
     ·have e5:(c.toNat:Int) < 32:=by omega
      clear e3
      go_wp2_with fail
      refine(fail_st _ b s _ (by exact B.out.1)).mono ?_
      rintro e w3 ⟨rfl,h6,hg6⟩
      have C:Hid (RdSt w3 b s none/\w2.grownBy w3 (some b)):=⟨h6,hg6⟩
      clear h6 hg6
      go_wp2_with fail
      go_roundg 0
      case measure=>rw[A.out.1];simp[togo]
      case rel=>exact go1.out _ C.out.1 C.out.2
     ·have e5:¬(c.toNat:Int) < 32:=by omega
      have e6:127<=(c.toNat:Int):=by omega
      clear e3
      go_wp2_with fail
      refine(fail_st _ b s _ (by exact B.out.1)).mono ?_
      rintro e w3 ⟨rfl,h6,hg6⟩
      have C:Hid (RdSt w3 b s none/\w2.grownBy w3 (some b)):=⟨h6,hg6⟩
      clear h6 hg6
      go_wp2_with fail
      go_roundg 0
      case measure=>rw[A.out.1];simp[togo]
      case rel=>exact go1.out _ C.out.1 C.out.2
    ·have e5:¬(c.toNat:Int) < 32:=by omega
     have e6:¬127<=(c.toNat:Int):=by omega
     have F:Hid (restS acc (some (c :: l))=restS (acc++[c]) (some l)):=restS_plain acc l c e1 e2 e3
     clear e1 e2 e3
     have hown3:w2.ownsRow w.heap.size 5 1 u3 acc.length (Lib.byteCells acc):=own_kept A.out.2.2.2.1 B.out.2 hbl
     have gw3:w.grownBy w2 (some b):=gb_trans A.out.2.2.2.2.2 B.out.2
     have hB3:=gw3.size
     have hl3:acc.length<=1000000000:=by have:=A.out.2.1;omega
     have O3:=hidI hown3
     have G3:=hidI gw3
     clear hown3 gw3
     go_wp2_with (at_builtin;go_must (refine append_byte rfl _ _ rfl w.heap.size u3 acc c rfl rfl O3.out hB3 hl3 ?_);intro v4 w4 hown4 hgrow4;refine Hid.out ?_)
     refine hidI ?_
     have D:Hid (w4.ownsRow w.heap.size 5 1 v4 (acc++[c]).length (Lib.byteCells (acc++[c]))/\w2.grownBy w4 u3.ownBlock):=⟨hown4,hgrow4⟩
     clear hown4 hgrow4
     go_wp2_with fail
     obtain⟨hk,hb,hr,hown,h2,hg2⟩:=A.out
     go_roundg (togo (some l))
     case measure=>rw[hk];simp[togo]
     case rel=>
      refine⟨acc++[c],some l,rfl,?_,?_,D.out.1,?_,?_⟩
      ·rw[hk]at hb
       simp[togo]at hb ⊢;omega
      ·rw[<-hr,F.out]
      ·exact B.out.1.grown D.out.2 (fun e=>by have:=(O3.out.lt b e.symm).1;omega)
      ·exact gb_own G3.out D.out.2 (fun k hk=>(O3.out.lt k hk).1)
end Go.Proofs.YtmdemcjmcnfjmaaGreatDoor
