import Derived.Shelf.Small.Strs
import Derived.Shelf.Small.Wraps
import Derived.Shelf.Strings.BuilderK
import Derived.Shelf.Utf8.RuneCount
import Derived.Shelf.Strings.Builder2Cap
import Derived.Shelf.Strconv.Itoa3
import Derived.Shelf.Strconv.ErrVarAll
import Derived.Shelf.Strconv.ParseUintEmpty
import Derived.Shelf.Strconv.ParseUint10b64
import Derived.Shelf.Strconv.ParseUint10b32
import Derived.Shelf.Strconv.ParseUint10b16
import Derived.Shelf.Strconv.ParseUint10b8
import Derived.Shelf.Strings.Shaped
import Derived.Shelf.Strconv.AppendIntPublic10
import Derived.Shelf.Strings.SplitShaped
import Derived.Shelf.Strings.Explode
import Derived.Shelf.Unicode.DecodeAny
import Derived.Shelf.Slices.Turned
import Derived.Shelf.Slices.Clone
import Derived.Shelf.Slices.Empties2
import Derived.Shelf.SlicesE.Clone
import Derived.Shelf.SlicesE.IndexFunc
import Derived.Shelf.SlSortCmp.NoneTotal
import Derived.WalkSpells
import Derived.WalkLawsBesides
import Derived.Deep.RegionHeld3
import Derived.Deep.AppendLies
import Derived.ProofKit
import Derived.OpenShut
import Derived.ShutString
import Derived.Deep.DeepWitnessRowRef
import Derived.Lib.AppendZeros
import Derived.Laws.AppendOwnNone
import Derived.Deep.Slices
import Derived.Test.YtgolnaencepejaaGreatDoorCards
import Derived.Test.YtgolnaencepejaaGreatDoorTie
import Derived.Stop.LaidErr
import Derived.Deep.DrawnRows
set_option maxRecDepth 100000
set_option maxHeartbeats 40000000
set_option linter.unusedSimpArgs false
set_option linter.unusedVariables false
namespace Go.Proofs
open Go.Shelf
open Tryz
def Tryz.lays137_ren:Go.Shelf.Ren:=⟨fun | 137=>112 | 217=>142 | 266=>181 | n=>n,fun | 9=>9 | 5=>5 | 3=>3 | n=>n,fun | n=>n⟩
theorem Tryz.lays137:Go.Proofs.Lays.n137 prog Tryz.lays137_ren:={
 mixed:=by kernel_rfl
 f137:=func112.trans (congrArg some (by kernel_rfl))
 f217:=func142.trans (congrArg some (by kernel_rfl))
 f266:=func181.trans (congrArg some (by kernel_rfl))
 t3:=underlying3
 a3:=isAgg3
 z3:=sizeOf3
 v3:=zeroValue3
 t5:=underlying5
 a5:=isAgg5
 z5:=sizeOf5
 v5:=zeroValue5
 t9:=underlying9
 a9:=isAgg9
 z9:=sizeOf9
 v9:=zeroValue9 }
open Go.RowKit in
theorem Tryz.strings_IndexByte (s:ByteArray) (c:Int) (w:World) :
 Calls prog 112 #[.string s,.int .u8 c] w fun e w'=>e=.returned (.int .i64 (Lib.indexByte s.data.toList c.toNat.toUInt8))/\w'=w:=Any.strings_IndexByte Tryz.lays137 s c w
def Tryz.laysM171_ren:Go.Shelf.Ren:=⟨fun | 171=>151 | 243=>186 | 246=>213 | 283=>138 | 284=>139 | 285=>140 | 286=>141 | 129=>177 | 317=>176 | 318=>178 | 319=>179 | 320=>180 | 337=>205 | 338=>206 | n=>n,fun | 3=>3 | 9=>9 | 2=>2 | 4=>4 | 171=>178 | 0=>0 | 53=>153 | 37=>101 | 5=>5 | 173=>181 | 212=>213 | 51=>214 | 20=>20 | 213=>215 | 46=>100 | 232=>259 | 233=>260 | n=>n,fun | 17=>1 | 18=>3 | 19=>4 | n=>n⟩
theorem Tryz.laysM171:Go.Proofs.LaysM.n171 prog Tryz.laysM171_ren:={
 mixed:=by kernel_rfl
 f129:=func177.trans (congrArg some (by kernel_rfl))
 f171:=func151.trans (congrArg some (by kernel_rfl))
 f243:=func186.trans (congrArg some (by kernel_rfl))
 f246:=func213.trans (congrArg some (by kernel_rfl))
 f283:=func138.trans (congrArg some (by kernel_rfl))
 f284:=func139.trans (congrArg some (by kernel_rfl))
 f285:=func140.trans (congrArg some (by kernel_rfl))
 f286:=func141.trans (congrArg some (by kernel_rfl))
 f317:=func176.trans (congrArg some (by kernel_rfl))
 f318:=func178.trans (congrArg some (by kernel_rfl))
 f319:=func179.trans (congrArg some (by kernel_rfl))
 f320:=func180.trans (congrArg some (by kernel_rfl))
 f337:=func205.trans (congrArg some (by kernel_rfl))
 f338:=func206.trans (congrArg some (by kernel_rfl))
 t0:=underlying0
 a0:=isAgg0
 z0:=sizeOf0
 v0:=zeroValue0
 t2:=underlying2
 a2:=isAgg2
 z2:=sizeOf2
 v2:=zeroValue2
 t3:=underlying3
 a3:=isAgg3
 z3:=sizeOf3
 v3:=zeroValue3
 t4:=underlying4
 a4:=isAgg4
 z4:=sizeOf4
 v4:=zeroValue4
 t5:=underlying5
 a5:=isAgg5
 z5:=sizeOf5
 v5:=zeroValue5
 t9:=underlying9
 a9:=isAgg9
 z9:=sizeOf9
 v9:=zeroValue9
 t20:=underlying20
 a20:=isAgg20
 z20:=sizeOf20
 v20:=zeroValue20
 t37:=underlying101
 a37:=isAgg101
 z37:=sizeOf101
 v37:=zeroValue101
 t46:=underlying100
 a46:=isAgg100
 z46:=sizeOf100
 v46:=zeroValue100
 t51:=underlying214
 a51:=isAgg214
 z51:=sizeOf214
 v51:=zeroValue214
 t53:=underlying153
 a53:=isAgg153
 z53:=sizeOf153
 v53:=zeroValue153
 t171:=underlying178
 a171:=isAgg178
 z171:=sizeOf178
 v171:=zeroValue178
 t173:=underlying181
 a173:=isAgg181
 z173:=sizeOf181
 v173:=zeroValue181
 t212:=underlying213
 a212:=isAgg213
 z212:=sizeOf213
 v212:=zeroValue213
 t213:=underlying215
 a213:=isAgg215
 z213:=sizeOf215
 t232:=underlying259
 a232:=isAgg259
 z232:=sizeOf259
 v232:=zeroValue259
 t233:=underlying260
 a233:=isAgg260
 z233:=sizeOf260
 v233:=zeroValue260
 g17:=by kernel_rfl
 g18:=by kernel_rfl
 g19:=by kernel_rfl
 i0:=by kernel_rfl
 i2:=by kernel_rfl
 i3:=by kernel_rfl
 i4:=by kernel_rfl
 i5:=by kernel_rfl
 i9:=by kernel_rfl
 i20:=by kernel_rfl
 i37:=by kernel_rfl
 i46:=by kernel_rfl
 i51:=by kernel_rfl
 i53:=by kernel_rfl
 i171:=by kernel_rfl
 i173:=by kernel_rfl
 i212:=by kernel_rfl
 i232:=by kernel_rfl
 i233:=by kernel_rfl
 m17:=by kernel_rfl
 m18:=by kernel_rfl
 m19:=by kernel_rfl }
def Tryz.laysC172_ren:Go.Shelf.Ren:=⟨fun | 172=>150 | 244=>184 | 245=>185 | 247=>208 | 279=>209 | 280=>210 | 281=>211 | 282=>212 | 287=>236 | 316=>237 | 171=>151 | 205=>238 | 321=>250 | 322=>251 | 243=>186 | 246=>213 | 283=>138 | 284=>139 | 285=>140 | 286=>141 | 129=>177 | 317=>176 | 318=>178 | 319=>179 | 320=>180 | 337=>205 | 338=>206 | n=>n,fun | 9=>9 | 3=>3 | 75=>186 | 76=>187 | 4=>4 | 5=>5 | 167=>231 | 37=>101 | 0=>0 | 85=>232 | 2=>2 | 168=>234 | 53=>153 | 175=>261 | 46=>100 | 210=>264 | 127=>266 | 145=>278 | 143=>276 | 21=>21 | 171=>178 | 173=>181 | 212=>213 | 51=>214 | 20=>20 | 213=>215 | 232=>259 | 233=>260 | 80=>158 | n=>n,fun | 15=>5 | 16=>6 | 17=>1 | 18=>3 | 19=>4 | n=>n⟩
theorem Tryz.laysC172:Go.Proofs.LaysC.n172 prog Tryz.laysC172_ren:={
 mixed:=by kernel_rfl
 f129:=func177.trans (congrArg some (by kernel_rfl))
 f171:=func151.trans (congrArg some (by kernel_rfl))
 f172:=func150.trans (congrArg some (by kernel_rfl))
 f205:=func238.trans (congrArg some (by kernel_rfl))
 f243:=func186.trans (congrArg some (by kernel_rfl))
 f244:=func184.trans (congrArg some (by kernel_rfl))
 f245:=func185.trans (congrArg some (by kernel_rfl))
 f246:=func213.trans (congrArg some (by kernel_rfl))
 f247:=func208.trans (congrArg some (by kernel_rfl))
 f279:=func209.trans (congrArg some (by kernel_rfl))
 f280:=func210.trans (congrArg some (by kernel_rfl))
 f281:=func211.trans (congrArg some (by kernel_rfl))
 f282:=func212.trans (congrArg some (by kernel_rfl))
 f283:=func138.trans (congrArg some (by kernel_rfl))
 f284:=func139.trans (congrArg some (by kernel_rfl))
 f285:=func140.trans (congrArg some (by kernel_rfl))
 f286:=func141.trans (congrArg some (by kernel_rfl))
 f287:=func236.trans (congrArg some (by kernel_rfl))
 f316:=func237.trans (congrArg some (by kernel_rfl))
 f317:=func176.trans (congrArg some (by kernel_rfl))
 f318:=func178.trans (congrArg some (by kernel_rfl))
 f319:=func179.trans (congrArg some (by kernel_rfl))
 f320:=func180.trans (congrArg some (by kernel_rfl))
 f321:=func250.trans (congrArg some (by kernel_rfl))
 f322:=func251.trans (congrArg some (by kernel_rfl))
 f337:=func205.trans (congrArg some (by kernel_rfl))
 f338:=func206.trans (congrArg some (by kernel_rfl))
 t0:=underlying0
 a0:=isAgg0
 z0:=sizeOf0
 v0:=zeroValue0
 t2:=underlying2
 a2:=isAgg2
 z2:=sizeOf2
 v2:=zeroValue2
 t3:=underlying3
 a3:=isAgg3
 z3:=sizeOf3
 v3:=zeroValue3
 t4:=underlying4
 a4:=isAgg4
 z4:=sizeOf4
 v4:=zeroValue4
 t5:=underlying5
 a5:=isAgg5
 z5:=sizeOf5
 v5:=zeroValue5
 t9:=underlying9
 a9:=isAgg9
 z9:=sizeOf9
 v9:=zeroValue9
 t20:=underlying20
 a20:=isAgg20
 z20:=sizeOf20
 v20:=zeroValue20
 t21:=underlying21
 a21:=isAgg21
 z21:=sizeOf21
 v21:=zeroValue21
 t37:=underlying101
 a37:=isAgg101
 z37:=sizeOf101
 v37:=zeroValue101
 t46:=underlying100
 a46:=isAgg100
 z46:=sizeOf100
 v46:=zeroValue100
 t51:=underlying214
 a51:=isAgg214
 z51:=sizeOf214
 v51:=zeroValue214
 t53:=underlying153
 a53:=isAgg153
 z53:=sizeOf153
 v53:=zeroValue153
 t75:=underlying186
 a75:=isAgg186
 z75:=sizeOf186
 v75:=zeroValue186
 t76:=underlying187
 a76:=isAgg187
 z76:=sizeOf187
 v76:=zeroValue187
 t85:=underlying232
 a85:=isAgg232
 z85:=sizeOf232
 v85:=zeroValue232
 t127:=underlying266
 a127:=isAgg266
 z127:=sizeOf266
 v127:=zeroValue266
 t143:=underlying276
 a143:=isAgg276
 z143:=sizeOf276
 v143:=zeroValue276
 t145:=underlying278
 a145:=isAgg278
 z145:=sizeOf278
 v145:=zeroValue278
 t167:=underlying231
 a167:=isAgg231
 z167:=sizeOf231
 v167:=zeroValue231
 t168:=underlying234
 a168:=isAgg234
 z168:=sizeOf234
 v168:=zeroValue234
 t171:=underlying178
 a171:=isAgg178
 z171:=sizeOf178
 v171:=zeroValue178
 t173:=underlying181
 a173:=isAgg181
 z173:=sizeOf181
 v173:=zeroValue181
 t175:=underlying261
 a175:=isAgg261
 z175:=sizeOf261
 v175:=zeroValue261
 t210:=underlying264
 a210:=isAgg264
 z210:=sizeOf264
 v210:=zeroValue264
 t212:=underlying213
 a212:=isAgg213
 z212:=sizeOf213
 v212:=zeroValue213
 t213:=underlying215
 a213:=isAgg215
 z213:=sizeOf215
 t232:=underlying259
 a232:=isAgg259
 z232:=sizeOf259
 v232:=zeroValue259
 t233:=underlying260
 a233:=isAgg260
 z233:=sizeOf260
 v233:=zeroValue260
 g15:=by kernel_rfl
 g16:=by kernel_rfl
 g17:=by kernel_rfl
 g18:=by kernel_rfl
 g19:=by kernel_rfl
 t80:=underlying158
 a80:=isAgg158
 z80:=sizeOf158
 v80:=zeroValue158
 i0:=by kernel_rfl
 i2:=by kernel_rfl
 i3:=by kernel_rfl
 i4:=by kernel_rfl
 i5:=by kernel_rfl
 i9:=by kernel_rfl
 i20:=by kernel_rfl
 i21:=by kernel_rfl
 i37:=by kernel_rfl
 i46:=by kernel_rfl
 i51:=by kernel_rfl
 i53:=by kernel_rfl
 i75:=by kernel_rfl
 i76:=by kernel_rfl
 i80:=by kernel_rfl
 i85:=by kernel_rfl
 i127:=by kernel_rfl
 i143:=by kernel_rfl
 i145:=by kernel_rfl
 i167:=by kernel_rfl
 i168:=by kernel_rfl
 i171:=by kernel_rfl
 i173:=by kernel_rfl
 i175:=by kernel_rfl
 i210:=by kernel_rfl
 i212:=by kernel_rfl
 i232:=by kernel_rfl
 i233:=by kernel_rfl
 m15:=by kernel_rfl
 m16:=by kernel_rfl
 m17:=by kernel_rfl
 m18:=by kernel_rfl
 m19:=by kernel_rfl
 c0:=by kernel_rfl
 c2:=by kernel_rfl
 c3:=by kernel_rfl
 c4:=by kernel_rfl
 c5:=by kernel_rfl
 c9:=by kernel_rfl
 c20:=by kernel_rfl
 c21:=by kernel_rfl
 c37:=by kernel_rfl
 c46:=by kernel_rfl
 c51:=by kernel_rfl
 c53:=by kernel_rfl
 c75:=by kernel_rfl
 c76:=by kernel_rfl
 c80:=by kernel_rfl
 c85:=by kernel_rfl
 c127:=by kernel_rfl
 c143:=by kernel_rfl
 c145:=by kernel_rfl
 c167:=by kernel_rfl
 c168:=by kernel_rfl
 c171:=by kernel_rfl
 c173:=by kernel_rfl
 c175:=by kernel_rfl
 c210:=by kernel_rfl
 c212:=by kernel_rfl
 c213:=by kernel_rfl
 c232:=by kernel_rfl
 c233:=by kernel_rfl }
def Tryz.laysM176_ren:Go.Shelf.Ren:=⟨fun | 176=>70 | 249=>87 | 288=>111 | 283=>138 | 284=>139 | 285=>140 | 286=>141 | 129=>177 | 317=>176 | 318=>178 | 319=>179 | 320=>180 | 337=>205 | 338=>206 | n=>n,fun | 37=>101 | 2=>2 | 3=>3 | 53=>153 | 4=>4 | 9=>9 | 171=>178 | 0=>0 | 173=>181 | 212=>213 | 51=>214 | 5=>5 | 20=>20 | 213=>215 | 46=>100 | 232=>259 | 233=>260 | n=>n,fun | 17=>1 | 18=>3 | 19=>4 | n=>n⟩
theorem Tryz.laysM176:Go.Proofs.LaysM.n176 prog Tryz.laysM176_ren:={
 mixed:=by kernel_rfl
 f129:=func177.trans (congrArg some (by kernel_rfl))
 f176:=func70.trans (congrArg some (by kernel_rfl))
 f249:=func87.trans (congrArg some (by kernel_rfl))
 f283:=func138.trans (congrArg some (by kernel_rfl))
 f284:=func139.trans (congrArg some (by kernel_rfl))
 f285:=func140.trans (congrArg some (by kernel_rfl))
 f286:=func141.trans (congrArg some (by kernel_rfl))
 f288:=func111.trans (congrArg some (by kernel_rfl))
 f317:=func176.trans (congrArg some (by kernel_rfl))
 f318:=func178.trans (congrArg some (by kernel_rfl))
 f319:=func179.trans (congrArg some (by kernel_rfl))
 f320:=func180.trans (congrArg some (by kernel_rfl))
 f337:=func205.trans (congrArg some (by kernel_rfl))
 f338:=func206.trans (congrArg some (by kernel_rfl))
 t0:=underlying0
 a0:=isAgg0
 z0:=sizeOf0
 v0:=zeroValue0
 t2:=underlying2
 a2:=isAgg2
 z2:=sizeOf2
 v2:=zeroValue2
 t3:=underlying3
 a3:=isAgg3
 z3:=sizeOf3
 v3:=zeroValue3
 t4:=underlying4
 a4:=isAgg4
 z4:=sizeOf4
 v4:=zeroValue4
 t5:=underlying5
 a5:=isAgg5
 z5:=sizeOf5
 v5:=zeroValue5
 t9:=underlying9
 a9:=isAgg9
 z9:=sizeOf9
 v9:=zeroValue9
 t20:=underlying20
 a20:=isAgg20
 z20:=sizeOf20
 v20:=zeroValue20
 t37:=underlying101
 a37:=isAgg101
 z37:=sizeOf101
 v37:=zeroValue101
 t46:=underlying100
 a46:=isAgg100
 z46:=sizeOf100
 v46:=zeroValue100
 t51:=underlying214
 a51:=isAgg214
 z51:=sizeOf214
 v51:=zeroValue214
 t53:=underlying153
 a53:=isAgg153
 z53:=sizeOf153
 v53:=zeroValue153
 t171:=underlying178
 a171:=isAgg178
 z171:=sizeOf178
 v171:=zeroValue178
 t173:=underlying181
 a173:=isAgg181
 z173:=sizeOf181
 v173:=zeroValue181
 t212:=underlying213
 a212:=isAgg213
 z212:=sizeOf213
 v212:=zeroValue213
 t213:=underlying215
 a213:=isAgg215
 z213:=sizeOf215
 t232:=underlying259
 a232:=isAgg259
 z232:=sizeOf259
 v232:=zeroValue259
 t233:=underlying260
 a233:=isAgg260
 z233:=sizeOf260
 v233:=zeroValue260
 g17:=by kernel_rfl
 g18:=by kernel_rfl
 g19:=by kernel_rfl
 i0:=by kernel_rfl
 i2:=by kernel_rfl
 i3:=by kernel_rfl
 i4:=by kernel_rfl
 i5:=by kernel_rfl
 i9:=by kernel_rfl
 i20:=by kernel_rfl
 i37:=by kernel_rfl
 i46:=by kernel_rfl
 i51:=by kernel_rfl
 i53:=by kernel_rfl
 i171:=by kernel_rfl
 i173:=by kernel_rfl
 i212:=by kernel_rfl
 i232:=by kernel_rfl
 i233:=by kernel_rfl
 m17:=by kernel_rfl
 m18:=by kernel_rfl
 m19:=by kernel_rfl }
open Go.RowKit Go.Sort Go.Lib in
theorem Tryz.strconv_AppendInt_10 (B n:Nat) (i:Int) (h0:-9223372036854775808<=i) (h1:i<=9223372036854775807) (sv:Value) (xs:List Value) (w:World) (hown:w.ownsRow B 5 1 sv n xs) (hBw:B<=w.heap.size) (hlim:n+21<=140737488355328) (htab:Lib.TabBelow prog B w "internal/strconv.uint64pow10" .u64 Lib.pow10Tab) :
 Calls prog 70 #[sv,.int .i64 i,.int .i64 10] w fun e w'=>∃ v',e=.returned v'/\w'.ownsRow B 5 1 v' (n+(Lib.itoa i).length) (xs++Lib.byteCells (Lib.itoa i))/\Below B w w'/\Lib.OthersKept 5 none w w':=Any.strconv_AppendInt_10 Tryz.laysM176 B n i h0 h1 sv xs w hown hBw hlim htab
def Tryz.lays99_ren:Go.Shelf.Ren:=⟨fun | 99=>143 | 206=>182 | n=>n,fun | 9=>9 | 4=>4 | 3=>3 | n=>n,fun | n=>n⟩
theorem Tryz.lays99:Go.Proofs.Lays.n99 prog Tryz.lays99_ren:={
 mixed:=by kernel_rfl
 f99:=func143.trans (congrArg some (by kernel_rfl))
 f206:=func182.trans (congrArg some (by kernel_rfl))
 t3:=underlying3
 a3:=isAgg3
 z3:=sizeOf3
 v3:=zeroValue3
 t4:=underlying4
 a4:=isAgg4
 z4:=sizeOf4
 v4:=zeroValue4
 t9:=underlying9
 a9:=isAgg9
 z9:=sizeOf9
 v9:=zeroValue9 }
open Go.RowKit Go.Lib in
theorem Tryz.strings_HasPrefix (s p:ByteArray) (w:World) :
 Calls prog 143 #[.string s,.string p] w fun e w'=>e=.returned (.bool (Lib.hasPrefix s.data.toList p.data.toList))/\w'=w:=Any.strings_HasPrefix Tryz.lays99 s p w
def Tryz.lays109_ren:Go.Shelf.Ren:=⟨fun | 109=>83 | n=>n,fun | 31=>36 | 9=>9 | 3=>3 | 0=>0 | 4=>4 | n=>n,fun | n=>n⟩
theorem Tryz.lays109:Go.Proofs.Lays.n109 prog Tryz.lays109_ren:={
 mixed:=by kernel_rfl
 f109:=func83.trans (congrArg some (by kernel_rfl))
 t0:=underlying0
 a0:=isAgg0
 z0:=sizeOf0
 v0:=zeroValue0
 t3:=underlying3
 a3:=isAgg3
 z3:=sizeOf3
 v3:=zeroValue3
 t4:=underlying4
 a4:=isAgg4
 z4:=sizeOf4
 v4:=zeroValue4
 t9:=underlying9
 a9:=isAgg9
 z9:=sizeOf9
 v9:=zeroValue9
 t31:=underlying36
 a31:=isAgg36
 z31:=sizeOf36
 v31:=zeroValue36 }
open Go.Lib in
theorem Tryz.slices_Index_string (b off n c:Nat) (zs:List ByteArray) (x:ByteArray) (w:World) (hz:n<=zs.length) (hbig:n<=9223372036854775807) (hc:∀ j,j < zs.length->w.cell? ⟨b,off+j,none⟩=some (.string (zs.getD j ByteArray.empty))) :
 Calls prog 83 #[.slice (some ⟨b,off,none⟩) n c,.string x] w fun e w'=>e=.returned (.int .i64 (Lib.idxOfS (zs.take n) x))/\w'=w:=Any.slices_Index_string Tryz.lays109 b off n c zs x w hz hbig hc
open Go.Lib in
theorem Tryz.slices_Index_string_empty (a:Option Addr) (c:Nat) (x:ByteArray) (w:World) :
 Calls prog 83 #[.slice a 0 c,.string x] w fun e w'=>e=.returned (.int .i64 (Lib.idxOfS [] x))/\w'=w:=Any.slices_Index_string_empty Tryz.lays109 a c x w
end Go.Proofs
namespace Go.Proofs.YtgolnaencepejaaGreatDoor
open Go.RowKit
open _root_.Go.Proofs.Tryz
variable {w w':World}
def Ll (p:Prop):Prop:=p
theorem Ll.o {p:Prop} (h:Ll p):p:=h
abbrev La (w w':World):Prop:=Below (w.heap.size) w w'
abbrev Lj (ok:Nat->Prop) (w:World) (k:Nat):Prop:=ok k/\k < w.heap.size
abbrev Lz:=(List UInt8:Type)
abbrev LC:=(World:Type)
theorem LE {P:Program} {n:FuncId} {xs:Array Value} {w:World} {v:Value} {Q:Ending->World->Prop} (h:Calls P n xs w fun e w'=>e=.returned v/\w'=w) (k:Q (.returned v) w):Calls P n xs w Q:=h.mono fun e w' h=>h.1 ▸ h.2 ▸ k
theorem Lk {P:Program} {n:FuncId} {xs:Array Value} {w:World} {v:Value} {B:World->Prop} {Q:Ending->World->Prop} (h:Calls P n xs w fun e w'=>e=.returned v/\B w') (k:∀ w',B w'->Q (.returned v) w'):Calls P n xs w Q:=h.mono fun e w' h=>h.1 ▸ k w' h.2
theorem Mt {α:Type} (l:List α) (i:Nat) (a:α):l.toArray.setIfInBounds i a=(l.set i a).toArray:=List.setIfInBounds_toArray l i a
theorem Mu {α:Type} {x:α} {xs:List α} {a:α}:(x :: xs).set 0 a=a :: xs:=rfl
theorem Mv {α:Type} {x:α} {xs:List α} {i:Nat} {a:α}:(x :: xs).set (i+1) a=x :: xs.set i a:=rfl
theorem Mw {α:Type} {l:List α} {i:Nat} (h:i < l.length):l[i]?=some l[i]:=List.getElem?_eq_getElem h
theorem Mx {α:Type} {r s:List α}:(r++s).length=r.length+s.length:=List.length_append
theorem My {α:Type} {a:α} {r:List α}:(a :: r).length=r.length+1:=rfl
theorem Mz {α:Type} {i:Nat} {a:α} {l:List α}:l[i]?=some a↔∃ h,l[i]=a:=List.getElem?_eq_some_iff
theorem MB {α:Type} {i:Nat} {l:List α}:(l.drop i).length=l.length - i:=List.length_drop
theorem MC {α:Type} {i:Nat} {l:List α}:(l.take i).length=min i l.length:=List.length_take
theorem MD {α:Type} {i:Nat} {l:List α} (h:l.length<=i):l.take i=l:=List.take_of_length_le h
theorem ME {α:Type} {i:Nat} {l:List α} (h:i < l.length):l.drop i=l[i] :: l.drop (i+1):=List.drop_eq_getElem_cons h
theorem MF {α:Type} {i:Nat} {b:α} {xs:Array α}:xs[i]?=some b↔∃ h,xs[i]=b:=Array.getElem?_eq_some_iff
theorem MG (n:Nat):n<=n:=Nat.le_refl n
theorem MH {n m k:Nat} (h:n<=m) (h':m<=k):n<=k:=Nat.le_trans h h'
theorem MI {n m k:Nat} (h:n < m) (h':m<=k):n < k:=Nat.lt_of_lt_of_le h h'
theorem MJ (a b:Bool):((a&&b)=true)=(a=true/\b=true):=Bool.and_eq_true a b
theorem MK (B:Nat) (w:World):Below B w w:=Below.refl B w
theorem MM {P:Program} {fn:Func} {R:Ending->World->Prop} {a:Act} {w:World} {v:Value} (h:(results fn a.tmps).run P w=.ok v w) (h':a.defers=[]) (k:R (.returned v) w):bodyPost P fn R .ret a w:=bodyPost_ret h h' k
theorem MN (w:World) (o:Obj):(w.alloc o).heap[w.heap.size]?=some o:=heap_alloc_new w o
theorem MO {α:Type} [BEq α] [LawfulBEq α] {a b:α}:(a == b)=false↔a≠b:=beq_eq_false_iff_ne
theorem aa{p:Prop}(h:p):Ll p:=h
theorem az(w:World)(r):w.grownBy w r:=⟨rfl,rfl,rfl,Nat.le_refl _,fun _ _ _=>rfl⟩
theorem am{a:World}{r}(h:a.grownBy w r)(k:w.grownBy w' r):a.grownBy w' r:=
 ⟨k.os.trans h.os,k.tape.trans h.tape,k.output.trans h.output,Nat.le_trans h.size k.size,fun i hi hr=>(k.block i (Nat.lt_of_lt_of_le hi h.size) hr).trans (h.block i hi hr)⟩
theorem oD{a:World}{r}(h:a.grownBy w r):a.grownBy w.drew r:=⟨h.os,h.tape,h.output,h.size,h.block⟩
theorem cJ{a:World}{r}(h:a.grownBy w r)(n):a.grownBy (w.drewN n) r:=⟨h.os,h.tape,h.output,h.size,h.block⟩
theorem bd{a:World}{r}(h:a.grownBy w r)(o:Obj):a.grownBy (w.alloc o) r:=am h (World.grownBy_alloc w o r)
theorem ap{a:World}{b}(h:a.grownBy w (some b))(i v):a.grownBy (w.setCell ⟨b,i,none⟩ v) (some b):=
 am h ⟨rfl,rfl,rfl,by simp[World.setCell],fun k _ hr=>Below.heap_setCell w ⟨b,i,none⟩ v k (fun e=>hr (by rw[e]))⟩
theorem aq{r}(h:La w w'):w.grownBy w' r:=⟨h.os,h.tape,h.output,h.size,fun k hk _=>h.block k hk⟩
theorem bS(h:w.grownBy w' none):La w w':=⟨h.os,h.tape,h.output,h.size,fun k hk=>h.block k hk (by simp)⟩
theorem uk(w:World)(m n):(w.drewN m).drewN n=w.drewN (m+n):=by simp[World.drewN,Nat.add_assoc]
theorem ak{b}{c:Array Value}{t:TypeId}{f:Nat × Nat}(h:w.heap[b]?=some (.cells c t f))(i v):(w.setCell ⟨b,i,none⟩ v).heap[b]?=some (.cells (c.setIfInBounds i v) t f):=by
 have e:b < w.heap.size:=(Array.getElem?_eq_some_iff.1 h).1;simp[World.setCell,Array.getElem?_modify,h]
theorem Ep(a b:ByteArray):(a == b)=(a.data == b.data):=by cases a;cases b;rfl
theorem Aq{a b:ByteArray}(h:a.data.toList≠b.data.toList):(a == b)=false:=by
 rw[Ep,beq_eq_false_iff_ne];exact fun e=>h (by rw[e])
theorem zN{a b:ByteArray}(h:a.data.toList=b.data.toList):(a == b)=true:=by
 rw[Ep,beq_iff_eq];exact Array.toList_inj.1 h
def dW (n:Int):Prop:=-9223372036854775808<=n/\n<=9223372036854775807
def aR (l:List UInt8):Value:=.string ⟨l.toArray⟩
theorem ae(w)(o:Obj):La w (w.alloc o):=(Below.refl _ w).alloc (Nat.le_refl _) _
theorem ab{a b c}(h:La a b)(k:La b c):La a c:=h.trans (k.mono h.size)
theorem fb(w:World)(o1 o2:Obj):((w.alloc o1).alloc o2).heap[w.heap.size]?=some o1:=by
 have:=World.grownBy_alloc (w.alloc o1) o2 none;rw[this.block _ (by simp) (by simp)];exact heap_alloc_new w o1
theorem et(w:World)(o1 o2:Obj):((w.alloc o1).alloc o2).heap[w.heap.size+1]?=some o2:=by
 have:=heap_alloc_new (w.alloc o1) o2;simpa using this
theorem ah(hb:La w w'){a x}(h:w.cell? a=some x):w'.cell? a=some x:=by
 rw[World.cell?_of_block (hb.block _ (World.block_lt_of_cell? w _ h))];exact h
theorem aC(w n):La w (w.drewN n):=⟨rfl,rfl,rfl,Nat.le_refl _,fun _ _=>rfl⟩
variable {ok ok':Nat->Prop}
variable {v:Value}
variable {g n:Nat}
structure V where
 kind:Int
 n:Int
 s:Lz
 keys:List Lz
 l:List V
abbrev Le :Array Value:=#[.string ⟨#[]⟩,.int .i64 0,.int .i64 0,.string ⟨#[]⟩,.slice none 0 0,.slice none 0 0,.slice none 0 0,.int .i64 0,.int .i64 0,.string ⟨#[]⟩,.string ⟨#[]⟩,.int .i64 0,.int .i64 0,.int .i64 0,.int .i64 0]
abbrev Lh :Array Value:=#[.int .i64 0,.string ⟨#[]⟩,.string ⟨#[]⟩,.int .i64 0,.int .i64 0,.string ⟨#[]⟩,.slice none 0 0,.slice none 0 0]
abbrev KV (t:V) (a:Option Addr) (c:Nat) (b:Option Addr) (d:Nat):Array Value:=#[.int .i64 t.kind,.int .i64 t.n,.string ⟨t.s.toArray⟩,.slice a t.keys.length c,.slice b t.l.length d]
abbrev Lb :Array Value:=#[.int .i64 0,.int .i64 0,.string ⟨#[]⟩,.slice none 0 0,.slice none 0 0]
def ao (w:LC) (ok:Nat->Prop) (xs:List Lz) (v:Value):Prop:=
 xs.length<=maxLen/\(xs=[]/\(∃ a,v=.slice a 0 0)\/∃ b off c,v=.slice (some ⟨b,off,none⟩) xs.length c/\xs.length<=c/\c<=maxLen /\
  ∀ i x,xs[i]?=some x->x.length<=maxLen/\ok b/\w.cell? ⟨b,off+i,none⟩=some (aR x))
def cS (w:LC) (ok:Nat->Prop) (R:V->Value->Prop) (xs:List V) (v:Value):Prop:=
 xs.length<=maxLen/\(xs=[]/\(∃ a,v=.slice a 0 0)\/∃ b off c,v=.slice (some ⟨b,off,none⟩) xs.length c/\xs.length<=c/\c<=maxLen /\
  ∀ i x,xs[i]?=some x->∃ v0 v1 v2 v3 v4,ok b/\w.cell? ⟨b,off+i * 5,none⟩=some v0/\w.cell? ⟨b,off+i * 5+1,none⟩=some v1/\w.cell? ⟨b,off+i * 5+2,none⟩=some v2 /\
   w.cell? ⟨b,off+i * 5+3,none⟩=some v3/\w.cell? ⟨b,off+i * 5+4,none⟩=some v4/\R x (.agg #[v0,v1,v2,v3,v4]))
def bu (w:LC) (ok:Nat->Prop):Nat->V->Value->Prop
 | 0,_,_=>False
 | n+1,t,v=>∃ ks ls,v=.agg #[.int .i64 t.kind,.int .i64 t.n,aR t.s,ks,ls]/\dW t.kind/\dW t.n/\t.s.length<=maxLen/\ao w ok t.keys ks/\cS w ok (bu w ok n) t.l ls
theorem ao.imp{xs}(h:ao w ok xs v)(hc:∀ a x,ok a.block->w.cell? a=some x->ok' a.block/\w'.cell? a=some x):ao w' ok' xs v:=by
 refine⟨h.1,?_⟩;rcases h.2 with h | ⟨b,off,c,e,h1,h2,h3⟩
 ·exact .inl h
 ·refine .inr ⟨b,off,c,e,h1,h2,fun i x hx=>?_⟩;obtain⟨g1,g2,g3⟩:=h3 i x hx;exact⟨g1,hc ⟨b,off+i,none⟩ _ g2 g3⟩
theorem cS.imp{R R':V->Value->Prop}{xs}(h:cS w ok R xs v)(hc:∀ a x,ok a.block->w.cell? a=some x->ok' a.block/\w'.cell? a=some x)(hR:∀ x v,x∈xs->R x v->R' x v):cS w' ok' R' xs v:=by
 refine⟨h.1,?_⟩;rcases h.2 with h | ⟨b,off,c,e,h1,h2,h3⟩
 ·exact .inl h
 ·refine .inr ⟨b,off,c,e,h1,h2,fun i x hx=>?_⟩;obtain⟨v0,v1,v2,v3,v4,g,g0,g1,g2,g3,g4,g5⟩:=h3 i x hx;exact⟨v0,v1,v2,v3,v4,(hc ⟨b,off+i * 5,none⟩ _ g g0).1,(hc ⟨b,off+i * 5,none⟩ _ g g0).2,(hc ⟨b,_,none⟩ _ g g1).2,(hc ⟨b,_,none⟩ _ g g2).2,(hc ⟨b,_,none⟩ _ g g3).2,(hc ⟨b,_,none⟩ _ g g4).2,
   hR _ _ (List.mem_of_getElem? hx) g5⟩
theorem bu.imp(hc:∀ a x,ok a.block->w.cell? a=some x->ok' a.block/\w'.cell? a=some x)(n):∀ {t:V} {v:Value},bu w ok n t v->bu w' ok' n t v:=by
 induction n with
 | zero=>intro t v h;exact h
 | succ n ih=>
  intro t v h;obtain⟨ks,ls,e,h1,h2,h3,h4,h5⟩:=h;exact⟨ks,ls,e,h1,h2,h3,h4.imp hc,h5.imp hc fun x v _ h=>ih h⟩
theorem bu.succ(n):∀ {t:V} {v:Value},bu w ok n t v->bu w ok (n+1) t v:=by
 induction n with
 | zero=>intro t v h;exact h.elim
 | succ n ih=>
  intro t v h;obtain⟨ks,ls,e,h1,h2,h3,h4,h5⟩:=h;exact⟨ks,ls,e,h1,h2,h3,h4,h5.imp (fun a x h1 h2=>⟨h1,h2⟩) fun x v _ h=>ih h⟩
theorem bu.le{m}(hnm:n<=m){t}(h:bu w ok n t v):bu w ok m t v:=by
 induction hnm with
 | refl=>exact h
 | step _ ih=>exact ih.succ
theorem eJ{r:Option Nat}(hg:w.grownBy w' r)(hr:∀ k,ok k->some k≠r):∀ a x,ok a.block->w.cell? a=some x->ok a.block/\w'.cell? a=some x:=
 fun a x h1 h2=>⟨h1,hg.cell h2 (hr _ h1)⟩
theorem bu.grown{r t}(h:bu w ok n t v)(hg:w.grownBy w' r)(hr:∀ k,ok k->some k≠r):bu w' ok n t v:=
 bu.imp (eJ hg hr) n h
theorem bu.below{t}(h:bu w ok n t v):bu w (Lj ok w) n t v:=
 bu.imp (fun a x h1 h2=>⟨⟨h1,World.block_lt_of_cell? w a h2⟩,h2⟩) n h
theorem bu.weak{t}(h:bu w ok n t v)(hk:∀ k,ok k->ok' k):bu w ok' n t v:=
 bu.imp (fun a x h1 h2=>⟨hk _ h1,h2⟩) n h
theorem bu.same{t}(h:bu w ok n t v)(e:w'.heap=w.heap):bu w' ok n t v:=
 bu.imp (fun a x h1 h2=>⟨h1,(World.cell?_of_block (by rw[e])).trans h2⟩) n h
theorem Sp:(prog.info? 39).map (fun i=>(i.zero,i.size,i.bytes))=some (some (.agg Lb),5,80):=by kernel_rfl
theorem wG:(prog.info? 9).map (fun i=>(i.zero,i.size,i.bytes))=some (some (.string ⟨#[]⟩),1,16):=by kernel_rfl
def cz (k n:Int) (s:Lz):Value:=.agg #[.int .i64 k,.int .i64 n,aR s,.slice none 0 0,.slice none 0 0]
def ag (w:LC) (g:Nat) (c0 c1 c2 c3 c4:Value):Prop:=w.heap[g]?=some (.cells #[c0,c1,c2,c3,c4] 39)
abbrev KY (w:LC) (g:Nat) (t:V) (a:Option Addr) (c:Nat) (b:Option Addr) (d:Nat):Prop:=ag w g (.int .i64 t.kind) (.int .i64 t.n) (.string ⟨t.s.toArray⟩) (.slice a t.keys.length c) (.slice b t.l.length d)
abbrev Lc (w:LC) (g:Nat):Prop:=ag w g (.int .i64 0) (.int .i64 0) (.string ⟨#[]⟩) (.slice none 0 0) (.slice none 0 0)
theorem ag.c{c0 c1 c2 c3 c4}(h:ag w g c0 c1 c2 c3 c4):w.cell? ⟨g,0,none⟩=some c0/\w.cell? ⟨g,1,none⟩=some c1/\w.cell? ⟨g,2,none⟩=some c2/\w.cell? ⟨g,3,none⟩=some c3/\w.cell? ⟨g,4,none⟩=some c4 /\
 w.frozen? ⟨g,0,none⟩=false/\w.frozen? ⟨g,1,none⟩=false/\w.frozen? ⟨g,2,none⟩=false/\w.frozen? ⟨g,3,none⟩=false/\w.frozen? ⟨g,4,none⟩=false:=by
 unfold ag at h;refine⟨?_,?_,?_,?_,?_,?_,?_,?_,?_,?_⟩ <;> simp[World.cell?,World.frozen?,h]
theorem ag.grown{c0 c1 c2 c3 c4 r}(h:ag w g c0 c1 c2 c3 c4)(hg:w.grownBy w' r)(hr:some g≠r):ag w' g c0 c1 c2 c3 c4:=
 (hg.block g (MF.1 h).1 hr).trans h
theorem ag.lt{c0 c1 c2 c3 c4}(h:ag w g c0 c1 c2 c3 c4):g < w.heap.size:=(MF.1 h).1
def ar (w:LC) (g:Nat) (d0 d1 d2 d3 d4:Value):LC:=
 ((((w.setCell ⟨g,0,none⟩ d0).setCell ⟨g,1,none⟩ d1).setCell ⟨g,2,none⟩ d2).setCell ⟨g,3,none⟩ d3).setCell ⟨g,4,none⟩ d4
abbrev LG (w:LC) (g:Nat) (t:V) (a:Option Addr) (c:Nat) (b:Option Addr) (d:Nat):LC:=ar w g (.int .i64 t.kind) (.int .i64 t.n) (.string ⟨t.s.toArray⟩) (.slice a t.keys.length c) (.slice b t.l.length d)
theorem LH {p:Value->Value->Value->Value->Value->Prop} (f:∀ x0 x1 x2 x3 x4,p x0 x1 x2 x3 x4) (t:V) (a:Option Addr) (c:Nat) (b:Option Addr) (d:Nat):p (.int .i64 t.kind) (.int .i64 t.n) (.string ⟨t.s.toArray⟩) (.slice a t.keys.length c) (.slice b t.l.length d):=f _ _ _ _ _
theorem ag.set{c0 c1 c2 c3 c4}(h:ag w g c0 c1 c2 c3 c4)(d0 d1 d2 d3 d4):ag (ar w g d0 d1 d2 d3 d4) g d0 d1 d2 d3 d4:=
 ak (ak (ak (ak (ak h 0 d0) 1 d1) 2 d2) 3 d3) 4 d4
theorem aI(w:LC)(g d0 d1 d2 d3 d4):w.grownBy (ar w g d0 d1 d2 d3 d4) (some g):=
 ap (ap (ap (ap (ap (az _ _) _ _) _ _) _ _) _ _) _ _
section
open Go.ChangeShapes Go.WideShapes Go.ChangeAt Go.RowKit
theorem own:ownKnob Tryz.prog.godebug=none:=by kernel_rfl
theorem db:Tryz.prog.cellsOf 9=1:=by kernel_rfl
end
variable {i:Nat}
def du (w:LC) (size:Nat) (v:Value) (n:Nat) (cells:List Value):Prop:=
 cells.length=n * size/\n<=1000000/\(∀ u∈cells,u.oneCell'=true)/\(v=.slice none 0 0/\n=0\/∃ ad c,v=.slice (some ad) n c/\∀ j u,cells[j]?=some u->w.cell? (ad.add j)=some u)
theorem du.below{size cells}(h:du w size v n cells)(hb:La w w'):du w' size v n cells:=by
 obtain⟨h1,h2,h3,h4⟩:=h;refine⟨h1,h2,h3,?_⟩;rcases h4 with h4 | ⟨ad,c,e,hc⟩
 ·exact .inl h4
 ·refine .inr ⟨ad,c,e,fun j u hj=>?_⟩;have:=hc j u hj;rw[World.cell?_of_block (hb.block _ (World.block_lt_of_cell? w _ this))];exact this
structure jY where
 v:Value
 n:Nat
 cells:List Value
def dl (ps:List jY):Nat:=(ps.map jY.n).sum
def fQ (ps:List jY):List Value:=(ps.map jY.cells).flatten
theorem kH(ps:List jY)(p:jY):dl (ps++[p])=dl ps+p.n:=by simp[dl]
theorem sr(ps:List jY)(p:jY):fQ (ps++[p])=fQ ps++p.cells:=by simp[fQ]
theorem js{ps:List jY}{p:jY}(h:ps[i]?=some p):ps.take (i+1)=ps.take i++[p]:=by rw[List.take_add_one,h];rfl
theorem eU(ps:List jY)(i):dl (ps.take i)<=dl ps:=by
 have h:ps=ps.take i++ps.drop i:=(List.take_append_drop i ps).symm;have:dl ps=dl (ps.take i)+dl (ps.drop i):=by
  have:=congrArg dl h;rw[this];simp only[dl,List.map_append,List.sum_append]
 omega
variable {t:V}
variable {d:Nat}
def aK (t:V):Bool:=decide (t.kind=5)&&decide (t.keys.length=t.l.length)
def dd (key:Lz):List Lz->Option Nat
 | []=>none
 | x :: xs=>if x=key then some 0 else (dd key xs).map (·+1)
def dO (t:V) (key:Lz):Option Nat:=if aK t then dd key t.keys else none
def aS (t:V) (key:Lz):Option V:=(dO t key).bind fun i=>t.l[i]?
def pS:Option Nat->Int
 | none=>-1
 | some n=>n
theorem iw{key xs}(h:dd key xs=some i):i < xs.length/\xs[i]?=some key:=by
 induction xs generalizing i with
 | nil=>cases h
 | cons x xs ih=>
  simp only[dd]at h;split at h
  ·rename_i e;cases h;simp[e]
  ·rw[Option.map_eq_some_iff]at h;obtain⟨j,hj,rfl⟩:=h;have:=ih hj;simpa using this
theorem zV(key):∀ (xs:List Lz) (i:Nat),Lib.idxFromS (xs.map fun l=>(⟨l.toArray⟩:ByteArray)) ⟨key.toArray⟩ i=pS ((dd key xs).map (·+i))
 | [],i=>rfl
 | x :: xs,i=>by
  have ih:=zV key xs (i+1);simp only[List.map_cons,Lib.idxFromS,dd];by_cases h:x=key
  ·subst h;simp[pS]
  ·rw[if_neg h];have e:¬((⟨x.toArray⟩:ByteArray)=⟨key.toArray⟩):=by intro e;apply h;simpa using e
   rw[if_neg e,ih];cases dd key xs with
   | none=>rfl
   | some k=>simp[pS];omega
theorem ao.form{xs}(h:ao w ok xs v):∃ a c,v=.slice a xs.length c:=by
 rcases h.2 with⟨rfl,a,e⟩ | ⟨b,off,c,e,_⟩
 ·exact⟨_,_,e⟩
 ·exact⟨_,_,e⟩
theorem cS.form{R:V->Value->Prop}{xs}(h:cS w ok R xs v):∃ a c,v=.slice a xs.length c:=by
 rcases h.2 with⟨rfl,a,e⟩ | ⟨b,off,c,e,_⟩
 ·exact⟨_,_,e⟩
 ·exact⟨_,_,e⟩
theorem ni(w ok d t v)(h:bu w ok d t v):Calls prog 82 #[v] w fun e w'=>e=.returned (.bool (aK t))/\La w w':=by
 match d,h with
 | d+1,h=>
  obtain⟨ks,ls,rfl,h1,h2,h3,h4,h5⟩:=h;obtain⟨a1,c1,rfl⟩:=h4.form;obtain⟨a2,c2,rfl⟩:=h5.form;have l1:=h4.1;have l2:=h5.1;unfold maxLen at l1 l2 h3;unfold aR;clear h4 h5 h1 h2;by_cases hk:t.kind=5
  ·by_cases hl:t.keys.length=t.l.length
   ·have e1:(t.kind == 5)=true:=by simp[hk]
    have e2:((t.keys.length:Int) == (t.l.length:Int))=true:=by simp[hl]
    have F:Ll (aK t=true):=aa (by simp[aK,hk,hl]);clear hk hl;go_enter func82,ntmps82;go_wp2
    go_ret;exact⟨by rw[F.o];rfl,(MK _ w).alloc (MG _) _⟩
   ·have e1:(t.kind == 5)=true:=by simp[hk]
    have e2:((t.keys.length:Int) == (t.l.length:Int))=false:=by rw[MO];omega
    have F:Ll (aK t=false):=aa (by simp[aK,hl]);clear hk hl;go_enter func82,ntmps82;go_wp2
    go_ret;exact⟨by rw[F.o];rfl,(MK _ w).alloc (MG _) _⟩
  ·have e1:(t.kind == 5)=false:=by simp[hk]
   have F:Ll (aK t=false):=aa (by simp[aK,hk]);clear hk;go_enter func82,ntmps82;go_wp2
   go_ret;exact⟨by rw[F.o];rfl,(MK _ w).alloc (MG _) _⟩
theorem CR(w ok xs v key)(h:ao w ok xs v):Calls prog 83 #[v,aR key] w fun e w'=>e=.returned (.int .i64 (pS (dd key xs)))/\w'=w:=by
 obtain⟨hm,h⟩:=h;unfold maxLen at hm;rcases h with⟨rfl,a,rfl⟩ | ⟨b,off,c,rfl,h1,h2,h3⟩
 ·exact Tryz.slices_Index_string_empty a 0 ⟨key.toArray⟩ w
 ·refine(Tryz.slices_Index_string b off xs.length c (xs.map fun l=>(⟨l.toArray⟩:ByteArray)) ⟨key.toArray⟩ w (by simp) (by omega) ?_).mono ?_
  ·intro j hj;have hj':j < xs.length:=by simpa using hj
   have:=(h3 j xs[j] (Mw hj')).2.2;rw[this];simp[aR,hj']
  ·rintro e w' ⟨rfl,rfl⟩;refine⟨?_,rfl⟩;have e1:(xs.map fun l=>(⟨l.toArray⟩:ByteArray)).take xs.length=xs.map fun l=>(⟨l.toArray⟩:ByteArray):=MD (by simp);rw[e1,Lib.idxOfS,zV];cases dd key xs <;> rfl
theorem bu.bel(h:bu w ok d t v)(hb:La w w'):bu w' ok d t v:=h.grown (aq (r:=none) hb) (by simp)
theorem ao.bel{xs}(h:ao w ok xs v)(hb:La w w'):ao w' ok xs v:=h.imp (eJ (aq (r:=none) hb) (by simp))
theorem kJ(w ok d t v key)(h:bu w ok d t v):Calls prog 62 #[v,aR key] w fun e w'=>e=.returned (.int .i64 (pS (dO t key)))/\La w w':=by
 have H:=aa h;match d,h with
 | d+1,h=>
  obtain⟨ks,ls,rfl,h1,h2,h3,h4,h5⟩:=h;have K4:=aa h4;obtain⟨a1,c1,rfl⟩:=h4.form;obtain⟨a2,c2,rfl⟩:=h5.form;have l1:=h4.1;have l2:=h5.1;unfold maxLen at l1 l2 h3;unfold aR;clear h4 h5 h1 h2;go_enter func62,ntmps62;go_wp2_with fail
  refine Lk (ni _ ok _ t _ (by exact H.o.bel (ae _ _))) fun w1 hb1=>?_;have B1:=aa hb1;have e0:w1.cell? ⟨w.heap.size,3,none⟩=some (.slice a1 t.keys.length c1):=by
   rw[World.cell?_of_block (hb1.block _ (by simp))];simp
  clear hb1;cases hp:aK t with
  | true=>
   have F:Ll (dO t key=dd key t.keys):=aa (by simp[dO,hp]);go_wp2_with fail
   refine LE (CR _ ok t.keys _ key (by exact K4.o.bel (ab (ae _ _) B1.o))) ?_;go_wp2_with fail
   go_ret;exact⟨by rw[F.o];rfl,ab (ae _ _) B1.o⟩
  | false=>
   have F:Ll (dO t key=none):=aa (by simp[dO,hp]);go_wp2_with fail
   go_ret;exact⟨by rw[F.o];rfl,ab (ae _ _) B1.o⟩
theorem fW{key}(h:dO t key=some i):aK t=true/\dd key t.keys=some i/\i < t.l.length/\i < t.keys.length:=by
 unfold dO at h;split at h
 ·rename_i hp;have h9:=(iw h).1;have:t.keys.length=t.l.length:=by
   simp only[aK,MJ,decide_eq_true_eq]at hp;exact hp.2
  exact⟨hp,h,by omega,h9⟩
 ·cases h
theorem af(hb:La w w'){c0 c1 c2 c3 c4}(h:ag w g c0 c1 c2 c3 c4):ag w' g c0 c1 c2 c3 c4:=h.grown (aq (r:=none) hb) (by simp)
theorem eD{a:LC}{r}(h:a.grownBy w r)(hg:a.heap.size<=g)(d0 d1 d2 d3 d4):a.grownBy (ar w g d0 d1 d2 d3 d4) r:=by
 have k:=aI w g d0 d1 d2 d3 d4;exact⟨k.os.trans h.os,k.tape.trans h.tape,k.output.trans h.output,MH h.size k.size,fun i hi hr=>(k.block i (MI hi h.size) (fun e=>by cases e;omega)).trans (h.block i hi hr)⟩
theorem bu.agg{v0 v1 v2 v3 v4}(h:bu w ok d t (.agg #[v0,v1,v2,v3,v4])):v0=.int .i64 t.kind/\v1=.int .i64 t.n/\v2=.string ⟨t.s.toArray⟩/\(∃ a c,v3=.slice a t.keys.length c)/\∃ a c,v4=.slice a t.l.length c:=by
 match d,h with
 | d+1,h=>
  obtain⟨ks,ls,e,h1,h2,h3,h4,h5⟩:=h;simp only[Value.agg.injEq,Array.mk.injEq,List.cons.injEq,and_true]at e;obtain⟨rfl,rfl,rfl,rfl,rfl⟩:=e;exact⟨rfl,rfl,rfl,h4.form,h5.form⟩
def IX (w:LC) (ok:Nat->Prop) (d:Nat) (m:Option V) (x:Value) (b:Bool):Prop:=
 match m with
 | some y=>b=true/\bu w ok d y x
 | none=>b=false/\x=cz 0 0 []
theorem ny(w ok d t v key)(h:bu w ok d t v):Calls prog 44 #[v,aR key] w fun e w'=>∃ x b,e=.returned (.tuple #[x,.bool b])/\La w w'/\IX w' ok d (aS t key) x b:=by
 have H:=aa h;match d,h with
 | d+1,h=>
  obtain⟨ks,ls,rfl,h1,h2,h3,h4,h5⟩:=h;have K5:=aa h5;obtain⟨a1,c1,rfl⟩:=h4.form;obtain⟨a2,c2,hls⟩:=h5.form;have l1:=h4.1;have l2:=h5.1;unfold maxLen at l1 l2 h3;unfold aR;clear h4 h5 h1 h2;cases hf:dO t key with
  | none=>
   have F:=aa hf;subst hls;clear hf;go_enter func44,ntmps44;go_wp2_with fail
   refine Lk (kJ _ ok _ t _ key (by exact H.o.bel (ab (ae _ _) (ae _ _)))) fun w1 hb1=>?_;rw[F.o];have B1:=aa hb1;have LU:Lc w1 (w.heap.size+1):=by
    exact af hb1 (et w _ _)
   have x0_:=LU.c;obtain⟨z0,z1,z2,z3,z4,-⟩:=(LU.set (.int .i64 0) (.int .i64 0) (aR []) (.slice none 0 0) (.slice none 0 0)).c;have Z:Ll (_/\_/\_/\_/\_):=⟨z0,z1,z2,z3,z4⟩
   clear z0 z1 z2 z3 z4 hb1;unfold pS;go_wp2_with fail
   obtain⟨z0,z1,z2,z3,z4⟩:=Z.o;refine MM (v:=.tuple #[cz 0 0 [],.bool false]) ?_ rfl ?_
   ·simp only[ar,aR]at z0 z1 z2 z3 z4;simp[results,results44,go_sem,z0,z1,z2,z3,z4,cz,aR]
   ·refine⟨_,_,rfl,?_,?_⟩
    ·exact bS (eD (am (bd (bd (az _ _) _) _) (aq B1.o)) (Nat.le_succ _) _ _ _ _ _)
    ·simp[IX,aS,F.o]
  | some i=>
   obtain⟨f1,f2,f3,f4⟩:=fW hf;have F:=aa hf;clear hf f1 f2;obtain⟨_,K5'⟩:=K5.o;rcases K5' with⟨e,_⟩ | ⟨b,off,c,hls',hc1,hc2,Mb⟩
   ·rw[e]at f3;simp at f3
   ·subst hls';obtain⟨v0,v1,v2,v3,v4,g,g0,g1,g2,g3,g4,g5⟩:=Mb i t.l[i] (Mw f3);go_enter func44,ntmps44;go_wp2_with fail
    refine Lk (kJ _ ok _ t _ key (by exact H.o.bel (ab (ae _ _) (ae _ _)))) fun w1 hb1=>?_;rw[F.o];have B1:=aa hb1;have LU:Lc w1 (w.heap.size+1):=by
     exact af hb1 (et w _ _)
    have x0_:=LU.c;obtain⟨z0,z1,z2,z3,z4,-⟩:=(LU.set v0 v1 v2 v3 v4).c;have Z:Ll (_/\_/\_/\_/\_):=⟨z0,z1,z2,z3,z4⟩
    have hbv:ag w1 w.heap.size (.int .i64 t.kind) (.int .i64 t.n) (.string ⟨t.s.toArray⟩) (.slice a1 t.keys.length c1) (.slice (some ⟨b,off,none⟩) t.l.length c2):=af hb1 (fb w _ _);obtain⟨-,-,-,-,q4,-⟩:=hbv.c;have hb0:La w w1:=ab (ab (ae _ _) (ae _ _)) hb1;have g0':=ah hb0 g0;have g1':=ah hb0 g1;have g2':=ah hb0 g2;have g3':=ah hb0 g3;have g4':=ah hb0 g4;have G5:=aa g5;obtain⟨rfl,rfl,rfl,⟨a5,c5,rfl⟩,⟨a6,c6,rfl⟩⟩:=g5.agg;clear z0 z1 z2 z3 z4 hb1 hb0 g0 g1 g2 g3 g4 g5 Mb hbv LU;unfold pS;have i0:¬((i:Int) < 0):=by omega
    go_wp2_with fail
    obtain⟨z0,z1,z2,z3,z4⟩:=Z.o;refine MM (v:=.tuple #[.agg #[.int .i64 t.l[i].kind,.int .i64 t.l[i].n,.string ⟨t.l[i].s.toArray⟩,.slice a5 t.l[i].keys.length c5,.slice a6 t.l[i].l.length c6],.bool true]) ?_ rfl ?_
    ·simp only[ar]at z0 z1 z2 z3 z4;simp[results,results44,go_sem,z0,z1,z2,z3,z4]
    ·have hb9:La w (ar w1 (w.heap.size+1) (.int .i64 t.l[i].kind) (.int .i64 t.l[i].n) (.string ⟨t.l[i].s.toArray⟩) (.slice a5 t.l[i].keys.length c5) (.slice a6 t.l[i].l.length c6)):=
      bS (eD (am (bd (bd (az _ _) _) _) (aq B1.o)) (Nat.le_succ _) _ _ _ _ _)
     refine⟨_,_,rfl,hb9,?_⟩;have hm:aS t key=some t.l[i]:=by simp[aS,F.o,Mw f3]
     rw[hm];exact⟨rfl,(G5.o.bel hb9).succ⟩
def cA (R:V->Value->Prop):List V->List Value->Prop
 | [],cs=>cs=[]
 | x :: xs,cs=>∃ v0 v1 v2 v3 v4 rest,cs=v0 :: v1 :: v2 :: v3 :: v4 :: rest/\R x (.agg #[v0,v1,v2,v3,v4])/\cA R xs rest
theorem cA.length{R:V->Value->Prop}:∀ {xs:List V} {cs:List Value},cA R xs cs->cs.length=xs.length * 5
 | [],cs,h=>by simp[cA]at h;simp[h]
 | x :: xs,cs,h=>by
  obtain⟨v0,v1,v2,v3,v4,rest,rfl,_,hr⟩:=h;have:=hr.length;simp only[My];omega
theorem cA.append{R:V->Value->Prop}{ys ds}(hy:cA R ys ds):∀ {xs:List V} {cs:List Value},cA R xs cs->cA R (xs++ys) (cs++ds)
 | [],cs,h=>by simp[cA]at h;subst h;exact hy
 | x :: xs,cs,h=>by
  obtain⟨v0,v1,v2,v3,v4,rest,rfl,hR,hr⟩:=h;exact⟨v0,v1,v2,v3,v4,rest++ds,rfl,hR,hy.append hr⟩
theorem cA.split{R:V->Value->Prop}{ys}:∀ {xs:List V} {cs:List Value},cA R (xs++ys) cs->∃ c1 c2,cs=c1++c2/\cA R xs c1/\cA R ys c2
 | [],cs,h=>⟨[],cs,rfl,rfl,h⟩
 | x :: xs,cs,h=>by
  obtain⟨v0,v1,v2,v3,v4,rest,rfl,hR,hr⟩:=h;obtain⟨c1,c2,rfl,h1,h2⟩:=cA.split hr;exact⟨v0 :: v1 :: v2 :: v3 :: v4 :: c1,c2,rfl,⟨v0,v1,v2,v3,v4,c1,rfl,hR,h1⟩,h2⟩
theorem cA.imp{R R':V->Value->Prop}(hR:∀ x v,R x v->R' x v):∀ {xs:List V} {cs:List Value},cA R xs cs->cA R' xs cs
 | [],cs,h=>h
 | x :: xs,cs,h=>by
  obtain⟨v0,v1,v2,v3,v4,rest,rfl,h1,hr⟩:=h;exact⟨v0,v1,v2,v3,v4,rest,rfl,hR _ _ h1,hr.imp hR⟩
theorem cA.one{w ok d}:∀ {xs:List V} {cs:List Value},cA (bu w ok d) xs cs->∀ u∈cs,u.oneCell'=true
 | [],cs,h=>by simp[cA]at h;subst h;simp
 | x :: xs,cs,h=>by
  obtain⟨v0,v1,v2,v3,v4,rest,rfl,h1,hr⟩:=h;obtain⟨rfl,rfl,rfl,⟨a5,c5,rfl⟩,⟨a6,c6,rfl⟩⟩:=h1.agg;intro u hu;simp only[List.mem_cons]at hu;rcases hu with rfl | rfl | rfl | rfl | rfl | hu
  ·rfl
  ·rfl
  ·rfl
  ·rfl
  ·rfl
  ·exact hr.one u hu
theorem cA.get{R:V->Value->Prop}:∀ {xs:List V} {cs:List Value},cA R xs cs->∀ i x,xs[i]?=some x->∃ v0 v1 v2 v3 v4,cs[i * 5]?=some v0/\cs[i * 5+1]?=some v1/\cs[i * 5+2]?=some v2/\cs[i * 5+3]?=some v3/\cs[i * 5+4]?=some v4/\R x (.agg #[v0,v1,v2,v3,v4])
 | [],cs,h,i,x,hx=>by simp at hx
 | y :: xs,cs,h,0,x,hx=>by
  obtain⟨v0,v1,v2,v3,v4,rest,rfl,h1,hr⟩:=h;simp at hx;subst hx;exact⟨v0,v1,v2,v3,v4,rfl,rfl,rfl,rfl,rfl,h1⟩
 | y :: xs,cs,h,i+1,x,hx=>by
  obtain⟨v0,v1,v2,v3,v4,rest,rfl,h1,hr⟩:=h;obtain⟨u0,u1,u2,u3,u4,g0,g1,g2,g3,g4,g5⟩:=hr.get i x (by simpa using hx);have e:(i+1) * 5=i * 5+5:=by omega
  refine⟨u0,u1,u2,u3,u4,?_,?_,?_,?_,?_,g5⟩
  ·rw[e];exact g0
  ·rw[e];exact g1
  ·rw[e];exact g2
  ·rw[e];exact g3
  ·rw[e];exact g4
theorem zX{w:LC}{b}{R:V->Value->Prop}:∀ (xs:List V) (off:Nat),
 (∀ i x,xs[i]?=some x->∃ v0 v1 v2 v3 v4,w.cell? ⟨b,off+i * 5,none⟩=some v0/\w.cell? ⟨b,off+i * 5+1,none⟩=some v1/\w.cell? ⟨b,off+i * 5+2,none⟩=some v2 /\
  w.cell? ⟨b,off+i * 5+3,none⟩=some v3/\w.cell? ⟨b,off+i * 5+4,none⟩=some v4/\R x (.agg #[v0,v1,v2,v3,v4])) ->
 ∃ cs,cA R xs cs/\∀ j u,cs[j]?=some u->w.cell? ⟨b,off+j,none⟩=some u
 | [],off,_=>⟨[],rfl,by simp⟩
 | x :: xs,off,h=>by
  obtain⟨v0,v1,v2,v3,v4,g0,g1,g2,g3,g4,g5⟩:=h 0 x rfl;obtain⟨cs,h1,h2⟩:=zX (w:=w) (b:=b) (R:=R) xs (off+5) (fun i y hy=>by
   have:=h (i+1) y (by simpa using hy);have e:off+(i+1) * 5=off+5+i * 5:=by omega
   rw[e]at this;exact this)
  simp only[Nat.zero_mul,Nat.add_zero]at g0 g1 g2 g3 g4;refine⟨v0 :: v1 :: v2 :: v3 :: v4 :: cs,⟨v0,v1,v2,v3,v4,cs,rfl,g5,h1⟩,?_⟩;intro j u hj;match j,hj with
  | 0,hj=>simp at hj;subst hj;exact g0
  | 1,hj=>simp at hj;subst hj;exact g1
  | 2,hj=>simp at hj;subst hj;exact g2
  | 3,hj=>simp at hj;subst hj;exact g3
  | 4,hj=>simp at hj;subst hj;exact g4
  | j+5,hj=>
   have:=h2 j u (by simpa using hj);have e:off+(j+5)=off+5+j:=by omega
   rw[e];exact this
theorem cS.plain{w ok}{R:V->Value->Prop}{xs b off n c}(h:cS w ok R xs (.slice (some ⟨b,off,none⟩) n c)):∃ b' off' c',Value.slice (some ⟨b,off,none⟩) n c=.slice (some ⟨b',off',none⟩) xs.length c'/\xs.length<=c'/\c'<=maxLen /\
 ∀ i x,xs[i]?=some x->∃ v0 v1 v2 v3 v4,ok b'/\w.cell? ⟨b',off'+i * 5,none⟩=some v0/\w.cell? ⟨b',off'+i * 5+1,none⟩=some v1/\w.cell? ⟨b',off'+i * 5+2,none⟩=some v2 /\
  w.cell? ⟨b',off'+i * 5+3,none⟩=some v3/\w.cell? ⟨b',off'+i * 5+4,none⟩=some v4/\R x (.agg #[v0,v1,v2,v3,v4]):=by
 rcases h.2 with⟨e0,a,e⟩ | h
 ·simp only[Value.slice.injEq]at e;obtain⟨-,e1,e2⟩:=e;subst e1;subst e2;exact⟨b,off,0,by rw[e0];rfl,by rw[e0];simp,Nat.zero_le _,fun i x hx=>by rw[e0]at hx;simp at hx⟩
 ·exact h
theorem ao.plain{w ok xs b off n c}(h:ao w ok xs (.slice (some ⟨b,off,none⟩) n c)):∃ b' off' c',Value.slice (some ⟨b,off,none⟩) n c=.slice (some ⟨b',off',none⟩) xs.length c'/\xs.length<=c'/\c'<=maxLen /\
 ∀ i x,xs[i]?=some x->x.length<=maxLen/\ok b'/\w.cell? ⟨b',off'+i,none⟩=some (aR x):=by
 rcases h.2 with⟨e0,a,e⟩ | h
 ·simp only[Value.slice.injEq]at e;obtain⟨-,e1,e2⟩:=e;subst e1;subst e2;exact⟨b,off,0,by rw[e0];rfl,by rw[e0];simp,Nat.zero_le _,fun i x hx=>by rw[e0]at hx;simp at hx⟩
 ·exact h
theorem cS.row{w ok d xs b off n c}(h:cS w ok (bu w ok d) xs (.slice (some ⟨b,off,none⟩) n c)):n=xs.length/\n<=c/\∃ cs,cA (bu w ok d) xs cs/\∀ j u,cs[j]?=some u->w.cell? ⟨b,off+j,none⟩=some u:=by
 obtain⟨b',off',c',e,h1,h2,h3⟩:=h.plain
 ·simp only[Value.slice.injEq,Option.some.injEq,Addr.mk.injEq,and_true]at e;obtain⟨⟨rfl,rfl⟩,rfl,rfl⟩:=e;refine⟨rfl,h1,zX xs off (fun i x hx=>?_)⟩;obtain⟨v0,v1,v2,v3,v4,_,g⟩:=h3 i x hx;exact⟨v0,v1,v2,v3,v4,g⟩
theorem eh(b off j):(⟨b,off,none⟩:Addr).add j=⟨b,off+j,none⟩:=by
 unfold Addr.add;split
 ·rename_i h;subst h;rfl
 ·rfl
theorem fJ{w ok d B xs cs v n}(hn:n=xs.length)(ho:w.ownsRow B 39 5 v n cs)(hr:cA (bu w ok d) xs cs)(hok:∀ k,B<=k->ok k)(hm:xs.length<=maxLen):cS w ok (bu w ok d) xs v:=by
 subst hn;refine⟨hm,?_⟩;rcases ho.2 with⟨e,h0⟩ | ⟨g,cap,cur,e,h1,h2,h3,h4,h5,h6⟩
 ·exact .inl ⟨List.eq_nil_of_length_eq_zero h0,none,e⟩
 ·refine .inr ⟨g,0,cap,e,h3,h4,fun i x hx=>?_⟩;obtain⟨v0,v1,v2,v3,v4,g0,g1,g2,g3,g4,g5⟩:=hr.get i x hx;have cell:∀ j u,cs[j]?=some u->w.cell? ⟨g,0+j,none⟩=some u:=fun j u hj=>by
   have:=ho.cells (g:=g) (by rw[e];rfl) j u hj;rw[eh]at this;exact this
  exact⟨v0,v1,v2,v3,v4,hok g h1,cell _ _ g0,cell _ _ g1,cell _ _ g2,cell _ _ g3,cell _ _ g4,g5⟩
theorem kf{w ok B xs v n}(hn:n=xs.length)(ho:w.ownsRow B 9 1 v n (xs.map aR))(hl:∀ x∈xs,x.length<=maxLen)(hok:∀ k,B<=k->ok k)(hm:xs.length<=maxLen):ao w ok xs v:=by
 subst hn;refine⟨hm,?_⟩;rcases ho.2 with⟨e,h0⟩ | ⟨g,cap,cur,e,h1,h2,h3,h4,h5,h6⟩
 ·exact .inl ⟨List.eq_nil_of_length_eq_zero h0,none,e⟩
 ·refine .inr ⟨g,0,cap,e,h3,h4,fun i x hx=>⟨hl x (List.mem_of_getElem? hx),hok g h1,?_⟩⟩;have:=ho.cells (g:=g) (by rw[e];rfl) i (aR x) (by simp[hx]);rw[eh]at this;exact this
theorem km{w ok d xs b off n c}(h:cS w ok (bu w ok d) xs (.slice (some ⟨b,off,none⟩) n c))(i j)(hij:i<=j)(hi:j<=xs.length)(hs:xs.length<=1000000):∃ c1 c2,cA (bu w ok d) (xs.take i) c1/\du w 5 (.slice (some ⟨b,off,none⟩) i c) i c1/\cA (bu w ok d) (xs.drop j) c2/\du w 5 (.slice (if c=j then some ⟨b,off,none⟩ else some ⟨b,off+j * 5,none⟩) (n - j) (c - j)) (xs.length - j) c2:=by
 obtain⟨hn,hc,cs,hr,hm⟩:=h.row;have hr1:=hr;rw[<-List.take_append_drop i xs]at hr1;obtain⟨c1,c1',e1,h1,h1'⟩:=hr1.split;have hr2:=hr;rw[<-List.take_append_drop j xs]at hr2;obtain⟨c2',c2,e2,h2',h2⟩:=hr2.split;have l1:=h1.length;have l2:=h2.length;have l2':=h2'.length;rw[MC]at l1 l2';rw[MB]at l2;refine⟨c1,c2,h1,⟨by rw[l1];congr 1;omega,by omega,h1.one,.inr ⟨_,c,rfl,fun k u hk=>?_⟩⟩,h2,⟨l2,by omega,h2.one,.inr ?_⟩⟩
 ·rw[eh];refine hm k u ?_;rw[e1,List.getElem?_append_left (Mz.1 hk).1];exact hk
 ·by_cases hcj:c=j
  ·refine⟨⟨b,off,none⟩,c - j,by rw[if_pos hcj,hn],fun k u hk=>?_⟩;have:c2.length=0:=by rw[l2];omega
   rw[List.eq_nil_of_length_eq_zero this]at hk;simp at hk
  ·refine⟨⟨b,off+j * 5,none⟩,c - j,by rw[if_neg hcj,hn],fun k u hk=>?_⟩;rw[eh,Nat.add_assoc];refine hm (j * 5+k) u ?_;have e3:c2'.length=j * 5:=by rw[l2'];congr 1;omega
   rw[e2,List.getElem?_append_right (by omega),e3,Nat.add_sub_cancel_left];exact hk
theorem qG{w ok xs b off n c}(h:ao w ok xs (.slice (some ⟨b,off,none⟩) n c))(i j)(hij:i<=j)(hi:j<=xs.length)(hs:xs.length<=1000000):du w 1 (.slice (some ⟨b,off,none⟩) i c) i ((xs.take i).map aR)/\du w 1 (.slice (if c=j then some ⟨b,off,none⟩ else some ⟨b,off+j * 1,none⟩) (n - j) (c - j)) (xs.length - j) ((xs.drop j).map aR):=by
 obtain⟨b',off',c',e,h1,h2,h3⟩:=h.plain
 ·simp only[Value.slice.injEq,Option.some.injEq,Addr.mk.injEq,and_true]at e;obtain⟨⟨rfl,rfl⟩,rfl,rfl⟩:=e;have one:∀ l:List Lz,∀ u∈l.map aR,u.oneCell'=true:=by
   intro l u hu;simp only[List.mem_map]at hu;obtain⟨a,_,rfl⟩:=hu;rfl
  refine⟨⟨by simp;omega,by omega,one _,.inr ⟨_,c,rfl,fun k u hk=>?_⟩⟩,⟨by simp,by omega,one _,.inr ?_⟩⟩
  ·rw[eh];simp only[List.getElem?_map,Option.map_eq_some_iff]at hk;obtain⟨x,hx,rfl⟩:=hk;exact(h3 k x (by rw[List.getElem?_take]at hx;split at hx;exact hx;cases hx)).2.2
  ·by_cases hcj:c=j
   ·refine⟨⟨b,off,none⟩,c - j,by rw[if_pos hcj],fun k u hk=>?_⟩;have:xs.drop j=[]:=List.drop_eq_nil_of_le (by omega);rw[this]at hk;simp at hk
   ·refine⟨⟨b,off+j * 1,none⟩,c - j,by rw[if_neg hcj],fun k u hk=>?_⟩;rw[eh,Nat.mul_one,Nat.add_assoc];simp only[List.getElem?_map,Option.map_eq_some_iff,List.getElem?_drop]at hk;obtain⟨x,hx,rfl⟩:=hk;exact(h3 (j+k) x hx).2.2
theorem du.bel{w w' size v n cells}(h:du w size v n cells)(hb:La w w'):du w' size v n cells:=h.below hb
theorem mi(w size a):du w size (.slice a 0 0) 0 []:=by
 refine⟨by simp,by simp,by simp,?_⟩;cases a with
 | none=>exact .inl ⟨rfl,rfl⟩
 | some ad=>exact .inr ⟨ad,0,rfl,fun j u hj=>by simp at hj⟩
theorem Gj{w g v0 v1 v2 v3 v4}(h:ag w g v0 v1 v2 v3 v4)(h0:∀ u∈[v0,v1,v2,v3,v4],u.oneCell'=true):du w 5 (.slice (some ⟨g,0,none⟩) 1 1) 1 [v0,v1,v2,v3,v4]:=by
 refine⟨rfl,by omega,h0,.inr ⟨_,_,rfl,fun j u hj=>?_⟩⟩;rw[eh,Nat.zero_add];obtain⟨x0,x1,x2,x3,x4,-⟩:=h.c;match j,hj with
 | 0,hj=>simp at hj;subst hj;exact x0
 | 1,hj=>simp at hj;subst hj;exact x1
 | 2,hj=>simp at hj;subst hj;exact x2
 | 3,hj=>simp at hj;subst hj;exact x3
 | 4,hj=>simp at hj;subst hj;exact x4
theorem Kp{w g}{t:TypeId}{v}(h:w.heap[g]?=some (.cells #[v] t))(h0:v.oneCell'=true):du w 1 (.slice (some ⟨g,0,none⟩) 1 1) 1 [v]:=by
 refine⟨rfl,by omega,by simpa using h0,.inr ⟨_,_,rfl,fun j u hj=>?_⟩⟩;rw[eh,Nat.zero_add];match j,hj with
 | 0,hj=>simp at hj;subst hj;simp[World.cell?,h]
section
open Go.ChangeShapes Go.WideShapes Go.ChangeAt Go.RowKit
theorem oI:laidOutB Tryz.prog=true:=by kernel_rfl
theorem sg{w:World}{a:Addr}{v:Value}(h:w.cell? a=some v):a.spot=none:=by
 unfold World.cell? at h;split at h
 ·split at h
  ·cases h
  ·rename_i hs;simpa using hs
 ·cases h
theorem qv{a:Addr}(h:a.spot=none):a=⟨a.block,a.off,none⟩:=by
 obtain⟨b,o,s⟩:=a;simp only at h;subst h;rfl
theorem lK{H:Type}{enc:TypeId × Value->H}{W:World}{t:TypeId}{v:Value}{d:DataW H}{p:List MemPlace}(h:DataW.Trod enc Tryz.prog W 0 (fun _=>true) true t v d p):∀ x∈p,x.block < W.heap.size:=by
 obtain⟨f,hf⟩:=h;exact DataW.trod_lt f t _ _ hf
end
section
open Go.ChangeShapes Go.WideShapes Go.ChangeAt Go.RowKit
theorem kQ{P:Program}{W:World}{name:String}{cs:Array Value}{g:Nat}(hg:P.globalNamed name=some g)(h:W.var? P name=some cs):∃ t f,W.heap[g]?=some (.cells cs t f):=by
 unfold World.var? at h;rw[hg]at h;simp only[Option.bind_some]at h;split at h
 ·rename_i cs' t f e;cases h;exact⟨t,f,e⟩
 ·cases h
def pu:DataW Unit->Array Value
 | .agg l=>(l.map fun | .lit (.int k z)=>Value.int k z | _=>.int .u8 0).toArray
 | _=>#[]
def Aw:DataW Unit->Value
 | .iface _ (.ptr (.agg [.lit (.string l)]))=>.string ⟨l.toArray⟩
 | _=>.string ⟨#[]⟩
noncomputable def low:Nat:=(World.holding Tryz.prog default ⟨#[],#[],[]⟩).heap.size
def nF (h:Array Obj) (g:Nat) (cs:Array Value):Array Obj:=h.modify g fun
 | .cells _ t frozen=>.cells cs t frozen
 | o=>o
def sE:DataW Unit->Array Value
 | .agg l=>(l.flatMap fun | .agg m=>m.map (fun | .lit (.int k z)=>Value.int k z | _=>.int .u8 0) | .lit (.int k z)=>[Value.int k z] | _=>[]).toArray
 | _=>#[]
end
section
open Go.Lib (index count replaceK replaceAll split splitK)
theorem rK{old s}(h:old.isPrefixOf s=true)(hne:old≠[]):index s old=0:=by
 cases s with
 | nil=>
  cases old with
  | nil=>exact absurd rfl hne
  | cons a t=>simp[List.isPrefixOf]at h
 | cons b l=>rw[index,if_pos h]
theorem qy{old b l}(h:old.isPrefixOf (b :: l)=false):index (b :: l) old=if index l old=-1 then -1 else index l old+1:=by
 rw[index,if_neg (by rw[h];simp)];by_cases e:index l old=-1
 ·rw[if_pos (by rw[e];rfl),if_pos e]
 ·rw[if_neg (by simpa using e),if_neg e]
theorem kj{s old new}(hd:old≠new):replaceAll s old new=replaceK old new (count s old) s:=by
 unfold Go.Lib.replaceAll Go.Lib.replace;rw[if_neg (by simpa using hd)];unfold Go.Lib.replaceNum;rw[if_pos (.inl (by omega))]
theorem iP{old new}(hne:old≠[])(hd:old≠new):replaceAll [] old new=[]:=by
 rw[kj hd];have:index [] old=-1:=by
  cases old with
  | nil=>exact absurd rfl hne
  | cons a t=>rfl
 rw[Go.Lib.count_miss this];rfl
theorem kh{t old new}(hne:old≠[])(hd:old≠new):replaceAll (old++t) old new=new++replaceAll t old new:=by
 have hp:old.isPrefixOf (old++t)=true:=List.isPrefixOf_iff_prefix.2 ⟨t,rfl⟩;have hi:index (old++t) old=(0:Nat):=rK hp hne;rw[kj hd,kj hd,Go.Lib.count_hit hne hi,Nat.add_comm 1,Go.Lib.replaceK_hit _ _ _ _ 0 hi];simp
theorem gd{old new b l}(hne:old≠[])(hd:old≠new)(h:old.isPrefixOf (b :: l)=false):replaceAll (b :: l) old new=b :: replaceAll l old new:=by
 rw[kj hd,kj hd];have hs:=qy h;by_cases e:index l old=-1
 ·rw[if_pos e]at hs;rw[Go.Lib.count_miss e,Go.Lib.count_miss hs];rfl
 ·rw[if_neg e]at hs;obtain⟨i,hi⟩:∃ i:Nat,index l old=i:=⟨(index l old).toNat,by have:=Go.Lib.index_ge l old;omega⟩
  have hi2:index (b :: l) old=(i+1:Nat):=by rw[hs,hi];rfl
  rw[Go.Lib.count_hit hne hi,Go.Lib.count_hit hne hi2];have e1:(b :: l).drop (i+1+old.length)=l.drop (i+old.length):=by
   rw[show i+1+old.length=(i+old.length)+1 by omega];rfl
  rw[e1,Nat.add_comm 1,Go.Lib.replaceK_hit _ _ _ _ _ hi,Go.Lib.replaceK_hit _ _ _ _ _ hi2,e1];simp
def iq (c:UInt8):List UInt8:=if c=126 then [126,48] else if c=47 then [126,49] else [c]
def dY (s:List UInt8):List UInt8:=replaceAll (replaceAll s [126] [126,48]) [47] [126,49]
def bK (s:List UInt8):List UInt8:=replaceAll (replaceAll s [126,49] [47]) [126,48] [126]
theorem oJ(a b l):([a]:List UInt8).isPrefixOf (b :: l)=(a == b):=by simp[List.isPrefixOf]
theorem IU(s):replaceAll s [126] [126,48]=s.flatMap fun c=>if c=126 then [126,48] else [c]:=by
 induction s with
 | nil=>exact iP (by simp) (by simp)
 | cons c s ih=>
  rw[List.flatMap_cons];by_cases h:c=126
  ·subst h;rw[if_pos rfl,<-ih];exact kh (t:=s) (old:=[126]) (by simp) (by simp)
  ·rw[if_neg h,gd (by simp) (by simp) (by rw[oJ];simpa using fun e=>h e.symm),ih];rfl
theorem Km(s):replaceAll s [47] [126,49]=s.flatMap fun c=>if c=47 then [126,49] else [c]:=by
 induction s with
 | nil=>exact iP (by simp) (by simp)
 | cons c s ih=>
  rw[List.flatMap_cons];by_cases h:c=47
  ·subst h;rw[if_pos rfl,<-ih];exact kh (t:=s) (old:=[47]) (by simp) (by simp)
  ·rw[if_neg h,gd (by simp) (by simp) (by rw[oJ];simpa using fun e=>h e.symm),ih];rfl
theorem iR(s):dY s=s.flatMap iq:=by
 unfold dY;rw[IU,Km];induction s with
 | nil=>rfl
 | cons c s ih=>
  rw[List.flatMap_cons,List.flatMap_append,ih,List.flatMap_cons];congr 1
  unfold iq;by_cases h:c=126
  ·subst h;decide
  ·by_cases h2:c=47
   ·subst h2;decide
   ·simp[h,h2]
theorem Iu(s:List UInt8):replaceAll (s.flatMap iq) [126,49] [47]=s.flatMap fun c=>if c=126 then [126,48] else [c]:=by
 induction s with
 | nil=>exact iP (by simp) (by simp)
 | cons c s ih=>
  rw[List.flatMap_cons,List.flatMap_cons];unfold iq;by_cases h:c=126
  ·subst h;rw[if_pos rfl,if_pos rfl];show replaceAll (126 :: 48 :: s.flatMap iq) _ _=_;rw[gd (by simp) (by simp) (by simp[List.isPrefixOf]),gd (by simp) (by simp) (by simp[List.isPrefixOf]),ih];rfl
  ·rw[if_neg h,if_neg h];by_cases h2:c=47
   ·subst h2;rw[if_pos rfl,<-ih];exact kh (t:=s.flatMap iq) (old:=[126,49]) (by simp) (by simp)
   ·rw[if_neg h2];show replaceAll (c :: s.flatMap iq) _ _=_;rw[gd (by simp) (by simp) (by simp[List.isPrefixOf,Ne.symm h]),ih];rfl
theorem IF(s):replaceAll (s.flatMap fun c=>if c=126 then [126,48] else [c]) [126,48] [126]=s:=by
 induction s with
 | nil=>exact iP (by simp) (by simp)
 | cons c s ih=>
  rw[List.flatMap_cons];by_cases h:c=126
  ·subst h;rw[if_pos rfl];have:=kh (t:=s.flatMap fun c=>if c=126 then [126,48] else [c]) (old:=[126,48]) (new:=[126]) (by simp) (by simp);rw[this,ih];rfl
  ·rw[if_neg h];show replaceAll (c :: s.flatMap fun c=>if c=126 then [126,48] else [c]) _ _=_;rw[gd (by simp) (by simp) (by simp[List.isPrefixOf,Ne.symm h]),ih]
theorem jJ(s):bK (s.flatMap iq)=s:=by
 unfold bK;rw[Iu,IF]
def br:List UInt8->Bool
 | []=>true
 | c :: r=>(c != 126 || (match r with | d :: _=>d == 48 || d == 49 | []=>false))&&br r
theorem dZ(c r)(h:c≠126):br (c :: r)=br r:=by
 simp[br,h]
theorem jn(d r):br (126 :: d :: r)=((d == 48 || d == 49)&&br r):=by
 by_cases h:d=126
 ·subst h;simp[br]
 ·rw[br,dZ d r h];simp
theorem By(s:List UInt8)(r:List UInt8):br (s.flatMap iq++r)=br r:=by
 induction s with
 | nil=>rfl
 | cons c s ih=>
  rw[List.flatMap_cons,List.append_assoc];unfold iq;by_cases h:c=126
  ·rw[if_pos h];show br (126 :: 48 :: (s.flatMap iq++r))=_;rw[jn,ih];simp
  ·rw[if_neg h];by_cases h2:c=47
   ·rw[if_pos h2];show br (126 :: 49 :: (s.flatMap iq++r))=_;rw[jn,ih];simp
   ·rw[if_neg h2];show br (c :: (s.flatMap iq++r))=_;rw[dZ c _ h,ih]
theorem zb(n):∀ (s:List UInt8),s.length<=n->br s=true->47 ∉ s->∃ m:List UInt8,s=m.flatMap iq:=by
 induction n with
 | zero=>
  intro s hs _ _;obtain rfl:s=[]:=List.eq_nil_of_length_eq_zero (by omega);exact⟨[],rfl⟩
 | succ n ih=>
  intro s hs hw hn;cases s with
  | nil=>exact⟨[],rfl⟩
  | cons c r=>
   by_cases h:c=126
   ·subst h;cases r with
    | nil=>simp[br]at hw
    | cons d r=>
     rw[jn,Bool.and_eq_true]at hw;obtain⟨m,hm⟩:=ih r (by simp at hs;omega) hw.2 (fun h=>hn (by simp[h]));rcases Bool.or_eq_true _ _ |>.mp hw.1 with hd | hd
     ·have:d=48:=by simpa using hd
      subst this;exact⟨126 :: m,by rw[List.flatMap_cons,<-hm];rfl⟩
     ·have:d=49:=by simpa using hd
      subst this;exact⟨47 :: m,by rw[List.flatMap_cons,<-hm];rfl⟩
   ·rw[dZ c r h]at hw;obtain⟨m,hm⟩:=ih r (by simp at hs;omega) hw (fun h=>hn (by simp[h]));refine⟨c :: m,?_⟩;rw[List.flatMap_cons,<-hm];unfold iq;rw[if_neg h,if_neg (fun e=>hn (by simp[e]))];rfl
theorem gX(a):split [] [a]=[[]]:=by
 unfold Go.Lib.split;rw[Go.Lib.count_miss (by rfl)];rfl
theorem Sc(a r):split (a :: r) [a]=[] :: split r [a]:=by
 have hi:index (a :: r) [a]=(0:Nat):=rK (by rw[oJ];simp) (by simp);unfold Go.Lib.split;rw[Go.Lib.count_hit (by simp) hi,Nat.add_comm 1,splitK,if_neg (by rw[hi];decide),hi];rfl
theorem eM(a b r)(h:b≠a):split (b :: r) [a]=match split r [a] with | []=>[] | x :: xs=>(b :: x) :: xs:=by
 have hp:([a]:List UInt8).isPrefixOf (b :: r)=false:=by rw[oJ];simpa using fun e=>h e.symm
 have hs:=qy hp;unfold Go.Lib.split;by_cases e:index r [a]=-1
 ·rw[if_pos e]at hs;rw[Go.Lib.count_miss e,Go.Lib.count_miss hs];rfl
 ·rw[if_neg e]at hs;obtain⟨i,hi⟩:∃ i:Nat,index r [a]=i:=⟨(index r [a]).toNat,by have:=Go.Lib.index_ge r [a];omega⟩
  have hi2:index (b :: r) [a]=(i+1:Nat):=by rw[hs,hi];rfl
  have e1:(b :: r).drop (i+1+1)=r.drop (i+1):=rfl;rw[Go.Lib.count_hit (by simp) hi,Go.Lib.count_hit (by simp) hi2];simp only[List.length_cons,List.length_nil,Nat.zero_add];rw[e1,Nat.add_comm 1,splitK,splitK,if_neg (by rw[hi2];rw[beq_iff_eq];omega),if_neg (by rw[hi];rw[beq_iff_eq];omega),hi,hi2];rfl
theorem iN(a s):split s [a]≠[]:=by
 induction s with
 | nil=>rw[gX];simp
 | cons b r ih=>
  by_cases h:b=a
  ·subst h;rw[Sc];simp
  ·rw[eM a b r h];cases hr:split r [a] with
   | nil=>exact absurd hr ih
   | cons x xs=>simp
def lA (a:UInt8):List (List UInt8)->List UInt8
 | []=>[]
 | x :: xs=>x++xs.flatMap fun y=>a :: y
theorem yL(a s):lA a (split s [a])=s:=by
 induction s with
 | nil=>rw[gX];rfl
 | cons b r ih=>
  by_cases h:b=a
  ·subst h;rw[Sc];cases hr:split r [b] with
   | nil=>exact absurd hr (iN b r)
   | cons x xs=>
    rw[hr]at ih;simp only[lA,List.nil_append,List.flatMap_cons,List.cons_append]at ih ⊢;rw[ih]
  ·rw[eM a b r h];cases hr:split r [a] with
   | nil=>exact absurd hr (iN a r)
   | cons x xs=>
    rw[hr]at ih;simp only[lA,List.cons_append]at ih ⊢;rw[ih]
theorem zJ(a s):∀ x∈split s [a],a ∉ x:=by
 induction s with
 | nil=>rw[gX];simp
 | cons b r ih=>
  by_cases h:b=a
  ·subst h;rw[Sc];intro x hx;rcases List.mem_cons.1 hx with rfl | hx
   ·simp
   ·exact ih x hx
  ·rw[eM a b r h];cases hr:split r [a] with
   | nil=>exact absurd hr (iN a r)
   | cons y ys=>
    rw[hr]at ih;intro x hx;rcases List.mem_cons.1 hx with rfl | hx
    ·intro hm;rcases List.mem_cons.1 hm with hm | hm
     ·exact h hm.symm
     ·exact ih y (by simp) hm
    ·exact ih x (by simp[hx])
theorem tK(a x)(hx:a ∉ x)(s):split (x++a :: s) [a]=x :: split s [a]:=by
 induction x with
 | nil=>exact Sc a s
 | cons b x ih=>
  rw[List.cons_append,eM a b _ (fun e=>hx (by simp[e])),ih fun h=>hx (by simp[h])]
theorem wu(a x)(hx:a ∉ x):split x [a]=[x]:=by
 induction x with
 | nil=>exact gX a
 | cons b x ih=>rw[eM a b _ (fun e=>hx (by simp[e])),ih fun h=>hx (by simp[h])]
theorem xW(a x xs)(h:∀ y∈x :: xs,a ∉ y):split (lA a (x :: xs)) [a]=x :: xs:=by
 induction xs generalizing x with
 | nil=>simp only[lA,List.flatMap_nil,List.append_nil];exact wu a x (h x (by simp))
 | cons y ys ih=>
  have:=ih y fun z hz=>h z (by simp at hz ⊢;right;exact hz);simp only[lA,List.flatMap_cons,List.cons_append]at this ⊢;rw[tK a x (h x (by simp)),this]
def ax (p:List UInt8):List (List UInt8) × Int:=
 match p with
 | []=>([],0)
 | c :: r=>if c≠47\/2000 < p.length\/br p=false then ([],1) else ((split r [47]).map bK,0)
def aU (l:List (List UInt8)):List UInt8:=l.flatMap fun n=>47 :: dY n
theorem Ef(s:List UInt8):47 ∉ s.flatMap iq:=by
 intro h;simp only[List.mem_flatMap]at h;obtain⟨c,-,h⟩:=h;unfold iq at h;split at h
 ·simp at h
 ·split at h
  ·simp at h
  ·rename_i h1;simp at h;exact h1 h.symm
theorem zC(l):br (aU l)=true:=by
 unfold aU;induction l with
 | nil=>rfl
 | cons n l ih=>rw[List.flatMap_cons,List.cons_append,dZ _ _ (by decide),iR,By,ih]
theorem yh(l)(h:(aU l).length<=2000):ax (aU l)=(l,0):=by
 have hw:=zC l;cases l with
 | nil=>rfl
 | cons n l=>
  have e:aU (n :: l)=47 :: lA 47 ((n :: l).map dY):=by
   simp only[aU,List.flatMap_cons,List.cons_append,List.map_cons,lA,List.flatMap_map]
  rw[e]at h hw ⊢;unfold ax;simp only;rw[if_neg (by rw[hw];simp;simp at h;omega)];rw[List.map_cons,xW 47 _ _ (by
   intro y hy;rw[<-List.map_cons]at hy;obtain⟨z,-,rfl⟩:=List.mem_map.1 hy;rw[iR];exact Ef z)]
  have:∀ (l:List (List UInt8)),(l.map dY).map bK=l:=by
   intro l;induction l with
   | nil=>rfl
   | cons a l ih=>rw[List.map_cons,List.map_cons,ih,iR,jJ]
  rw[<-List.map_cons,this]
theorem te(a b)(h:br (a++47 :: b)=true):br a=true/\br b=true:=by
 induction a with
 | nil=>exact⟨rfl,by rwa [List.nil_append,dZ _ _ (by decide)]at h⟩
 | cons c a ih=>
  by_cases hc:c=126
  ·subst hc;cases a with
   | nil=>rw[List.cons_append,List.nil_append,jn]at h;simp at h
   | cons d a=>
    rw[List.cons_append,List.cons_append,br]at h;simp only[Bool.and_eq_true]at h;obtain⟨h1,h2⟩:=ih h.2;rw[br];simp only[Bool.and_eq_true];exact⟨⟨h.1,h1⟩,h2⟩
  ·rw[List.cons_append,dZ c _ hc]at h;rw[dZ c _ hc];exact ih h
theorem vi(x xs)(h:br (lA 47 (x :: xs))=true):∀ y∈x :: xs,br y=true:=by
 induction xs generalizing x with
 | nil=>intro y hy;rw[List.mem_singleton.1 hy];simpa [lA] using h
 | cons z zs ih=>
  have e:lA 47 (x :: z :: zs)=x++47 :: lA 47 (z :: zs):=by simp[lA]
  rw[e]at h;obtain⟨h1,h2⟩:=te _ _ h;intro y hy;rcases List.mem_cons.1 hy with rfl | hy
  ·exact h1
  ·exact ih z h2 y hy
theorem zd(p b)(h:ax p=(b,0)):aU b=p:=by
 unfold ax at h;split at h
 ·simp only[Prod.mk.injEq,and_true]at h;subst h;rfl
 ·rename_i c r;split at h
  ·simp at h
  ·rename_i hc;simp only[not_or,Decidable.not_not,Bool.not_eq_false]at hc;obtain⟨rfl,-,hw⟩:=hc;simp only[Prod.mk.injEq,and_true]at h;subst h;rw[dZ _ _ (by decide)]at hw;have hg:=yL 47 r;cases hs:split r [47] with
   | nil=>exact absurd hs (iN 47 r)
   | cons x xs=>
    rw[hs]at hg;have hf:∀ y∈x :: xs,47 ∉ y:=by rw[<-hs];exact zJ 47 r
    rw[<-hg]at hw;have hp:=vi x xs hw;have hm:∀ y∈x :: xs,dY (bK y)=y:=by
     intro y hy;obtain⟨m,rfl⟩:=zb y.length y (Nat.le_refl _) (hp y hy) (hf y hy);rw[jJ,iR]
    have e:aU ((x :: xs).map bK)=47 :: lA 47 (x :: xs):=by
     simp only[aU,List.map_cons,List.flatMap_cons,List.cons_append,lA,List.flatMap_map];rw[hm x (by simp)];congr 2
     have:∀ l:List (List UInt8),(∀ y∈l,dY (bK y)=y)->(l.flatMap fun y=>47 :: dY (bK y))=l.flatMap fun y=>47 :: y:=by
      intro l;induction l with
      | nil=>intro _;rfl
      | cons a l ih=>intro h;rw[List.flatMap_cons,List.flatMap_cons,h a (by simp),ih fun y hy=>h y (by simp[hy])]
     exact this xs fun y hy=>hm y (by simp[hy])
    rw[e,hg]
theorem GY(s:List UInt8):(s.flatMap iq).length<=2 * s.length:=by
 induction s with
 | nil=>simp
 | cons c s ih=>
  have:(iq c).length<=2:=by
   unfold iq;repeat' split
   all_goals simp
  simp only[List.flatMap_cons,List.length_append,List.length_cons];omega
theorem eS(l:List UInt8):(ByteArray.mk l.toArray).size=l.length:=by simp[ByteArray.size]
end
theorem vV(w p)(hp:p.length<=1000000):Calls prog 193 #[aR p] w fun e w'=>e=.returned (.bool (br p))/\w'=w:=by
 unfold aR;go_enter func193,ntmps193;go_wp2
 go_loop [3] (fun i=>∃ k:Nat,k<=p.length/\i=.int .i64 k/\Ll (br p=br (p.drop k))) (fun i=>p.length - (intOf i).toNat)
 case atStart=>exact⟨0,Nat.zero_le _,rfl,aa rfl⟩
 case round=>
  obtain⟨k,hk,rfl,HA⟩:=hrel;by_cases hlt:k < p.length
  ·have hb:(p[k].toNat:Int) < 256:=by have:=p[k].toNat_lt;omega
   have L9:k < (ByteArray.mk p.toArray).size:=by simpa [ByteArray.size] using hlt
   have hget:(ByteArray.mk p.toArray)[k]=p[k]:=rfl;have hdr:p.drop k=p[k] :: p.drop (k+1):=ME hlt;by_cases hc:p[k]=126
   ·have n1:((p[k].toNat:Int) != 126)=false:=by rw[hc];rfl
    have q1:((p[k].toNat:Int) == 126)=true:=by rw[hc];rfl
    by_cases hend:k+1=p.length
    ·have e1:((k:Int)+1 == (p.length:Int))=true:=by rw[beq_iff_eq];omega
     have e2:(k:Int)+1=(p.length:Int):=by omega
     have F:Ll (br p=false):=aa (by
      rw[HA.o,hdr,hc,hend,List.drop_length];rfl)
     clear hc hend hdr;go_wp2
     go_ret;exact⟨by rw[F.o];rfl,rfl⟩
    ·have hlt2:k+1 < p.length:=by omega
     have e1:((k:Int)+1 == (p.length:Int))=false:=by rw[MO];omega
     have e2:¬((k:Int)+1=(p.length:Int)):=by omega
     have hsz2:k+1 < (ByteArray.mk p.toArray).size:=by simpa [ByteArray.size] using hlt2
     have hget2:(ByteArray.mk p.toArray)[k+1]=p[k+1]:=rfl;have hdr2:p.drop (k+1)=p[k+1] :: p.drop (k+1+1):=ME hlt2;have hb2:(p[k+1].toNat:Int) < 256:=by have:=p[k+1].toNat_lt;omega
     by_cases h48:p[k+1]=48
     ·have m1:((p[k+1].toNat:Int) != 48)=false:=by rw[h48];rfl
      have m2:((p[k+1].toNat:Int) == 48)=true:=by rw[h48];rfl
      have F:Ll (br p=br (p.drop (k+1))):=aa (by
       rw[HA.o,hdr,hc,hdr2,h48,br];simp)
      clear hc h48 hdr hdr2 hend;go_wp2
      go_round
      case rel=>exact⟨k+1,by omega,by go_num,F⟩
      case measure=>simp[intOf];omega
     ·have m1:((p[k+1].toNat:Int) != 48)=true:=by
       have:p[k+1].toNat≠48:=fun e=>h48 (UInt8.toNat_inj.1 e);simp only[bne_iff_ne,ne_eq];omega
      have m2:((p[k+1].toNat:Int) == 48)=false:=by
       have:p[k+1].toNat≠48:=fun e=>h48 (UInt8.toNat_inj.1 e);rw[MO];omega
      by_cases h49:p[k+1]=49
      ·have m3:((p[k+1].toNat:Int) != 49)=false:=by rw[h49];rfl
       have m4:((p[k+1].toNat:Int) == 49)=true:=by rw[h49];rfl
       have F:Ll (br p=br (p.drop (k+1))):=aa (by
        rw[HA.o,hdr,hc,hdr2,h49,br];simp)
       clear hc h48 h49 hdr hdr2 hend;go_wp2
       go_round
       case rel=>exact⟨k+1,by omega,by go_num,F⟩
       case measure=>simp[intOf];omega
      ·have m3:((p[k+1].toNat:Int) != 49)=true:=by
        have:p[k+1].toNat≠49:=fun e=>h49 (UInt8.toNat_inj.1 e);simp only[bne_iff_ne,ne_eq];omega
       have m4:((p[k+1].toNat:Int) == 49)=false:=by
        have:p[k+1].toNat≠49:=fun e=>h49 (UInt8.toNat_inj.1 e);rw[MO];omega
       have F:Ll (br p=false):=aa (by
        rw[HA.o,hdr,hc,hdr2,br];simp[h48,h49])
       clear hc h48 h49 hdr hdr2 hend;go_wp2
       go_ret;exact⟨by rw[F.o];rfl,rfl⟩
   ·have n1:((p[k].toNat:Int) != 126)=true:=by
     have:p[k].toNat≠126:=fun e=>hc (UInt8.toNat_inj.1 e);simp only[bne_iff_ne,ne_eq];omega
    have q1:((p[k].toNat:Int) == 126)=false:=by
     have:p[k].toNat≠126:=fun e=>hc (UInt8.toNat_inj.1 e);rw[MO];omega
    have F:Ll (br p=br (p.drop (k+1))):=aa (by rw[HA.o,hdr,dZ _ _ hc]);clear hc hdr;go_wp2
    go_round
    case rel=>exact⟨k+1,by omega,by go_num,F⟩
    case measure=>simp[intOf];omega
  ·have Mc:k=p.length:=by omega
   subst Mc;have F:Ll (br p=true):=aa (by rw[HA.o,List.drop_length];rfl);go_wp2
   go_ret;exact⟨by rw[F.o];rfl,rfl⟩
end Go.Proofs.YtgolnaencepejaaGreatDoor
namespace Go.Proofs
open Go.Shelf
open Tryz
def Tryz.lays146_ren:Go.Shelf.Ren:=⟨fun | 146=>194 | 221=>229 | 268=>245 | 138=>246 | 143=>247 | 195=>254 | 197=>255 | 218=>256 | 219=>257 | 260=>259 | 217=>142 | 225=>260 | 224=>261 | 267=>262 | 266=>181 | 314=>264 | n=>n,fun | 9=>9 | 31=>36 | 3=>3 | 4=>4 | 0=>0 | 105=>284 | 21=>21 | 5=>5 | 46=>100 | 119=>287 | 139=>290 | 138=>289 | 146=>291 | 51=>214 | n=>n,fun | 1=>0 | 3=>7 | 4=>8 | n=>n⟩
theorem Tryz.lays146:Go.Proofs.Lays.n146 prog Tryz.lays146_ren:={
 mixed:=by kernel_rfl
 f138:=func246.trans (congrArg some (by kernel_rfl))
 f143:=func247.trans (congrArg some (by kernel_rfl))
 f146:=func194.trans (congrArg some (by kernel_rfl))
 f195:=func254.trans (congrArg some (by kernel_rfl))
 f197:=func255.trans (congrArg some (by kernel_rfl))
 f217:=func142.trans (congrArg some (by kernel_rfl))
 f218:=func256.trans (congrArg some (by kernel_rfl))
 f219:=func257.trans (congrArg some (by kernel_rfl))
 f221:=func229.trans (congrArg some (by kernel_rfl))
 f224:=func261.trans (congrArg some (by kernel_rfl))
 f225:=func260.trans (congrArg some (by kernel_rfl))
 f260:=func259.trans (congrArg some (by kernel_rfl))
 f266:=func181.trans (congrArg some (by kernel_rfl))
 f267:=func262.trans (congrArg some (by kernel_rfl))
 f268:=func245.trans (congrArg some (by kernel_rfl))
 f314:=func264.trans (congrArg some (by kernel_rfl))
 t0:=underlying0
 a0:=isAgg0
 z0:=sizeOf0
 v0:=zeroValue0
 t3:=underlying3
 a3:=isAgg3
 z3:=sizeOf3
 v3:=zeroValue3
 t4:=underlying4
 a4:=isAgg4
 z4:=sizeOf4
 v4:=zeroValue4
 t5:=underlying5
 a5:=isAgg5
 z5:=sizeOf5
 v5:=zeroValue5
 t9:=underlying9
 a9:=isAgg9
 z9:=sizeOf9
 v9:=zeroValue9
 t21:=underlying21
 a21:=isAgg21
 z21:=sizeOf21
 v21:=zeroValue21
 t31:=underlying36
 a31:=isAgg36
 z31:=sizeOf36
 v31:=zeroValue36
 t46:=underlying100
 a46:=isAgg100
 z46:=sizeOf100
 v46:=zeroValue100
 t51:=underlying214
 a51:=isAgg214
 z51:=sizeOf214
 v51:=zeroValue214
 t105:=underlying284
 a105:=isAgg284
 z105:=sizeOf284
 v105:=zeroValue284
 t119:=underlying287
 a119:=isAgg287
 z119:=sizeOf287
 t138:=underlying289
 a138:=isAgg289
 z138:=sizeOf289
 v138:=zeroValue289
 t139:=underlying290
 a139:=isAgg290
 z139:=sizeOf290
 v139:=zeroValue290
 t146:=underlying291
 a146:=isAgg291
 z146:=sizeOf291
 v146:=zeroValue291
 g1:=by kernel_rfl
 g3:=by kernel_rfl
 g4:=by kernel_rfl }
open Go.RowKit Go.Lib in
theorem Tryz.strings_Split (s sep:ByteArray) (m:Int) (w:World) (hs:s.size < 4294967281) (hm:w.cell? ⟨0,0,none⟩=some (.int .i64 m)) (h1:1<=sep.size) :
 Calls prog 194 #[.string s,.string sep] w fun e w'=>
  e=.returned (.slice (some ⟨w.heap.size,0,none⟩) (Lib.countB s sep+1) (Lib.countB s sep+1))/\w'=w.alloc (.cells ((Lib.splitB sep 0 (Lib.countB s sep) s).map Value.string).toArray 9):=Any.strings_Split Tryz.lays146 (by kernel_rfl) s sep m w hs hm h1
def Tryz.lays155_ren:Go.Shelf.Ren:=⟨fun | 155=>230 | 154=>248 | 138=>246 | 165=>258 | 143=>247 | 166=>215 | 197=>255 | 169=>217 | 195=>254 | 218=>256 | 240=>239 | 241=>263 | 219=>257 | 260=>259 | 276=>252 | 277=>265 | 217=>142 | 225=>260 | 224=>261 | 267=>262 | 266=>181 | 314=>264 | n=>n,fun | 9=>9 | 3=>3 | 4=>4 | 72=>240 | 0=>0 | 76=>187 | 105=>284 | 21=>21 | 5=>5 | 70=>238 | 20=>20 | 37=>101 | 75=>186 | 127=>266 | 164=>279 | 46=>100 | 119=>287 | 139=>290 | 138=>289 | 146=>291 | 51=>214 | 80=>158 | n=>n,fun | 1=>0 | 3=>7 | 4=>8 | n=>n⟩
theorem Tryz.lays155:Go.Proofs.Lays.n155 prog Tryz.lays155_ren:={
 mixed:=by kernel_rfl
 f138:=func246.trans (congrArg some (by kernel_rfl))
 f143:=func247.trans (congrArg some (by kernel_rfl))
 f154:=func248.trans (congrArg some (by kernel_rfl))
 f155:=func230.trans (congrArg some (by kernel_rfl))
 f165:=func258.trans (congrArg some (by kernel_rfl))
 f166:=func215.trans (congrArg some (by kernel_rfl))
 f169:=func217.trans (congrArg some (by kernel_rfl))
 f195:=func254.trans (congrArg some (by kernel_rfl))
 f197:=func255.trans (congrArg some (by kernel_rfl))
 f217:=func142.trans (congrArg some (by kernel_rfl))
 f218:=func256.trans (congrArg some (by kernel_rfl))
 f219:=func257.trans (congrArg some (by kernel_rfl))
 f224:=func261.trans (congrArg some (by kernel_rfl))
 f225:=func260.trans (congrArg some (by kernel_rfl))
 f240:=func239.trans (congrArg some (by kernel_rfl))
 f241:=func263.trans (congrArg some (by kernel_rfl))
 f260:=func259.trans (congrArg some (by kernel_rfl))
 f266:=func181.trans (congrArg some (by kernel_rfl))
 f267:=func262.trans (congrArg some (by kernel_rfl))
 f276:=func252.trans (congrArg some (by kernel_rfl))
 f277:=func265.trans (congrArg some (by kernel_rfl))
 f314:=func264.trans (congrArg some (by kernel_rfl))
 t0:=underlying0
 a0:=isAgg0
 z0:=sizeOf0
 v0:=zeroValue0
 t3:=underlying3
 a3:=isAgg3
 z3:=sizeOf3
 v3:=zeroValue3
 t4:=underlying4
 a4:=isAgg4
 z4:=sizeOf4
 v4:=zeroValue4
 t5:=underlying5
 a5:=isAgg5
 z5:=sizeOf5
 v5:=zeroValue5
 t9:=underlying9
 a9:=isAgg9
 z9:=sizeOf9
 v9:=zeroValue9
 t20:=underlying20
 a20:=isAgg20
 z20:=sizeOf20
 v20:=zeroValue20
 t21:=underlying21
 a21:=isAgg21
 z21:=sizeOf21
 v21:=zeroValue21
 t37:=underlying101
 a37:=isAgg101
 z37:=sizeOf101
 v37:=zeroValue101
 t46:=underlying100
 a46:=isAgg100
 z46:=sizeOf100
 v46:=zeroValue100
 t51:=underlying214
 a51:=isAgg214
 z51:=sizeOf214
 v51:=zeroValue214
 t70:=underlying238
 a70:=isAgg238
 z70:=sizeOf238
 v70:=zeroValue238
 t72:=underlying240
 a72:=isAgg240
 z72:=sizeOf240
 v72:=zeroValue240
 t75:=underlying186
 a75:=isAgg186
 z75:=sizeOf186
 v75:=zeroValue186
 t76:=underlying187
 a76:=isAgg187
 z76:=sizeOf187
 v76:=zeroValue187
 t105:=underlying284
 a105:=isAgg284
 z105:=sizeOf284
 v105:=zeroValue284
 t119:=underlying287
 a119:=isAgg287
 z119:=sizeOf287
 t127:=underlying266
 a127:=isAgg266
 z127:=sizeOf266
 v127:=zeroValue266
 t138:=underlying289
 a138:=isAgg289
 z138:=sizeOf289
 v138:=zeroValue289
 t139:=underlying290
 a139:=isAgg290
 z139:=sizeOf290
 v139:=zeroValue290
 t146:=underlying291
 a146:=isAgg291
 z146:=sizeOf291
 v146:=zeroValue291
 t164:=underlying279
 a164:=isAgg279
 z164:=sizeOf279
 v164:=zeroValue279
 g1:=by kernel_rfl
 g3:=by kernel_rfl
 g4:=by kernel_rfl }
theorem Tryz.Builder_Extra_155:Builder.Extra prog Tryz.lays155_ren:={
 sizeBuilder:=by kernel_rfl
 liesBuilder:=by kernel_rfl
 t5:=underlying5
 a5:=isAgg5
 z5:=sizeOf5
 v5:=zeroValue5
 infoByte:=by kernel_rfl
 cellsByte:=by kernel_rfl
 sizeByte:=by kernel_rfl
 neB5:=by decide }
open Go.RowKit Go.Lib in
theorem Tryz.strings_ReplaceAll (s old new:ByteArray) (m:Int) (w:World) (hs:s.size < 4294967281) (hm:w.cell? ⟨0,0,none⟩=some (.int .i64 m)) (h1:1<=old.size) (LT:s.size+Lib.countB s old * new.size<=140737488355328) :
 Calls prog 230 #[.string s,.string old,.string new] w fun e w'=>
  e=.returned (.string ⟨(Lib.replaceAll s.data.toList old.data.toList new.data.toList).toArray⟩)/\Below w.heap.size w w':=Any.strings_ReplaceAll Tryz.lays155 Tryz.Builder_Extra_155 s old new m w hs hm h1 LT
def Tryz.laysB_ren:Go.Shelf.Ren:=⟨fun | 167=>214 | 155=>230 | 154=>248 | 138=>246 | 165=>258 | 143=>247 | 166=>215 | 197=>255 | 169=>217 | 195=>254 | 218=>256 | 240=>239 | 241=>263 | 219=>257 | 260=>259 | 276=>252 | 277=>265 | 217=>142 | 225=>260 | 224=>261 | 267=>262 | 266=>181 | 314=>264 | n=>n,fun | 9=>9 | 3=>3 | 4=>4 | 72=>240 | 0=>0 | 76=>187 | 105=>284 | 21=>21 | 5=>5 | 70=>238 | 20=>20 | 37=>101 | 75=>186 | 127=>266 | 164=>279 | 46=>100 | 119=>287 | 139=>290 | 138=>289 | 146=>291 | 51=>214 | 80=>158 | n=>n,fun | 1=>0 | 3=>7 | 4=>8 | n=>n⟩
theorem Tryz.laysB166:Go.Proofs.Lays.n166 prog Tryz.laysB_ren:={
 mixed:=by kernel_rfl
 f166:=func215.trans (congrArg some (by kernel_rfl))
 f240:=func239.trans (congrArg some (by kernel_rfl))
 f276:=func252.trans (congrArg some (by kernel_rfl))
 t0:=underlying0
 a0:=isAgg0
 z0:=sizeOf0
 v0:=zeroValue0
 t3:=underlying3
 a3:=isAgg3
 z3:=sizeOf3
 v3:=zeroValue3
 t4:=underlying4
 a4:=isAgg4
 z4:=sizeOf4
 v4:=zeroValue4
 t9:=underlying9
 a9:=isAgg9
 z9:=sizeOf9
 v9:=zeroValue9
 t20:=underlying20
 a20:=isAgg20
 z20:=sizeOf20
 v20:=zeroValue20
 t37:=underlying101
 a37:=isAgg101
 z37:=sizeOf101
 v37:=zeroValue101
 t70:=underlying238
 a70:=isAgg238
 z70:=sizeOf238
 v70:=zeroValue238
 t72:=underlying240
 a72:=isAgg240
 z72:=sizeOf240
 v72:=zeroValue240
 t75:=underlying186
 a75:=isAgg186
 z75:=sizeOf186
 v75:=zeroValue186
 t164:=underlying279
 a164:=isAgg279
 z164:=sizeOf279
 v164:=zeroValue279 }
theorem Tryz.laysB167:Go.Proofs.Lays.n167 prog Tryz.laysB_ren:={
 mixed:=by kernel_rfl
 f167:=func214.trans (congrArg some (by kernel_rfl))
 f240:=func239.trans (congrArg some (by kernel_rfl))
 f276:=func252.trans (congrArg some (by kernel_rfl))
 t0:=underlying0
 a0:=isAgg0
 z0:=sizeOf0
 v0:=zeroValue0
 t4:=underlying4
 a4:=isAgg4
 z4:=sizeOf4
 v4:=zeroValue4
 t5:=underlying5
 a5:=isAgg5
 z5:=sizeOf5
 v5:=zeroValue5
 t9:=underlying9
 a9:=isAgg9
 z9:=sizeOf9
 v9:=zeroValue9
 t20:=underlying20
 a20:=isAgg20
 z20:=sizeOf20
 v20:=zeroValue20
 t37:=underlying101
 a37:=isAgg101
 z37:=sizeOf101
 v37:=zeroValue101
 t70:=underlying238
 a70:=isAgg238
 z70:=sizeOf238
 v70:=zeroValue238
 t72:=underlying240
 a72:=isAgg240
 z72:=sizeOf240
 v72:=zeroValue240
 t75:=underlying186
 a75:=isAgg186
 z75:=sizeOf186
 v75:=zeroValue186
 t164:=underlying279
 a164:=isAgg279
 z164:=sizeOf279
 v164:=zeroValue279 }
theorem Tryz.laysB169:Go.Proofs.Lays.n169 prog Tryz.laysB_ren:={
 mixed:=by kernel_rfl
 f169:=func217.trans (congrArg some (by kernel_rfl))
 t0:=underlying0
 a0:=isAgg0
 z0:=sizeOf0
 v0:=zeroValue0
 t3:=underlying3
 a3:=isAgg3
 z3:=sizeOf3
 v3:=zeroValue3
 t9:=underlying9
 a9:=isAgg9
 z9:=sizeOf9
 v9:=zeroValue9
 t37:=underlying101
 a37:=isAgg101
 z37:=sizeOf101
 v37:=zeroValue101
 t70:=underlying238
 a70:=isAgg238
 z70:=sizeOf238
 v70:=zeroValue238
 t72:=underlying240
 a72:=isAgg240
 z72:=sizeOf240
 v72:=zeroValue240
 t127:=underlying266
 a127:=isAgg266
 z127:=sizeOf266
 v127:=zeroValue266 }
theorem Tryz.laysB_extra:Builder.Extra prog Tryz.laysB_ren:={
 sizeBuilder:=by kernel_rfl
 liesBuilder:=by kernel_rfl
 t5:=underlying5
 a5:=isAgg5
 z5:=sizeOf5
 v5:=zeroValue5
 infoByte:=by kernel_rfl
 cellsByte:=by kernel_rfl
 sizeByte:=by kernel_rfl
 neB5:=by decide }
end Go.Proofs
namespace Go.Proofs.YtgolnaencepejaaGreatDoor
open Go.RowKit
open _root_.Go.Proofs.Tryz
variable {w w':World}
def bj (w:LC):Prop:=∃ m,w.cell? ⟨0,0,none⟩=some (.int .i64 m)
theorem bj.bel(h:bj w)(hb:La w w'):bj w':=by
 obtain⟨m,hm⟩:=h;exact⟨m,(World.cell?_of_block (hb.block _ (World.block_lt_of_cell? w _ hm))).trans hm⟩
theorem yQ(s sub)(h:1<=sub.size):Lib.countB s sub<=s.size:=Lib.countB_le sub h s.size s (MG _)
theorem qD{old new}(hne:old≠[])(hd:old≠new)(hl:new.length<=old.length)(n):∀ s:Lz,s.length<=n->(Lib.replaceAll s old new).length<=s.length:=by
 induction n with
 | zero=>
  intro s hs;obtain rfl:s=[]:=List.eq_nil_of_length_eq_zero (by omega);rw[iP hne hd];exact MG _
 | succ n ih=>
  intro s hs;cases s with
  | nil=>rw[iP hne hd];exact MG _
  | cons c r=>
   cases hp:old.isPrefixOf (c :: r) with
   | true=>
    obtain⟨t,ht⟩:=List.isPrefixOf_iff_prefix.1 hp;have hpos:0 < old.length:=List.length_pos_iff.2 hne;have LT:=congrArg List.length ht;simp only[Mx,My]at LT hs;rw[<-ht,kh hne hd];have:=ih t (by omega);simp only[Mx];omega
   | false=>
    rw[gd hne hd hp];have:=ih r (by simp at hs;omega);simp only[My];omega
theorem xH(s old new:Lz)(h:1<=old.length)(hn:new.length<=2):(ByteArray.mk s.toArray).size+Lib.countB ⟨s.toArray⟩ ⟨old.toArray⟩ * (ByteArray.mk new.toArray).size<=3 * s.length:=by
 have h1:=yQ ⟨s.toArray⟩ ⟨old.toArray⟩ (by rw[eS];exact h);rw[eS]at h1;rw[eS,eS];have:Lib.countB ⟨s.toArray⟩ ⟨old.toArray⟩ * new.length<=s.length * 2:=Nat.mul_le_mul h1 hn;omega
theorem oP(w s old new)(hs:s.length<=40000000)(ho:1<=old.length)(hn:new.length<=2)(hM:bj w):Calls prog 230 #[.string ⟨s.toArray⟩,.string ⟨old.toArray⟩,.string ⟨new.toArray⟩] w fun e w'=>e=.returned (.string ⟨(Lib.replaceAll s old new).toArray⟩)/\La w w':=by
 obtain⟨m,hm⟩:=hM;have h1:=xH s old new ho hn;exact Tryz.strings_ReplaceAll ⟨s.toArray⟩ ⟨old.toArray⟩ ⟨new.toArray⟩ m w (by rw[eS];omega) hm (by rw[eS];exact ho) (by omega)
theorem wm(w:LC)(s)(hs:s.length<=1000000)(hM:bj w):Calls prog 195 #[aR s] w fun e w'=>e=.returned (aR (bK s))/\La w w':=by
 have HM:=aa hM;clear hM;unfold aR;go_enter func195,ntmps195;go_wp2_with fail
 refine Lk (oP _ s [126,49] [47] (by omega) (by simp) (by simp) (by exact HM.o)) fun w1 hb1=>?_;have HB1:=aa hb1;have HM1:=aa (HM.o.bel hb1);have hl:(Lib.replaceAll s [126,49] [47]).length<=s.length:=qD (by simp) (by simp) (by simp) _ s (MG _);clear hb1;go_wp2_with fail
 refine Lk (oP _ (Lib.replaceAll s [126,49] [47]) [126,48] [126] (by omega) (by simp) (by simp) (by exact HM1.o)) fun w2 hb2=>?_;have HB2:=aa hb2;clear hb2;go_wp2_with fail
 go_ret;exact⟨rfl,ab HB1.o HB2.o⟩
section
open Go.ChangeShapes Go.WideShapes Go.ChangeAt Go.RowKit
theorem zS{W:World}(h:W.ShapedOpen Tryz.prog):bj W:=
 cell_of_shapedOpen_int (t:=3) (zero:=#[.int .i64 0]) h (of_decide_eq_true (by kernel_rfl)) (by kernel_rfl) rfl (by kernel_rfl) (by kernel_rfl) Tryz.underlying3
end
variable {k:Nat}
def eK (s:Lz):Bool:=decide (s.length<=60)&&s.all fun c=>decide (c.toNat < 128)
def el (prev:Option Lz):List Lz->Bool
 | []=>true
 | k :: ks=>eK k&&(match prev with | none=>true | some p=>Op.bytesLess p k)&&el (some k) ks
def cp (t:V):Bool:=decide (t.keys.length=0)&&decide (t.l.length=0)
def ce (t:V):Bool:=
 if t.kind=0 then decide (t.n=0)&&decide (t.s=[])&&cp t
 else if t.kind=1 then (decide (t.n=0) || decide (t.n=1))&&decide (t.s=[])&&cp t
 else if t.kind=2 then decide (-9007199254740992<=t.n)&&decide (t.n<=9007199254740992)&&decide (t.s=[])&&cp t
 else if t.kind=3 then decide (t.n=0)&&eK t.s&&cp t
 else if t.kind=4 then decide (t.n=0)&&decide (t.s=[])&&decide (t.keys.length=0)
 else if t.kind=5 then decide (t.n=0)&&decide (t.s=[])&&decide (t.keys.length=t.l.length)&&el none t.keys
 else false
theorem ke(w s)(hs:s.length<=maxLen):Calls prog 109 #[aR s] w fun e w'=>e=.returned (.bool (eK s))/\w'=w:=by
 unfold maxLen at hs;unfold aR;by_cases h60:s.length<=60
 ·have e0:¬(60 < (s.length:Int)):=by omega
  go_enter func109,ntmps109;go_wp2
  go_loop [3] (fun i=>∃ k:Nat,k<=s.length/\i=.int .i64 k/\(s.take k).all (fun c=>decide (c.toNat < 128))=true) (fun i=>s.length - (intOf i).toNat)
  case atStart=>exact⟨0,Nat.zero_le _,rfl,rfl⟩
  case round=>
   obtain⟨k,hk,rfl,hall⟩:=hrel;have HA:=aa hall;clear hall;by_cases hlt:k < s.length
   ·have hb:(s[k].toNat:Int) < 256:=by have:=s[k].toNat_lt;omega
    have L9:k < (ByteArray.mk s.toArray).size:=by simpa [ByteArray.size] using hlt
    have hget:(ByteArray.mk s.toArray)[k]=s[k]:=rfl;by_cases hc:s[k].toNat < 128
    ·have hc':¬(128<=(s[k].toNat:Int)):=by omega
     go_wp2
     go_round
     case rel=>
      refine⟨k+1,by omega,by go_num,?_⟩;rw[List.take_add_one,Mw hlt,List.all_append,HA.o];simp[hc]
     case measure=>simp[intOf];omega
    ·have hc':128<=(s[k].toNat:Int):=by omega
     go_wp2
     go_ret;refine⟨?_,rfl⟩;have:eK s=false:=by
      unfold eK;rw[Bool.and_eq_false_iff];right;rw[List.all_eq_false];exact⟨s[k],List.getElem_mem _,by simp;omega⟩
     rw[this];rfl
   ·have Mc:k=s.length:=by omega
    subst Mc;go_wp2
    go_ret;refine⟨?_,rfl⟩;have:eK s=true:=by
     have:=HA.o;rw[List.take_length]at this;simp[eK,h60,this]
    rw[this];rfl
 ·have e0:60 < (s.length:Int):=by omega
  go_enter func109,ntmps109;go_wp2
  go_ret;exact⟨by rw[show eK s=false by simp[eK,h60]];rfl,rfl⟩
theorem gM(w k n s a1 a2 m1 m2 c1 c2)(l1:m1<=2 ^ 63 - 1)(l2:m2<=2 ^ 63 - 1):Calls prog 108 #[.agg #[.int .i64 k,.int .i64 n,.string s,.slice a1 m1 c1,.slice a2 m2 c2]] w fun e w'=>e=.returned (.bool (decide (m1=0)&&decide (m2=0)))/\La w w':=by
 by_cases hk:m1=0
 ·have e1:((m1:Int) == 0)=true:=by simp[hk]
  have HK:=aa hk;clear hk;by_cases hl:m2=0
  ·have e2:((m2:Int) == 0)=true:=by simp[hl]
   have HL:=aa hl;clear hl;go_enter func108,ntmps108;go_wp2
   go_ret;exact⟨by rw[show (decide (m1=0)&&decide (m2=0))=true by simp[HK.o,HL.o]];rfl,ae _ _⟩
  ·have e2:((m2:Int) == 0)=false:=by rw[MO];omega
   go_enter func108,ntmps108;go_wp2
   go_ret;exact⟨by rw[show (decide (m1=0)&&decide (m2=0))=false by simp only[Bool.and_eq_false_iff,decide_eq_false_iff_not];right;omega];rfl,ae _ _⟩
 ·have e1:((m1:Int) == 0)=false:=by rw[MO];omega
  go_enter func108,ntmps108;go_wp2
  go_ret;exact⟨by rw[show (decide (m1=0)&&decide (m2=0))=false by simp only[Bool.and_eq_false_iff,decide_eq_false_iff_not];left;omega];rfl,ae _ _⟩
def jx (xs:List Lz) (i:Nat):Option Lz:=if i=0 then none else xs[i - 1]?
theorem rq{xs}(h:k < xs.length):el (jx xs k) (xs.drop k)=(eK xs[k]&&(match jx xs k with | none=>true | some p=>Op.bytesLess p xs[k])&&el (jx xs (k+1)) (xs.drop (k+1))):=by
 rw[ME h];have e:jx xs (k+1)=some xs[k]:=by simp[jx,Mw h]
 rw[e];rfl
theorem BS(w ok xs v)(h:ao w ok xs v):Calls prog 110 #[v] w fun e w'=>e=.returned (.bool (el none xs))/\w'=w:=by
 obtain⟨hm,hx⟩:=h;obtain⟨a,c,rfl⟩:=ao.form ⟨hm,hx⟩;unfold maxLen at hm;have HX:=aa hx;clear hx;go_enter func110,ntmps110;go_wp2
 go_loop [7] (fun i=>∃ k:Nat,k<=xs.length/\i=.int .i64 k/\el none xs=el (jx xs k) (xs.drop k)) (fun i=>xs.length - (intOf i).toNat)
 case atStart=>exact⟨0,Nat.zero_le _,rfl,rfl⟩
 case round=>
  obtain⟨k,hk,rfl,hr⟩:=hrel;have HR:=aa hr;clear hr;by_cases hlt:k < xs.length
  ·rcases HX.o with⟨e,_⟩ | ⟨b,off,c',hv,hc1,hc2,Mb⟩
   ·rw[e]at hlt;simp at hlt
   simp only[Value.slice.injEq]at hv;obtain⟨rfl,-,rfl⟩:=hv;have LV:=(Mb k xs[k] (Mw hlt)).2.2;have hl9:=(Mb k xs[k] (Mw hlt)).1;have S:=aa (rq hlt);have hprev:∀ j,k=j+1->w.cell? ⟨b,off+j,none⟩=some (aR xs[k - 1]):=by
    intro j hj;subst hj;exact(Mb j xs[j] (Mw (by omega))).2.2
   have HPV:=aa hprev;clear Mb hprev;unfold aR at LV;cases hpl:eK xs[k] with
   | false=>
    have HPL:=aa hpl;clear hpl;go_wp2_with (go_at_call 109;refine LE (ke _ xs[k] hl9) ?_;rw[HPL.o])
    go_ret;refine⟨?_,rfl⟩;rw[HR.o,S.o,HPL.o];rfl
   | true=>
    have HPL:=aa hpl;clear hpl;cases k with
    | zero=>
     have z:jx xs 0=none:=rfl;rw[Nat.add_zero]at LV;go_wp2_with (go_at_call 109;refine LE (ke _ xs[0] hl9) ?_;rw[HPL.o])
     go_round
     case rel=>exact⟨1,by omega,by go_num,by rw[HR.o,S.o,HPL.o,z];rfl⟩
     case measure=>simp[intOf];omega
    | succ j=>
     have hpc:=HPV.o j rfl;unfold aR at hpc;have z:jx xs (j+1)=some xs[j]:=by simp[jx,Mw (show j < xs.length by omega)]
     have j0:(0:Int) < ((j+1:Nat):Int):=by omega
     have Z:=aa z;clear z;cases hbl:Op.bytesLess xs[j] xs[j+1] with
     | true=>
      have HBL:=aa hbl;go_wp2_with (go_at_call 109;refine LE (ke _ xs[j+1] hl9) ?_;rw[HPL.o])
      go_round
      case rel=>exact⟨j+1+1,by omega,by go_num,by rw[HR.o,S.o,HPL.o,Z.o];simp only[HBL.o];rfl⟩
      case measure=>simp[intOf];omega
     | false=>
      have HBL:=aa hbl;go_wp2_with (go_at_call 109;refine LE (ke _ xs[j+1] hl9) ?_;rw[HPL.o])
      go_ret;refine⟨?_,rfl⟩;rw[HR.o,S.o,HPL.o,Z.o];simp only[HBL.o];rfl
  ·have Mc:k=xs.length:=by omega
   subst Mc;go_wp2
   go_ret;refine⟨?_,rfl⟩;rw[HR.o,List.drop_length];rfl
variable {ok:Nat->Prop}
variable {v:Value}
variable {t:V}
variable {g B n d:Nat}
theorem cV{base base'}{e:TypeId}{size xs}(h:w.ownsRow base e size v n xs)(hb:base'<=base):w.ownsRow base' e size v n xs:=by
 refine⟨h.1,?_⟩;rcases h.2 with h | ⟨g,cap,cur,e1,h1,h2⟩
 ·exact .inl h
 ·exact .inr ⟨g,cap,cur,e1,MH hb h1,h2⟩
theorem lI(w:LC)(o1 o2 o3:Obj):(((w.alloc o1).alloc o2).alloc o3).heap[w.heap.size]?=some o1:=by
 have:=World.grownBy_alloc ((w.alloc o1).alloc o2) o3 none;rw[this.block _ (by simp;omega) (by simp)];exact fb w o1 o2
theorem mE(w:LC)(o1 o2 o3:Obj):(((w.alloc o1).alloc o2).alloc o3).heap[w.heap.size+1]?=some o2:=by
 have:=World.grownBy_alloc ((w.alloc o1).alloc o2) o3 none;rw[this.block _ (by simp) (by simp)];exact et w o1 o2
theorem jI(w:LC)(o1 o2 o3:Obj):(((w.alloc o1).alloc o2).alloc o3).heap[w.heap.size+2]?=some o3:=by
 have:=MN ((w.alloc o1).alloc o2) o3;simpa using this
theorem Ji(k n s a1 a2 l1 c1 l2 c2):∀ u∈[Value.int .i64 k,.int .i64 n,.string s,.slice a1 l1 c1,.slice a2 l2 c2],u.oneCell'=true:=by
 intro u hu;simp only[List.mem_cons,List.not_mem_nil,or_false]at hu;rcases hu with rfl | rfl | rfl | rfl | rfl <;> rfl
theorem bi{a:LC}{r}(h:a.grownBy w r)(hg:a.heap.size<=g)(i v):a.grownBy (w.setCell ⟨g,i,none⟩ v) r:=by
 have k:w.grownBy (w.setCell ⟨g,i,none⟩ v) (some g):=ap (az _ _) _ _;exact⟨k.os.trans h.os,k.tape.trans h.tape,k.output.trans h.output,MH h.size k.size,fun j hj hr=>(k.block j (MI hj h.size) (fun e=>by cases e;omega)).trans (h.block j hj hr)⟩
theorem aW{b}{e:TypeId}{size xs}(h:w.ownsRow B e size v n xs)(hg:w.grownBy w' (some b))(hb:b < B):w'.ownsRow B e size v n xs:=by
 refine h.kept hg ?_;cases hv:v.ownBlock with
 | none=>exact .inl rfl
 | some k=>
  right;intro e;cases e;have:=(h.lt b hv).1;omega
def bQ (ok:Nat->Prop) (B:Nat):Nat->Prop:=fun k=>ok k\/B<=k
theorem bu.toN(h:bu w ok d t v):bu w (bQ ok B) d t v:=h.weak fun k hk=>.inl hk
theorem cA.bel{xs cs}(h:cA (bu w ok d) xs cs)(hb:La w w'):cA (bu w' (bQ ok B) d) xs cs:=h.imp fun _ _ h=>(h.bel hb).toN
def qW (key:Lz) (keys:List Lz):Nat:=(keys.takeWhile fun a=>Op.bytesLess a key).length
def aG (t:V) (key:Lz) (x:V):V:=
 if aK t then
  match dd key t.keys with
  | some i=>{ t with l:=t.l.take i++x :: t.l.drop (i+1) }
  | none=>{ t with keys:=t.keys.take (qW key t.keys)++key :: t.keys.drop (qW key t.keys),l:=t.l.take (qW key t.keys)++x :: t.l.drop (qW key t.keys) }
 else t
def bH (t:V) (key:Lz):V:=
 match dO t key with
 | some i=>{ t with keys:=t.keys.take i++t.keys.drop (i+1),l:=t.l.take i++t.l.drop (i+1) }
 | none=>t
theorem Kn(w:LC)(n:Nat)(h:n<=4000000):Calls prog 228 #[.slice none 0 0,.int .i64 n] w fun e w'=>∃ v,e=.returned v/\w'.ownsRow w.heap.size 9 1 v 0 []/\La w w':=by
 obtain⟨i0,hi,hz0,hz1,hz2⟩:=info_parts wG;rcases Nat.eq_zero_or_pos n with rfl | h0
 ·go_enter func228,ntmps228;go_wp2
  go_ret;exact⟨_,rfl,World.ownsRow_nil _ _ _ _,MK _ _⟩
 ·have hr:=Lib.run_append_nil_zeros (P:=prog) w 36 3 36 9 i0 _ .i64 .i64 underlying36 underlying3 hi hz0 n h0 (by rw[hz1];omega) (by omega) (by rw[hz2];omega);have hR:=aa hr;clear hr;have e1:¬((n:Int) < 0):=by omega
  have e2:(0:Int) < (n:Int):=by omega
  go_enter func228,ntmps228;go_wp2_with (at_builtin;go_must (refine Lib.wpList_append_run _ rfl _ _ _ _ rfl (.slice none 0 0) (.int .i64 n) rfl rfl _ _ hR.o ?_);refine Ll.o ?_)
  refine aa ?_;have hge:=grownCap_ge w n 0 9;have hle:=grownCap_le_maxLen w n 0 9 (by unfold maxLen;omega);generalize grownCap w n 0 9=cap at hge hle ⊢;clear hR;have O:Ll (∀ cur:Array Value,cur.size=cap * 1->(w.alloc (.cells cur 9)).drew.ownsRow w.heap.size 9 1 (.slice (some ⟨w.heap.size,0,none⟩) 0 cap) 0 []):=by
   intro cur hcur;exact(World.ownsRow_made w cur cap (MG _) hle hcur)
  have hcap:(0:Int)<=(cap:Int):=by omega
  unfold maxLen at hle;go_wp2
  go_ret;refine⟨_,rfl,O.o _ ?_,((MK _ w).alloc (MG _) _).drew⟩;rw[Array.size_append,size_zeroCells,size_zeroCells];simp only[List.size_toArray,My,List.length_nil];omega
def J5 (w:LC) (b off:Nat) (ps:List jY):Prop:=
 ∀ i p,ps[i]?=some p->w.cell? ⟨b,off+i,none⟩=some p.v/\du w 1 p.v p.n p.cells
theorem At(w b off c)(ps:List jY)(h:J5 w b off ps)(hn:dl ps<=1000000)(hl:ps.length<=10)(hlc:ps.length<=c):Calls prog 192 #[.slice (some ⟨b,off,none⟩) ps.length c] w fun e w'=>∃ v,e=.returned v/\w'.ownsRow w.heap.size 9 1 v (dl ps) (fQ ps)/\La w w':=by
 obtain⟨i0,hi,hz0,hz1,hz2⟩:=info_parts wG;have H:=aa h;clear h;go_enter func192,ntmps192;go_wp2_with fail
 go_loop [3,11] (fun n i=>∃ k:Nat,k<=ps.length/\i=.int .i64 k/\n=.int .i64 (dl (ps.take k))) (fun _ i=>ps.length - (intOf i).toNat)
 case atStart=>exact⟨0,Nat.zero_le _,rfl,rfl⟩
 case round=>
  obtain⟨k,hk,rfl,rfl⟩:=hrel;have hs1:=eU ps k;by_cases hlt:k < ps.length
  ·obtain⟨p,hp⟩:∃ p,ps[k]?=some p:=⟨ps[k],Mw hlt⟩
   have hs2:Ll (dl (ps.take (k+1))=dl (ps.take k)+p.n):=aa (by rw[js hp,kH]);have hpn:=(H.o k p hp).2.2.1;have LV:=(H.o k p hp).1;have hf:∃ a cc,p.v=.slice a p.n cc:=by
    rcases (H.o k p hp).2.2.2.2 with⟨e,e0⟩ | ⟨ad,cc,e,_⟩
    ·exact⟨_,_,by rw[e,e0]⟩
    ·exact⟨_,_,e⟩
   obtain⟨a,cc,hv⟩:=hf;rw[hv]at LV;have HP:=aa hp;have HV:=aa hv;clear hp hv;go_wp2_with fail
   go_round
   case rel=>exact⟨k+1,by omega,by go_num,by rw[hs2.o];go_num⟩
   case measure=>simp[intOf];omega
  ·have Mc:k=ps.length:=by omega
   subst Mc;rw[List.take_length];go_wp2_with fail
   refine(Kn _ (dl ps) (by omega)).mono ?_;rintro e w1 ⟨v1,rfl,ho1,hb1⟩;have O1:Ll (w1.ownsRow w.heap.size 9 1 v1 0 []/\La w w1):=⟨ho1,hb1⟩
   clear ho1 hb1 hs1 hlt hk;go_wp2_with fail
   go_loopg [6,27] ps.length (fun g nv i wr=>∃ k:Nat,k<=ps.length/\g=ps.length - k/\i=.int .i64 k/\wr.ownsRow w.heap.size 9 1 nv (dl (ps.take k)) (fQ (ps.take k))/\La w wr)
   case atStart=>exact⟨0,Nat.zero_le _,rfl,rfl,O1.o.1,O1.o.2⟩
   case round=>
    obtain⟨k,hk,hgk,rfl,ho,hb⟩:=hrel;have A:Ll (gk=ps.length - k/\wr.ownsRow w.heap.size 9 1 u6 (dl (ps.take k)) (fQ (ps.take k))/\La w wr):=⟨hgk,ho,hb⟩
    have L9:=hb.size;have hs1:=eU ps k;by_cases hlt:k < ps.length
    ·obtain⟨p,hp⟩:∃ p,ps[k]?=some p:=⟨ps[k],Mw hlt⟩
     have hsl:=(H.o k p hp).2.below hb;have LV:wr.cell? ⟨b,off+k,none⟩=some p.v:=by
      have:=(H.o k p hp).1;rw[World.cell?_of_block (hb.block _ (World.block_lt_of_cell? w _ this))];exact this
     have hs2:Ll (dl (ps.take (k+1))=dl (ps.take k)+p.n/\fQ (ps.take (k+1))=fQ (ps.take k)++p.cells):=aa (by rw[js hp,kH,sr];exact⟨rfl,rfl⟩);clear hgk ho hb hp;obtain⟨g1,g2,g3,g4⟩:=hsl;rcases g4 with⟨hv,h0⟩ | ⟨ad,cc,hv,Mb⟩
     ·rw[hv]at LV;have hc0:p.cells=[]:=List.eq_nil_of_length_eq_zero (by rw[g1,h0]);rw[h0,hc0]at hs2;clear g1 g2 g3 hv h0 hc0;go_wp2_with (at_builtin;go_must (refine wpList_append_own_none rfl _ _ 36 rfl w.heap.size 9 i0 1 underlying36 hi u6 (dl (ps.take k)) (fQ (ps.take k)) rfl A.o.2.1 rfl ?_);refine Ll.o ?_)
      refine aa ?_;go_wp2_with fail
      obtain⟨hgk,ho,hb⟩:=A.o;go_roundg (ps.length - (k+1))
      case measure=>omega
      case rel=>exact⟨k+1,by omega,rfl,by go_num,by rw[hs2.o.1,hs2.o.2,List.append_nil,Nat.add_zero];exact ho,hb⟩
     ·rw[hv]at LV;have C:Ll (p.cells.length=p.n * 1/\(∀ u∈p.cells,u.oneCell'=true)/\∀ j u,p.cells[j]?=some u->wr.cell? (ad.add j)=some u):=⟨g1,g3,Mb⟩
      have hs3:=hs2.o.1;have hs4:=eU ps (k+1);have hm:dl (ps.take k)+p.n<=1000000:=by omega
      clear g1 g3 Mb hv hs3 hs4;go_wp2_with (at_builtin;go_must (refine wpList_append_own _ rfl _ _ 36 rfl w.heap.size 9 i0 _ 1 16 underlying36 hi hz0 hz1 hz2 rfl (by decide) u6 (dl (ps.take k)) (fQ (ps.take k)) rfl A.o.2.1 ad p.n cc p.cells rfl C.o.1 C.o.2.2 C.o.2.1 (by unfold maxLen;omega) (by omega) L9 ?_);intro v2 w2 ho2 hg2 _;refine Ll.o ?_)
      refine aa ?_;have D:Ll (w2.ownsRow w.heap.size 9 1 v2 (dl (ps.take k)+p.n) (fQ (ps.take k)++p.cells)/\wr.grownBy w2 u6.ownBlock):=⟨ho2,hg2⟩
      clear ho2 hg2;go_wp2_with fail
      obtain⟨hgk,ho,hb⟩:=A.o;go_roundg (ps.length - (k+1))
      case measure=>omega
      case rel=>exact⟨k+1,by omega,rfl,by go_num,by rw[hs2.o.1,hs2.o.2];exact D.o.1,hb.grown D.o.2 L9 (fun j hj=>(ho.lt j hj).1)⟩
    ·have Mc:k=ps.length:=by omega
     subst Mc;clear hgk ho hb;go_wp2_with fail
     go_ret;obtain⟨hgk,ho,hb⟩:=A.o;rw[List.take_length]at ho;exact⟨u6,rfl,ho,hb⟩
theorem Ko(w:LC)(n:Nat)(h:n<=4000000):Calls prog 227 #[.slice none 0 0,.int .i64 n] w fun e w'=>∃ v,e=.returned v/\w'.ownsRow w.heap.size 39 5 v 0 []/\La w w':=by
 obtain⟨i0,hi,hz0,hz1,hz2⟩:=info_parts Sp;rcases Nat.eq_zero_or_pos n with rfl | h0
 ·go_enter func227,ntmps227;go_wp2
  go_ret;exact⟨_,rfl,World.ownsRow_nil _ _ _ _,MK _ _⟩
 ·have hr:=Lib.run_append_nil_zeros (P:=prog) w 37 3 37 39 i0 _ .i64 .i64 underlying37 underlying3 hi hz0 n h0 (by rw[hz1];omega) (by omega) (by rw[hz2];omega);have hR:=aa hr;clear hr;have e1:¬((n:Int) < 0):=by omega
  have e2:(0:Int) < (n:Int):=by omega
  go_enter func227,ntmps227;go_wp2_with (at_builtin;go_must (refine Lib.wpList_append_run _ rfl _ _ _ _ rfl (.slice none 0 0) (.int .i64 n) rfl rfl _ _ hR.o ?_);refine Ll.o ?_)
  refine aa ?_;have hge:=grownCap_ge w n 0 39;have hle:=grownCap_le_maxLen w n 0 39 (by unfold maxLen;omega);generalize grownCap w n 0 39=cap at hge hle ⊢;clear hR;have O:Ll (∀ cur:Array Value,cur.size=cap * 5->(w.alloc (.cells cur 39)).drew.ownsRow w.heap.size 39 5 (.slice (some ⟨w.heap.size,0,none⟩) 0 cap) 0 []):=by
   intro cur hcur;exact(World.ownsRow_made w cur cap (MG _) hle hcur)
  have hcap:(0:Int)<=(cap:Int):=by omega
  unfold maxLen at hle;go_wp2
  go_ret;refine⟨_,rfl,O.o _ ?_,((MK _ w).alloc (MG _) _).drew⟩;rw[Array.size_append,size_zeroCells,size_zeroCells];simp only[List.size_toArray,My,List.length_nil];omega
def Kk (w:LC) (b off:Nat) (ps:List jY):Prop:=
 ∀ i p,ps[i]?=some p->w.cell? ⟨b,off+i,none⟩=some p.v/\du w 5 p.v p.n p.cells
theorem Av(w b off c)(ps:List jY)(h:Kk w b off ps)(hn:dl ps<=1000000)(hl:ps.length<=10)(hlc:ps.length<=c):Calls prog 191 #[.slice (some ⟨b,off,none⟩) ps.length c] w fun e w'=>∃ v,e=.returned v/\w'.ownsRow w.heap.size 39 5 v (dl ps) (fQ ps)/\La w w':=by
 obtain⟨i0,hi,hz0,hz1,hz2⟩:=info_parts Sp;have H:=aa h;clear h;go_enter func191,ntmps191;go_wp2_with fail
 go_loop [3,11] (fun n i=>∃ k:Nat,k<=ps.length/\i=.int .i64 k/\n=.int .i64 (dl (ps.take k))) (fun _ i=>ps.length - (intOf i).toNat)
 case atStart=>exact⟨0,Nat.zero_le _,rfl,rfl⟩
 case round=>
  obtain⟨k,hk,rfl,rfl⟩:=hrel;have hs1:=eU ps k;by_cases hlt:k < ps.length
  ·obtain⟨p,hp⟩:∃ p,ps[k]?=some p:=⟨ps[k],Mw hlt⟩
   have hs2:Ll (dl (ps.take (k+1))=dl (ps.take k)+p.n):=aa (by rw[js hp,kH]);have hpn:=(H.o k p hp).2.2.1;have LV:=(H.o k p hp).1;have hf:∃ a cc,p.v=.slice a p.n cc:=by
    rcases (H.o k p hp).2.2.2.2 with⟨e,e0⟩ | ⟨ad,cc,e,_⟩
    ·exact⟨_,_,by rw[e,e0]⟩
    ·exact⟨_,_,e⟩
   obtain⟨a,cc,hv⟩:=hf;rw[hv]at LV;have HP:=aa hp;have HV:=aa hv;clear hp hv;go_wp2_with fail
   go_round
   case rel=>exact⟨k+1,by omega,by go_num,by rw[hs2.o];go_num⟩
   case measure=>simp[intOf];omega
  ·have Mc:k=ps.length:=by omega
   subst Mc;rw[List.take_length];go_wp2_with fail
   refine(Ko _ (dl ps) (by omega)).mono ?_;rintro e w1 ⟨v1,rfl,ho1,hb1⟩;have O1:Ll (w1.ownsRow w.heap.size 39 5 v1 0 []/\La w w1):=⟨ho1,hb1⟩
   clear ho1 hb1 hs1 hlt hk;go_wp2_with fail
   go_loopg [6,27] ps.length (fun g nv i wr=>∃ k:Nat,k<=ps.length/\g=ps.length - k/\i=.int .i64 k/\wr.ownsRow w.heap.size 39 5 nv (dl (ps.take k)) (fQ (ps.take k))/\La w wr)
   case atStart=>exact⟨0,Nat.zero_le _,rfl,rfl,O1.o.1,O1.o.2⟩
   case round=>
    obtain⟨k,hk,hgk,rfl,ho,hb⟩:=hrel;have A:Ll (gk=ps.length - k/\wr.ownsRow w.heap.size 39 5 u6 (dl (ps.take k)) (fQ (ps.take k))/\La w wr):=⟨hgk,ho,hb⟩
    have L9:=hb.size;have hs1:=eU ps k;by_cases hlt:k < ps.length
    ·obtain⟨p,hp⟩:∃ p,ps[k]?=some p:=⟨ps[k],Mw hlt⟩
     have hsl:=(H.o k p hp).2.below hb;have LV:wr.cell? ⟨b,off+k,none⟩=some p.v:=by
      have:=(H.o k p hp).1;rw[World.cell?_of_block (hb.block _ (World.block_lt_of_cell? w _ this))];exact this
     have hs2:Ll (dl (ps.take (k+1))=dl (ps.take k)+p.n/\fQ (ps.take (k+1))=fQ (ps.take k)++p.cells):=aa (by rw[js hp,kH,sr];exact⟨rfl,rfl⟩);clear hgk ho hb hp;obtain⟨g1,g2,g3,g4⟩:=hsl;rcases g4 with⟨hv,h0⟩ | ⟨ad,cc,hv,Mb⟩
     ·rw[hv]at LV;have hc0:p.cells=[]:=List.eq_nil_of_length_eq_zero (by rw[g1,h0]);rw[h0,hc0]at hs2;clear g1 g2 g3 hv h0 hc0;go_wp2_with (at_builtin;go_must (refine wpList_append_own_none rfl _ _ 37 rfl w.heap.size 39 i0 5 underlying37 hi u6 (dl (ps.take k)) (fQ (ps.take k)) rfl A.o.2.1 rfl ?_);refine Ll.o ?_)
      refine aa ?_;go_wp2_with fail
      obtain⟨hgk,ho,hb⟩:=A.o;go_roundg (ps.length - (k+1))
      case measure=>omega
      case rel=>exact⟨k+1,by omega,rfl,by go_num,by rw[hs2.o.1,hs2.o.2,List.append_nil,Nat.add_zero];exact ho,hb⟩
     ·rw[hv]at LV;have C:Ll (p.cells.length=p.n * 5/\(∀ u∈p.cells,u.oneCell'=true)/\∀ j u,p.cells[j]?=some u->wr.cell? (ad.add j)=some u):=⟨g1,g3,Mb⟩
      have hs3:=hs2.o.1;have hs4:=eU ps (k+1);have hm:dl (ps.take k)+p.n<=1000000:=by omega
      clear g1 g3 Mb hv hs3 hs4;go_wp2_with (at_builtin;go_must (refine wpList_append_own _ rfl _ _ 37 rfl w.heap.size 39 i0 _ 5 80 underlying37 hi hz0 hz1 hz2 rfl (by decide) u6 (dl (ps.take k)) (fQ (ps.take k)) rfl A.o.2.1 ad p.n cc p.cells rfl C.o.1 C.o.2.2 C.o.2.1 (by unfold maxLen;omega) (by omega) L9 ?_);intro v2 w2 ho2 hg2 _;refine Ll.o ?_)
      refine aa ?_;have D:Ll (w2.ownsRow w.heap.size 39 5 v2 (dl (ps.take k)+p.n) (fQ (ps.take k)++p.cells)/\wr.grownBy w2 u6.ownBlock):=⟨ho2,hg2⟩
      clear ho2 hg2;go_wp2_with fail
      obtain⟨hgk,ho,hb⟩:=A.o;go_roundg (ps.length - (k+1))
      case measure=>omega
      case rel=>exact⟨k+1,by omega,rfl,by go_num,by rw[hs2.o.1,hs2.o.2];exact D.o.1,hb.grown D.o.2 L9 (fun j hj=>(ho.lt j hj).1)⟩
    ·have Mc:k=ps.length:=by omega
     subst Mc;clear hgk ho hb;go_wp2_with fail
     go_ret;obtain⟨hgk,ho,hb⟩:=A.o;rw[List.take_length]at ho;exact⟨u6,rfl,ho,hb⟩
theorem vB(w b)(p1 p2 p3:jY)(q1:w.cell? ⟨b,0,none⟩=some p1.v)(q2:w.cell? ⟨b,1,none⟩=some p2.v)(q3:w.cell? ⟨b,2,none⟩=some p3.v)(s1:du w 5 p1.v p1.n p1.cells)(s2:du w 5 p2.v p2.n p2.cells)(s3:du w 5 p3.v p3.n p3.cells)(hn:p1.n+p2.n+p3.n<=1000000):Calls prog 191 #[.slice (some ⟨b,0,none⟩) 3 3] w fun e w'=>∃ v,e=.returned v/\w'.ownsRow w.heap.size 39 5 v (p1.n+p2.n+p3.n) (p1.cells++p2.cells++p3.cells)/\La w w':=by
 refine(Av w b 0 3 [p1,p2,p3] ?_ (by simp[dl];omega) (by simp) (by simp)).mono ?_
 ·intro i p hp;match i,hp with
  | 0,hp=>simp at hp;subst hp;exact⟨q1,s1⟩
  | 1,hp=>simp at hp;subst hp;exact⟨q2,s2⟩
  | 2,hp=>simp at hp;subst hp;exact⟨q3,s3⟩
 ·rintro e w' ⟨v,rfl,h1,h2⟩;refine⟨v,rfl,?_,h2⟩;have e1:dl [p1,p2,p3]=p1.n+p2.n+p3.n:=by simp[dl];omega
  have e2:fQ [p1,p2,p3]=p1.cells++p2.cells++p3.cells:=by simp[fQ]
  rw[e1,e2]at h1;exact h1
theorem Ew(w b)(p1 p2 p3:jY)(q1:w.cell? ⟨b,0,none⟩=some p1.v)(q2:w.cell? ⟨b,1,none⟩=some p2.v)(q3:w.cell? ⟨b,2,none⟩=some p3.v)(s1:du w 1 p1.v p1.n p1.cells)(s2:du w 1 p2.v p2.n p2.cells)(s3:du w 1 p3.v p3.n p3.cells)(hn:p1.n+p2.n+p3.n<=1000000):Calls prog 192 #[.slice (some ⟨b,0,none⟩) 3 3] w fun e w'=>∃ v,e=.returned v/\w'.ownsRow w.heap.size 9 1 v (p1.n+p2.n+p3.n) (p1.cells++p2.cells++p3.cells)/\La w w':=by
 refine(At w b 0 3 [p1,p2,p3] ?_ (by simp[dl];omega) (by simp) (by simp)).mono ?_
 ·intro i p hp;match i,hp with
  | 0,hp=>simp at hp;subst hp;exact⟨q1,s1⟩
  | 1,hp=>simp at hp;subst hp;exact⟨q2,s2⟩
  | 2,hp=>simp at hp;subst hp;exact⟨q3,s3⟩
 ·rintro e w' ⟨v,rfl,h1,h2⟩;refine⟨v,rfl,?_,h2⟩;have e1:dl [p1,p2,p3]=p1.n+p2.n+p3.n:=by simp[dl];omega
  have e2:fQ [p1,p2,p3]=p1.cells++p2.cells++p3.cells:=by simp[fQ]
  rw[e1,e2]at h1;exact h1
theorem Jg{w2 v1 v3 n1 n3 N cs1 cs3}(key)(s1:du w2 1 v1 n1 cs1)(s3:du w2 1 v3 n3 cs3)(hN:n1+1+n3=N)(hn:N<=1000000)(W)(e1:W.heap=((w2.alloc (.cells #[.string key] 9)).alloc (.cells #[v1,.slice (some ⟨w2.heap.size,0,none⟩) 1 1,v3] 36)).heap)(e2:W.os=w2.os)(e3:W.tape=w2.tape)(e4:W.output=w2.output):Calls prog 192 #[.slice (some ⟨w2.heap.size+1,0,none⟩) 3 3] W fun e w'=>∃ g cap,e=.returned (.slice (some ⟨g,0,none⟩) N cap)/\w'.ownsRow w2.heap.size 9 1 (.slice (some ⟨g,0,none⟩) N cap) N (cs1++[.string key]++cs3)/\La w2 w':=by
 have LY:La w2 W:=by
  have:=ab (ae w2 (.cells #[.string key] 9)) (ae _ (.cells #[v1,.slice (some ⟨w2.heap.size,0,none⟩) 1 1,v3] 36));exact⟨e2,e3,e4,by rw[e1];exact this.size,fun k hk=>by rw[e1];exact this.block k hk⟩
 have ha:=fb w2 (.cells #[.string key] 9) (.cells #[v1,.slice (some ⟨w2.heap.size,0,none⟩) 1 1,v3] 36);have hb:=et w2 (.cells #[.string key] 9) (.cells #[v1,.slice (some ⟨w2.heap.size,0,none⟩) 1 1,v3] 36);rw[<-e1]at ha hb;refine(Ew W (w2.heap.size+1) ⟨v1,n1,cs1⟩ ⟨_,1,_⟩ ⟨v3,n3,cs3⟩ (by simp[World.cell?,hb]) (by simp[World.cell?,hb]) (by simp[World.cell?,hb]) (s1.bel LY) (Kp ha rfl) (s3.bel LY) (by simp only;omega)).mono ?_;rintro e w' ⟨v,rfl,ho,hb9⟩;simp only at ho;rw[hN]at ho;have ho':=cV ho LY.size;rcases ho'.2 with⟨_,h0⟩ | ⟨g,cap,cur,e,rest⟩
 ·omega
 ·subst e;exact⟨g,cap,rfl,ho',ab LY hb9⟩
theorem EJ{w2 v1 v3 n1 n3 N cs1 cs3}(k n s a7 a8 l7 c7 l8 c8)(s1:du w2 5 v1 n1 cs1)(s3:du w2 5 v3 n3 cs3)(hN:n1+1+n3=N)(hn:N<=1000000)(W)(e1:W.heap=((w2.alloc (.cells #[.int .i64 k,.int .i64 n,.string s,.slice a7 l7 c7,.slice a8 l8 c8] 39)).alloc (.cells #[v1,.slice (some ⟨w2.heap.size,0,none⟩) 1 1,v3] 37)).heap)(e2:W.os=w2.os)(e3:W.tape=w2.tape)(e4:W.output=w2.output):Calls prog 191 #[.slice (some ⟨w2.heap.size+1,0,none⟩) 3 3] W fun e w'=>∃ g cap,e=.returned (.slice (some ⟨g,0,none⟩) N cap)/\w'.ownsRow w2.heap.size 39 5 (.slice (some ⟨g,0,none⟩) N cap) N (cs1++[.int .i64 k,.int .i64 n,.string s,.slice a7 l7 c7,.slice a8 l8 c8]++cs3)/\La w2 w':=by
 have LY:La w2 W:=by
  have:=ab (ae w2 (.cells #[.int .i64 k,.int .i64 n,.string s,.slice a7 l7 c7,.slice a8 l8 c8] 39)) (ae _ (.cells #[v1,.slice (some ⟨w2.heap.size,0,none⟩) 1 1,v3] 37));exact⟨e2,e3,e4,by rw[e1];exact this.size,fun k hk=>by rw[e1];exact this.block k hk⟩
 have ha:=fb w2 (.cells #[.int .i64 k,.int .i64 n,.string s,.slice a7 l7 c7,.slice a8 l8 c8] 39) (.cells #[v1,.slice (some ⟨w2.heap.size,0,none⟩) 1 1,v3] 37);have hb:=et w2 (.cells #[.int .i64 k,.int .i64 n,.string s,.slice a7 l7 c7,.slice a8 l8 c8] 39) (.cells #[v1,.slice (some ⟨w2.heap.size,0,none⟩) 1 1,v3] 37);rw[<-e1]at ha hb;refine(vB W (w2.heap.size+1) ⟨v1,n1,cs1⟩ ⟨_,1,_⟩ ⟨v3,n3,cs3⟩ (by simp[World.cell?,hb]) (by simp[World.cell?,hb]) (by simp[World.cell?,hb]) (s1.bel LY) (Gj ha (Ji _ _ _ _ _ _ _ _ _)) (s3.bel LY) (by simp only;omega)).mono ?_;rintro e w' ⟨v,rfl,ho,hb9⟩;simp only at ho;rw[hN]at ho;have ho':=cV ho LY.size;rcases ho'.2 with⟨_,h0⟩ | ⟨g,cap,cur,e,rest⟩
 ·omega
 ·subst e;exact⟨g,cap,rfl,ho',ab LY hb9⟩
def vW:Prop:=∀ (w:LC) (ok:Nat->Prop) (d:Nat) (t x:V) (v xv:Value) (key:Lz),bu w ok (d+1) t v->bu w ok d x xv->aK t=true->t.l.length<=100000->key.length<=maxLen ->
 Calls prog 158 #[v,aR key,xv] w fun e w'=>∃ r,e=.returned r/\bu w' (bQ ok w.heap.size) (d+1) (aG t key x) r/\La w w'
variable {c:Nat}
theorem yV(a s):∀ x∈Lib.split s [a],x.length<=s.length:=by
 induction s with
 | nil=>rw[gX];simp
 | cons b r ih=>
  by_cases h:b=a
  ·subst h;rw[Sc];intro x hx;rcases List.mem_cons.1 hx with rfl | hx
   ·simp
   ·have:=ih x hx;simp only[My];omega
  ·rw[eM a b r h];cases hr:Lib.split r [a] with
   | nil=>exact absurd hr (iN a r)
   | cons y ys=>
    rw[hr]at ih;intro x hx;rcases List.mem_cons.1 hx with rfl | hx
    ·have:=ih y (by simp);simp only[My];omega
    ·have:=ih x (by simp[hx]);simp only[My];omega
theorem vM(a s):(Lib.split s [a]).length<=s.length+1:=by
 induction s with
 | nil=>rw[gX];simp
 | cons b r ih=>
  by_cases h:b=a
  ·subst h;rw[Sc];simp only[My];omega
  ·rw[eM a b r h];cases hr:Lib.split r [a] with
   | nil=>exact absurd hr (iN a r)
   | cons y ys=>
    rw[hr]at ih;simp only[My]at ih ⊢;omega
theorem uR(X r)(h:X.data.toList=r):Lib.countB X ⟨#[47]⟩+1=(Lib.split r [47]).length/\(Lib.splitB ⟨#[47]⟩ 0 (Lib.countB X ⟨#[47]⟩) X).map Value.string=(Lib.split r [47]).map aR:=by
 have h1:=Lib.splitB_all ⟨#[47]⟩ (by decide) 0 _ X rfl;have h2:=Lib.splitB_data ⟨#[47]⟩ 0 (Lib.countB X ⟨#[47]⟩) X;have e:Lib.splitK ([47]:Lz) 0 (Lib.countB X ⟨#[47]⟩) X.data.toList=Lib.split r [47]:=by
  subst h;rfl
 have h3:(Lib.splitB ⟨#[47]⟩ 0 (Lib.countB X ⟨#[47]⟩) X).map (fun x=>x.data.toList)=Lib.split r [47]:=h2.trans e;refine⟨?_,?_⟩
 ·rw[<-h3,List.length_map,h1]
 ·rw[<-h3,List.map_map];apply List.map_congr_left;intro x _;simp only[Function.comp,aR]
def jP (ns:List Lz) (k:Nat):List Lz:=(ns.take k).map bK++ns.drop k
theorem EK{ns}(h:k < ns.length):(jP ns k)[k]?=some ns[k]:=by
 unfold jP;rw[List.getElem?_append_right (by simp;omega)];have:k - ((ns.take k).map bK).length=0:=by simp;omega
 rw[this,List.getElem?_drop,Nat.add_zero,Mw h]
theorem Hs{ns}(h:k < ns.length):(jP ns k).set k (bK ns[k])=jP ns (k+1):=by
 unfold jP;have hl:((ns.take k).map bK).length=k:=by simp;omega
 rw[List.set_append_right _ _ (by omega),hl,Nat.sub_self,ME h,Mu,List.take_add_one,Mw h];simp only[List.map_append,Option.toList_some,List.map_cons,List.map_nil,List.append_assoc,List.cons_append,List.nil_append]
theorem mU{l:List Lz}(h:w.heap[g]?=some (.cells (l.map aR).toArray 9)){x:Lz}(hk:l[k]?=some x):w.cell? ⟨g,k,none⟩=some (.string ⟨x.toArray⟩)/\w.frozen? ⟨g,k,none⟩=false:=by
 constructor
 ·simp[World.cell?,h,hk,aR]
 ·simp[World.frozen?,h]
theorem wj(w:LC)(c r)(hc:c=47)(hp:r.length+1<=2000)(hw:br (c :: r)=true)(hM:bj w):Calls prog 159 #[aR (c :: r)] w fun e w'=>∃ (a:Option Addr) (cap:Nat),e=.returned (.tuple #[.slice a ((Lib.split r [47]).map bK).length cap,.int .i64 0]) /\
 ao w' (fun k=>w.heap.size<=k) ((Lib.split r [47]).map bK) (.slice a ((Lib.split r [47]).map bK).length cap)/\La w w':=by
 subst hc;have HM:=aa hM;clear hM;have HW:=aa hw;clear hw;unfold aR;have hne:(ByteArray.mk (47 :: r).toArray == ByteArray.mk #[])=false:=Aq (by simp);have L9:0 < (ByteArray.mk (47 :: r).toArray).size:=by rw[eS];simp
 have hget:(ByteArray.mk (47 :: r).toArray)[0]=47:=rfl;have e0:¬(2000 < (r.length:Int)+1):=by omega
 go_enter func159,ntmps159;go_wp2_with fail
 refine(vV _ (47 :: r) (by simp;omega)).mono ?_;rintro e w1 ⟨rfl,hw1⟩;rw[HW.o,hw1];clear hw1;go_wp2_with fail
 obtain⟨m,hm⟩:=HM.o;obtain⟨X,hX⟩:∃ X,(ByteArray.mk (47 :: r).toArray).extract 1 (ByteArray.mk (47 :: r).toArray).size=X:=⟨_,rfl⟩
 have hXd:X.data.toList=r:=by
  rw[<-hX,Lib.extract_to_end];simp
 have hXs:X.size=r.length:=by rw[Lib.size_eq,hXd]
 have hX2:(ByteArray.mk (47 :: r).toArray).extract 1 (r.length+1)=X:=by rw[<-hX,eS];rfl
 rw[hX2];clear hX hX2;refine(Tryz.strings_Split X ⟨#[47]⟩ m w (by omega) hm (by decide)).mono ?_;rintro e w2 ⟨rfl,hw2⟩;obtain⟨hn,hcells⟩:=uR X r hXd;rw[hn];rw[hcells]at hw2;obtain⟨ns,hns⟩:∃ ns,Lib.split r [47]=ns:=⟨_,rfl⟩
 have NL:Ll (∀ x∈ns,x.length<=2000):=aa (by rw[<-hns];intro x hx;have:=yV 47 r x hx;omega);have nl:ns.length<=2000:=by rw[<-hns];have:=vM 47 r;omega
 rw[hns]at hw2 ⊢;have HNS:=aa hns;clear hns hcells hn hXd hXs hm m;have h2:w2.heap[w.heap.size]?=some (.cells ((jP ns 0).map aR).toArray 9):=by
  rw[hw2];have:jP ns 0=ns:=by simp[jP]
  rw[this];exact MN w _
 have b2:La w w2:=by rw[hw2];exact ae _ _
 have S2:Ll (w2.heap[w.heap.size]?=some (.cells ((jP ns 0).map aR).toArray 9)/\La w w2):=⟨h2,b2⟩
 clear h2 b2 hw2;go_wp2_with fail
 go_loopg [27] ns.length (fun gk i wr=>∃ k:Nat,k<=ns.length/\gk=ns.length - k/\i=.int .i64 k/\wr.heap[w.heap.size]?=some (.cells ((jP ns k).map aR).toArray 9)/\La w wr)
 case atStart=>exact⟨0,Nat.zero_le _,rfl,rfl,S2.o.1,S2.o.2⟩
 case round=>
  obtain⟨k,hk,hgk,rfl,hh,hbl⟩:=hrel;have GK:=aa hgk;have A:Ll (wr.heap[w.heap.size]?=some (.cells ((jP ns k).map aR).toArray 9)/\La w wr):=⟨hh,hbl⟩
  clear hgk hh hbl;by_cases hlt:k < ns.length
  ·obtain⟨c1,f1⟩:=mU A.o.1 (EK hlt);have hnk:ns[k].length<=2000:=NL.o _ (List.getElem_mem _);have HM1:=aa (HM.o.bel A.o.2);go_wp2_with fail
   refine Lk (wm _ ns[k] (by omega) (by exact HM1.o)) fun w3 hb3=>?_;have hb3':w3.heap[w.heap.size]?=some (.cells ((jP ns k).map aR).toArray 9):=by
    have hlt2:w.heap.size < wr.heap.size:=(MF.1 A.o.1).1;rw[hb3.block _ hlt2];exact A.o.1
   have B3:Ll (w3.heap[w.heap.size]?=some (.cells ((jP ns k).map aR).toArray 9)/\La w w3):=⟨hb3',ab A.o.2 hb3⟩
   obtain⟨c2,f2⟩:=mU B3.o.1 (EK hlt);clear hb3 hb3' c1 f1;unfold aR;go_wp2_with fail
   go_roundg (ns.length - (k+1))
   case measure=>rw[GK.o];omega
   case rel=>
    refine⟨k+1,by omega,rfl,by go_num,?_,?_⟩
    ·have:=ak B3.o.1 k (.string ⟨(bK ns[k]).toArray⟩);rw[this];have e9:((jP ns k).map aR).toArray.setIfInBounds k (.string ⟨(bK ns[k]).toArray⟩)=((jP ns (k+1)).map aR).toArray:=by
      rw[<-Hs hlt,List.map_set];simp[aR]
     rw[e9]
    ·exact bS (bi (aq B3.o.2) (MG _) _ _)
  ·have Mc:k=ns.length:=by omega
   subst Mc;have e3:jP ns ns.length=ns.map bK:=by simp[jP]
   go_wp2_with fail
   refine MM (v:=.tuple #[.slice (some ⟨w.heap.size,0,none⟩) ns.length ns.length,.int .i64 0]) (by simp[results,results159,go_sem] <;> rfl) rfl ?_;rw[HNS.o];refine⟨some ⟨w.heap.size,0,none⟩,ns.length,by rw[List.length_map],⟨by rw[List.length_map];unfold maxLen;omega,.inr ⟨w.heap.size,0,ns.length,by rw[List.length_map],by rw[List.length_map];exact MG _,by unfold maxLen;omega,?_⟩⟩,A.o.2⟩;intro i x hx;have h9:=A.o.1;rw[e3]at h9;refine⟨?_,MG _,?_⟩
   ·simp only[List.getElem?_map,Option.map_eq_some_iff]at hx;obtain⟨y,hy,rfl⟩:=hx;have h1:=NL.o y (List.mem_of_getElem? hy);have h2:(Lib.replaceAll y [126,49] [47]).length<=y.length:=qD (by simp) (by simp) (by simp) _ y (MG _);have h3:(bK y).length<=(Lib.replaceAll y [126,49] [47]).length:=qD (by simp) (by simp) (by simp) _ _ (MG _);unfold maxLen;omega
   ·have:=(mU h9 hx).1;rw[Nat.zero_add];exact this
theorem ta(w:LC)(c r)(hl:r.length+1<=140737488351232)(hb:c≠47\/2000 < (c :: r).length\/br (c :: r)=false):Calls prog 159 #[aR (c :: r)] w fun e w'=>e=.returned (.tuple #[.slice none 0 0,.int .i64 1])/\La w w':=by
 unfold aR;have hne:(ByteArray.mk (c :: r).toArray == ByteArray.mk #[])=false:=Aq (by simp);have L9:0 < (ByteArray.mk (c :: r).toArray).size:=by rw[eS];simp
 have hget:(ByteArray.mk (c :: r).toArray)[0]=c:=rfl;have hbyte:(c.toNat:Int) < 256:=by have:=c.toNat_lt;omega
 by_cases hc:c=47
 ·have n1:((c.toNat:Int) != 47)=false:=by rw[hc];rfl
  have q1:((c.toNat:Int) == 47)=true:=by rw[hc];rfl
  by_cases h2:2000 < r.length+1
  ·have e0:2000 < (r.length:Int)+1:=by omega
   clear hc hb;go_enter func159,ntmps159;go_wp2_with fail
   refine MM (v:=.tuple #[.slice none 0 0,.int .i64 1]) (by simp[results,results159,go_sem] <;> rfl) rfl ?_;exact⟨rfl,MK _ _⟩
  ·have e0:¬(2000 < (r.length:Int)+1):=by omega
   have HW:Ll (br (c :: r)=false):=aa (by
    rcases hb with h | h | h
    ·exact absurd hc h
    ·simp only[My]at h;omega
    ·exact h)
   clear hc hb;go_enter func159,ntmps159;go_wp2_with fail
   refine(vV _ (c :: r) (by simp;omega)).mono ?_;rintro e w1 ⟨rfl,hw1⟩;rw[HW.o,hw1];clear hw1;go_wp2_with fail
   refine MM (v:=.tuple #[.slice none 0 0,.int .i64 1]) (by simp[results,results159,go_sem] <;> rfl) rfl ?_;exact⟨rfl,MK _ _⟩
 ·have n1:((c.toNat:Int) != 47)=true:=by
   have:c.toNat≠47:=fun e=>hc (UInt8.toNat_inj.1 e);simp only[bne_iff_ne,ne_eq];omega
  have q1:((c.toNat:Int) == 47)=false:=by
   have:c.toNat≠47:=fun e=>hc (UInt8.toNat_inj.1 e);rw[MO];omega
  clear hc hb;go_enter func159,ntmps159;go_wp2_with fail
  refine MM (v:=.tuple #[.slice none 0 0,.int .i64 1]) (by simp[results,results159,go_sem] <;> rfl) rfl ?_;exact⟨rfl,MK _ _⟩
theorem tM(w:LC):Calls prog 159 #[aR []] w fun e w'=>e=.returned (.tuple #[.slice none 0 0,.int .i64 0])/\La w w':=by
 unfold aR;have hne:(ByteArray.mk ([]:Lz).toArray == ByteArray.mk #[])=true:=zN (by simp);go_enter func159,ntmps159;go_wp2_with fail
 refine MM (v:=.tuple #[.slice none 0 0,.int .i64 0]) (by simp[results,results159,go_sem] <;> rfl) rfl ?_;exact⟨rfl,MK _ _⟩
theorem iO(w:LC)(p)(hp:p.length<=140737488351232)(hM:bj w):Calls prog 159 #[aR p] w fun e w'=>∃ (b:List Lz) (ee:Int) (a:Option Addr) (cap:Nat),e=.returned (.tuple #[.slice a b.length cap,.int .i64 ee])/\ax p=(b,ee) /\
 ao w' (fun k=>w.heap.size<=k) b (.slice a b.length cap)/\La w w':=by
 cases p with
 | nil=>
  refine Lk (tM w) fun w' hb=>?_;exact⟨[],0,none,0,rfl,rfl,⟨by simp[maxLen],.inl ⟨rfl,none,rfl⟩⟩,hb⟩
 | cons c r=>
  by_cases h:c≠47\/2000 < (c :: r).length\/br (c :: r)=false
  ·refine Lk (ta w c r (by simpa using hp) h) fun w' hb=>?_;refine⟨[],1,none,0,rfl,?_,⟨by simp[maxLen],.inl ⟨rfl,none,rfl⟩⟩,hb⟩;simp only[ax];rw[if_pos h]
  ·have h':=h;simp only[not_or,Decidable.not_not,Bool.not_eq_false]at h';refine(wj w c r h'.1 (by have:=h'.2.1;simp only[My]at this;omega) h'.2.2 hM).mono ?_;rintro e w' ⟨a,cap,rfl,hs,hb⟩;refine⟨_,0,a,cap,rfl,?_,hs,hb⟩;simp only[ax];rw[if_neg h]
theorem lm{xs a}(h:ao w ok xs (.slice a n c))(hk:k < xs.length):∃ b off,a=some ⟨b,off,none⟩/\xs.length<=c/\c<=maxLen/\w.cell? ⟨b,off+k,none⟩=some (.string ⟨xs[k].toArray⟩):=by
 rcases h.2 with⟨e,_⟩ | ⟨b,off,c',e,h1,h2,Mb⟩
 ·rw[e]at hk;simp at hk
 ·simp only[Value.slice.injEq]at e;obtain⟨rfl,-,rfl⟩:=e;exact⟨b,off,rfl,h1,h2,(Mb k xs[k] (Mw hk)).2.2⟩
abbrev xB (B b:Nat) (l:Lz) (w:LC):Prop:=Lib.IsBuilderF 240 5 B b (Lib.byteCells l) w
theorem xB.bel{b l}(h:xB B b l w)(hb:La w w'):xB B b l w':=by
 rcases h with⟨h1,v,h2,h3,h4⟩ | ⟨h1,v,h2,h3,h4⟩
 ·exact .inl ⟨h1,v,(hb.block _ (MF.1 h2).1).trans h2,h3.kept (aq (r:=none) hb) (by cases v.ownBlock <;> simp),h4⟩
 ·exact .inr ⟨h1,v,(hb.block _ (MF.1 h2).1).trans h2,h3.kept (aq (r:=none) hb) (by cases v.ownBlock <;> simp),h4⟩
theorem tI(B b l w)(h:xB B b l w)(hl:l.length<=1000000000)(hB:B<=w.heap.size):Calls prog 214 #[.pointer (some ⟨b,0,none⟩),.int .u8 47] w fun e w'=>e=.returned .nilIface/\xB B b (l++[47]) w'/\Below B w w':=by
 have hl2:(Lib.byteCells l).length=l.length:=by simp[Lib.byteCells]
 refine(Any.Builder_WriteByte_k Tryz.laysB167 Tryz.laysB_extra B b (Lib.byteCells l) 47 w h (by omega) hB).mono ?_;rintro e w' ⟨rfl,h1,h2,-⟩;refine⟨rfl,.inr ?_,h2⟩;have e1:Lib.byteCells (l++[47])=Lib.byteCells l++[.int .u8 47]:=by simp[Lib.byteCells]
 rw[e1];exact h1
theorem oS(B b l s w)(h:xB B b l w)(hl:l.length<=1000000000)(hs:s.length<=1000000000)(hB:B<=w.heap.size):Calls prog 215 #[.pointer (some ⟨b,0,none⟩),.string ⟨s.toArray⟩] w fun e w'=>e=.returned (.tuple #[.int .i64 s.length,.nilIface])/\xB B b (l++s) w'/\Below B w w':=by
 have hl2:(Lib.byteCells l).length=l.length:=by simp[Lib.byteCells]
 refine(Any.Builder_WriteString_k Tryz.laysB166 Tryz.laysB_extra B b (Lib.byteCells l) ⟨s.toArray⟩ w h (by rw[eS];omega) hB).mono ?_;rintro e w' ⟨rfl,h1,h2,-⟩;refine⟨by rw[eS],.inr ?_,h2⟩;have e1:Lib.byteCells (l++s)=Lib.byteCells l++Lib.strCells ⟨s.toArray⟩:=by simp[Lib.byteCells,Lib.strCells]
 rw[e1];exact h1
theorem BR(B b l w)(h:xB B b l w)(hB:B<=w.heap.size):Calls prog 217 #[.pointer (some ⟨b,0,none⟩)] w fun e w'=>e=.returned (.string ⟨l.toArray⟩)/\Below B w w':=by
 refine(Any.Builder_String_any_k Tryz.laysB169 Tryz.laysB_extra B b l w h hB).mono ?_;rintro e w' ⟨rfl,-,h2,-⟩;exact⟨rfl,h2⟩
theorem CD(w:LC)(s)(hs:s.length<=10000000)(hM:bj w):Calls prog 216 #[aR s] w fun e w'=>e=.returned (aR (dY s))/\La w w':=by
 have HM:=aa hM;clear hM;unfold aR;go_enter func216,ntmps216;go_wp2_with fail
 refine Lk (oP _ s [126] [126,48] (by omega) (by simp) (by simp) (by exact HM.o)) fun w1 hb1=>?_;have HB1:=aa hb1;have HM1:=aa (HM.o.bel hb1);have hl:(Lib.replaceAll s [126] [126,48]).length<=2 * s.length:=by
  rw[IU];generalize s=s;induction s with
  | nil=>simp
  | cons c s ih=>
   have:(if c=126 then [126,48] else [c]:Lz).length<=2:=by split <;> simp
   simp only[List.flatMap_cons,Mx,My];omega
 clear hb1;go_wp2_with fail
 refine Lk (oP _ (Lib.replaceAll s [126] [126,48]) [47] [126,49] (by omega) (by simp) (by simp) (by exact HM1.o)) fun w2 hb2=>?_;have HB2:=aa hb2;clear hb2;go_wp2_with fail
 go_ret;exact⟨rfl,ab HB1.o HB2.o⟩
theorem CV{l:List Lz}(h:k < l.length):aU (l.take (k+1))=aU (l.take k)++[47]++dY l[k]:=by
 unfold aU;rw[List.take_add_one,Mw h,List.flatMap_append];simp
theorem rZ(l k):(aU (l.take k)).length<=(aU l).length:=by
 have:aU l=aU (l.take k)++aU (l.drop k):=by
  unfold aU;rw[<-List.flatMap_append,List.take_append_drop]
 rw[this,Mx];omega
theorem Ij(w:LC)(o:Obj)(ho:o=.cells #[.pointer none,.slice none 0 0] 240):xB w.heap.size w.heap.size [] (w.alloc o):=by
 subst ho;exact .inl ⟨MG _,.slice none 0 0,MN w _,World.ownsRowF_of (World.ownsRow_nil _ _ _ _),by simp[Value.ownBlock]⟩
theorem AJ(w:LC)(ok l v)(hl:ao w ok l v)(hn:∀ x∈l,x.length<=10000000)(hj:(aU l).length<=10000000)(hM:bj w):Calls prog 187 #[v] w fun e w'=>e=.returned (aR (aU l))/\La w w':=by
 obtain⟨a1,c1,rfl⟩:=hl.form;have HL:=aa hl;have HN:=aa hn;have HM:=aa hM;have hl1:=hl.1;unfold maxLen at hl1;clear hl hn hM;have S0:Ll (xB w.heap.size w.heap.size (aU (l.take 0)) (w.alloc (.cells #[.pointer none,.slice none 0 0] 240))/\La w (w.alloc (.cells #[.pointer none,.slice none 0 0] 240))):=⟨Ij w _ rfl,ae _ _⟩
 unfold aR;go_enter func187,ntmps187;go_wp2_with fail
 go_loopg [8] l.length (fun gk i wr=>∃ k:Nat,k<=l.length/\gk=l.length - k/\i=.int .i64 k/\xB w.heap.size w.heap.size (aU (l.take k)) wr/\La w wr)
 case atStart=>exact⟨0,Nat.zero_le _,rfl,rfl,S0.o.1,S0.o.2⟩
 case round=>
  obtain⟨k,hk,hgk,rfl,hh,hbl⟩:=hrel;have GK:=aa hgk;have A:Ll (xB w.heap.size w.heap.size (aU (l.take k)) wr/\La w wr):=⟨hh,hbl⟩
  clear hgk hh hbl;have hpart:=rZ l k;by_cases hlt:k < l.length
  ·obtain⟨kb,ko,rfl,hc1,hc2,hc⟩:=lm HL.o hlt;have c9:wr.cell? ⟨kb,ko+k,none⟩=some (.string ⟨l[k].toArray⟩):=ah A.o.2 hc;have hpart2:=rZ l (k+1);have JT:=aa (CV hlt);have hlk:l[k].length<=10000000:=HN.o _ (List.getElem_mem _);have hmk:(dY l[k]).length<=10000000:=by
    have e:=congrArg List.length JT.o;simp only[Mx,My,List.length_nil]at e;omega
   clear hc;unfold maxLen at hc2;go_wp2_with fail
   refine(tI w.heap.size w.heap.size (aU (l.take k)) _ (by exact A.o.1) (by omega) (by exact A.o.2.size)).mono ?_;rintro e w1 ⟨rfl,hB1,hb1⟩;have A1:Ll (xB w.heap.size w.heap.size (aU (l.take k)++[47]) w1/\La w w1):=⟨hB1,A.o.2.trans hb1⟩
   clear hB1 hb1;have M1:=aa (HM.o.bel A1.o.2);go_wp2_with fail
   refine Lk (CD _ l[k] (by omega) (by exact M1.o)) fun w2 hb2=>?_;have A2:Ll (xB w.heap.size w.heap.size (aU (l.take k)++[47]) w2/\La w w2):=⟨A1.o.1.bel hb2,ab A1.o.2 hb2⟩
   clear hb2;unfold aR;go_wp2_with fail
   refine(oS w.heap.size w.heap.size (aU (l.take k)++[47]) (dY l[k]) _ (by exact A2.o.1) (by simp only[Mx,My,List.length_nil];omega) (by omega) (by exact A2.o.2.size)).mono ?_;rintro e w3 ⟨rfl,hB3,hb3⟩;have A3:Ll (xB w.heap.size w.heap.size (aU (l.take (k+1))) w3/\La w w3):=⟨by rw[JT.o];exact hB3,A2.o.2.trans hb3⟩
   clear hB3 hb3;go_wp2_with fail
   go_roundg (l.length - (k+1))
   case measure=>rw[GK.o];omega
   case rel=>exact⟨k+1,by omega,rfl,by go_num,A3.o.1,A3.o.2⟩
  ·have Mc:k=l.length:=by omega
   subst Mc;have A4:Ll (xB w.heap.size w.heap.size (aU l) wr/\La w wr):=⟨by have:=A.o.1;rwa [List.take_length]at this,A.o.2⟩
   clear A;go_wp2_with fail
   refine Lk (BR w.heap.size w.heap.size (aU l) _ (by exact A4.o.1) (by exact A4.o.2.size)) fun w1 hb1=>?_;have HB1:=aa hb1;clear hb1;go_wp2_with fail
   go_ret;exact⟨rfl,A4.o.2.trans HB1.o⟩
structure mq (w:LC) where
 W:LC
 h:La w W
theorem dE{P:Program}{id}{Q:Exit->Act->LC->Prop}{a}{l:List Oper}(hm:P.follows .mixedOrders=true)(hB:Region.lexB .any l.toArray=true)(h:wpQuiet P l.toArray (fun w'=>∃ p:mq w,w'=p.W) (fun a'=>∀ w',(∃ p:mq w,w'=p.W)->Q .normal a' w') l a):(Code.region id l.toArray true).wp P Q a w:=
 wp_region_quiet (C:=fun w'=>∃ p:mq w,w'=p.W) hm hB ⟨⟨w.drew,(MK _ w).drew⟩,rfl⟩ (by simpa using h)
theorem mY{a}(h:w.cell? a=some v)(p:mq w):p.W.cell? a=some v:=ah p.h h
theorem Calls.belW{P:Program}{f:FuncId}{args:Array Value}{p:mq w}(h:Calls P f args p.W fun e w'=>e=.returned v/\Below p.W.heap.size p.W w'):Calls P f args p.W fun e w''=>e=.returned v/\∃ q:mq w,w''=q.W:=
 h.mono fun _ w' ⟨he,hq⟩=>⟨he,⟨w',ab p.h hq⟩,rfl⟩
end Go.Proofs.YtgolnaencepejaaGreatDoor
namespace Go.Proofs.YtgolnaencepejaaGreatDoor
open Go.RowKit
open _root_.Go.Proofs.Tryz
structure dN where
 w:Int
 p:Int
structure dI where
 a:Lz
 c:Lz
 ph:Int
 st:Int
 we:Int
 si:Int
abbrev Li (t:dI):Array Value:=#[.string ⟨t.a.toArray⟩,.string ⟨t.c.toArray⟩,.int .i64 t.ph,.int .i64 t.st,.int .i64 t.we,.int .i64 t.si]
def lp (n:Int):Bool:=decide (0<=n/\n<=1099511627776)
def tm (n:Int):Bool:=decide (0<=n/\n<=100)
def eW (x:dN):Bool:=if x.w=-1 then lp x.p else tm x.w&&decide (x.p=0)
def cM (g:Lz) (l:List dN):Bool:=decide (g≠[]/\g.length<=60/\l.length<=8)&&l.all eW
def aF (g:Lz):dI:=⟨g,g,1,0,100,0⟩
def da (a c:Lz):dI:=⟨a,c,2,0,0,0⟩
def bw (a c:Lz):dI:=⟨a,c,4,0,0,0⟩
def dy (s:dI):Bool:=decide (s.a≠s.c/\0<=s.st/\s.st<=8)&&tm s.we
def cC (s:dI):Bool:=
 if s.a=[]\/s.c=[] then false
 else if s.ph=1 then decide (s.c=s.a/\s.st=0/\s.we=100/\s.si=0)
 else if s.ph=4 then decide (s.a≠s.c/\s.st=0/\s.we=0/\s.si=0)
 else if s.ph=2 then dy s&&decide (s.si=0)
 else if s.ph=3 then dy s&&lp s.si
 else false
def rg (s:dI):dI:=⟨s.a,s.c,2,s.st+1,s.we,0⟩
def IJ (s:dI) (n:Int):dI:=⟨s.a,s.c,s.ph,s.st,n,s.si⟩
def lY (s:dI) (now:Int):dI:=⟨s.a,s.c,3,s.st,s.we,now⟩
def gJ (now:Int) (re:Bool):List dN->dI->dI
 | [],s=>aF s.c
 | x :: l,s=>
  if x.w≠-1 then gJ now re l (rg (IJ s x.w))
  else if s.ph≠3 then lY s now
  else if re=false/\(x.p=0\/now - s.si < x.p) then s
  else gJ now re l (rg s)
def zq (g:Lz) (s:dI):dI:=if g=s.c then s else da s.a g
def EH (l:List dN) (s:dI) (now order:Int):dI:=
 if s.ph=1\/s.ph=4 then s else if order=2 then aF s.c else if order=3 then bw s.a s.c else gJ now (decide (order=1)) (l.drop s.st.toNat) s
def ij (g:Lz) (l:List dN) (s:dI) (now order:Int):dI × Int:=
 if (cM g l&&cC s)=false then (s,1)
 else if lp now=false then (s,8)
 else if order < 0\/3 < order then (s,9)
 else if g≠s.c/\g=s.a then (aF s.a,0)
 else (EH l (zq g s) now order,0)
theorem Ak{n}:lp n=true↔0<=n/\n<=1099511627776:=by simp[lp]
theorem zM{n}:tm n=true↔0<=n/\n<=100:=by simp[tm]
def Il (s:dI):Prop:=s.a≠[]/\s.c≠[]/\s.a≠s.c/\0<=s.st/\s.st<=8/\0<=s.we/\s.we<=100/\(s.ph=2/\s.si=0\/s.ph=3/\0<=s.si/\s.si<=1099511627776)
theorem Il.ok{s}(h:Il s):cC s=true:=by
 obtain⟨h1,h2,h3,h4,h5,h6,h7,h8⟩:=h;rcases h8 with⟨e,e'⟩ | ⟨e,e',e''⟩ <;> simp[cC,dy,tm,lp, *]
theorem Es{s}(h:cC s=true):(s=aF s.a/\s.a≠[])\/(s=bw s.a s.c/\s.a≠[]/\s.c≠[]/\s.a≠s.c)\/Il s:=by
 obtain⟨a,c,ph,st,we,si⟩:=s;simp only[cC]at h;split at h
 ·cases h
 rename_i h0;rw[not_or]at h0;split at h
 ·rename_i e;simp at h;obtain⟨e1,e2,e3,e4⟩:=h;subst e e1 e2 e3 e4;exact .inl ⟨rfl,h0.1⟩
 split at h
 ·rename_i e;simp at h;obtain⟨e1,e2,e3,e4⟩:=h;subst e e2 e3 e4;exact .inr (.inl ⟨rfl,h0.1,h0.2,e1⟩)
 split at h
 ·rename_i e;simp[dy,tm]at h;exact .inr (.inr ⟨h0.1,h0.2,h.1.1.1,h.1.1.2.1,h.1.1.2.2,h.1.2.1,h.1.2.2,.inl ⟨e,h.2⟩⟩)
 split at h
 ·rename_i e;simp[dy,tm,lp]at h;exact .inr (.inr ⟨h0.1,h0.2,h.1.1.1,h.1.1.2.1,h.1.1.2.2,h.1.2.1,h.1.2.2,.inr ⟨e,h.2⟩⟩)
 ·cases h
theorem yP{g}(h:g≠[]):cC (aF g)=true:=by simp[cC,aF,h]
theorem xR{a c}(h:a≠[])(h':c≠[])(e:a≠c):cC (bw a c)=true:=by simp[cC,bw,h,h',e]
theorem Il.on{s}(h:Il s)(h8:s.st < 8):Il (rg s):=by
 obtain⟨h1,h2,h3,h4,h5,h6,h7,_⟩:=h;exact⟨h1,h2,h3,by simp[rg];omega,by simp[rg];omega,h6,h7,.inl ⟨rfl,rfl⟩⟩
theorem Il.to{s}(h:Il s){n}(hn:tm n=true):Il (IJ s n):=by
 obtain⟨h1,h2,h3,h4,h5,h6,h7,h8⟩:=h;exact⟨h1,h2,h3,h4,h5,(zM.1 hn).1,(zM.1 hn).2,h8⟩
variable {w w':World}
variable {g:Nat}
def ju (x:dN):Value:=.agg #[.int .i64 x.w,.int .i64 x.p]
def bc (s:dI):Value:=.agg (Li s)
def de (w:LC) (g:Nat) (s:dI):Prop:=w.heap[g]?=some (.cells (Li s) 42)
theorem de.c{s}(h:de w g s):w.cell? ⟨g,0,none⟩=some (.string ⟨s.a.toArray⟩)/\w.cell? ⟨g,1,none⟩=some (.string ⟨s.c.toArray⟩)/\w.cell? ⟨g,2,none⟩=some (.int .i64 s.ph)/\w.cell? ⟨g,3,none⟩=some (.int .i64 s.st)/\w.cell? ⟨g,4,none⟩=some (.int .i64 s.we)/\w.cell? ⟨g,5,none⟩=some (.int .i64 s.si) /\
 w.frozen? ⟨g,0,none⟩=false/\w.frozen? ⟨g,1,none⟩=false/\w.frozen? ⟨g,2,none⟩=false/\w.frozen? ⟨g,3,none⟩=false/\w.frozen? ⟨g,4,none⟩=false/\w.frozen? ⟨g,5,none⟩=false:=by
 unfold de at h;refine⟨?_,?_,?_,?_,?_,?_,?_,?_,?_,?_,?_,?_⟩ <;> simp[World.cell?,World.frozen?,h]
theorem de.bel{s}(h:de w g s)(hb:La w w'):de w' g s:=(hb.block g (MF.1 h).1).trans h
theorem cN(w n):Calls prog 48 #[.int .i64 n] w fun e w'=>e=.returned (.bool (lp n))/\w'=w:=by
 by_cases h:0<=n
 ·go_enter func48,ntmps48;go_wp2
  go_ret;exact⟨by simp[lp,h],rfl⟩
 ·go_enter func48,ntmps48;go_wp2
  go_ret;exact⟨by rw[lp,decide_eq_false (by omega)];rfl,rfl⟩
theorem iu(w n):Calls prog 84 #[.int .i64 n] w fun e w'=>e=.returned (.bool (tm n))/\w'=w:=by
 by_cases h:0<=n
 ·go_enter func84,ntmps84;go_wp2
  go_ret;exact⟨by simp[tm,h],rfl⟩
 ·go_enter func84,ntmps84;go_wp2
  go_ret;exact⟨by rw[tm,decide_eq_false (by omega)];rfl,rfl⟩
theorem ve(w x):Calls prog 66 #[ju x] w fun e w'=>e=.returned (.bool (eW x))/\La w w':=by
 unfold ju;by_cases h:x.w=-1
 ·have e1:(x.w == -1)=true:=by simp[h]
  have HW:=aa h;clear h;go_enter func66,ntmps66;go_wp2_with (go_at_call 48;refine LE (cN _ _) ?_)
  go_ret;exact⟨by rw[eW,if_pos HW.o];rfl,ae _ _⟩
 ·have e1:(x.w == -1)=false:=by simp[h]
  have HW:=aa h;clear h;cases hw:tm x.w with
  | true=>
   go_enter func66,ntmps66;go_wp2_with (go_at_call 84;refine LE (iu _ _) ?_;rw[hw])
   go_ret;exact⟨by rw[eW,if_neg HW.o,hw];simp[Bool.beq_eq_decide_eq],ae _ _⟩
  | false=>
   go_enter func66,ntmps66;go_wp2_with (go_at_call 84;refine LE (iu _ _) ?_;rw[hw])
   go_ret;exact⟨by rw[eW,if_neg HW.o,hw];rfl,ae _ _⟩
theorem yW(w x):Calls prog 65 #[ju x] w fun e w'=>e=.returned (.bool (!eW x))/\La w w':=by
 unfold ju;go_enter func65,ntmps65;go_wp2_with (go_at_call 66;refine Lk (ve _ x) fun w1 hb=>?_)
 go_ret;exact⟨rfl,ab (ae _ _) hb⟩
theorem qE(w g):Calls prog 49 #[.string ⟨g.toArray⟩] w fun e w'=>e=.returned (bc (aF g))/\w'=w.alloc (.cells #[.string ⟨g.toArray⟩,.string ⟨g.toArray⟩,.int .i64 1,.int .i64 0,.int .i64 100,.int .i64 0] 42):=by
 go_enter func49,ntmps49;go_wp2
 obtain⟨c0,c1,c2,c3,c4,c5,-⟩:=de.c (s:=aF g) (MN w (.cells #[_,_,_,_,_,_] 42));refine MM (v:=bc (aF g)) ?_ rfl ⟨rfl,rfl⟩;simp only[aF,da,bw]at c0 c1 c2 c3 c4 c5;simp[results,results49,go_sem,c0,c1,c2,c3,c4,c5,bc,aF,da,bw]
theorem Fk(w a c):Calls prog 50 #[.string ⟨a.toArray⟩,.string ⟨c.toArray⟩] w fun e w'=>e=.returned (bc (da a c))/\w'=w.alloc (.cells #[.string ⟨a.toArray⟩,.string ⟨c.toArray⟩,.int .i64 2,.int .i64 0,.int .i64 0,.int .i64 0] 42):=by
 go_enter func50,ntmps50;go_wp2
 obtain⟨c0,c1,c2,c3,c4,c5,-⟩:=de.c (s:=da a c) (MN w (.cells #[_,_,_,_,_,_] 42));refine MM (v:=bc (da a c)) ?_ rfl ⟨rfl,rfl⟩;simp only[aF,da,bw]at c0 c1 c2 c3 c4 c5;simp[results,results50,go_sem,c0,c1,c2,c3,c4,c5,bc,aF,da,bw]
theorem qi(w a c):Calls prog 51 #[.string ⟨a.toArray⟩,.string ⟨c.toArray⟩] w fun e w'=>e=.returned (bc (bw a c))/\w'=w.alloc (.cells #[.string ⟨a.toArray⟩,.string ⟨c.toArray⟩,.int .i64 4,.int .i64 0,.int .i64 0,.int .i64 0] 42):=by
 go_enter func51,ntmps51;go_wp2
 obtain⟨c0,c1,c2,c3,c4,c5,-⟩:=de.c (s:=bw a c) (MN w (.cells #[_,_,_,_,_,_] 42));refine MM (v:=bc (bw a c)) ?_ rfl ⟨rfl,rfl⟩;simp only[aF,da,bw]at c0 c1 c2 c3 c4 c5;simp[results,results51,go_sem,c0,c1,c2,c3,c4,c5,bc,aF,da,bw]
variable {v:Value}
section
def sq (s t:dI):Bool:=decide (s.a=t.a/\s.c=t.c/\s.ph=t.ph/\s.st=t.st/\s.we=t.we/\s.si=t.si)
theorem rR{s t}:sq s t=true↔s=t:=by
 obtain⟨a,c,p,q,r,u⟩:=s;obtain⟨a',c',p',q',r',u'⟩:=t;simp[sq]
theorem JS(W a c a' c' p q r u p' q' r' u'):(binOp .eql 42 (.agg #[.string ⟨a.toArray⟩,.string ⟨c.toArray⟩,.int .i64 p,.int .i64 q,.int .i64 r,.int .i64 u]) (.agg #[.string ⟨a'.toArray⟩,.string ⟨c'.toArray⟩,.int .i64 p',.int .i64 q',.int .i64 r',.int .i64 u'])).run prog W=.ok (.bool (sq ⟨a,c,p,q,r,u⟩ ⟨a',c',p',q',r',u'⟩)) W:=by
 go_simp;simp only[sq];repeat split
 all_goals simp[*]
theorem iy(w s):Calls prog 67 #[bc s] w fun e w'=>e=.returned (.bool (dy s))/\La w w':=by
 unfold bc;by_cases h1:s.a=s.c
 ·have e1:(s.a == s.c)=true:=by simp[h1]
  have R:Ll (dy s=false):=aa (by simp[dy,h1]);clear h1;go_enter func67,ntmps67;go_wp2
  go_ret;exact⟨by rw[R.o];rfl,ae _ _⟩
 ·have e1:(s.a == s.c)=false:=by simp[h1]
  by_cases h2:0<=s.st
  ·by_cases h3:s.st<=8
   ·have R:Ll (dy s=tm s.we):=aa (by simp[dy,h1,h2,h3]);clear h1;go_enter func67,ntmps67;go_wp2_with (go_at_call 84;refine LE (iu _ _) ?_)
    go_ret;exact⟨by rw[R.o];rfl,ae _ _⟩
   ·have R:Ll (dy s=false):=aa (by simp[dy,h3]);clear h1;go_enter func67,ntmps67;go_wp2
    go_ret;exact⟨by rw[R.o];rfl,ae _ _⟩
  ·have R:Ll (dy s=false):=aa (by simp[dy,h2]);clear h1;go_enter func67,ntmps67;go_wp2
   go_ret;exact⟨by rw[R.o];rfl,ae _ _⟩
theorem dx{a}(h:w.cell? a=some v):∀ n os,(Go.Sort.grow (w.drewN n) os).cell? a=some v:=cell_grown (World.block_lt_of_cell? w _ h) h
theorem zv(w n)(os:Array Obj):La w (Go.Sort.grow (w.drewN n) os):=by
 refine⟨rfl,rfl,rfl,by simp[Go.Sort.grow,World.drewN],fun k hk=>?_⟩;show (w.heap++os)[k]?=w.heap[k]?;rw[Array.getElem?_append_left hk]
theorem vo(w:LC)(o:Obj):∃ q os,w.alloc o=Go.Sort.grow (w.drewN q) os:=⟨0,_,by rw[Go.Sort.alloc_eq_grow];rfl⟩
theorem pw(W:LC)(n:Nat)(os:Array Obj)(g:Lz):Calls prog 49 #[.string ⟨g.toArray⟩] (Go.Sort.grow (W.drewN n) os) fun e w''=>e=.returned (.agg #[.string ⟨g.toArray⟩,.string ⟨g.toArray⟩,.int .i64 1,.int .i64 0,.int .i64 100,.int .i64 0])/\∃ p:GrownBy,w''=Go.Sort.grow (W.drewN p.n) p.os:=
 Calls.grown_of ((qE _ g).mono fun e w' h=>⟨h.1,by rw[h.2];exact vo _ _⟩)
theorem pF(W:LC)(n:Nat)(os:Array Obj)(a c:Lz):Calls prog 51 #[.string ⟨a.toArray⟩,.string ⟨c.toArray⟩] (Go.Sort.grow (W.drewN n) os) fun e w''=>e=.returned (.agg #[.string ⟨a.toArray⟩,.string ⟨c.toArray⟩,.int .i64 4,.int .i64 0,.int .i64 0,.int .i64 0])/\∃ p:GrownBy,w''=Go.Sort.grow (W.drewN p.n) p.os:=
 Calls.grown_of ((qi _ a c).mono fun e w' h=>⟨h.1,by rw[h.2];exact vo _ _⟩)
attribute [local go_sem ↓] Go.wp_at_zero Go.wp_at_succ JS
theorem eV(w s):Calls prog 47 #[bc s] w fun e w'=>e=.returned (.bool (cC s))/\La w w':=by
 unfold bc;by_cases h1:s.a=[]
 ·have e1:s.a.isEmpty=true:=by simp[h1]
  have R:Ll (cC s=false):=aa (by simp[cC,h1]);clear h1;go_enter func47,ntmps47;go_wp2
  go_ret;exact⟨by rw[R.o];rfl,ae _ _⟩
 have e1:s.a.isEmpty=false:=by simp[h1]
 by_cases h2:s.c=[]
 ·have e2:s.c.isEmpty=true:=by simp[h2]
  have R:Ll (cC s=false):=aa (by simp[cC,h2]);clear h1 h2;go_enter func47,ntmps47;go_wp2
  go_ret;exact⟨by rw[R.o];rfl,ae _ _⟩
 have e2:s.c.isEmpty=false:=by simp[h2]
 by_cases p1:s.ph=1
 ·have e3:(s.ph == 1)=true:=by simp[p1]
  have R:Ll (cC s=sq s (aF s.a)):=aa (by
   rw[Bool.eq_iff_iff,rR];constructor
   ·intro h;simp[cC,h1,h2,p1]at h;obtain⟨a,c,p,q,r,u⟩:=s;simp at h p1;simp[aF, *]
   ·intro h;rw[h];exact yP h1)
  clear h1 h2 p1;go_enter func47,ntmps47;obtain⟨c0,c1,c2,c3,c4,c5,-⟩:=de.c (w:=(w.alloc (.cells (Li s) 42))) (s:=s) (MN w _);have s0:=dx c0;have s1:=dx c1;have s2:=dx c2;have s3:=dx c3;have s4:=dx c4;have s5:=dx c5;clear c0 c1 c2 c3 c4 c5;have hmix:prog.follows .mixedOrders=true:=by kernel_rfl
  go_wp2
  refine wp_region_quiet_grown (by assumption) (by kernel_rfl) ?_;repeat(first | go_big_quiet_step ((go_at_call 49;exact pw _ _ _ _)) | quiet_step ((go_at_call 49;exact pw _ _ _ _)))
  refine wpQuiet_nil ?_;intro _ hw';obtain⟨⟨nq,osq⟩,hw''⟩:=hw';subst hw'';go_wp2
  go_ret;exact⟨by rw[R.o];rfl,ab (ae _ _) (zv _ _ _)⟩
 have e3:(s.ph == 1)=false:=by simp[p1]
 by_cases p4:s.ph=4
 ·have e4:(s.ph == 4)=true:=by simp[p4]
  by_cases h3:s.a=s.c
  ·have e5:(s.a == s.c)=true:=by simp[h3]
   have R:Ll (cC s=false):=aa (by simp[cC,h1,h2,p4,h3]);clear h1 h2 p1 p4 h3;go_enter func47,ntmps47;obtain⟨c0,c1,c2,c3,c4,c5,-⟩:=de.c (w:=(w.alloc (.cells (Li s) 42))) (s:=s) (MN w _);have s0:=dx c0;have s1:=dx c1;have s2:=dx c2;have s3:=dx c3;have s4:=dx c4;have s5:=dx c5;clear c0 c1 c2 c3 c4 c5;have hmix:prog.follows .mixedOrders=true:=by kernel_rfl
   go_wp2
   refine wp_region_quiet_grown (by assumption) (by kernel_rfl) ?_;repeat(first | go_big_quiet_step ((fail)) | quiet_step ((fail)))
   refine wpQuiet_nil ?_;intro _ hw';obtain⟨⟨nq,osq⟩,hw''⟩:=hw';subst hw'';go_wp2
   go_ret;exact⟨by rw[R.o];rfl,ab (ae _ _) (zv _ _ _)⟩
  ·have e5:(s.a == s.c)=false:=by simp[h3]
   have R:Ll (cC s=sq s (bw s.a s.c)):=aa (by
    rw[Bool.eq_iff_iff,rR];constructor
    ·intro h;simp[cC,h1,h2,p4]at h;obtain⟨a,c,p,q,r,u⟩:=s;simp at h p4;simp[bw, *]
    ·intro h;rw[h];exact xR h1 h2 h3)
   clear h1 h2 p1 p4 h3;go_enter func47,ntmps47;obtain⟨c0,c1,c2,c3,c4,c5,-⟩:=de.c (w:=(w.alloc (.cells (Li s) 42))) (s:=s) (MN w _);have s0:=dx c0;have s1:=dx c1;have s2:=dx c2;have s3:=dx c3;have s4:=dx c4;have s5:=dx c5;clear c0 c1 c2 c3 c4 c5;have hmix:prog.follows .mixedOrders=true:=by kernel_rfl
   go_wp2
   refine wp_region_quiet_grown (by assumption) (by kernel_rfl) ?_;repeat(first | go_big_quiet_step ((go_at_call 51;exact pF _ _ _ _ _)) | quiet_step ((go_at_call 51;exact pF _ _ _ _ _)))
   refine wpQuiet_nil ?_;intro _ hw';obtain⟨⟨nq,osq⟩,hw''⟩:=hw';subst hw'';go_wp2
   go_ret;exact⟨by rw[R.o];rfl,ab (ae _ _) (zv _ _ _)⟩
 have e4:(s.ph == 4)=false:=by simp[p4]
 by_cases p2:s.ph=2
 ·have e5:(s.ph == 2)=true:=by simp[p2]
  have R:Ll (cC s=(dy s&&decide (s.si=0))):=aa (by simp[cC,h1,h2,p2]);clear h1 h2 p1 p4 p2;cases hu:dy s with
  | true=>
   go_enter func47,ntmps47;go_wp2_with (go_at_call 67;refine Lk (iy _ s) fun w1 hb=>?_;rw[hu];obtain⟨c0,c1,c2,c3,c4,c5,-⟩:=de.c (de.bel (s:=s) (MN w _) hb))
   go_ret;exact⟨by rw[R.o,hu];simp[Bool.beq_eq_decide_eq],ab (ae _ _) hb⟩
  | false=>
   go_enter func47,ntmps47;go_wp2_with (go_at_call 67;refine Lk (iy _ s) fun w1 hb=>?_;rw[hu])
   go_ret;exact⟨by rw[R.o,hu];rfl,ab (ae _ _) hb⟩
 have e5:(s.ph == 2)=false:=by simp[p2]
 by_cases p3:s.ph=3
 ·have e6:(s.ph == 3)=true:=by simp[p3]
  have R:Ll (cC s=(dy s&&lp s.si)):=aa (by simp[cC,h1,h2,p3]);clear h1 h2 p1 p4 p2 p3;cases hu:dy s with
  | true=>
   go_enter func47,ntmps47;go_wp2_with (first | (go_at_call 48;refine LE (cN _ _) ?_) | (go_at_call 67;refine Lk (iy _ s) fun w1 hb=>?_;rw[hu];obtain⟨c0,c1,c2,c3,c4,c5,-⟩:=de.c (de.bel (s:=s) (MN w _) hb)))
   go_ret;exact⟨by rw[R.o,hu];rfl,ab (ae _ _) hb⟩
  | false=>
   go_enter func47,ntmps47;go_wp2_with (go_at_call 67;refine Lk (iy _ s) fun w1 hb=>?_;rw[hu])
   go_ret;exact⟨by rw[R.o,hu];rfl,ab (ae _ _) hb⟩
 ·have e6:(s.ph == 3)=false:=by simp[p3]
  have R:Ll (cC s=false):=aa (by simp[cC,h1,h2,p1,p2,p3,p4]);clear h1 h2 p1 p4 p2 p3;go_enter func47,ntmps47;go_wp2
  go_ret;exact⟨by rw[R.o];rfl,ae _ _⟩
end
def bk (w:LC) (l:List dN) (v:Value):Prop:=
 l.length<=9223372036854775807/\(l=[]/\(∃ a,v=.slice a 0 0)\/∃ b off c,v=.slice (some ⟨b,off,none⟩) l.length c/\l.length<=c/\c<=9223372036854775807 /\
  ∀ i x,l[i]?=some x->w.cell? ⟨b,off+i * 2,none⟩=some (.int .i64 x.w)/\w.cell? ⟨b,off+i * 2+1,none⟩=some (.int .i64 x.p))
theorem bk.bel{w w' l v}(h:bk w l v)(hb:La w w'):bk w' l v:=by
 refine⟨h.1,?_⟩;rcases h.2 with h | ⟨b,off,c,e,h1,h2,h3⟩
 ·exact .inl h
 ·exact .inr ⟨b,off,c,e,h1,h2,fun i x hx=>⟨ah hb (h3 i x hx).1,ah hb (h3 i x hx).2⟩⟩
theorem bk.form{w l v}(h:bk w l v):∃ a c,v=.slice a l.length c:=by
 rcases h.2 with⟨rfl,a,rfl⟩ | ⟨b,off,c,rfl,_⟩
 ·exact⟨a,0,rfl⟩
 ·exact⟨_,_,rfl⟩
theorem AG{w l a n c k}(h:bk w l (.slice a n c))(hk:k < l.length):∃ b off,a=some ⟨b,off,none⟩/\l.length<=c/\c<=9223372036854775807 /\
 w.cell? ⟨b,off+k * 2,none⟩=some (.int .i64 l[k].w)/\w.cell? ⟨b,off+k * 2+1,none⟩=some (.int .i64 l[k].p):=by
 rcases h.2 with⟨e,_⟩ | ⟨b,off,c',e,h1,h2,h3⟩
 ·rw[e]at hk;simp at hk
 ·simp only[Value.slice.injEq]at e;obtain⟨rfl,-,rfl⟩:=e;obtain⟨g1,g2⟩:=h3 k l[k] (Mw hk);exact⟨b,off,rfl,h1,h2,g1,g2⟩
theorem sV(w l v)(h:bk w l v):Calls prog 85 #[v,.func (.func 65) #[] #[]] w fun e w'=>(∃ r:Int,e=.returned (.int .i64 r)/\(decide (0<=r)=!l.all eW))/\La w w':=by
 obtain⟨a,c,rfl⟩:=h.form;have H:=aa h;have ll:=h.1;clear h;go_enter func85,ntmps85;go_wp2
 go_loopg [5,8] l.length (fun gk _ i wr=>∃ k:Nat,k<=l.length/\gk=l.length - k/\i=.int .i64 k/\Ll ((l.take k).all eW=true)/\Ll (La w wr))
 case atStart=>exact⟨0,Nat.zero_le _,rfl,rfl,rfl,MK _ _⟩
 case round=>
  obtain⟨k,hk,hgk,rfl,HA,BL⟩:=hrel;have GK:=aa hgk;clear hgk;by_cases hlt:k < l.length
  ·obtain⟨b,off,rfl,j1,j2,k1,k2⟩:=AG H.o hlt;have c1:=ah BL.o k1;have c2:=ah BL.o k2;have w2:(k:Int) < (l.length:Int):=by omega
   have T1:Ll ((l.take (k+1)).all eW=eW l[k]):=aa (by rw[List.take_add_one,Mw hlt,List.all_append,HA.o];simp);clear k1 k2;have CALL:Ll (∀ W:LC,Calls prog 65 #[.agg #[.int .i64 l[k].w,.int .i64 l[k].p]] W fun e w'=>e=.returned (.bool (!eW l[k]))/\La W w'):=fun W=>yW W l[k];cases hs:eW l[k] with
   | true=>
    go_wp2_with (go_at_call 65;refine Lk (CALL.o _) fun w1 hb=>?_;rw[hs])
    go_roundg (l.length - (k+1))
    case measure=>rw[GK.o];omega
    case rel=>exact⟨k+1,hlt,rfl,by go_num,aa (by rw[T1.o,hs]),aa (ab BL.o hb)⟩
   | false=>
    go_wp2_with (go_at_call 65;refine Lk (CALL.o _) fun w1 hb=>?_;rw[hs])
    go_ret;refine⟨⟨k,rfl,?_⟩,ab BL.o hb⟩;have:l.all eW=false:=by
     rw[List.all_eq_false];exact⟨l[k],List.getElem_mem _,by rw[hs];simp⟩
    rw[this];simp
  ·have d1:¬(k:Int) < (l.length:Int):=by omega
   have Mc:k=l.length:=by omega
   have R:Ll (l.all eW=true):=aa (by have:=HA.o;rwa [Mc,MD (MG _)]at this);clear Mc;go_wp2
   go_ret;exact⟨⟨-1,rfl,by rw[R.o];rfl⟩,BL.o⟩
theorem ou(w l v)(h:bk w l v):Calls prog 64 #[v,.func (.func 65) #[] #[]] w fun e w'=>e=.returned (.bool (!l.all eW))/\La w w':=by
 obtain⟨a,c,rfl⟩:=h.form;have H:=aa h;clear h;go_enter func64,ntmps64;go_wp2_with (go_at_call 85;refine(sV _ l _ H.o).mono ?_;rintro e w1 ⟨⟨r,rfl,hr⟩,hb⟩)
 go_ret;exact⟨by rw[<-hr];rfl,hb⟩
theorem bF(w g l v)(h:bk w l v)(hg:g.length<=9223372036854775807):Calls prog 46 #[.agg #[.string ⟨g.toArray⟩,v]] w fun e w'=>e=.returned (.bool (cM g l))/\La w w':=by
 obtain⟨a,c,rfl⟩:=h.form;have H:=aa h;have ll:=h.1;clear h;by_cases h1:g=[]
 ·have e1:g.isEmpty=true:=by simp[h1]
  have R:Ll (cM g l=false):=aa (by simp[cM,h1]);clear h1;go_enter func46,ntmps46;go_wp2
  go_ret;exact⟨by rw[R.o];rfl,ae _ _⟩
 have e1:g.isEmpty=false:=by simp[h1]
 by_cases h2:g.length<=60
 ·have e2:(g.length:Int)<=60:=by omega
  by_cases h3:l.length<=8
  ·have e3:(l.length:Int)<=8:=by omega
   have R:Ll (cM g l=l.all eW):=aa (by simp[cM,h1,h2,h3]);clear h1 h2 h3;go_enter func46,ntmps46;go_wp2_with (go_at_call 64;refine Lk (ou _ l _ (H.o.bel (ae _ _))) fun w1 hb=>?_)
   go_ret;exact⟨by rw[R.o];simp,ab (ae _ _) hb⟩
  ·have e3:¬(l.length:Int)<=8:=by omega
   have R:Ll (cM g l=false):=aa (by simp[cM,h3]);clear h1 h2 h3;go_enter func46,ntmps46;go_wp2
   go_ret;exact⟨by rw[R.o];rfl,ae _ _⟩
 ·have e2:¬(g.length:Int)<=60:=by omega
  have R:Ll (cM g l=false):=aa (by simp[cM,h2]);clear h1 h2;go_enter func46,ntmps46;go_wp2
  go_ret;exact⟨by rw[R.o];rfl,ae _ _⟩
def fV (g:Lz) (l:List dN):dI × Int:=if cM g l=true then (aF g,0) else (⟨[],[],0,0,0,0⟩,1)
def fM (w:LC) (g:Nat) (i:Lz) (v:Value):Prop:=w.heap[g]?=some (.cells #[.string ⟨i.toArray⟩,v] 73)
theorem fM.c{w g i v}(h:fM w g i v):w.cell? ⟨g,0,none⟩=some (.string ⟨i.toArray⟩)/\w.cell? ⟨g,1,none⟩=some v:=by
 unfold fM at h;refine⟨?_,?_⟩ <;> simp[World.cell?,h]
theorem fM.bel{w w' g i v}(h:fM w g i v)(hb:La w w'):fM w' g i v:=(hb.block g (MF.1 h).1).trans h
def fR (w:LC) (g:Nat) (s:dI):LC:=
 (((((w.setCell ⟨g,0,none⟩ (.string ⟨s.a.toArray⟩)).setCell ⟨g,1,none⟩ (.string ⟨s.c.toArray⟩)).setCell ⟨g,2,none⟩ (.int .i64 s.ph)).setCell ⟨g,3,none⟩ (.int .i64 s.st)).setCell ⟨g,4,none⟩ (.int .i64 s.we)).setCell ⟨g,5,none⟩ (.int .i64 s.si)
theorem de.set{w g s}(h:de w g s)(t):de (fR w g t) g t:=
 ak (ak (ak (ak (ak (ak h 0 _) 1 _) 2 _) 3 _) 4 _) 5 _
theorem aQ{a w g}(h:La a w)(hg:a.heap.size<=g)(i v):La a (w.setCell ⟨g,i,none⟩ v):=by
 have k:=ap (az w (some g)) i v;exact⟨k.os.trans h.os,k.tape.trans h.tape,k.output.trans h.output,MH h.size k.size,fun j hj=>(k.block j (MI hj h.size) (fun e=>by cases e;omega)).trans (h.block j hj)⟩
theorem bX{a w g}(h:La a w)(hg:a.heap.size<=g)(s):La a (fR w g s):=
 aQ (aQ (aQ (aQ (aQ (aQ h hg _ _) hg _ _) hg _ _) hg _ _) hg _ _) hg _ _
def iA:dI:=⟨[],[],0,0,0,0⟩
theorem ja(w:LC)(g:Lz):Calls prog 49 #[.string ⟨g.toArray⟩] w fun e w'=>e=.returned (.agg #[.string ⟨g.toArray⟩,.string ⟨g.toArray⟩,.int .i64 1,.int .i64 0,.int .i64 100,.int .i64 0])/\La w w':=
 (qE w g).mono fun e w' h=>⟨h.1,by rw[h.2];exact ae _ _⟩
theorem tb(w:LC)(a c:Lz):Calls prog 50 #[.string ⟨a.toArray⟩,.string ⟨c.toArray⟩] w fun e w'=>e=.returned (.agg #[.string ⟨a.toArray⟩,.string ⟨c.toArray⟩,.int .i64 2,.int .i64 0,.int .i64 0,.int .i64 0])/\La w w':=
 (Fk w a c).mono fun e w' h=>⟨h.1,by rw[h.2];exact ae _ _⟩
theorem sw(w:LC)(a c:Lz):Calls prog 51 #[.string ⟨a.toArray⟩,.string ⟨c.toArray⟩] w fun e w'=>e=.returned (.agg #[.string ⟨a.toArray⟩,.string ⟨c.toArray⟩,.int .i64 4,.int .i64 0,.int .i64 0,.int .i64 0])/\La w w':=
 (qi w a c).mono fun e w' h=>⟨h.1,by rw[h.2];exact ae _ _⟩
theorem DZ(w g l v)(h:bk w l v)(hg:g.length<=9223372036854775807):Calls prog 57 #[.agg #[.string ⟨g.toArray⟩,v]] w fun e w'=>e=.returned (.tuple #[bc (fV g l).1,.int .i64 (fV g l).2])/\La w w':=by
 obtain⟨a,c,rfl⟩:=h.form;have H:=aa h;have G:=aa hg;clear h hg;cases hs:cM g l with
 | true=>
  rw[show fV g l=(aF g,0) by rw[fV,if_pos hs]];go_enter func57,ntmps57;go_wp2_with (first
   |(go_at_call 49;refine Lk (ja _ g) fun w2 hb2=>?_;have S2:=aa (S0.o.bel hb2);have HB2:=aa (ab HB.o hb2);have c0_:=S2.o.c;clear hb2)
   |(go_at_call 46;refine Lk (bF _ g l _ (H.o.bel (ab (ae _ _) (ae _ _))) G.o) fun w1 hb=>?_;rw[hs];obtain⟨p0,p1⟩:=fM.c (fM.bel (i:=g) (fb w _ _) hb);have S0:=aa (de.bel (s:=iA) (et w _ _) hb)
     have HB:Ll (La w w1):=ab (ab (ae _ _) (ae _ _)) hb;clear hb))
  have z0_:=(S2.o.set (aF g)).c;refine MM (v:=.tuple #[bc (aF g),.int .i64 0]) ?_ rfl ⟨rfl,bX HB2.o (by omega) (aF g)⟩;simp only[fR,aF]at z0_;simp[results,results57,go_sem,z0_,bc,aF]
 | false=>
  rw[show fV g l=(iA,1) by rw[fV,if_neg (by simp[hs])];rfl];go_enter func57,ntmps57;go_wp2_with (go_at_call 46;refine Lk (bF _ g l _ (H.o.bel (ab (ae _ _) (ae _ _))) G.o) fun w1 hb=>?_;rw[hs];have S0:=aa (de.bel (s:=iA) (et w _ _) hb);have HB:Ll (La w w1):=ab (ab (ae _ _) (ae _ _)) hb;have c0_:=S0.o.c;clear hb)
  have z0_:=(S0.o.set iA).c;refine MM (v:=.tuple #[bc iA,.int .i64 1]) ?_ rfl ⟨rfl,bX HB.o (by omega) iA⟩;simp only[fR,iA]at z0_;simp[results,results57,go_sem,z0_,bc,iA]
def cw (c:UInt8):Bool:=c == 32 || c == 9 || c == 10 || c == 13
def aA (c:UInt8) (l:List UInt8):Option (List UInt8):=
 match l.dropWhile cw with
 | []=>none
 | x :: r=>if x=c then some r else none
def sN (c:UInt8):Option Nat:=
 if 48<=c.toNat/\c.toNat<=57 then some (c.toNat - 48)
 else if 97<=c.toNat/\c.toNat<=102 then some (c.toNat - 87)
 else if 65<=c.toNat/\c.toNat<=70 then some (c.toNat - 55) else none
def qO:List UInt8->Option (Nat × List UInt8)
 | []=>none
 | c :: l=>(sN c).map fun d=>(d,l)
def fw:Nat->Nat->List UInt8->Option (Nat × List UInt8)
 | 0,n,l=>some (n,l)
 | k+1,n,l=>(qO l).bind fun p=>fw k (n * 16+p.1) p.2
def iJ (l:List UInt8):Option (UInt8 × List UInt8):=
 (fw 4 0 l).bind fun p=>if p.1 < 128 then some (p.1.toUInt8,p.2) else none
def wl (c:UInt8):Option UInt8:=
 if c=34 then some 34 else if c=92 then some 92 else if c=98 then some 8 else if c=102 then some 12
 else if c=110 then some 10 else if c=114 then some 13 else if c=116 then some 9 else none
def ot:List UInt8->Option (UInt8 × List UInt8)
 | []=>none
 | c :: l=>if c=117 then iJ l else if c=47 then some (47,l) else (wl c).map fun x=>(x,l)
def i8:Nat->List UInt8->List UInt8->Option (List UInt8 × List UInt8)
 | 0,_,_=>none
 | _+1,_,[]=>none
 | n+1,acc,c :: l=>
  if c=34 then some (acc,l)
  else if c=92 then (ot l).bind fun p=>i8 n (acc++[p.1]) p.2
  else if c.toNat < 32\/127<=c.toNat then none
  else i8 n (acc++[c]) l
def iS (l:List UInt8):Option (List UInt8 × List UInt8):=
 (aA 34 l).bind fun l=>i8 (l.length+1) [] l
theorem DY{l}{p:Nat × List UInt8}(h:qO l=some p):p.2.length < l.length:=by
 cases l with
 | nil=>cases h
 | cons c l=>
  simp only[qO,Option.map_eq_some_iff]at h;obtain⟨d,_,rfl⟩:=h;simp
theorem Dq(k):∀ (n:Nat) (l:List UInt8) (p:Nat × List UInt8),fw k n l=some p->p.2.length<=l.length:=by
 induction k with
 | zero=>intro n l p h;simp only[fw,Option.some.injEq]at h;subst h;exact Nat.le_refl _
 | succ k ih=>
  intro n l p h;simp only[fw,Option.bind_eq_some_iff]at h;obtain⟨q,h1,h2⟩:=h;exact Nat.le_trans (ih _ _ _ h2) (Nat.le_of_lt (DY h1))
theorem zx{l}{p:UInt8 × List UInt8}(h:iJ l=some p):p.2.length<=l.length:=by
 simp only[iJ,Option.bind_eq_some_iff]at h;obtain⟨q,h1,h2⟩:=h;split at h2
 ·cases h2;exact Dq _ _ _ _ h1
 ·cases h2
theorem lL{l}{p:UInt8 × List UInt8}(h:ot l=some p):p.2.length < l.length:=by
 cases l with
 | nil=>cases h
 | cons c l=>
  simp only[ot]at h;split at h
  ·exact Nat.lt_succ_of_le (zx h)
  ·split at h
   ·cases h;simp
   ·simp only[Option.map_eq_some_iff]at h;obtain⟨d,_,rfl⟩:=h;simp
theorem pi(n):∀ (m:Nat) (acc l:List UInt8),l.length < n->l.length < m->i8 n acc l=i8 m acc l:=by
 induction n with
 | zero=>intro m acc l h;omega
 | succ n ih=>
  intro m acc l h1 h2;cases m with
  | zero=>omega
  | succ m=>
   cases l with
   | nil=>rfl
   | cons c l=>
    simp only[i8];simp only[List.length_cons]at h1 h2;split
    ·rfl
    ·split
     ·cases he:ot l with
      | none=>rfl
      | some p=>
       have:=lL he;exact ih m _ _ (by omega) (by omega)
     ·split
      ·rfl
      ·exact ih m _ _ (by omega) (by omega)
theorem Bc(n):∀ (acc l:List UInt8) (p:List UInt8 × List UInt8),i8 n acc l=some p->p.2.length < l.length:=by
 induction n with
 | zero=>intro acc l p h;cases h
 | succ n ih=>
  intro acc l p h;cases l with
  | nil=>cases h
  | cons c l=>
   simp only[i8]at h;split at h
   ·cases h;simp
   ·split at h
    ·simp only[Option.bind_eq_some_iff]at h;obtain⟨q,h1,h2⟩:=h;have:=ih _ _ _ h2;have:=lL h1;simp only[List.length_cons];omega
    ·split at h
     ·cases h
     ·have:=ih _ _ _ h;simp only[List.length_cons];omega
theorem dX(l:List UInt8):(l.dropWhile cw).length<=l.length:=(List.dropWhile_sublist _).length_le
theorem bU{c l r}(h:aA c l=some r):r.length < l.length:=by
 unfold aA at h;have:=dX l;split at h
 ·cases h
 ·rename_i x t e;split at h
  ·cases h;rw[e]at this;simp only[List.length_cons]at this;omega
  ·cases h
theorem mL{l}{p:List UInt8 × List UInt8}(h:iS l=some p):p.2.length < l.length:=by
 simp only[iS,Option.bind_eq_some_iff]at h;obtain⟨q,h1,h2⟩:=h;have:=Bc _ _ _ _ h2;have:=bU h1;omega
theorem qe(c):(0<=Lib.indexByte [32,9,10,13] c)=(cw c=true):=by
 simp only[Lib.indexByte,cw,eq_iff_iff];by_cases h1:c=32
 ·subst h1;decide
 by_cases h2:c=9
 ·subst h2;decide
 by_cases h3:c=10
 ·subst h3;decide
 by_cases h4:c=13
 ·subst h4;decide
 simp[h1,h2,h3,h4,Ne.symm h1,Ne.symm h2,Ne.symm h3,Ne.symm h4]
variable {i:Nat}
def qP (w:LC) (b:Nat) (s:ByteArray) (i:Nat) (bad:Bool):Prop:=
 w.heap[b]?=some (.cells #[.string s,.int .i64 i,.bool bad] 133)/\i<=s.size/\s.size<=2000
theorem qP.c{b s bad}(h:qP w b s i bad):w.cell? ⟨b,0,none⟩=some (.string s)/\w.cell? ⟨b,1,none⟩=some (.int .i64 i)/\w.cell? ⟨b,2,none⟩=some (.bool bad)/\w.frozen? ⟨b,1,none⟩=false/\w.frozen? ⟨b,2,none⟩=false:=by
 obtain⟨h,_,_⟩:=h;refine⟨?_,?_,?_,?_,?_⟩ <;> simp[World.cell?,World.frozen?,h]
def eA (w:LC) (b:Nat) (s:ByteArray) (l:Lz) (bad:Bool):Prop:=∃ i,qP w b s i bad/\s.data.toList.drop i=l
theorem eA.of_heap{b s l bad}(h:eA w b s l bad)(e:w'.heap[b]?=w.heap[b]?):eA w' b s l bad:=by
 obtain⟨i,h,e2⟩:=h;exact⟨i,⟨e.trans h.1,h.2⟩,e2⟩
theorem eA.lt{b s l bad}(h:eA w b s l bad):b < w.heap.size:=by
 obtain⟨i,h,e2⟩:=h;exact(MF.1 h.1).1
theorem eA.len{b s l bad}(h:eA w b s l bad):l.length<=s.size/\s.size<=2000:=by
 obtain⟨i,h,e2⟩:=h;have e:s.data.toList.length=s.size:=by simp only[Array.length_toList];rfl
 have:=congrArg List.length e2;rw[MB,e]at this;exact⟨by omega,h.2.2⟩
theorem eA.nil{b s bad}(h:eA w b s [] bad):qP w b s s.size bad:=by
 obtain⟨i,h,e⟩:=h;have e1:s.data.toList.length<=i:=List.drop_eq_nil_iff.1 e;have h2:=h.2.1;have e2:s.data.toList.length=s.size:=by simp only[Array.length_toList];rfl
 have e:i=s.size:=by omega
 subst e;exact h
theorem eA.cons{b s c l bad}(h:eA w b s (c :: l) bad):∃ i,qP w b s i bad/\(∃ hi:i < s.size,s[i]=c)/\s.data.toList.drop (i+1)=l:=by
 obtain⟨i,h,e⟩:=h;have hi:i < s.data.toList.length:=by
  rcases Nat.lt_or_ge i s.data.toList.length with h | h
  ·exact h
  ·rw[List.drop_eq_nil_of_le h]at e;cases e
 rw[ME hi]at e;simp only[List.cons.injEq]at e;exact⟨i,h,⟨by rw[Array.length_toList]at hi;exact hi,e.1⟩,e.2⟩
theorem EA(w b s i bad)(h:qP w b s i bad):Calls prog 144 #[.pointer (some ⟨b,0,none⟩)] w fun e w'=>e=.returned (.tuple #[])/\qP w' b s s.size true/\w.grownBy w' (some b):=by
 have c0_:=h.c;have H:=aa h;have h3:=h.2.2;clear h;go_enter func144,ntmps144;go_wp2
 go_end0
 exact⟨rfl,⟨ak (ak H.o.1 2 _) 1 _,MG _,H.o.2.2⟩,ap (ap (az _ _) _ _) _ _⟩
theorem mv(w b s l bad)(h:eA w b s l bad):Calls prog 144 #[.pointer (some ⟨b,0,none⟩)] w fun e w'=>e=.returned (.tuple #[])/\eA w' b s [] true/\w.grownBy w' (some b):=by
 obtain⟨i,h,_⟩:=h;refine(EA w b s i bad h).mono ?_;rintro e w' ⟨he,hr,hg⟩;exact⟨he,⟨s.size,hr,List.drop_eq_nil_of_le (by simp only[Array.length_toList];exact MG _)⟩,hg⟩
theorem Cb(w b s bad)(h:eA w b s [] bad):Calls prog 113 #[.pointer (some ⟨b,0,none⟩)] w fun e w'=>e=.returned (.int .u8 0)/\∃ n,w'=w.drewN n:=by
 have c0_:=h.nil.c;clear h;go_enter func113,ntmps113;go_wp2
 go_quiet (fail)
 go_wp2
 go_ret;exact⟨rfl,nq,rfl⟩
theorem xZ(w b s c l bad)(h:eA w b s (c :: l) bad):Calls prog 113 #[.pointer (some ⟨b,0,none⟩)] w fun e w'=>e=.returned (.int .u8 c.toNat)/\∃ n,w'=w.drewN n:=by
 obtain⟨i,h,⟨hi,hc⟩,hl⟩:=h.cons;have c0_:=h.c;have h3:=h.2.2;have Hc:=aa hc;clear h hl hc;have e1:((i:Int) == (s.size:Int))=false:=by rw[MO];omega
 go_enter func113,ntmps113;go_wp2
 go_quiet (fail)
 go_wp2
 go_quiet (fail)
 go_wp2
 go_ret;exact⟨by rw[Hc.o];rfl,_,uk _ _ _⟩
def es (l:Lz):UInt8:=l.headD 0
theorem kd(w b s l bad)(h:eA w b s l bad):Calls prog 113 #[.pointer (some ⟨b,0,none⟩)] w fun e w'=>e=.returned (.int .u8 (es l).toNat)/\∃ n,w'=w.drewN n:=by
 cases l with
 | nil=>exact Cb w b s bad h
 | cons c l=>exact xZ w b s c l bad h
theorem pZ(w b s bad)(h:eA w b s [] bad):Calls prog 146 #[.pointer (some ⟨b,0,none⟩)] w fun e w'=>e=.returned (.int .u8 0)/\eA w' b s [] true/\w.grownBy w' (some b):=by
 have c0_:=h.nil.c;have H:=aa h;clear h;go_enter func146,ntmps146;go_wp2
 go_quiet (fail)
 go_wp2_with fail
 refine(mv _ b s [] bad (by exact H.o.of_heap rfl)).mono ?_;rintro e w' ⟨rfl,hr,hg⟩;go_wp2
 go_ret;exact⟨rfl,hr,am (cJ (az _ _) _) hg⟩
theorem sF(w b s c l bad)(h:eA w b s (c :: l) bad):Calls prog 146 #[.pointer (some ⟨b,0,none⟩)] w fun e w'=>e=.returned (.int .u8 c.toNat)/\eA w' b s l bad/\w.grownBy w' (some b):=by
 obtain⟨i,h,⟨hi,hc⟩,hl⟩:=h.cons;have c0_:=h.c;have h3:=h.2.2;have H:=aa h;have Hc:=aa hc;have Hl:=aa hl;clear h hl hc;have e1:((i:Int) == (s.size:Int))=false:=by rw[MO];omega
 go_enter func146,ntmps146;go_wp2
 go_quiet (fail)
 go_wp2
 go_quiet (fail)
 go_wp2
 go_ret;refine⟨by rw[Hc.o];rfl,⟨i+1,⟨?_,by omega,H.o.2.2⟩,Hl.o⟩,cJ (ap (az _ _) _ _) _⟩;exact ak H.o.1 1 _
theorem sB(w b s l bad)(h:eA w b s l bad):Calls prog 90 #[.pointer (some ⟨b,0,none⟩)] w fun e w'=>e=.returned (.tuple #[])/\eA w' b s (l.dropWhile cw) bad/\w.grownBy w' (some b):=by
 have H:=aa h;clear h;go_enter func90,ntmps90;go_wp2
 go_loopg [] l.length (fun k wr=>∃ l1,k=l1.length/\eA wr b s l1 bad/\l1.dropWhile cw=l.dropWhile cw/\w.grownBy wr (some b))
 case atStart=>exact⟨l,rfl,H.o,rfl,az _ _⟩
 case round=>
  obtain⟨l1,hk,h1,he,hg⟩:=hrel;have A:Ll (gk=l1.length/\eA wr b s l1 bad/\l1.dropWhile cw=l.dropWhile cw/\w.grownBy wr (some b)):=⟨hk,h1,he,hg⟩
  clear hk he hg;cases l1 with
  | nil=>
   have c0_:=h1.nil.c;clear h1;have e0:decide ((s.size:Int) < (s.size:Int))=false:=by simp
   go_wp2_with fail
   go_quiet (fail)
   go_wp2
   go_end0
   obtain⟨hk,h1,he,hg⟩:=A.o;refine⟨rfl,?_,cJ hg _⟩;rw[<-he];exact h1.of_heap rfl
  | cons c l2=>
   obtain⟨i,h,⟨hi,hc⟩,hl⟩:=h1.cons;have c0_:=h.c;have h3:=h.2.2;have H1:=aa h;have Hc:=aa hc;have Hl:=aa hl;clear h h1 hl hc;have e0:(i:Int) < (s.size:Int):=by omega
   cases hsp:cw c with
   | true=>
    have e2:0<=Lib.indexByte [32,9,10,13] s[i]:=by rw[Hc.o,qe];exact hsp
    have S:=aa hsp;clear hsp;go_wp2_with fail
    go_quiet ((go_at_call 112;exact Calls.quiet_of_same (Tryz.strings_IndexByte _ _ _)))
    go_wp2_with fail
    obtain⟨hk,h1,he,hg⟩:=A.o;go_roundg l2.length
    case measure=>rw[hk];simp
    case rel=>
     refine⟨l2,rfl,⟨i+1,⟨ak H1.o.1 1 _,by omega,H1.o.2.2⟩,Hl.o⟩,?_,cJ (ap hg _ _) _⟩;rw[<-he,List.dropWhile_cons,if_pos S.o]
   | false=>
    have e2:decide (0<=Lib.indexByte [32,9,10,13] s[i])=false:=decide_eq_false (by rw[Hc.o,qe];simp[hsp]);have S:=aa hsp;clear hsp;go_wp2_with fail
    go_quiet ((go_at_call 112;exact Calls.quiet_of_same (Tryz.strings_IndexByte _ _ _)))
    go_wp2_with fail
    go_end0
    obtain⟨hk,h1,he,hg⟩:=A.o;refine⟨rfl,?_,cJ hg _⟩;rw[<-he,List.dropWhile_cons,if_neg (by rw[S.o];simp)];exact h1.of_heap rfl
theorem Iw(w b s l bad m c)(hm:m=(c.toNat:Int))(hc0:c≠0)(h:eA w b s l bad):Calls prog 148 #[.pointer (some ⟨b,0,none⟩),.int .u8 m] w fun e w'=>e=.returned (.bool (aA c l).isSome)/\eA w' b s ((aA c l).getD (l.dropWhile cw)) bad/\w.grownBy w' (some b):=by
 have H:=aa h;have M:=aa hm;clear h hm;go_enter func148,ntmps148;go_wp2_with fail
 refine(sB _ b s l bad (by exact H.o)).mono ?_;rintro e w1 ⟨rfl,h1,hg1⟩;have H1:=aa h1;have G1:=aa hg1;clear h1 hg1;go_wp2_with fail
 refine(kd _ b s _ bad (by exact H1.o)).mono ?_;rintro e w2 ⟨rfl,n,rfl⟩;cases hl:l.dropWhile cw with
 | nil=>
  rw[hl]at H1;have e1:(((es []).toNat:Int) != m)=true:=by
   rw[M.o,bne_iff_ne];intro e;exact hc0 (UInt8.toNat_inj.1 (by simp[es]at e ⊢;omega))
  have HL:=aa hl;clear hl;go_wp2
  go_ret;exact⟨by simp[aA,HL.o],by simp only[aA,HL.o];exact H1.o.of_heap rfl,cJ G1.o _⟩
 | cons x r=>
  rw[hl]at H1;obtain⟨i,h,⟨hi,hc⟩,hr⟩:=H1.o.cons;have c0_:=h.c;have h3:=h.2.2;have H2:=aa h;have Hr:=aa hr;have HL:=aa hl;clear h hl hr hc;by_cases hx:x=c
  ·have e1:(((es (x :: r)).toNat:Int) != m)=false:=by rw[M.o,hx];simp[es]
   have HX:=aa hx;clear hx;go_wp2
   go_ret;exact⟨by simp[aA,HL.o,HX.o],by simp only[aA,HL.o,HX.o];exact⟨i+1,⟨ak H2.o.1 1 _,by omega,H2.o.2.2⟩,Hr.o⟩,cJ (ap G1.o _ _) _⟩
  ·have e1:(((es (x :: r)).toNat:Int) != m)=true:=by
    rw[M.o,bne_iff_ne];intro e;exact hx (UInt8.toNat_inj.1 (by simp[es]at e ⊢;omega))
   have HX:=aa hx;clear hx;go_wp2
   go_ret;exact⟨by simp[aA,HL.o,HX.o],by simp only[aA,HL.o,HX.o];exact H1.o.of_heap rfl,cJ G1.o _⟩
def bf (w:LC) (b:Nat) (s:ByteArray) (st:Option Lz):Prop:=eA w b s (st.getD []) st.isNone
theorem bf.of_heap{b s}{st:Option Lz}(h:bf w b s st)(e:w'.heap[b]?=w.heap[b]?):bf w' b s st:=eA.of_heap h e
theorem bf.lt{b s}{st:Option Lz}(h:bf w b s st):b < w.heap.size:=eA.lt h
theorem bf.len{b s l}(h:bf w b s (some l)):l.length<=s.size/\s.size<=2000:=eA.len h
theorem bf.grown{a b s}{st:Option Lz}{r}(h:bf a b s st)(hg:a.grownBy w r)(hr:some b≠r):bf w b s st:=h.of_heap (hg.block b h.lt hr)
theorem dv{a:LC}{b row}(h:a.grownBy w (some b))(hg:w.grownBy w' row)(hr:∀ k,row=some k->a.heap.size<=k):a.grownBy w' (some b):=
 ⟨hg.os.trans h.os,hg.tape.trans h.tape,hg.output.trans h.output,MH h.size hg.size,fun i hi hb=>(hg.block i (MI hi h.size) (fun e=>by have:=hr i e.symm;omega)).trans (h.block i hi hb)⟩
theorem Sb(w b s)(st:Option Lz)(h:bf w b s st):Calls prog 144 #[.pointer (some ⟨b,0,none⟩)] w fun e w'=>e=.returned (.tuple #[])/\bf w' b s none/\w.grownBy w' (some b):=
 mv w b s _ _ h
def uH:Lz->Option (UInt8 × Lz)
 | []=>none
 | c :: l=>some (c,l)
theorem zW(w b s)(st:Option Lz)(h:bf w b s st):Calls prog 146 #[.pointer (some ⟨b,0,none⟩)] w fun e w'=>∃ (c:UInt8) (st':Option Lz),e=.returned (.int .u8 c.toNat)/\st.bind uH=st'.map (fun l=>(c,l))/\(st'=none->c=0)/\bf w' b s st'/\w.grownBy w' (some b):=by
 match st,h with
 | none,h=>exact(pZ w b s true h).mono fun e w' ⟨he,hr,hg⟩=>⟨0,none,he,rfl,fun _=>rfl,hr,hg⟩
 | some [],h=>exact(pZ w b s false h).mono fun e w' ⟨he,hr,hg⟩=>⟨0,none,he,rfl,fun _=>rfl,hr,hg⟩
 | some (c :: l),h=>exact(sF w b s c l false h).mono fun e w' ⟨he,hr,hg⟩=>⟨c,some l,he,rfl,nofun,hr,hg⟩
theorem mD(w b s)(st:Option Lz)(m c)(hm:m=(c.toNat:Int))(hc0:c≠0)(h:bf w b s st):Calls prog 148 #[.pointer (some ⟨b,0,none⟩),.int .u8 m] w fun e w'=>e=.returned (.bool (st.bind (aA c)).isSome) /\
 bf w' b s (if (st.bind (aA c)).isSome then st.bind (aA c) else st.map (List.dropWhile cw))/\w.grownBy w' (some b):=by
 refine(Iw w b s _ _ m c hm hc0 h).mono fun e w' ⟨he,hr,hg⟩=>⟨?_,?_,hg⟩
 ·cases st with
  | none=>exact he
  | some l=>exact he
 ·cases st with
  | none=>exact hr
  | some l=>
   cases hk:aA c l with
   | none=>simpa [bf,hk] using hr
   | some r=>simpa [bf,hk] using hr
theorem kP(w b s)(st:Option Lz)(m c)(hm:m=(c.toNat:Int))(hc0:c≠0)(h:bf w b s st):Calls prog 145 #[.pointer (some ⟨b,0,none⟩),.int .u8 m] w fun e w'=>e=.returned (.tuple #[])/\bf w' b s (st.bind (aA c))/\w.grownBy w' (some b):=by
 have H:=aa h;have M:=aa hm;clear h hm;go_enter func145,ntmps145;go_wp2_with fail
 refine(mD _ b s st m c M.o hc0 (by exact H.o)).mono ?_;rintro e w1 ⟨rfl,h1,hg1⟩;have H1:=aa h1;have G1:=aa hg1;clear h1 hg1;cases hk:st.bind (aA c) with
 | none=>
  rw[hk]at H1;go_wp2_with fail
  refine(Sb _ b s _ (by exact H1.o)).mono ?_;rintro e w2 ⟨rfl,h2,hg2⟩;go_wp2_with fail
  go_end0
  exact⟨rfl,by rw[hk];exact h2,am G1.o hg2⟩
 | some r=>
  rw[hk]at H1;go_wp2_with fail
  go_end0
  exact⟨rfl,by rw[hk];exact H1.o,G1.o⟩
theorem yA{p:UInt8->Prop}(h:∀ n:Fin 256,p (UInt8.ofNat n.val))(c):p c:=by
 have:=h ⟨c.toNat,c.toNat_lt⟩;simpa using this
theorem Cw(c):Lib.indexByte [48,49,50,51,52,53,54,55,56,57,97,98,99,100,101,102] (if 65<=c.toNat/\c.toNat<=70 then c+32 else c)=(match sN c with | some d=>(d:Int) | none=>-1):=
 yA (p:=fun c=>Lib.indexByte [48,49,50,51,52,53,54,55,56,57,97,98,99,100,101,102] (if 65<=c.toNat/\c.toNat<=70 then c+32 else c)=(match sN c with | some d=>(d:Int) | none=>-1)) (by decide +kernel) c
theorem Ic(c d)(h:sN c=some d):d < 16:=by
 simp only[sN]at h;split at h
 ·cases h;omega
 ·split at h
  ·cases h;omega
  ·split at h
   ·cases h;omega
   ·cases h
theorem fx(t m r w)(h:Lib.indexByte t.data.toList m.toNat.toUInt8=r):Calls prog 112 #[.string t,.int .u8 m] w fun e w'=>e=.returned (.int .i64 r)/\w'=w:=by
 subst h;exact Tryz.strings_IndexByte t m w
theorem ID(c m)(hm:m=if 65<=c.toNat/\c.toNat<=70 then (c.toNat:Int)+32 else c.toNat):Lib.indexByte [48,49,50,51,52,53,54,55,56,57,97,98,99,100,101,102] m.toNat.toUInt8=(match sN c with | some d=>(d:Int) | none=>-1):=by
 rw[<-Cw c];congr 1
 subst hm;split
 ·rename_i h;apply UInt8.toNat_inj.1;rw[UInt8.toNat_add];simp;omega
 ·simp
theorem sj{st st1:Option Lz}{c}{α:Type}(f:UInt8->Lz->Option α)(hs:st.bind uH=st1.map (fun l=>(c,l))):(st.bind fun l=>match l with | []=>none | c :: l=>f c l)=st1.bind (f c):=by
 match st,st1,hs with
 | none,none,_=>rfl
 | some [],none,_=>rfl
 | some (x :: r),some l,hs=>simp[uH]at hs;obtain⟨rfl,rfl⟩:=hs;rfl
theorem Cg{st st1:Option Lz}{c}(hs:st.bind uH=st1.map (fun l=>(c,l))):st.bind qO=st1.bind fun l=>(sN c).map fun d=>(d,l):=by
 rw[<-sj (fun c l=>(sN c).map fun d=>(d,l)) hs];cases st with
 | none=>rfl
 | some l=>cases l <;> rfl
theorem Ey(w b s)(st:Option Lz)(h:bf w b s st):Calls prog 207 #[.pointer (some ⟨b,0,none⟩)] w fun e w'=>∃ (d:Nat) (st':Option Lz),e=.returned (.int .i64 d)/\d < 16/\st.bind qO=st'.map (fun l=>(d,l))/\bf w' b s st'/\w.grownBy w' (some b):=by
 have H:=aa h;clear h;go_enter func207,ntmps207;go_wp2_with fail
 refine(zW _ b s st (by exact H.o)).mono ?_;rintro e w1 ⟨c,st1,rfl,hs,h0,h1,hg1⟩;have hD:=aa (Cg hs);have A:Ll ((st1=none->c=0)/\bf w1 b s st1/\w.grownBy w1 (some b)):=⟨h0,h1,hg1⟩
 clear hs h0 h1 hg1;have hc256:(c.toNat:Int) < 256:=by have:=c.toNat_lt;omega
 have hidx:=aa (ID c);cases hx:sN c with
 | some d=>
  have hd:=Ic c d hx;have es:0<=(d:Int):=by omega
  rw[hx]at hidx hD;have fin:Ll (∃ (d':Nat) (st':Option Lz),Ending.returned (Value.int .i64 d)=.returned (.int .i64 d')/\d' < 16/\st.bind qO=st'.map (fun l=>(d',l))/\bf w1 b s st'/\w.grownBy w1 (some b)):=by
   refine⟨d,st1,rfl,hd,?_,A.o.2.1,A.o.2.2⟩;rw[hD.o];cases st1 <;> rfl
  clear hx;by_cases hup:65<=c.toNat/\c.toNat<=70
  ·have hu1:65<=(c.toNat:Int):=by omega
   have hu2:(c.toNat:Int)<=70:=by omega
   go_wp2_with fail
   refine LE (fx _ _ (d:Int) _ (by exact hidx.o _ (by rw[if_pos hup]))) ?_;go_wp2_with fail
   go_ret;exact fin.o
  ·have hu1:¬(65<=(c.toNat:Int)/\(c.toNat:Int)<=70):=by omega
   by_cases hu2:65<=(c.toNat:Int)
   ·have hu3:¬((c.toNat:Int)<=70):=by omega
    go_wp2_with fail
    refine LE (fx _ _ (d:Int) _ (by exact hidx.o _ (by rw[if_neg hup]))) ?_;go_wp2_with fail
    go_ret;exact fin.o
   ·go_wp2_with fail
    refine LE (fx _ _ (d:Int) _ (by exact hidx.o _ (by rw[if_neg hup]))) ?_;go_wp2_with fail
    go_ret;exact fin.o
 | none=>
  rw[hx]at hidx hD;have fin:Ll (∀ w2,bf w2 b s none->w1.grownBy w2 (some b)->∃ (d':Nat) (st':Option Lz),Ending.returned (Value.int .i64 0)=.returned (.int .i64 d')/\d' < 16/\st.bind qO=st'.map (fun l=>(d',l))/\bf w2 b s st'/\w.grownBy w2 (some b)):=by
   intro w2 h2 hg2;refine⟨0,none,rfl,by omega,?_,h2,am A.o.2.2 hg2⟩;rw[hD.o];cases st1 <;> rfl
  clear hx;by_cases hup:65<=c.toNat/\c.toNat<=70
  ·have hu1:65<=(c.toNat:Int):=by omega
   have hu2:(c.toNat:Int)<=70:=by omega
   go_wp2_with fail
   refine LE (fx _ _ (-1) _ (by exact hidx.o _ (by rw[if_pos hup]))) ?_;go_wp2_with fail
   refine(Sb _ b s _ (by exact A.o.2.1)).mono ?_;rintro e w2 ⟨rfl,h2,hg2⟩;go_wp2_with fail
   go_ret;exact fin.o _ h2 hg2
  ·have hu1:¬(65<=(c.toNat:Int)/\(c.toNat:Int)<=70):=by omega
   by_cases hu2:65<=(c.toNat:Int)
   ·have hu3:¬((c.toNat:Int)<=70):=by omega
    go_wp2_with fail
    refine LE (fx _ _ (-1) _ (by exact hidx.o _ (by rw[if_neg hup]))) ?_;go_wp2_with fail
    refine(Sb _ b s _ (by exact A.o.2.1)).mono ?_;rintro e w2 ⟨rfl,h2,hg2⟩;go_wp2_with fail
    go_ret;exact fin.o _ h2 hg2
   ·go_wp2_with fail
    refine LE (fx _ _ (-1) _ (by exact hidx.o _ (by rw[if_neg hup]))) ?_;go_wp2_with fail
    refine(Sb _ b s _ (by exact A.o.2.1)).mono ?_;rintro e w2 ⟨rfl,h2,hg2⟩;go_wp2_with fail
    go_ret;exact fin.o _ h2 hg2
variable {n d:Nat}
theorem yf{st st1 st2:Option Lz}{j}(h4:j < 4)(h:st.bind (fw 4 0)=st1.bind (fw (4 - j) n))(hd:st1.bind qO=st2.map (fun l=>(d,l))):st.bind (fw 4 0)=st2.bind (fw (4 - (j+1)) (n * 16+d)):=by
 rw[h];have e:4 - j=(4 - (j+1))+1:=by omega
 rw[e];cases st1 with
 | none=>cases st2 with
  | none=>rfl
  | some l=>cases hd
 | some l=>
  show fw (4 - (j+1)+1) n l=_;rw[fw];have hd':qO l=st2.map (fun l=>(d,l)):=hd;rw[hd'];cases st2 <;> rfl
theorem AV{st st1:Option Lz}(h:st.bind (fw 4 0)=st1.bind (fw 0 n)):st.bind iJ=st1.bind fun l=>if n < 128 then some (n.toUInt8,l) else none:=by
 cases st with
 | none=>cases st1 with
  | none=>rfl
  | some l=>cases h
 | some l=>
  have h':fw 4 0 l=st1.bind (fw 0 n):=h;show iJ l=_;rw[iJ,h'];cases st1 <;> rfl
theorem Fu(w b s)(st:Option Lz)(h:bf w b s st):Calls prog 183 #[.pointer (some ⟨b,0,none⟩)] w fun e w'=>∃ (c:UInt8) (st':Option Lz),e=.returned (.int .u8 c.toNat)/\st.bind iJ=st'.map (fun l=>(c,l))/\bf w' b s st'/\w.grownBy w' (some b):=by
 have H:=aa h;clear h;go_enter func183,ntmps183;go_wp2_with fail
 go_loopg [3,4] 4 (fun k n i wr=>∃ (j m:Nat) (st1:Option Lz),n=.int .i64 m/\i=.int .i64 j/\j<=4/\k=4 - j/\m < 16 ^ j/\st.bind (fw 4 0)=st1.bind (fw (4 - j) m)/\bf wr b s st1/\w.grownBy wr (some b))
 case atStart=>exact⟨0,0,st,rfl,rfl,by omega,rfl,by decide,rfl,H.o,az _ _⟩
 case round=>
  obtain⟨j,m,st1,rfl,rfl,hj,hk,hm,hs,h1,hg⟩:=hrel;have hm4:m < 65536:=MI hm (Nat.pow_le_pow_right (n:=16) (by omega) hj);have A:Ll (gk=4 - j/\m < 16 ^ j/\st.bind (fw 4 0)=st1.bind (fw (4 - j) m)/\bf wr b s st1/\w.grownBy wr (some b)):=⟨hk,hm,hs,h1,hg⟩
  clear hk hm hs h1 hg;by_cases hlt:j < 4
  ·go_wp2_with fail
   refine(Ey _ b s st1 (by exact A.o.2.2.2.1)).mono ?_;rintro e w1 ⟨d,st2,rfl,hd,hs2,h2,hg2⟩;have B:Ll (st1.bind qO=st2.map (fun l=>(d,l))/\bf w1 b s st2/\wr.grownBy w1 (some b)):=⟨hs2,h2,hg2⟩
   clear hs2 h2 hg2;go_wp2_with fail
   obtain⟨hk,hm,hs,h1,hg⟩:=A.o;obtain⟨hs2,h2,hg2⟩:=B.o;go_roundg (4 - (j+1))
   case measure=>omega
   case rel=>
    refine⟨j+1,m * 16+d,st2,by go_num,by go_num,by omega,rfl,?_,yf hlt hs hs2,h2,am hg hg2⟩;rw[Nat.pow_succ];omega
  ·have hj4:j=4:=by omega
   subst hj4;have Mb:=aa (AV A.o.2.2.1);by_cases h128:m < 128
   ·go_wp2_with fail
    go_ret;obtain⟨hk,hm,hs,h1,hg⟩:=A.o;refine⟨m.toUInt8,st1,?_,?_,h1,hg⟩
    ·have:m.toUInt8.toNat=m:=by simp;omega
     rw[this];rfl
    ·rw[Mb.o];cases st1 <;> simp[h128]
   ·go_wp2_with fail
    refine(Sb _ b s _ (by exact A.o.2.2.2.1)).mono ?_;rintro e w2 ⟨rfl,h2,hg2⟩;go_wp2_with fail
    go_ret;obtain⟨hk,hm,hs,h1,hg⟩:=A.o;refine⟨0,none,rfl,?_,h2,am hg hg2⟩;rw[Mb.o];cases st1 <;> simp[h128]
theorem Bf{st st1:Option Lz}{c}(hs:st.bind uH=st1.map (fun l=>(c,l))):st.bind ot=st1.bind fun l=>if c=117 then iJ l else if c=47 then some (47,l) else (wl c).map fun x=>(x,l):=by
 rw[<-sj (fun c l=>if c=117 then iJ l else if c=47 then some (47,l) else (wl c).map fun x=>(x,l)) hs];cases st with
 | none=>rfl
 | some l=>cases l <;> rfl
theorem Ir(c):(c.toNat:Int).toNat.toUInt8=c:=by simp
theorem wE{c d:UInt8}{m:Int}(hm:m=(d.toNat:Int))(h:c≠d):((c.toNat:Int) == m)=false:=by
 rw[MO,hm];intro e;exact h (UInt8.toNat_inj.1 (by omega))
theorem Bd(c):wl c=none->Lib.indexByte [34,92,98,102,110,114,116] c=-1:=
 yA (p:=fun c=>wl c=none->Lib.indexByte [34,92,98,102,110,114,116] c=-1) (by decide +kernel) c
theorem yu(c):wl c=none\/c=34\/c=92\/c=98\/c=102\/c=110\/c=114\/c=116:=
 yA (p:=fun c=>wl c=none\/c=34\/c=92\/c=98\/c=102\/c=110\/c=114\/c=116) (by decide +kernel) c
theorem xJ(w b s)(st:Option Lz)(h:bf w b s st):Calls prog 147 #[.pointer (some ⟨b,0,none⟩)] w fun e w'=>∃ (c:UInt8) (st':Option Lz),e=.returned (.int .u8 c.toNat)/\st.bind ot=st'.map (fun l=>(c,l))/\bf w' b s st'/\w.grownBy w' (some b):=by
 have H:=aa h;clear h;go_enter func147,ntmps147;go_wp2_with fail
 refine(zW _ b s st (by exact H.o)).mono ?_;rintro e w1 ⟨c,st1,rfl,hs,h0,h1,hg1⟩;have E:=aa (Bf hs);have A:Ll (bf w1 b s st1/\w.grownBy w1 (some b)):=⟨h1,hg1⟩
 clear hs h0 h1 hg1;by_cases c1:c=117
 ·subst c1;go_wp2_with fail
  refine(Fu _ b s st1 (by exact A.o.1)).mono ?_;rintro e w2 ⟨x,st2,rfl,hs2,h2,hg2⟩;have B:Ll (st1.bind iJ=st2.map (fun l=>(x,l))/\bf w2 b s st2/\w1.grownBy w2 (some b)):=⟨hs2,h2,hg2⟩
  clear hs2 h2 hg2;go_wp2_with fail
  go_ret;obtain⟨hs2,h2,hg2⟩:=B.o;exact⟨x,st2,rfl,by rw[E.o,<-hs2];rfl,h2,am A.o.2 hg2⟩
 have n1:=wE (m:=117) rfl c1;by_cases c2:c=47
 ·subst c2;go_wp2_with fail
  go_ret;exact⟨47,st1,rfl,by rw[E.o];cases st1 <;> rfl,A.o.1,A.o.2⟩
 have n2:=wE (m:=47) rfl c2;have E2:Ll (st.bind ot=st1.bind fun l=>(wl c).map fun x=>(x,l)):=by
  have e:=E.o;rw[e];cases st1 with
  | none=>rfl
  | some l=>show (if c=117 then _ else _)=_;rw[if_neg c1,if_neg c2];rfl
 clear E c1 c2;rcases yu c with hn | rfl | rfl | rfl | rfl | rfl | rfl | rfl
 ·have L:=aa (Bd c hn);rw[hn]at E2;clear hn;go_wp2_with fail
  refine LE (fx _ _ (-1) _ (by rw[Ir];exact L.o)) ?_;go_wp2_with fail
  refine(Sb _ b s _ (by exact A.o.1)).mono ?_;rintro e w2 ⟨rfl,h2,hg2⟩;go_wp2_with fail
  go_ret;exact⟨0,none,rfl,by rw[E2.o];cases st1 <;> rfl,h2,am A.o.2 hg2⟩
 ·clear n1 n2;go_wp2_with fail
  refine LE (fx _ _ 0 _ (by rfl)) ?_;go_wp2_with fail
  go_ret;exact⟨34,st1,rfl,by rw[E2.o];cases st1 <;> rfl,A.o.1,A.o.2⟩
 ·clear n1 n2;go_wp2_with fail
  refine LE (fx _ _ 1 _ (by rfl)) ?_;go_wp2_with fail
  go_ret;exact⟨92,st1,rfl,by rw[E2.o];cases st1 <;> rfl,A.o.1,A.o.2⟩
 ·clear n1 n2;go_wp2_with fail
  refine LE (fx _ _ 2 _ (by rfl)) ?_;go_wp2_with fail
  go_ret;exact⟨8,st1,rfl,by rw[E2.o];cases st1 <;> rfl,A.o.1,A.o.2⟩
 ·clear n1 n2;go_wp2_with fail
  refine LE (fx _ _ 3 _ (by rfl)) ?_;go_wp2_with fail
  go_ret;exact⟨12,st1,rfl,by rw[E2.o];cases st1 <;> rfl,A.o.1,A.o.2⟩
 ·clear n1 n2;go_wp2_with fail
  refine LE (fx _ _ 4 _ (by rfl)) ?_;go_wp2_with fail
  go_ret;exact⟨10,st1,rfl,by rw[E2.o];cases st1 <;> rfl,A.o.1,A.o.2⟩
 ·clear n1 n2;go_wp2_with fail
  refine LE (fx _ _ 5 _ (by rfl)) ?_;go_wp2_with fail
  go_ret;exact⟨13,st1,rfl,by rw[E2.o];cases st1 <;> rfl,A.o.1,A.o.2⟩
 ·clear n1 n2;go_wp2_with fail
  refine LE (fx _ _ 6 _ (by rfl)) ?_;go_wp2_with fail
  go_ret;exact⟨9,st1,rfl,by rw[E2.o];cases st1 <;> rfl,A.o.1,A.o.2⟩
theorem infoByte:(prog.info? 5).map (fun i=>(i.zero,i.size,i.bytes))=some (some (.int .u8 0),1,1):=by kernel_rfl
def dw:Option Lz->Nat
 | none=>0
 | some l=>l.length+1
def fB (acc:Lz) (st:Option Lz):Option (Lz × Lz):=st.bind fun l=>i8 (l.length+1) acc l
theorem nM(acc l):fB acc (some (34 :: l))=some (acc,l):=by simp[fB,i8]
theorem vP(acc l c)(h1:c≠34)(h2:c≠92)(h3:¬(c.toNat < 32\/127<=c.toNat)):fB acc (some (c :: l))=fB (acc++[c]) (some l):=by
 simp only[fB,Option.bind_some,i8,if_neg h1,if_neg h2,if_neg h3];exact pi _ _ _ _ (by simp) (by simp)
theorem Dg(acc l c)(h1:c≠34)(h2:c≠92)(h3:c.toNat < 32\/127<=c.toNat):fB acc (some (c :: l))=none:=by
 simp only[fB,Option.bind_some,i8,if_neg h1,if_neg h2,if_pos h3]
theorem Be(acc l x)(st:Option Lz)(h:(some l).bind ot=st.map (fun l=>(x,l))):fB acc (some (92 :: l))=fB (acc++[x]) st:=by
 have h':ot l=st.map (fun l=>(x,l)):=h;have e34:¬((92:UInt8)=34):=by decide
 simp only[fB,Option.bind_some,i8,if_neg e34,if_true,h'];cases st with
 | none=>rfl
 | some r=>
  have hl:=lL h';exact pi _ _ _ _ (by simp only at hl;simp;omega) (by simp)
theorem un{l x}{st:Option Lz}(h:(some l).bind ot=st.map (fun l=>(x,l))):dw st < l.length+1:=by
 have h':ot l=st.map (fun l=>(x,l)):=h;cases st with
 | none=>simp[dw]
 | some r=>have hl:=lL h';simp only at hl;simp[dw];omega
theorem qN(l c):Lib.byteCells l++[Value.int .u8 c.toNat]=Lib.byteCells (l++[c]):=by simp[Lib.byteCells]
theorem gA{a:LC}{b}{e:TypeId}{size xs}(h:w.ownsRow a.heap.size e size v n xs)(hg:w.grownBy w' (some b))(hb:b < a.heap.size):w'.ownsRow a.heap.size e size v n xs:=by
 refine h.kept hg ?_;cases hv:v.ownBlock with
 | none=>exact .inl rfl
 | some k=>
  right;intro e;cases e;have:=(h.lt b hv).1;omega
theorem nX{ops:Array Oper}{rest:List Oper}{o:Oper}{a}{Q:Exit->Act->LC->Prop}(hgd:o.guard=none)(s x:Operand)(ho:o.op=.call { callee:=.builtin .append,args:=#[s,x],argTypes:=#[101,101] })(B v acc c)(hs:a.eval s=v)(hx:a.eval x=.slice (some ⟨w.heap.size,0,none⟩) 1 1)(hown:w.ownsRow B 5 1 v acc.length (Lib.byteCells acc))(hB:B<=w.heap.size)(hl:acc.length<=1000000000)(hK:∀ v' w',w'.ownsRow B 5 1 v' (acc++[c]).length (Lib.byteCells (acc++[c]))->w.grownBy w' v.ownBlock->wpList prog ops Q rest (a.put o.dst v') w'):wpList prog ops Q (o :: rest) a (w.alloc (.cells #[.int .u8 c.toNat] 5)):=by
 obtain⟨i0,hi,hz0,hz1,hz2⟩:=info_parts infoByte;refine wpList_append_own _ hgd s x 101 ho B 5 i0 (.int .u8 0) 1 1 underlying101 hi hz0 hz1 hz2 rfl (by decide) v acc.length (Lib.byteCells acc) hs (hown.alloc _) ⟨w.heap.size,0,none⟩ 1 1 [Value.int .u8 c.toNat] hx rfl
  (by intro j u' hj;match j,hj with | 0,hj=>simp at hj;subst hj;simp[Addr.add]) (by intro u' hu';simp at hu';subst hu';rfl) (by unfold maxLen;omega) (by omega) (by simp;omega) ?_
 intro v2 w2 hown2 hgrow _;refine hK v2 w2 ?_ (am (World.grownBy_alloc w _ _) hgrow);rw[qN]at hown2;simpa using hown2
def IQ (w:LC) (b:Nat) (s:ByteArray) (T:Option (Lz × Lz)) (k:Nat) (v:Value) (wr:LC):Prop:=
 ∃ (acc:Lz) (st:Option Lz),k=dw st/\acc.length+k<=2002/\fB acc st=T/\wr.ownsRow w.heap.size 5 1 v acc.length (Lib.byteCells acc)/\bf wr b s st/\w.grownBy wr (some b)
theorem rY(w b s)(st:Option Lz)(h:bf w b s st):Calls prog 115 #[.pointer (some ⟨b,0,none⟩)] w fun e w'=>∃ (t:Lz) (st':Option Lz),e=.returned (.string ⟨t.toArray⟩)/\st.bind iS=st'.map (fun l=>(t,l))/\t.length<=2002/\bf w' b s st'/\w.grownBy w' (some b):=by
 obtain⟨i0,hi,hz0,hz1,hz2⟩:=info_parts infoByte;have H:=aa h;have hbl:=h.lt;clear h;go_enter func115,ntmps115;go_wp2_with fail
 refine(kP _ b s st 34 34 rfl (by decide) (by exact H.o)).mono ?_;rintro e w1 ⟨rfl,h1,hg1⟩;have H1:=aa h1;have G1:=aa hg1;have hT:Ll (st.bind iS=fB [] (st.bind (aA 34))):=by
  cases st with
  | none=>rfl
  | some l=>show iS l=_;rw[iS];rfl
 clear h1 hg1;go_wp2_with fail
 go_loopg [3] (dw (st.bind (aA 34))) (fun k v wr=>IQ w b s (fB [] (st.bind (aA 34))) k v wr)
 case atStart=>
  refine⟨[],st.bind (aA 34),rfl,?_,rfl,World.ownsRow_nil _ _ _ _,H1.o,G1.o⟩;cases hk:st.bind (aA 34) with
  | none=>simp[dw]
  | some l=>
   have h1:=H1.o;rw[hk]at h1;have:=h1.len;simp[dw];omega
 case round=>
  obtain⟨acc,st1,hk,hb,hr,hown,h2,hg2⟩:=hrel;have A:Ll (gk=dw st1/\acc.length+gk<=2002/\fB acc st1=fB [] (st.bind (aA 34))/\wr.ownsRow w.heap.size 5 1 u3 acc.length (Lib.byteCells acc)/\bf wr b s st1/\w.grownBy wr (some b)):=⟨hk,hb,hr,hown,h2,hg2⟩
  clear hk hb hr hown hg2;cases st1 with
  | none=>
   have c0_:=(eA.nil h2).c;clear h2;go_wp2_with fail
   go_ret;obtain⟨hk,hb,hr,hown,h2,hg2⟩:=A.o;exact⟨[],none,rfl,by rw[hT.o,<-hr];rfl,by simp,h2,hg2⟩
  | some l=>
   have h4:=aa h2;obtain⟨i,h3,e3⟩:=h2;have c0_:=h3.c;clear h3 e3;go_wp2_with fail
   cases l with
   | nil=>
    refine(pZ _ b s false (by exact h4.o)).mono ?_;rintro e w2 ⟨rfl,h5,hg5⟩;have B:Ll (bf w2 b s none/\wr.grownBy w2 (some b)):=⟨h5,hg5⟩
    clear h5 hg5;go_wp2_with fail
    refine(Sb _ b s _ (by exact B.o.1)).mono ?_;rintro e w3 ⟨rfl,h6,hg6⟩;have C:Ll (bf w3 b s none/\w2.grownBy w3 (some b)):=⟨h6,hg6⟩
    clear h6 hg6;go_wp2_with fail
    obtain⟨hk,hb,hr,hown,h2,hg2⟩:=A.o;go_roundg 0
    case measure=>rw[hk];simp[dw]
    case rel=>exact⟨acc,none,rfl,by omega,hr,gA (gA hown B.o.2 hbl) C.o.2 hbl,C.o.1,am (am hg2 B.o.2) C.o.2⟩
   | cons c l=>
    refine(sF _ b s c l false (by exact h4.o)).mono ?_;rintro e w2 ⟨rfl,h5,hg5⟩;have B:Ll (bf w2 b s (some l)/\wr.grownBy w2 (some b)):=⟨h5,hg5⟩
    clear h5 hg5;by_cases e1:c=34
    ·subst e1;obtain⟨hk,hb,hr,hown,h2,hg2⟩:=A.o;have hown2:=gA hown B.o.2 hbl;rcases hown2.2 with⟨hv,hn⟩ | ⟨g,cap,cur,hv,-,-,-,-,-,-⟩
     ·have hacc:acc=[]:=List.eq_nil_of_length_eq_zero hn;subst hv;clear hk hb hr hown h2 hg2 hown2 hn;have hcv:=run_convert_bytes_nil (P:=prog) (w:=w2) 101 5 underlying101 underlying5 0 0;go_wp2_with fail
      go_ret;obtain⟨hk,hb,hr,hown,h2,hg2⟩:=A.o;subst hacc;exact⟨[],some l,rfl,by rw[hT.o,<-hr,nM];rfl,by simp,B.o.1,am hg2 B.o.2⟩
     ·subst hv;have hcv:=run_convert_bytes_back (P:=prog) w2 101 9 5 ⟨g,0,none⟩ cap acc underlying101 underlying5 underlying9 (fun j hj=>hown2.cells (g:=g) rfl j _ (by simp[Lib.byteCells,hj]));clear hk hb hr hown h2 hg2 hown2;go_wp2_with fail
      go_ret;obtain⟨hk,hb,hr,hown,h2,hg2⟩:=A.o;exact⟨acc,some l,rfl,by rw[hT.o,<-hr,nM];rfl,by omega,B.o.1,am hg2 B.o.2⟩
    have n1:=wE (m:=34) rfl e1;by_cases e2:c=92
    ·subst e2;go_wp2_with fail
     refine(xJ _ b s (some l) (by exact B.o.1)).mono ?_;rintro e w3 ⟨x,st3,rfl,hs3,h6,hg6⟩;have C:Ll ((some l).bind ot=st3.map (fun l=>(x,l))/\bf w3 b s st3/\w2.grownBy w3 (some b)):=⟨hs3,h6,hg6⟩
     clear hs3 h6 hg6;have hown3:w3.ownsRow w.heap.size 5 1 u3 acc.length (Lib.byteCells acc):=gA (gA A.o.2.2.2.1 B.o.2 hbl) C.o.2.2 hbl;have gw3:w.grownBy w3 (some b):=am (am A.o.2.2.2.2.2 B.o.2) C.o.2.2;have hB3:=gw3.size;have hl3:acc.length<=1000000000:=by have:=A.o.2.1;omega
     have O3:=aa hown3;have G3:=aa gw3;clear hown3 gw3;go_wp2_with (at_builtin;go_must (refine nX rfl _ _ rfl w.heap.size u3 acc x rfl rfl O3.o hB3 hl3 ?_);intro v4 w4 LS LR;refine Ll.o ?_)
     refine aa ?_;have D:Ll (w4.ownsRow w.heap.size 5 1 v4 (acc++[x]).length (Lib.byteCells (acc++[x]))/\w3.grownBy w4 u3.ownBlock):=⟨LS,LR⟩
     clear LS LR;go_wp2_with fail
     obtain⟨hk,hb,hr,hown,h2,hg2⟩:=A.o;go_roundg (dw st3)
     case measure=>rw[hk];exact Nat.lt_trans (un C.o.1) (by simp[dw])
     case rel=>
      refine⟨acc++[x],st3,rfl,?_,?_,D.o.1,?_,?_⟩
      ·have h9:=un C.o.1;have h8:dw (some ((92:UInt8) :: l))=l.length+2:=rfl;rw[hk,h8]at hb;simp only[Mx,My,List.length_nil];omega
      ·rw[<-hr,Be acc l x st3 C.o.1]
      ·exact C.o.2.1.grown D.o.2 (fun e=>by have:=(O3.o.lt b e.symm).1;omega)
      ·exact dv G3.o D.o.2 (fun k hk=>(O3.o.lt k hk).1)
    have n2:=wE (m:=92) rfl e2;by_cases e3:c.toNat < 32\/127<=c.toNat
    ·have F:Ll (fB acc (some (c :: l))=none):=Dg acc l c e1 e2 e3;have go1:Ll (∀ w3,bf w3 b s none->w2.grownBy w3 (some b)->IQ w b s (fB [] (st.bind (aA 34))) 0 u3 w3):=by
      intro w3 h6 hg6;obtain⟨hk,hb,hr,hown,h2,hg2⟩:=A.o;exact⟨acc,none,rfl,by omega,by rw[<-hr,F.o];rfl,gA (gA hown B.o.2 hbl) hg6 hbl,h6,am (am hg2 B.o.2) hg6⟩
     by_cases e4:c.toNat < 32
     ·have e5:(c.toNat:Int) < 32:=by omega
      clear e3;go_wp2_with fail
      refine(Sb _ b s _ (by exact B.o.1)).mono ?_;rintro e w3 ⟨rfl,h6,hg6⟩;have C:Ll (bf w3 b s none/\w2.grownBy w3 (some b)):=⟨h6,hg6⟩
      clear h6 hg6;go_wp2_with fail
      go_roundg 0
      case measure=>rw[A.o.1];simp[dw]
      case rel=>exact go1.o _ C.o.1 C.o.2
     ·have e5:¬(c.toNat:Int) < 32:=by omega
      have e6:127<=(c.toNat:Int):=by omega
      clear e3;go_wp2_with fail
      refine(Sb _ b s _ (by exact B.o.1)).mono ?_;rintro e w3 ⟨rfl,h6,hg6⟩;have C:Ll (bf w3 b s none/\w2.grownBy w3 (some b)):=⟨h6,hg6⟩
      clear h6 hg6;go_wp2_with fail
      go_roundg 0
      case measure=>rw[A.o.1];simp[dw]
      case rel=>exact go1.o _ C.o.1 C.o.2
    ·have e5:¬(c.toNat:Int) < 32:=by omega
     have e6:¬127<=(c.toNat:Int):=by omega
     have F:Ll (fB acc (some (c :: l))=fB (acc++[c]) (some l)):=vP acc l c e1 e2 e3;clear e1 e2 e3;have hown3:w2.ownsRow w.heap.size 5 1 u3 acc.length (Lib.byteCells acc):=gA A.o.2.2.2.1 B.o.2 hbl;have gw3:w.grownBy w2 (some b):=am A.o.2.2.2.2.2 B.o.2;have hB3:=gw3.size;have hl3:acc.length<=1000000000:=by have:=A.o.2.1;omega
     have O3:=aa hown3;have G3:=aa gw3;clear hown3 gw3;go_wp2_with (at_builtin;go_must (refine nX rfl _ _ rfl w.heap.size u3 acc c rfl rfl O3.o hB3 hl3 ?_);intro v4 w4 LS LR;refine Ll.o ?_)
     refine aa ?_;have D:Ll (w4.ownsRow w.heap.size 5 1 v4 (acc++[c]).length (Lib.byteCells (acc++[c]))/\w2.grownBy w4 u3.ownBlock):=⟨LS,LR⟩
     clear LS LR;go_wp2_with fail
     obtain⟨hk,hb,hr,hown,h2,hg2⟩:=A.o;go_roundg (dw (some l))
     case measure=>rw[hk];simp[dw]
     case rel=>
      refine⟨acc++[c],some l,rfl,?_,?_,D.o.1,?_,?_⟩
      ·rw[hk]at hb;simp[dw]at hb ⊢;omega
      ·rw[<-hr,F.o]
      ·exact B.o.1.grown D.o.2 (fun e=>by have:=(O3.o.lt b e.symm).1;omega)
      ·exact dv G3.o D.o.2 (fun k hk=>(O3.o.lt k hk).1)
section
open Go.ChangeShapes Go.WideShapes Go.ChangeAt Go.RowKit
def lS:List (String × DataW Unit):=[("math/bits.deBruijn32tab",Rows.laid_math_bits_deBruijn32tab),("math/bits.deBruijn64tab",Rows.laid_math_bits_deBruijn64tab),("internal/strconv.uint64pow10",Rows.laid_internal_strconv_uint64pow10),("unicode/utf8.acceptRanges",Rows.laid_unicode_utf8_acceptRanges),("strconv.ErrRange",Rows.laid_strconv_ErrRange),("strconv.ErrSyntax",Rows.laid_strconv_ErrSyntax),("stairwell/patch.words",Rows.laid_stairwell_patch_words),("unicode/utf8.first",Rows.laid_unicode_utf8_first)]
def C4:DataW Unit->Array Value
 | .agg l=>(l.map fun | .lit (.string s)=>Value.string ⟨s.toArray⟩ | _=>.string ⟨#[]⟩).toArray
 | _=>#[]
noncomputable def kr (os:Os):World:=
 let w0:=World.holding Tryz.prog os ⟨#[.cells #[Aw Rows.laid_strconv_ErrRange] 278,.cells #[Aw Rows.laid_strconv_ErrSyntax] 278],#[],[]⟩
 { w0 with heap:=nF (nF (nF (nF (nF (nF (nF (nF w0.heap 3 (pu Rows.laid_math_bits_deBruijn32tab)) 4 (pu Rows.laid_math_bits_deBruijn64tab)) 1 (pu Rows.laid_internal_strconv_uint64pow10))
  8 (sE Rows.laid_unicode_utf8_acceptRanges)) 6 #[.iface 276 (.pointer (some ⟨low,0,none⟩))]) 5 #[.iface 276 (.pointer (some ⟨low+1,0,none⟩))])
  2 (C4 Rows.laid_stairwell_patch_words)) 7 (sE Rows.laid_unicode_utf8_first) }
theorem Af(os:Os)(args:Array Value):laidMet Tryz.prog lS ((kr os).forCall (fun _ _=>0) ⟨#[],args,[]⟩).memory:=
 laidMet_of_run' 8 (by kernel_rfl) (by kernel_rfl)
end
end Go.Proofs.YtgolnaencepejaaGreatDoor
