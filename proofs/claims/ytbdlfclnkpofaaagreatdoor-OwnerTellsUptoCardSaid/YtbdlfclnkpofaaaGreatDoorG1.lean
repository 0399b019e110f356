import Derived.Shelf.Small.Strs
import Derived.Shelf.Small.Wraps
import Derived.Shelf.Strings.BuilderK
import Derived.Shelf.Utf8.RuneCount
import Derived.Shelf.Strings.Builder2Cap
import Derived.Shelf.Strconv.Itoa3
import Derived.Shelf.Strconv.ErrVarAll
import Derived.Shelf.Strconv.ParseUintEmpty
import Derived.Shelf.Strconv.ParseUint10b64
import Derived.Shelf.Strconv.ParseUint10b32
import Derived.Shelf.Strconv.ParseUint10b16
import Derived.Shelf.Strconv.ParseUint10b8
import Derived.Shelf.Strings.Shaped
import Derived.Shelf.Strings.SplitShaped
import Derived.Shelf.Strings.Explode
import Derived.Shelf.Unicode.DecodeAny
import Derived.Shelf.Slices.Turned
import Derived.Shelf.Slices.Empties2
import Derived.Shelf.SlicesE.IndexFunc
import Derived.Shelf.SlSortCmp.NoneTotal
import Derived.WalkSpells
import Derived.WalkLawsBesides
import Derived.Deep.RegionHeld3
import Derived.Deep.AppendLies
import Derived.ProofKit
import Derived.OpenShut
import Derived.ShutString
import Derived.Deep.DeepWitnessRowRef
import Derived.Test.YtbdlfclnkpofaaaGreatDoorCards
import Derived.Test.YtbdlfclnkpofaaaGreatDoorTie
import Derived.Stop.LaidErr
import Derived.Lib.AppendZeros
import Derived.Laws.AppendOwnNone
set_option maxRecDepth 100000
set_option maxHeartbeats 40000000
set_option linter.unusedSimpArgs false
set_option linter.unusedVariables false
namespace Go.Proofs
open Go.Shelf
open Tryz
def Tryz.lays137_ren:Go.Shelf.Ren:=⟨fun | 137=>105 | 217=>144 | 266=>161 | n=>n,fun | 9=>9 | 5=>5 | 3=>3 | n=>n,fun | n=>n⟩
theorem Tryz.lays137:Go.Proofs.Lays.n137 prog Tryz.lays137_ren:={
 mixed:=by kernel_rfl
 f137:=func105.trans (congrArg some (by kernel_rfl))
 f217:=func144.trans (congrArg some (by kernel_rfl))
 f266:=func161.trans (congrArg some (by kernel_rfl))
 t3:=underlying3
 a3:=isAgg3
 z3:=sizeOf3
 v3:=zeroValue3
 t5:=underlying5
 a5:=isAgg5
 z5:=sizeOf5
 v5:=zeroValue5
 t9:=underlying9
 a9:=isAgg9
 z9:=sizeOf9
 v9:=zeroValue9 }
open Go.RowKit in
theorem Tryz.strings_IndexByte (s:ByteArray) (c:Int) (w:World) :
 Calls prog 105 #[.string s,.int .u8 c] w fun e w'=>e=.returned (.int .i64 (Lib.indexByte s.data.toList c.toNat.toUInt8))/\w'=w:=Any.strings_IndexByte Tryz.lays137 s c w
def Tryz.laysM171_ren:Go.Shelf.Ren:=⟨fun | 171=>143 | 243=>160 | 246=>174 | 283=>183 | 284=>184 | 285=>185 | 286=>186 | 129=>120 | 317=>194 | 318=>195 | 319=>196 | 320=>197 | 337=>200 | 338=>201 | n=>n,fun | 3=>3 | 9=>9 | 2=>2 | 4=>4 | 171=>178 | 0=>0 | 53=>132 | 37=>67 | 5=>5 | 173=>180 | 212=>188 | 51=>130 | 20=>20 | 213=>189 | 46=>98 | 232=>198 | 233=>199 | n=>n,fun | 17=>3 | 18=>6 | 19=>7 | n=>n⟩
theorem Tryz.laysM171:Go.Proofs.LaysM.n171 prog Tryz.laysM171_ren:={
 mixed:=by kernel_rfl
 f129:=func120.trans (congrArg some (by kernel_rfl))
 f171:=func143.trans (congrArg some (by kernel_rfl))
 f243:=func160.trans (congrArg some (by kernel_rfl))
 f246:=func174.trans (congrArg some (by kernel_rfl))
 f283:=func183.trans (congrArg some (by kernel_rfl))
 f284:=func184.trans (congrArg some (by kernel_rfl))
 f285:=func185.trans (congrArg some (by kernel_rfl))
 f286:=func186.trans (congrArg some (by kernel_rfl))
 f317:=func194.trans (congrArg some (by kernel_rfl))
 f318:=func195.trans (congrArg some (by kernel_rfl))
 f319:=func196.trans (congrArg some (by kernel_rfl))
 f320:=func197.trans (congrArg some (by kernel_rfl))
 f337:=func200.trans (congrArg some (by kernel_rfl))
 f338:=func201.trans (congrArg some (by kernel_rfl))
 t0:=underlying0
 a0:=isAgg0
 z0:=sizeOf0
 v0:=zeroValue0
 t2:=underlying2
 a2:=isAgg2
 z2:=sizeOf2
 v2:=zeroValue2
 t3:=underlying3
 a3:=isAgg3
 z3:=sizeOf3
 v3:=zeroValue3
 t4:=underlying4
 a4:=isAgg4
 z4:=sizeOf4
 v4:=zeroValue4
 t5:=underlying5
 a5:=isAgg5
 z5:=sizeOf5
 v5:=zeroValue5
 t9:=underlying9
 a9:=isAgg9
 z9:=sizeOf9
 v9:=zeroValue9
 t20:=underlying20
 a20:=isAgg20
 z20:=sizeOf20
 v20:=zeroValue20
 t37:=underlying67
 a37:=isAgg67
 z37:=sizeOf67
 v37:=zeroValue67
 t46:=underlying98
 a46:=isAgg98
 z46:=sizeOf98
 v46:=zeroValue98
 t51:=underlying130
 a51:=isAgg130
 z51:=sizeOf130
 v51:=zeroValue130
 t53:=underlying132
 a53:=isAgg132
 z53:=sizeOf132
 v53:=zeroValue132
 t171:=underlying178
 a171:=isAgg178
 z171:=sizeOf178
 v171:=zeroValue178
 t173:=underlying180
 a173:=isAgg180
 z173:=sizeOf180
 v173:=zeroValue180
 t212:=underlying188
 a212:=isAgg188
 z212:=sizeOf188
 v212:=zeroValue188
 t213:=underlying189
 a213:=isAgg189
 z213:=sizeOf189
 t232:=underlying198
 a232:=isAgg198
 z232:=sizeOf198
 v232:=zeroValue198
 t233:=underlying199
 a233:=isAgg199
 z233:=sizeOf199
 v233:=zeroValue199
 g17:=by kernel_rfl
 g18:=by kernel_rfl
 g19:=by kernel_rfl
 i0:=by kernel_rfl
 i2:=by kernel_rfl
 i3:=by kernel_rfl
 i4:=by kernel_rfl
 i5:=by kernel_rfl
 i9:=by kernel_rfl
 i20:=by kernel_rfl
 i37:=by kernel_rfl
 i46:=by kernel_rfl
 i51:=by kernel_rfl
 i53:=by kernel_rfl
 i171:=by kernel_rfl
 i173:=by kernel_rfl
 i212:=by kernel_rfl
 i232:=by kernel_rfl
 i233:=by kernel_rfl
 m17:=by kernel_rfl
 m18:=by kernel_rfl
 m19:=by kernel_rfl }
def Tryz.laysC172_ren:Go.Shelf.Ren:=⟨fun | 172=>142 | 244=>158 | 245=>159 | 247=>169 | 279=>170 | 280=>171 | 281=>172 | 282=>173 | 287=>180 | 316=>181 | 171=>143 | 205=>182 | 321=>192 | 322=>193 | 243=>160 | 246=>174 | 283=>183 | 284=>184 | 285=>185 | 286=>186 | 129=>120 | 317=>194 | 318=>195 | 319=>196 | 320=>197 | 337=>200 | 338=>201 | n=>n,fun | 9=>9 | 3=>3 | 75=>117 | 76=>119 | 4=>4 | 5=>5 | 167=>162 | 37=>67 | 0=>0 | 85=>163 | 2=>2 | 168=>165 | 53=>132 | 175=>173 | 46=>98 | 210=>176 | 127=>142 | 145=>186 | 143=>184 | 21=>21 | 171=>178 | 173=>180 | 212=>188 | 51=>130 | 20=>20 | 213=>189 | 232=>198 | 233=>199 | 80=>111 | n=>n,fun | 15=>1 | 16=>2 | 17=>3 | 18=>6 | 19=>7 | n=>n⟩
theorem Tryz.laysC172:Go.Proofs.LaysC.n172 prog Tryz.laysC172_ren:={
 mixed:=by kernel_rfl
 f129:=func120.trans (congrArg some (by kernel_rfl))
 f171:=func143.trans (congrArg some (by kernel_rfl))
 f172:=func142.trans (congrArg some (by kernel_rfl))
 f205:=func182.trans (congrArg some (by kernel_rfl))
 f243:=func160.trans (congrArg some (by kernel_rfl))
 f244:=func158.trans (congrArg some (by kernel_rfl))
 f245:=func159.trans (congrArg some (by kernel_rfl))
 f246:=func174.trans (congrArg some (by kernel_rfl))
 f247:=func169.trans (congrArg some (by kernel_rfl))
 f279:=func170.trans (congrArg some (by kernel_rfl))
 f280:=func171.trans (congrArg some (by kernel_rfl))
 f281:=func172.trans (congrArg some (by kernel_rfl))
 f282:=func173.trans (congrArg some (by kernel_rfl))
 f283:=func183.trans (congrArg some (by kernel_rfl))
 f284:=func184.trans (congrArg some (by kernel_rfl))
 f285:=func185.trans (congrArg some (by kernel_rfl))
 f286:=func186.trans (congrArg some (by kernel_rfl))
 f287:=func180.trans (congrArg some (by kernel_rfl))
 f316:=func181.trans (congrArg some (by kernel_rfl))
 f317:=func194.trans (congrArg some (by kernel_rfl))
 f318:=func195.trans (congrArg some (by kernel_rfl))
 f319:=func196.trans (congrArg some (by kernel_rfl))
 f320:=func197.trans (congrArg some (by kernel_rfl))
 f321:=func192.trans (congrArg some (by kernel_rfl))
 f322:=func193.trans (congrArg some (by kernel_rfl))
 f337:=func200.trans (congrArg some (by kernel_rfl))
 f338:=func201.trans (congrArg some (by kernel_rfl))
 t0:=underlying0
 a0:=isAgg0
 z0:=sizeOf0
 v0:=zeroValue0
 t2:=underlying2
 a2:=isAgg2
 z2:=sizeOf2
 v2:=zeroValue2
 t3:=underlying3
 a3:=isAgg3
 z3:=sizeOf3
 v3:=zeroValue3
 t4:=underlying4
 a4:=isAgg4
 z4:=sizeOf4
 v4:=zeroValue4
 t5:=underlying5
 a5:=isAgg5
 z5:=sizeOf5
 v5:=zeroValue5
 t9:=underlying9
 a9:=isAgg9
 z9:=sizeOf9
 v9:=zeroValue9
 t20:=underlying20
 a20:=isAgg20
 z20:=sizeOf20
 v20:=zeroValue20
 t21:=underlying21
 a21:=isAgg21
 z21:=sizeOf21
 v21:=zeroValue21
 t37:=underlying67
 a37:=isAgg67
 z37:=sizeOf67
 v37:=zeroValue67
 t46:=underlying98
 a46:=isAgg98
 z46:=sizeOf98
 v46:=zeroValue98
 t51:=underlying130
 a51:=isAgg130
 z51:=sizeOf130
 v51:=zeroValue130
 t53:=underlying132
 a53:=isAgg132
 z53:=sizeOf132
 v53:=zeroValue132
 t75:=underlying117
 a75:=isAgg117
 z75:=sizeOf117
 v75:=zeroValue117
 t76:=underlying119
 a76:=isAgg119
 z76:=sizeOf119
 v76:=zeroValue119
 t85:=underlying163
 a85:=isAgg163
 z85:=sizeOf163
 v85:=zeroValue163
 t127:=underlying142
 a127:=isAgg142
 z127:=sizeOf142
 v127:=zeroValue142
 t143:=underlying184
 a143:=isAgg184
 z143:=sizeOf184
 v143:=zeroValue184
 t145:=underlying186
 a145:=isAgg186
 z145:=sizeOf186
 v145:=zeroValue186
 t167:=underlying162
 a167:=isAgg162
 z167:=sizeOf162
 v167:=zeroValue162
 t168:=underlying165
 a168:=isAgg165
 z168:=sizeOf165
 v168:=zeroValue165
 t171:=underlying178
 a171:=isAgg178
 z171:=sizeOf178
 v171:=zeroValue178
 t173:=underlying180
 a173:=isAgg180
 z173:=sizeOf180
 v173:=zeroValue180
 t175:=underlying173
 a175:=isAgg173
 z175:=sizeOf173
 v175:=zeroValue173
 t210:=underlying176
 a210:=isAgg176
 z210:=sizeOf176
 v210:=zeroValue176
 t212:=underlying188
 a212:=isAgg188
 z212:=sizeOf188
 v212:=zeroValue188
 t213:=underlying189
 a213:=isAgg189
 z213:=sizeOf189
 t232:=underlying198
 a232:=isAgg198
 z232:=sizeOf198
 v232:=zeroValue198
 t233:=underlying199
 a233:=isAgg199
 z233:=sizeOf199
 v233:=zeroValue199
 g15:=by kernel_rfl
 g16:=by kernel_rfl
 g17:=by kernel_rfl
 g18:=by kernel_rfl
 g19:=by kernel_rfl
 t80:=underlying111
 a80:=isAgg111
 z80:=sizeOf111
 v80:=zeroValue111
 i0:=by kernel_rfl
 i2:=by kernel_rfl
 i3:=by kernel_rfl
 i4:=by kernel_rfl
 i5:=by kernel_rfl
 i9:=by kernel_rfl
 i20:=by kernel_rfl
 i21:=by kernel_rfl
 i37:=by kernel_rfl
 i46:=by kernel_rfl
 i51:=by kernel_rfl
 i53:=by kernel_rfl
 i75:=by kernel_rfl
 i76:=by kernel_rfl
 i80:=by kernel_rfl
 i85:=by kernel_rfl
 i127:=by kernel_rfl
 i143:=by kernel_rfl
 i145:=by kernel_rfl
 i167:=by kernel_rfl
 i168:=by kernel_rfl
 i171:=by kernel_rfl
 i173:=by kernel_rfl
 i175:=by kernel_rfl
 i210:=by kernel_rfl
 i212:=by kernel_rfl
 i232:=by kernel_rfl
 i233:=by kernel_rfl
 m15:=by kernel_rfl
 m16:=by kernel_rfl
 m17:=by kernel_rfl
 m18:=by kernel_rfl
 m19:=by kernel_rfl
 c0:=by kernel_rfl
 c2:=by kernel_rfl
 c3:=by kernel_rfl
 c4:=by kernel_rfl
 c5:=by kernel_rfl
 c9:=by kernel_rfl
 c20:=by kernel_rfl
 c21:=by kernel_rfl
 c37:=by kernel_rfl
 c46:=by kernel_rfl
 c51:=by kernel_rfl
 c53:=by kernel_rfl
 c75:=by kernel_rfl
 c76:=by kernel_rfl
 c80:=by kernel_rfl
 c85:=by kernel_rfl
 c127:=by kernel_rfl
 c143:=by kernel_rfl
 c145:=by kernel_rfl
 c167:=by kernel_rfl
 c168:=by kernel_rfl
 c171:=by kernel_rfl
 c173:=by kernel_rfl
 c175:=by kernel_rfl
 c210:=by kernel_rfl
 c212:=by kernel_rfl
 c213:=by kernel_rfl
 c232:=by kernel_rfl
 c233:=by kernel_rfl }
def Tryz.lays99_ren:Go.Shelf.Ren:=⟨fun | 99=>86 | 206=>124 | n=>n,fun | 9=>9 | 4=>4 | 3=>3 | n=>n,fun | n=>n⟩
theorem Tryz.lays99:Go.Proofs.Lays.n99 prog Tryz.lays99_ren:={
 mixed:=by kernel_rfl
 f99:=func86.trans (congrArg some (by kernel_rfl))
 f206:=func124.trans (congrArg some (by kernel_rfl))
 t3:=underlying3
 a3:=isAgg3
 z3:=sizeOf3
 v3:=zeroValue3
 t4:=underlying4
 a4:=isAgg4
 z4:=sizeOf4
 v4:=zeroValue4
 t9:=underlying9
 a9:=isAgg9
 z9:=sizeOf9
 v9:=zeroValue9 }
open Go.RowKit Go.Lib in
theorem Tryz.strings_HasPrefix (s p:ByteArray) (w:World) :
 Calls prog 86 #[.string s,.string p] w fun e w'=>e=.returned (.bool (Lib.hasPrefix s.data.toList p.data.toList))/\w'=w:=Any.strings_HasPrefix Tryz.lays99 s p w
def Tryz.lays109_ren:Go.Shelf.Ren:=⟨fun | 109=>152 | n=>n,fun | 31=>22 | 9=>9 | 3=>3 | 0=>0 | 4=>4 | n=>n,fun | n=>n⟩
theorem Tryz.lays109:Go.Proofs.Lays.n109 prog Tryz.lays109_ren:={
 mixed:=by kernel_rfl
 f109:=func152.trans (congrArg some (by kernel_rfl))
 t0:=underlying0
 a0:=isAgg0
 z0:=sizeOf0
 v0:=zeroValue0
 t3:=underlying3
 a3:=isAgg3
 z3:=sizeOf3
 v3:=zeroValue3
 t4:=underlying4
 a4:=isAgg4
 z4:=sizeOf4
 v4:=zeroValue4
 t9:=underlying9
 a9:=isAgg9
 z9:=sizeOf9
 v9:=zeroValue9
 t31:=underlying22
 a31:=isAgg22
 z31:=sizeOf22
 v31:=zeroValue22 }
open Go.Lib in
theorem Tryz.slices_Index_string (b off n c:Nat) (zs:List ByteArray) (x:ByteArray) (w:World) (hz:n<=zs.length) (hbig:n<=9223372036854775807) (hc:∀ j,j < zs.length->w.cell? ⟨b,off+j,none⟩=some (.string (zs.getD j ByteArray.empty))) :
 Calls prog 152 #[.slice (some ⟨b,off,none⟩) n c,.string x] w fun e w'=>e=.returned (.int .i64 (Lib.idxOfS (zs.take n) x))/\w'=w:=Any.slices_Index_string Tryz.lays109 b off n c zs x w hz hbig hc
open Go.Lib in
theorem Tryz.slices_Index_string_empty (a:Option Addr) (c:Nat) (x:ByteArray) (w:World) :
 Calls prog 152 #[.slice a 0 c,.string x] w fun e w'=>e=.returned (.int .i64 (Lib.idxOfS [] x))/\w'=w:=Any.slices_Index_string_empty Tryz.lays109 a c x w
end Go.Proofs
namespace Go.Proofs.YtbdlfclnkpofaaaGreatDoor
open Go.RowKit
open _root_.Go.Proofs.Tryz
variable {w w':World}
def Ll (p:Prop):Prop:=p
theorem Ll.o {p:Prop} (h:Ll p):p:=h
abbrev La (w w':World):Prop:=Below (w.heap.size) w w'
abbrev Lj (ok:Nat->Prop) (w:World) (k:Nat):Prop:=ok k/\k < w.heap.size
abbrev Lz:=(List UInt8:Type)
abbrev LC:=(World:Type)
theorem LE {P:Program} {n:FuncId} {xs:Array Value} {w:World} {v:Value} {Q:Ending->World->Prop} (h:Calls P n xs w fun e w'=>e=.returned v/\w'=w) (k:Q (.returned v) w):Calls P n xs w Q:=h.mono fun e w' h=>h.1 ▸ h.2 ▸ k
theorem Lk {P:Program} {n:FuncId} {xs:Array Value} {w:World} {v:Value} {B:World->Prop} {Q:Ending->World->Prop} (h:Calls P n xs w fun e w'=>e=.returned v/\B w') (k:∀ w',B w'->Q (.returned v) w'):Calls P n xs w Q:=h.mono fun e w' h=>h.1 ▸ k w' h.2
theorem Mt {α:Type} (l:List α) (i:Nat) (a:α):l.toArray.setIfInBounds i a=(l.set i a).toArray:=List.setIfInBounds_toArray l i a
theorem Mu {α:Type} {x:α} {xs:List α} {a:α}:(x :: xs).set 0 a=a :: xs:=rfl
theorem Mv {α:Type} {x:α} {xs:List α} {i:Nat} {a:α}:(x :: xs).set (i+1) a=x :: xs.set i a:=rfl
theorem Mw {α:Type} {l:List α} {i:Nat} (h:i < l.length):l[i]?=some l[i]:=List.getElem?_eq_getElem h
theorem Mx {α:Type} {r s:List α}:(r++s).length=r.length+s.length:=List.length_append
theorem My {α:Type} {a:α} {r:List α}:(a :: r).length=r.length+1:=rfl
theorem Mz {α:Type} {i:Nat} {a:α} {l:List α}:l[i]?=some a↔∃ h,l[i]=a:=List.getElem?_eq_some_iff
theorem MB {α:Type} {i:Nat} {l:List α}:(l.drop i).length=l.length - i:=List.length_drop
theorem MC {α:Type} {i:Nat} {l:List α}:(l.take i).length=min i l.length:=List.length_take
theorem MD {α:Type} {i:Nat} {l:List α} (h:l.length<=i):l.take i=l:=List.take_of_length_le h
theorem ME {α:Type} {i:Nat} {l:List α} (h:i < l.length):l.drop i=l[i] :: l.drop (i+1):=List.drop_eq_getElem_cons h
theorem MF {α:Type} {i:Nat} {b:α} {xs:Array α}:xs[i]?=some b↔∃ h,xs[i]=b:=Array.getElem?_eq_some_iff
theorem MG (n:Nat):n<=n:=Nat.le_refl n
theorem MH {n m k:Nat} (h:n<=m) (h':m<=k):n<=k:=Nat.le_trans h h'
theorem MI {n m k:Nat} (h:n < m) (h':m<=k):n < k:=Nat.lt_of_lt_of_le h h'
theorem MJ (a b:Bool):((a&&b)=true)=(a=true/\b=true):=Bool.and_eq_true a b
theorem MK (B:Nat) (w:World):Below B w w:=Below.refl B w
theorem MM {P:Program} {fn:Func} {R:Ending->World->Prop} {a:Act} {w:World} {v:Value} (h:(results fn a.tmps).run P w=.ok v w) (h':a.defers=[]) (k:R (.returned v) w):bodyPost P fn R .ret a w:=bodyPost_ret h h' k
theorem MN (w:World) (o:Obj):(w.alloc o).heap[w.heap.size]?=some o:=heap_alloc_new w o
theorem MO {α:Type} [BEq α] [LawfulBEq α] {a b:α}:(a == b)=false↔a≠b:=beq_eq_false_iff_ne
theorem aa{p:Prop}(h:p):Ll p:=h
theorem az(w:World)(r):w.grownBy w r:=⟨rfl,rfl,rfl,Nat.le_refl _,fun _ _ _=>rfl⟩
theorem am{a:World}{r}(h:a.grownBy w r)(k:w.grownBy w' r):a.grownBy w' r:=
 ⟨k.os.trans h.os,k.tape.trans h.tape,k.output.trans h.output,Nat.le_trans h.size k.size,fun i hi hr=>(k.block i (Nat.lt_of_lt_of_le hi h.size) hr).trans (h.block i hi hr)⟩
theorem oD{a:World}{r}(h:a.grownBy w r):a.grownBy w.drew r:=⟨h.os,h.tape,h.output,h.size,h.block⟩
theorem cJ{a:World}{r}(h:a.grownBy w r)(n):a.grownBy (w.drewN n) r:=⟨h.os,h.tape,h.output,h.size,h.block⟩
theorem bd{a:World}{r}(h:a.grownBy w r)(o:Obj):a.grownBy (w.alloc o) r:=am h (World.grownBy_alloc w o r)
theorem ap{a:World}{b}(h:a.grownBy w (some b))(i v):a.grownBy (w.setCell ⟨b,i,none⟩ v) (some b):=
 am h ⟨rfl,rfl,rfl,by simp[World.setCell],fun k _ hr=>Below.heap_setCell w ⟨b,i,none⟩ v k (fun e=>hr (by rw[e]))⟩
theorem aq{r}(h:La w w'):w.grownBy w' r:=⟨h.os,h.tape,h.output,h.size,fun k hk _=>h.block k hk⟩
theorem bS(h:w.grownBy w' none):La w w':=⟨h.os,h.tape,h.output,h.size,fun k hk=>h.block k hk (by simp)⟩
theorem uk(w:World)(m n):(w.drewN m).drewN n=w.drewN (m+n):=by simp[World.drewN,Nat.add_assoc]
theorem ak{b}{c:Array Value}{t:TypeId}{f:Nat × Nat}(h:w.heap[b]?=some (.cells c t f))(i v):(w.setCell ⟨b,i,none⟩ v).heap[b]?=some (.cells (c.setIfInBounds i v) t f):=by
 have e:b < w.heap.size:=(Array.getElem?_eq_some_iff.1 h).1;simp[World.setCell,Array.getElem?_modify,h]
theorem Ep(a b:ByteArray):(a == b)=(a.data == b.data):=by cases a;cases b;rfl
theorem Aq{a b:ByteArray}(h:a.data.toList≠b.data.toList):(a == b)=false:=by
 rw[Ep,beq_eq_false_iff_ne];exact fun e=>h (by rw[e])
theorem zN{a b:ByteArray}(h:a.data.toList=b.data.toList):(a == b)=true:=by
 rw[Ep,beq_iff_eq];exact Array.toList_inj.1 h
def dW (n:Int):Prop:=-9223372036854775808<=n/\n<=9223372036854775807
def aR (l:List UInt8):Value:=.string ⟨l.toArray⟩
theorem ae(w)(o:Obj):La w (w.alloc o):=(Below.refl _ w).alloc (Nat.le_refl _) _
theorem ab{a b c}(h:La a b)(k:La b c):La a c:=h.trans (k.mono h.size)
theorem fb(w:World)(o1 o2:Obj):((w.alloc o1).alloc o2).heap[w.heap.size]?=some o1:=by
 have:=World.grownBy_alloc (w.alloc o1) o2 none;rw[this.block _ (by simp) (by simp)];exact heap_alloc_new w o1
theorem et(w:World)(o1 o2:Obj):((w.alloc o1).alloc o2).heap[w.heap.size+1]?=some o2:=by
 have:=heap_alloc_new (w.alloc o1) o2;simpa using this
theorem ah(hb:La w w'){a x}(h:w.cell? a=some x):w'.cell? a=some x:=by
 rw[World.cell?_of_block (hb.block _ (World.block_lt_of_cell? w _ h))];exact h
theorem aC(w n):La w (w.drewN n):=⟨rfl,rfl,rfl,Nat.le_refl _,fun _ _=>rfl⟩
variable {ok ok':Nat->Prop}
variable {v:Value}
variable {g n:Nat}
structure V where
 kind:Int
 n:Int
 s:Lz
 keys:List Lz
 l:List V
def ao (w:LC) (ok:Nat->Prop) (xs:List Lz) (v:Value):Prop:=
 xs.length<=maxLen/\(xs=[]/\(∃ a,v=.slice a 0 0)\/∃ b off c,v=.slice (some ⟨b,off,none⟩) xs.length c/\xs.length<=c/\c<=maxLen /\
  ∀ i x,xs[i]?=some x->x.length<=maxLen/\ok b/\w.cell? ⟨b,off+i,none⟩=some (aR x))
def cS (w:LC) (ok:Nat->Prop) (R:V->Value->Prop) (xs:List V) (v:Value):Prop:=
 xs.length<=maxLen/\(xs=[]/\(∃ a,v=.slice a 0 0)\/∃ b off c,v=.slice (some ⟨b,off,none⟩) xs.length c/\xs.length<=c/\c<=maxLen /\
  ∀ i x,xs[i]?=some x->∃ v0 v1 v2 v3 v4,ok b/\w.cell? ⟨b,off+i * 5,none⟩=some v0/\w.cell? ⟨b,off+i * 5+1,none⟩=some v1/\w.cell? ⟨b,off+i * 5+2,none⟩=some v2 /\
   w.cell? ⟨b,off+i * 5+3,none⟩=some v3/\w.cell? ⟨b,off+i * 5+4,none⟩=some v4/\R x (.agg #[v0,v1,v2,v3,v4]))
def bu (w:LC) (ok:Nat->Prop):Nat->V->Value->Prop
 | 0,_,_=>False
 | n+1,t,v=>∃ ks ls,v=.agg #[.int .i64 t.kind,.int .i64 t.n,aR t.s,ks,ls]/\dW t.kind/\dW t.n/\t.s.length<=maxLen/\ao w ok t.keys ks/\cS w ok (bu w ok n) t.l ls
theorem ao.imp{xs}(h:ao w ok xs v)(hc:∀ a x,ok a.block->w.cell? a=some x->ok' a.block/\w'.cell? a=some x):ao w' ok' xs v:=by
 refine⟨h.1,?_⟩;rcases h.2 with h | ⟨b,off,c,e,h1,h2,h3⟩
 ·exact .inl h
 ·refine .inr ⟨b,off,c,e,h1,h2,fun i x hx=>?_⟩;obtain⟨g1,g2,g3⟩:=h3 i x hx;exact⟨g1,hc ⟨b,off+i,none⟩ _ g2 g3⟩
theorem cS.imp{R R':V->Value->Prop}{xs}(h:cS w ok R xs v)(hc:∀ a x,ok a.block->w.cell? a=some x->ok' a.block/\w'.cell? a=some x)(hR:∀ x v,x∈xs->R x v->R' x v):cS w' ok' R' xs v:=by
 refine⟨h.1,?_⟩;rcases h.2 with h | ⟨b,off,c,e,h1,h2,h3⟩
 ·exact .inl h
 ·refine .inr ⟨b,off,c,e,h1,h2,fun i x hx=>?_⟩;obtain⟨v0,v1,v2,v3,v4,g,g0,g1,g2,g3,g4,g5⟩:=h3 i x hx;exact⟨v0,v1,v2,v3,v4,(hc ⟨b,off+i * 5,none⟩ _ g g0).1,(hc ⟨b,off+i * 5,none⟩ _ g g0).2,(hc ⟨b,_,none⟩ _ g g1).2,(hc ⟨b,_,none⟩ _ g g2).2,(hc ⟨b,_,none⟩ _ g g3).2,(hc ⟨b,_,none⟩ _ g g4).2,
   hR _ _ (List.mem_of_getElem? hx) g5⟩
theorem bu.imp(hc:∀ a x,ok a.block->w.cell? a=some x->ok' a.block/\w'.cell? a=some x)(n):∀ {t:V} {v:Value},bu w ok n t v->bu w' ok' n t v:=by
 induction n with
 | zero=>intro t v h;exact h
 | succ n ih=>
  intro t v h;obtain⟨ks,ls,e,h1,h2,h3,h4,h5⟩:=h;exact⟨ks,ls,e,h1,h2,h3,h4.imp hc,h5.imp hc fun x v _ h=>ih h⟩
theorem bu.succ(n):∀ {t:V} {v:Value},bu w ok n t v->bu w ok (n+1) t v:=by
 induction n with
 | zero=>intro t v h;exact h.elim
 | succ n ih=>
  intro t v h;obtain⟨ks,ls,e,h1,h2,h3,h4,h5⟩:=h;exact⟨ks,ls,e,h1,h2,h3,h4,h5.imp (fun a x h1 h2=>⟨h1,h2⟩) fun x v _ h=>ih h⟩
theorem bu.le{m}(hnm:n<=m){t}(h:bu w ok n t v):bu w ok m t v:=by
 induction hnm with
 | refl=>exact h
 | step _ ih=>exact ih.succ
theorem eJ{r:Option Nat}(hg:w.grownBy w' r)(hr:∀ k,ok k->some k≠r):∀ a x,ok a.block->w.cell? a=some x->ok a.block/\w'.cell? a=some x:=
 fun a x h1 h2=>⟨h1,hg.cell h2 (hr _ h1)⟩
theorem bu.grown{r t}(h:bu w ok n t v)(hg:w.grownBy w' r)(hr:∀ k,ok k->some k≠r):bu w' ok n t v:=
 bu.imp (eJ hg hr) n h
theorem bu.below{t}(h:bu w ok n t v):bu w (Lj ok w) n t v:=
 bu.imp (fun a x h1 h2=>⟨⟨h1,World.block_lt_of_cell? w a h2⟩,h2⟩) n h
theorem bu.weak{t}(h:bu w ok n t v)(hk:∀ k,ok k->ok' k):bu w ok' n t v:=
 bu.imp (fun a x h1 h2=>⟨hk _ h1,h2⟩) n h
theorem bu.same{t}(h:bu w ok n t v)(e:w'.heap=w.heap):bu w' ok n t v:=
 bu.imp (fun a x h1 h2=>⟨h1,(World.cell?_of_block (by rw[e])).trans h2⟩) n h
theorem ye:(prog.info? 25).map (fun i=>(i.zero,i.size,i.bytes))=some (some (.agg #[.int .i64 0,.int .i64 0,.string ⟨#[]⟩,.slice none 0 0,.slice none 0 0]),5,80):=by kernel_rfl
theorem wG:(prog.info? 9).map (fun i=>(i.zero,i.size,i.bytes))=some (some (.string ⟨#[]⟩),1,16):=by kernel_rfl
def cz (k n:Int) (s:Lz):Value:=.agg #[.int .i64 k,.int .i64 n,aR s,.slice none 0 0,.slice none 0 0]
def ag (w:LC) (g:Nat) (c0 c1 c2 c3 c4:Value):Prop:=w.heap[g]?=some (.cells #[c0,c1,c2,c3,c4] 25)
theorem ag.c{c0 c1 c2 c3 c4}(h:ag w g c0 c1 c2 c3 c4):w.cell? ⟨g,0,none⟩=some c0/\w.cell? ⟨g,1,none⟩=some c1/\w.cell? ⟨g,2,none⟩=some c2/\w.cell? ⟨g,3,none⟩=some c3/\w.cell? ⟨g,4,none⟩=some c4 /\
 w.frozen? ⟨g,0,none⟩=false/\w.frozen? ⟨g,1,none⟩=false/\w.frozen? ⟨g,2,none⟩=false/\w.frozen? ⟨g,3,none⟩=false/\w.frozen? ⟨g,4,none⟩=false:=by
 unfold ag at h;refine⟨?_,?_,?_,?_,?_,?_,?_,?_,?_,?_⟩ <;> simp[World.cell?,World.frozen?,h]
theorem ag.grown{c0 c1 c2 c3 c4 r}(h:ag w g c0 c1 c2 c3 c4)(hg:w.grownBy w' r)(hr:some g≠r):ag w' g c0 c1 c2 c3 c4:=
 (hg.block g (MF.1 h).1 hr).trans h
theorem ag.lt{c0 c1 c2 c3 c4}(h:ag w g c0 c1 c2 c3 c4):g < w.heap.size:=(MF.1 h).1
def ar (w:LC) (g:Nat) (d0 d1 d2 d3 d4:Value):LC:=
 ((((w.setCell ⟨g,0,none⟩ d0).setCell ⟨g,1,none⟩ d1).setCell ⟨g,2,none⟩ d2).setCell ⟨g,3,none⟩ d3).setCell ⟨g,4,none⟩ d4
theorem ag.set{c0 c1 c2 c3 c4}(h:ag w g c0 c1 c2 c3 c4)(d0 d1 d2 d3 d4):ag (ar w g d0 d1 d2 d3 d4) g d0 d1 d2 d3 d4:=
 ak (ak (ak (ak (ak h 0 d0) 1 d1) 2 d2) 3 d3) 4 d4
theorem aI(w:LC)(g d0 d1 d2 d3 d4):w.grownBy (ar w g d0 d1 d2 d3 d4) (some g):=
 ap (ap (ap (ap (ap (az _ _) _ _) _ _) _ _) _ _) _ _
section
open Go.ChangeShapes Go.WideShapes Go.ChangeAt Go.RowKit
theorem G9:ownKnob Tryz.prog.godebug=none:=by kernel_rfl
theorem db:Tryz.prog.cellsOf 9=1:=by kernel_rfl
end
section
open Go.ChangeShapes Go.WideShapes Go.ChangeAt Go.RowKit
theorem kQ{P:Program}{W:World}{name:String}{cs:Array Value}{g:Nat}(hg:P.globalNamed name=some g)(h:W.var? P name=some cs):∃ t f,W.heap[g]?=some (.cells cs t f):=by
 unfold World.var? at h;rw[hg]at h;simp only[Option.bind_some]at h;split at h
 ·rename_i cs' t f e;cases h;exact⟨t,f,e⟩
 ·cases h
def pu:DataW Unit->Array Value
 | .agg l=>(l.map fun | .lit (.int k z)=>Value.int k z | _=>.int .u8 0).toArray
 | _=>#[]
def Aw:DataW Unit->Value
 | .iface _ (.ptr (.agg [.lit (.string l)]))=>.string ⟨l.toArray⟩
 | _=>.string ⟨#[]⟩
noncomputable def low:Nat:=(World.holding Tryz.prog default ⟨#[],#[],[]⟩).heap.size
def nF (h:Array Obj) (g:Nat) (cs:Array Value):Array Obj:=h.modify g fun
 | .cells _ t frozen=>.cells cs t frozen
 | o=>o
def sE:DataW Unit->Array Value
 | .agg l=>(l.flatMap fun | .agg m=>m.map (fun | .lit (.int k z)=>Value.int k z | _=>.int .u8 0) | .lit (.int k z)=>[Value.int k z] | _=>[]).toArray
 | _=>#[]
end
def cw (c:UInt8):Bool:=c == 32 || c == 9 || c == 10 || c == 13
def aA (c:UInt8) (l:List UInt8):Option (List UInt8):=
 match l.dropWhile cw with
 | []=>none
 | x :: r=>if x=c then some r else none
def sN (c:UInt8):Option Nat:=
 if 48<=c.toNat/\c.toNat<=57 then some (c.toNat - 48)
 else if 97<=c.toNat/\c.toNat<=102 then some (c.toNat - 87)
 else if 65<=c.toNat/\c.toNat<=70 then some (c.toNat - 55) else none
def tF:List UInt8->Option (Nat × List UInt8)
 | []=>none
 | c :: l=>(sN c).map fun d=>(d,l)
def ff:Nat->Nat->List UInt8->Option (Nat × List UInt8)
 | 0,n,l=>some (n,l)
 | k+1,n,l=>(tF l).bind fun p=>ff k (n * 16+p.1) p.2
def iJ (l:List UInt8):Option (UInt8 × List UInt8):=
 (ff 4 0 l).bind fun p=>if p.1 < 128 then some (p.1.toUInt8,p.2) else none
def wl (c:UInt8):Option UInt8:=
 if c=34 then some 34 else if c=92 then some 92 else if c=98 then some 8 else if c=102 then some 12
 else if c=110 then some 10 else if c=114 then some 13 else if c=116 then some 9 else none
def ot:List UInt8->Option (UInt8 × List UInt8)
 | []=>none
 | c :: l=>if c=117 then iJ l else if c=47 then some (47,l) else (wl c).map fun x=>(x,l)
def T5:Nat->List UInt8->List UInt8->Option (List UInt8 × List UInt8)
 | 0,_,_=>none
 | _+1,_,[]=>none
 | n+1,acc,c :: l=>
  if c=34 then some (acc,l)
  else if c=92 then (ot l).bind fun p=>T5 n (acc++[p.1]) p.2
  else if c.toNat < 32\/127<=c.toNat then none
  else T5 n (acc++[c]) l
def iS (l:List UInt8):Option (List UInt8 × List UInt8):=
 (aA 34 l).bind fun l=>T5 (l.length+1) [] l
theorem DY{l}{p:Nat × List UInt8}(h:tF l=some p):p.2.length < l.length:=by
 cases l with
 | nil=>cases h
 | cons c l=>
  simp only[tF,Option.map_eq_some_iff]at h;obtain⟨d,_,rfl⟩:=h;simp
theorem Dq(k):∀ (n:Nat) (l:List UInt8) (p:Nat × List UInt8),ff k n l=some p->p.2.length<=l.length:=by
 induction k with
 | zero=>intro n l p h;simp only[ff,Option.some.injEq]at h;subst h;exact Nat.le_refl _
 | succ k ih=>
  intro n l p h;simp only[ff,Option.bind_eq_some_iff]at h;obtain⟨q,h1,h2⟩:=h;exact Nat.le_trans (ih _ _ _ h2) (Nat.le_of_lt (DY h1))
theorem U7{l}{p:UInt8 × List UInt8}(h:iJ l=some p):p.2.length<=l.length:=by
 simp only[iJ,Option.bind_eq_some_iff]at h;obtain⟨q,h1,h2⟩:=h;split at h2
 ·cases h2;exact Dq _ _ _ _ h1
 ·cases h2
theorem lL{l}{p:UInt8 × List UInt8}(h:ot l=some p):p.2.length < l.length:=by
 cases l with
 | nil=>cases h
 | cons c l=>
  simp only[ot]at h;split at h
  ·exact Nat.lt_succ_of_le (U7 h)
  ·split at h
   ·cases h;simp
   ·simp only[Option.map_eq_some_iff]at h;obtain⟨d,_,rfl⟩:=h;simp
theorem pi(n):∀ (m:Nat) (acc l:List UInt8),l.length < n->l.length < m->T5 n acc l=T5 m acc l:=by
 induction n with
 | zero=>intro m acc l h;omega
 | succ n ih=>
  intro m acc l h1 h2;cases m with
  | zero=>omega
  | succ m=>
   cases l with
   | nil=>rfl
   | cons c l=>
    simp only[T5];simp only[List.length_cons]at h1 h2;split
    ·rfl
    ·split
     ·cases he:ot l with
      | none=>rfl
      | some p=>
       have:=lL he;exact ih m _ _ (by omega) (by omega)
     ·split
      ·rfl
      ·exact ih m _ _ (by omega) (by omega)
theorem Bc(n):∀ (acc l:List UInt8) (p:List UInt8 × List UInt8),T5 n acc l=some p->p.2.length < l.length:=by
 induction n with
 | zero=>intro acc l p h;cases h
 | succ n ih=>
  intro acc l p h;cases l with
  | nil=>cases h
  | cons c l=>
   simp only[T5]at h;split at h
   ·cases h;simp
   ·split at h
    ·simp only[Option.bind_eq_some_iff]at h;obtain⟨q,h1,h2⟩:=h;have:=ih _ _ _ h2;have:=lL h1;simp only[List.length_cons];omega
    ·split at h
     ·cases h
     ·have:=ih _ _ _ h;simp only[List.length_cons];omega
theorem dX(l:List UInt8):(l.dropWhile cw).length<=l.length:=(List.dropWhile_sublist _).length_le
theorem bU{c l r}(h:aA c l=some r):r.length < l.length:=by
 unfold aA at h;have:=dX l;split at h
 ·cases h
 ·rename_i x t e;split at h
  ·cases h;rw[e]at this;simp only[List.length_cons]at this;omega
  ·cases h
theorem mL{l}{p:List UInt8 × List UInt8}(h:iS l=some p):p.2.length < l.length:=by
 simp only[iS,Option.bind_eq_some_iff]at h;obtain⟨q,h1,h2⟩:=h;have:=Bc _ _ _ _ h2;have:=bU h1;omega
theorem qe(c):(0<=Lib.indexByte [32,9,10,13] c)=(cw c=true):=by
 simp only[Lib.indexByte,cw,eq_iff_iff];by_cases h1:c=32
 ·subst h1;decide
 by_cases h2:c=9
 ·subst h2;decide
 by_cases h3:c=10
 ·subst h3;decide
 by_cases h4:c=13
 ·subst h4;decide
 simp[h1,h2,h3,h4,Ne.symm h1,Ne.symm h2,Ne.symm h3,Ne.symm h4]
variable {i:Nat}
def qP (w:LC) (b:Nat) (s:ByteArray) (i:Nat) (bad:Bool):Prop:=
 w.heap[b]?=some (.cells #[.string s,.int .i64 i,.bool bad] 93)/\i<=s.size/\s.size<=2000
theorem qP.c{b s bad}(h:qP w b s i bad):w.cell? ⟨b,0,none⟩=some (.string s)/\w.cell? ⟨b,1,none⟩=some (.int .i64 i)/\w.cell? ⟨b,2,none⟩=some (.bool bad)/\w.frozen? ⟨b,1,none⟩=false/\w.frozen? ⟨b,2,none⟩=false:=by
 obtain⟨h,_,_⟩:=h;refine⟨?_,?_,?_,?_,?_⟩ <;> simp[World.cell?,World.frozen?,h]
def eA (w:LC) (b:Nat) (s:ByteArray) (l:Lz) (bad:Bool):Prop:=∃ i,qP w b s i bad/\s.data.toList.drop i=l
theorem eA.of_heap{b s l bad}(h:eA w b s l bad)(e:w'.heap[b]?=w.heap[b]?):eA w' b s l bad:=by
 obtain⟨i,h,e2⟩:=h;exact⟨i,⟨e.trans h.1,h.2⟩,e2⟩
theorem eA.lt{b s l bad}(h:eA w b s l bad):b < w.heap.size:=by
 obtain⟨i,h,e2⟩:=h;exact(MF.1 h.1).1
theorem eA.len{b s l bad}(h:eA w b s l bad):l.length<=s.size/\s.size<=2000:=by
 obtain⟨i,h,e2⟩:=h;have e:s.data.toList.length=s.size:=by simp only[Array.length_toList];rfl
 have:=congrArg List.length e2;rw[MB,e]at this;exact⟨by omega,h.2.2⟩
theorem eA.nil{b s bad}(h:eA w b s [] bad):qP w b s s.size bad:=by
 obtain⟨i,h,e⟩:=h;have e1:s.data.toList.length<=i:=List.drop_eq_nil_iff.1 e;have h2:=h.2.1;have e2:s.data.toList.length=s.size:=by simp only[Array.length_toList];rfl
 have e:i=s.size:=by omega
 subst e;exact h
theorem eA.cons{b s c l bad}(h:eA w b s (c :: l) bad):∃ i,qP w b s i bad/\(∃ hi:i < s.size,s[i]=c)/\s.data.toList.drop (i+1)=l:=by
 obtain⟨i,h,e⟩:=h;have hi:i < s.data.toList.length:=by
  rcases Nat.lt_or_ge i s.data.toList.length with h | h
  ·exact h
  ·rw[List.drop_eq_nil_of_le h]at e;cases e
 rw[ME hi]at e;simp only[List.cons.injEq]at e;exact⟨i,h,⟨by rw[Array.length_toList]at hi;exact hi,e.1⟩,e.2⟩
theorem EA(w b s i bad)(h:qP w b s i bad):Calls prog 136 #[.pointer (some ⟨b,0,none⟩)] w fun e w'=>e=.returned (.tuple #[])/\qP w' b s s.size true/\w.grownBy w' (some b):=by
 have c0_:=h.c;have H:=aa h;have h3:=h.2.2;clear h;go_enter func136,ntmps136;go_wp2
 go_end0
 exact⟨rfl,⟨ak (ak H.o.1 2 _) 1 _,MG _,H.o.2.2⟩,ap (ap (az _ _) _ _) _ _⟩
theorem Ui(w b s l bad)(h:eA w b s l bad):Calls prog 136 #[.pointer (some ⟨b,0,none⟩)] w fun e w'=>e=.returned (.tuple #[])/\eA w' b s [] true/\w.grownBy w' (some b):=by
 obtain⟨i,h,_⟩:=h;refine(EA w b s i bad h).mono ?_;rintro e w' ⟨he,hr,hg⟩;exact⟨he,⟨s.size,hr,List.drop_eq_nil_of_le (by simp only[Array.length_toList];exact MG _)⟩,hg⟩
theorem Cb(w b s bad)(h:eA w b s [] bad):Calls prog 99 #[.pointer (some ⟨b,0,none⟩)] w fun e w'=>e=.returned (.int .u8 0)/\∃ n,w'=w.drewN n:=by
 have c0_:=h.nil.c;clear h;go_enter func99,ntmps99;go_wp2
 go_quiet (fail)
 go_wp2
 go_ret;exact⟨rfl,nq,rfl⟩
theorem xZ(w b s c l bad)(h:eA w b s (c :: l) bad):Calls prog 99 #[.pointer (some ⟨b,0,none⟩)] w fun e w'=>e=.returned (.int .u8 c.toNat)/\∃ n,w'=w.drewN n:=by
 obtain⟨i,h,⟨hi,hc⟩,hl⟩:=h.cons;have c0_:=h.c;have h3:=h.2.2;have Hc:=aa hc;clear h hl hc;have e1:((i:Int) == (s.size:Int))=false:=by rw[MO];omega
 go_enter func99,ntmps99;go_wp2
 go_quiet (fail)
 go_wp2
 go_quiet (fail)
 go_wp2
 go_ret;exact⟨by rw[Hc.o];rfl,_,uk _ _ _⟩
def cr (l:Lz):UInt8:=l.headD 0
theorem k9(w b s l bad)(h:eA w b s l bad):Calls prog 99 #[.pointer (some ⟨b,0,none⟩)] w fun e w'=>e=.returned (.int .u8 (cr l).toNat)/\∃ n,w'=w.drewN n:=by
 cases l with
 | nil=>exact Cb w b s bad h
 | cons c l=>exact xZ w b s c l bad h
theorem pZ(w b s bad)(h:eA w b s [] bad):Calls prog 138 #[.pointer (some ⟨b,0,none⟩)] w fun e w'=>e=.returned (.int .u8 0)/\eA w' b s [] true/\w.grownBy w' (some b):=by
 have c0_:=h.nil.c;have H:=aa h;clear h;go_enter func138,ntmps138;go_wp2
 go_quiet (fail)
 go_wp2_with fail
 refine(Ui _ b s [] bad (by exact H.o.of_heap rfl)).mono ?_;rintro e w' ⟨rfl,hr,hg⟩;go_wp2
 go_ret;exact⟨rfl,hr,am (cJ (az _ _) _) hg⟩
theorem sF(w b s c l bad)(h:eA w b s (c :: l) bad):Calls prog 138 #[.pointer (some ⟨b,0,none⟩)] w fun e w'=>e=.returned (.int .u8 c.toNat)/\eA w' b s l bad/\w.grownBy w' (some b):=by
 obtain⟨i,h,⟨hi,hc⟩,hl⟩:=h.cons;have c0_:=h.c;have h3:=h.2.2;have H:=aa h;have Hc:=aa hc;have Hl:=aa hl;clear h hl hc;have e1:((i:Int) == (s.size:Int))=false:=by rw[MO];omega
 go_enter func138,ntmps138;go_wp2
 go_quiet (fail)
 go_wp2
 go_quiet (fail)
 go_wp2
 go_ret;refine⟨by rw[Hc.o];rfl,⟨i+1,⟨?_,by omega,H.o.2.2⟩,Hl.o⟩,cJ (ap (az _ _) _ _) _⟩;exact ak H.o.1 1 _
def du (w:LC) (size:Nat) (v:Value) (n:Nat) (cells:List Value):Prop:=
 cells.length=n * size/\n<=1000000/\(∀ u∈cells,u.oneCell'=true)/\(v=.slice none 0 0/\n=0\/∃ ad c,v=.slice (some ad) n c/\∀ j u,cells[j]?=some u->w.cell? (ad.add j)=some u)
theorem du.below{size cells}(h:du w size v n cells)(hb:La w w'):du w' size v n cells:=by
 obtain⟨h1,h2,h3,h4⟩:=h;refine⟨h1,h2,h3,?_⟩;rcases h4 with h4 | ⟨ad,c,e,hc⟩
 ·exact .inl h4
 ·refine .inr ⟨ad,c,e,fun j u hj=>?_⟩;have:=hc j u hj;rw[World.cell?_of_block (hb.block _ (World.block_lt_of_cell? w _ this))];exact this
structure jY where
 v:Value
 n:Nat
 cells:List Value
def dl (ps:List jY):Nat:=(ps.map jY.n).sum
def fQ (ps:List jY):List Value:=(ps.map jY.cells).flatten
theorem kH(ps:List jY)(p:jY):dl (ps++[p])=dl ps+p.n:=by simp[dl]
theorem sr(ps:List jY)(p:jY):fQ (ps++[p])=fQ ps++p.cells:=by simp[fQ]
theorem js{ps:List jY}{p:jY}(h:ps[i]?=some p):ps.take (i+1)=ps.take i++[p]:=by rw[List.take_add_one,h];rfl
theorem eU(ps:List jY)(i):dl (ps.take i)<=dl ps:=by
 have h:ps=ps.take i++ps.drop i:=(List.take_append_drop i ps).symm;have:dl ps=dl (ps.take i)+dl (ps.drop i):=by
  have:=congrArg dl h;rw[this];simp only[dl,List.map_append,List.sum_append]
 omega
variable {t:V}
variable {d:Nat}
def aK (t:V):Bool:=decide (t.kind=5)&&decide (t.keys.length=t.l.length)
def TN (key:Lz):List Lz->Option Nat
 | []=>none
 | x :: xs=>if x=key then some 0 else (TN key xs).map (·+1)
def dO (t:V) (key:Lz):Option Nat:=if aK t then TN key t.keys else none
def aS (t:V) (key:Lz):Option V:=(dO t key).bind fun i=>t.l[i]?
def pS:Option Nat->Int
 | none=>-1
 | some n=>n
theorem iw{key xs}(h:TN key xs=some i):i < xs.length/\xs[i]?=some key:=by
 induction xs generalizing i with
 | nil=>cases h
 | cons x xs ih=>
  simp only[TN]at h;split at h
  ·rename_i e;cases h;simp[e]
  ·rw[Option.map_eq_some_iff]at h;obtain⟨j,hj,rfl⟩:=h;have:=ih hj;simpa using this
theorem zV(key):∀ (xs:List Lz) (i:Nat),Lib.idxFromS (xs.map fun l=>(⟨l.toArray⟩:ByteArray)) ⟨key.toArray⟩ i=pS ((TN key xs).map (·+i))
 | [],i=>rfl
 | x :: xs,i=>by
  have ih:=zV key xs (i+1);simp only[List.map_cons,Lib.idxFromS,TN];by_cases h:x=key
  ·subst h;simp[pS]
  ·rw[if_neg h];have e:¬((⟨x.toArray⟩:ByteArray)=⟨key.toArray⟩):=by intro e;apply h;simpa using e
   rw[if_neg e,ih];cases TN key xs with
   | none=>rfl
   | some k=>simp[pS];omega
theorem ao.form{xs}(h:ao w ok xs v):∃ a c,v=.slice a xs.length c:=by
 rcases h.2 with⟨rfl,a,e⟩ | ⟨b,off,c,e,_⟩
 ·exact⟨_,_,e⟩
 ·exact⟨_,_,e⟩
theorem cS.form{R:V->Value->Prop}{xs}(h:cS w ok R xs v):∃ a c,v=.slice a xs.length c:=by
 rcases h.2 with⟨rfl,a,e⟩ | ⟨b,off,c,e,_⟩
 ·exact⟨_,_,e⟩
 ·exact⟨_,_,e⟩
theorem ni(w ok d t v)(h:bu w ok d t v):Calls prog 125 #[v] w fun e w'=>e=.returned (.bool (aK t))/\La w w':=by
 match d,h with
 | d+1,h=>
  obtain⟨ks,ls,rfl,h1,h2,h3,h4,h5⟩:=h;obtain⟨a1,c1,rfl⟩:=h4.form;obtain⟨a2,c2,rfl⟩:=h5.form;have l1:=h4.1;have l2:=h5.1;unfold maxLen at l1 l2 h3;unfold aR;clear h4 h5 h1 h2;by_cases hk:t.kind=5
  ·by_cases hl:t.keys.length=t.l.length
   ·have e1:(t.kind == 5)=true:=by simp[hk]
    have e2:((t.keys.length:Int) == (t.l.length:Int))=true:=by simp[hl]
    have F:Ll (aK t=true):=aa (by simp[aK,hk,hl]);clear hk hl;go_enter func125,ntmps125;go_wp2
    go_ret;exact⟨by rw[F.o];rfl,(MK _ w).alloc (MG _) _⟩
   ·have e1:(t.kind == 5)=true:=by simp[hk]
    have e2:((t.keys.length:Int) == (t.l.length:Int))=false:=by rw[MO];omega
    have F:Ll (aK t=false):=aa (by simp[aK,hl]);clear hk hl;go_enter func125,ntmps125;go_wp2
    go_ret;exact⟨by rw[F.o];rfl,(MK _ w).alloc (MG _) _⟩
  ·have e1:(t.kind == 5)=false:=by simp[hk]
   have F:Ll (aK t=false):=aa (by simp[aK,hk]);clear hk;go_enter func125,ntmps125;go_wp2
   go_ret;exact⟨by rw[F.o];rfl,(MK _ w).alloc (MG _) _⟩
theorem Vs(w ok xs v key)(h:ao w ok xs v):Calls prog 152 #[v,aR key] w fun e w'=>e=.returned (.int .i64 (pS (TN key xs)))/\w'=w:=by
 obtain⟨hm,h⟩:=h;unfold maxLen at hm;rcases h with⟨rfl,a,rfl⟩ | ⟨b,off,c,rfl,h1,h2,h3⟩
 ·exact Tryz.slices_Index_string_empty a 0 ⟨key.toArray⟩ w
 ·refine(Tryz.slices_Index_string b off xs.length c (xs.map fun l=>(⟨l.toArray⟩:ByteArray)) ⟨key.toArray⟩ w (by simp) (by omega) ?_).mono ?_
  ·intro j hj;have hj':j < xs.length:=by simpa using hj
   have:=(h3 j xs[j] (Mw hj')).2.2;rw[this];simp[aR,hj']
  ·rintro e w' ⟨rfl,rfl⟩;refine⟨?_,rfl⟩;have e1:(xs.map fun l=>(⟨l.toArray⟩:ByteArray)).take xs.length=xs.map fun l=>(⟨l.toArray⟩:ByteArray):=MD (by simp);rw[e1,Lib.idxOfS,zV];cases TN key xs <;> rfl
theorem bu.bel(h:bu w ok d t v)(hb:La w w'):bu w' ok d t v:=h.grown (aq (r:=none) hb) (by simp)
theorem ao.bel{xs}(h:ao w ok xs v)(hb:La w w'):ao w' ok xs v:=h.imp (eJ (aq (r:=none) hb) (by simp))
theorem kJ(w ok d t v key)(h:bu w ok d t v):Calls prog 122 #[v,aR key] w fun e w'=>e=.returned (.int .i64 (pS (dO t key)))/\La w w':=by
 have H:=aa h;match d,h with
 | d+1,h=>
  obtain⟨ks,ls,rfl,h1,h2,h3,h4,h5⟩:=h;have K4:=aa h4;obtain⟨a1,c1,rfl⟩:=h4.form;obtain⟨a2,c2,rfl⟩:=h5.form;have l1:=h4.1;have l2:=h5.1;unfold maxLen at l1 l2 h3;unfold aR;clear h4 h5 h1 h2;go_enter func122,ntmps122;go_wp2_with fail
  refine Lk (ni _ ok _ t _ (by exact H.o.bel (ae _ _))) fun w1 hb1=>?_;have B1:=aa hb1;have e0:w1.cell? ⟨w.heap.size,3,none⟩=some (.slice a1 t.keys.length c1):=by
   rw[World.cell?_of_block (hb1.block _ (by simp))];simp
  clear hb1;cases hp:aK t with
  | true=>
   have F:Ll (dO t key=TN key t.keys):=aa (by simp[dO,hp]);go_wp2_with fail
   refine LE (Vs _ ok t.keys _ key (by exact K4.o.bel (ab (ae _ _) B1.o))) ?_;go_wp2_with fail
   go_ret;exact⟨by rw[F.o];rfl,ab (ae _ _) B1.o⟩
  | false=>
   have F:Ll (dO t key=none):=aa (by simp[dO,hp]);go_wp2_with fail
   go_ret;exact⟨by rw[F.o];rfl,ab (ae _ _) B1.o⟩
section
open Go.Lib (index count replaceK replaceAll split splitK)
theorem rK{old s}(h:old.isPrefixOf s=true)(hne:old≠[]):index s old=0:=by
 cases s with
 | nil=>
  cases old with
  | nil=>exact absurd rfl hne
  | cons a t=>simp[List.isPrefixOf]at h
 | cons b l=>rw[index,if_pos h]
theorem qy{old b l}(h:old.isPrefixOf (b :: l)=false):index (b :: l) old=if index l old=-1 then -1 else index l old+1:=by
 rw[index,if_neg (by rw[h];simp)];by_cases e:index l old=-1
 ·rw[if_pos (by rw[e];rfl),if_pos e]
 ·rw[if_neg (by simpa using e),if_neg e]
theorem kj{s old new}(hd:old≠new):replaceAll s old new=replaceK old new (count s old) s:=by
 unfold Go.Lib.replaceAll Go.Lib.replace;rw[if_neg (by simpa using hd)];unfold Go.Lib.replaceNum;rw[if_pos (.inl (by omega))]
theorem iP{old new}(hne:old≠[])(hd:old≠new):replaceAll [] old new=[]:=by
 rw[kj hd];have:index [] old=-1:=by
  cases old with
  | nil=>exact absurd rfl hne
  | cons a t=>rfl
 rw[Go.Lib.count_miss this];rfl
theorem kh{t old new}(hne:old≠[])(hd:old≠new):replaceAll (old++t) old new=new++replaceAll t old new:=by
 have hp:old.isPrefixOf (old++t)=true:=List.isPrefixOf_iff_prefix.2 ⟨t,rfl⟩;have hi:index (old++t) old=(0:Nat):=rK hp hne;rw[kj hd,kj hd,Go.Lib.count_hit hne hi,Nat.add_comm 1,Go.Lib.replaceK_hit _ _ _ _ 0 hi];simp
theorem gd{old new b l}(hne:old≠[])(hd:old≠new)(h:old.isPrefixOf (b :: l)=false):replaceAll (b :: l) old new=b :: replaceAll l old new:=by
 rw[kj hd,kj hd];have hs:=qy h;by_cases e:index l old=-1
 ·rw[if_pos e]at hs;rw[Go.Lib.count_miss e,Go.Lib.count_miss hs];rfl
 ·rw[if_neg e]at hs;obtain⟨i,hi⟩:∃ i:Nat,index l old=i:=⟨(index l old).toNat,by have:=Go.Lib.index_ge l old;omega⟩
  have hi2:index (b :: l) old=(i+1:Nat):=by rw[hs,hi];rfl
  rw[Go.Lib.count_hit hne hi,Go.Lib.count_hit hne hi2];have e1:(b :: l).drop (i+1+old.length)=l.drop (i+old.length):=by
   rw[show i+1+old.length=(i+old.length)+1 by omega];rfl
  rw[e1,Nat.add_comm 1,Go.Lib.replaceK_hit _ _ _ _ _ hi,Go.Lib.replaceK_hit _ _ _ _ _ hi2,e1];simp
def iq (c:UInt8):List UInt8:=if c=126 then [126,48] else if c=47 then [126,49] else [c]
def dY (s:List UInt8):List UInt8:=replaceAll (replaceAll s [126] [126,48]) [47] [126,49]
def bK (s:List UInt8):List UInt8:=replaceAll (replaceAll s [126,49] [47]) [126,48] [126]
theorem oJ(a b l):([a]:List UInt8).isPrefixOf (b :: l)=(a == b):=by simp[List.isPrefixOf]
theorem IU(s):replaceAll s [126] [126,48]=s.flatMap fun c=>if c=126 then [126,48] else [c]:=by
 induction s with
 | nil=>exact iP (by simp) (by simp)
 | cons c s ih=>
  rw[List.flatMap_cons];by_cases h:c=126
  ·subst h;rw[if_pos rfl,<-ih];exact kh (t:=s) (old:=[126]) (by simp) (by simp)
  ·rw[if_neg h,gd (by simp) (by simp) (by rw[oJ];simpa using fun e=>h e.symm),ih];rfl
theorem Km(s):replaceAll s [47] [126,49]=s.flatMap fun c=>if c=47 then [126,49] else [c]:=by
 induction s with
 | nil=>exact iP (by simp) (by simp)
 | cons c s ih=>
  rw[List.flatMap_cons];by_cases h:c=47
  ·subst h;rw[if_pos rfl,<-ih];exact kh (t:=s) (old:=[47]) (by simp) (by simp)
  ·rw[if_neg h,gd (by simp) (by simp) (by rw[oJ];simpa using fun e=>h e.symm),ih];rfl
theorem iR(s):dY s=s.flatMap iq:=by
 unfold dY;rw[IU,Km];induction s with
 | nil=>rfl
 | cons c s ih=>
  rw[List.flatMap_cons,List.flatMap_append,ih,List.flatMap_cons];congr 1
  unfold iq;by_cases h:c=126
  ·subst h;decide
  ·by_cases h2:c=47
   ·subst h2;decide
   ·simp[h,h2]
theorem Iu(s:List UInt8):replaceAll (s.flatMap iq) [126,49] [47]=s.flatMap fun c=>if c=126 then [126,48] else [c]:=by
 induction s with
 | nil=>exact iP (by simp) (by simp)
 | cons c s ih=>
  rw[List.flatMap_cons,List.flatMap_cons];unfold iq;by_cases h:c=126
  ·subst h;rw[if_pos rfl,if_pos rfl];show replaceAll (126 :: 48 :: s.flatMap iq) _ _=_;rw[gd (by simp) (by simp) (by simp[List.isPrefixOf]),gd (by simp) (by simp) (by simp[List.isPrefixOf]),ih];rfl
  ·rw[if_neg h,if_neg h];by_cases h2:c=47
   ·subst h2;rw[if_pos rfl,<-ih];exact kh (t:=s.flatMap iq) (old:=[126,49]) (by simp) (by simp)
   ·rw[if_neg h2];show replaceAll (c :: s.flatMap iq) _ _=_;rw[gd (by simp) (by simp) (by simp[List.isPrefixOf,Ne.symm h]),ih];rfl
theorem IF(s):replaceAll (s.flatMap fun c=>if c=126 then [126,48] else [c]) [126,48] [126]=s:=by
 induction s with
 | nil=>exact iP (by simp) (by simp)
 | cons c s ih=>
  rw[List.flatMap_cons];by_cases h:c=126
  ·subst h;rw[if_pos rfl];have:=kh (t:=s.flatMap fun c=>if c=126 then [126,48] else [c]) (old:=[126,48]) (new:=[126]) (by simp) (by simp);rw[this,ih];rfl
  ·rw[if_neg h];show replaceAll (c :: s.flatMap fun c=>if c=126 then [126,48] else [c]) _ _=_;rw[gd (by simp) (by simp) (by simp[List.isPrefixOf,Ne.symm h]),ih]
theorem jJ(s):bK (s.flatMap iq)=s:=by
 unfold bK;rw[Iu,IF]
def br:List UInt8->Bool
 | []=>true
 | c :: r=>(c != 126 || (match r with | d :: _=>d == 48 || d == 49 | []=>false))&&br r
theorem dZ(c r)(h:c≠126):br (c :: r)=br r:=by
 simp[br,h]
theorem jn(d r):br (126 :: d :: r)=((d == 48 || d == 49)&&br r):=by
 by_cases h:d=126
 ·subst h;simp[br]
 ·rw[br,dZ d r h];simp
theorem By(s:List UInt8)(r:List UInt8):br (s.flatMap iq++r)=br r:=by
 induction s with
 | nil=>rfl
 | cons c s ih=>
  rw[List.flatMap_cons,List.append_assoc];unfold iq;by_cases h:c=126
  ·rw[if_pos h];show br (126 :: 48 :: (s.flatMap iq++r))=_;rw[jn,ih];simp
  ·rw[if_neg h];by_cases h2:c=47
   ·rw[if_pos h2];show br (126 :: 49 :: (s.flatMap iq++r))=_;rw[jn,ih];simp
   ·rw[if_neg h2];show br (c :: (s.flatMap iq++r))=_;rw[dZ c _ h,ih]
theorem zb(n):∀ (s:List UInt8),s.length<=n->br s=true->47 ∉ s->∃ m:List UInt8,s=m.flatMap iq:=by
 induction n with
 | zero=>
  intro s hs _ _;obtain rfl:s=[]:=List.eq_nil_of_length_eq_zero (by omega);exact⟨[],rfl⟩
 | succ n ih=>
  intro s hs hw hn;cases s with
  | nil=>exact⟨[],rfl⟩
  | cons c r=>
   by_cases h:c=126
   ·subst h;cases r with
    | nil=>simp[br]at hw
    | cons d r=>
     rw[jn,Bool.and_eq_true]at hw;obtain⟨m,hm⟩:=ih r (by simp at hs;omega) hw.2 (fun h=>hn (by simp[h]));rcases Bool.or_eq_true _ _ |>.mp hw.1 with hd | hd
     ·have:d=48:=by simpa using hd
      subst this;exact⟨126 :: m,by rw[List.flatMap_cons,<-hm];rfl⟩
     ·have:d=49:=by simpa using hd
      subst this;exact⟨47 :: m,by rw[List.flatMap_cons,<-hm];rfl⟩
   ·rw[dZ c r h]at hw;obtain⟨m,hm⟩:=ih r (by simp at hs;omega) hw (fun h=>hn (by simp[h]));refine⟨c :: m,?_⟩;rw[List.flatMap_cons,<-hm];unfold iq;rw[if_neg h,if_neg (fun e=>hn (by simp[e]))];rfl
theorem gX(a):split [] [a]=[[]]:=by
 unfold Go.Lib.split;rw[Go.Lib.count_miss (by rfl)];rfl
theorem hE(a r):split (a :: r) [a]=[] :: split r [a]:=by
 have hi:index (a :: r) [a]=(0:Nat):=rK (by rw[oJ];simp) (by simp);unfold Go.Lib.split;rw[Go.Lib.count_hit (by simp) hi,Nat.add_comm 1,splitK,if_neg (by rw[hi];decide),hi];rfl
theorem eM(a b r)(h:b≠a):split (b :: r) [a]=match split r [a] with | []=>[] | x :: xs=>(b :: x) :: xs:=by
 have hp:([a]:List UInt8).isPrefixOf (b :: r)=false:=by rw[oJ];simpa using fun e=>h e.symm
 have hs:=qy hp;unfold Go.Lib.split;by_cases e:index r [a]=-1
 ·rw[if_pos e]at hs;rw[Go.Lib.count_miss e,Go.Lib.count_miss hs];rfl
 ·rw[if_neg e]at hs;obtain⟨i,hi⟩:∃ i:Nat,index r [a]=i:=⟨(index r [a]).toNat,by have:=Go.Lib.index_ge r [a];omega⟩
  have hi2:index (b :: r) [a]=(i+1:Nat):=by rw[hs,hi];rfl
  have e1:(b :: r).drop (i+1+1)=r.drop (i+1):=rfl;rw[Go.Lib.count_hit (by simp) hi,Go.Lib.count_hit (by simp) hi2];simp only[List.length_cons,List.length_nil,Nat.zero_add];rw[e1,Nat.add_comm 1,splitK,splitK,if_neg (by rw[hi2];rw[beq_iff_eq];omega),if_neg (by rw[hi];rw[beq_iff_eq];omega),hi,hi2];rfl
theorem iN(a s):split s [a]≠[]:=by
 induction s with
 | nil=>rw[gX];simp
 | cons b r ih=>
  by_cases h:b=a
  ·subst h;rw[hE];simp
  ·rw[eM a b r h];cases hr:split r [a] with
   | nil=>exact absurd hr ih
   | cons x xs=>simp
def gm (a:UInt8):List (List UInt8)->List UInt8
 | []=>[]
 | x :: xs=>x++xs.flatMap fun y=>a :: y
theorem yL(a s):gm a (split s [a])=s:=by
 induction s with
 | nil=>rw[gX];rfl
 | cons b r ih=>
  by_cases h:b=a
  ·subst h;rw[hE];cases hr:split r [b] with
   | nil=>exact absurd hr (iN b r)
   | cons x xs=>
    rw[hr]at ih;simp only[gm,List.nil_append,List.flatMap_cons,List.cons_append]at ih ⊢;rw[ih]
  ·rw[eM a b r h];cases hr:split r [a] with
   | nil=>exact absurd hr (iN a r)
   | cons x xs=>
    rw[hr]at ih;simp only[gm,List.cons_append]at ih ⊢;rw[ih]
theorem zJ(a s):∀ x∈split s [a],a ∉ x:=by
 induction s with
 | nil=>rw[gX];simp
 | cons b r ih=>
  by_cases h:b=a
  ·subst h;rw[hE];intro x hx;rcases List.mem_cons.1 hx with rfl | hx
   ·simp
   ·exact ih x hx
  ·rw[eM a b r h];cases hr:split r [a] with
   | nil=>exact absurd hr (iN a r)
   | cons y ys=>
    rw[hr]at ih;intro x hx;rcases List.mem_cons.1 hx with rfl | hx
    ·intro hm;rcases List.mem_cons.1 hm with hm | hm
     ·exact h hm.symm
     ·exact ih y (by simp) hm
    ·exact ih x (by simp[hx])
theorem tK(a x)(hx:a ∉ x)(s):split (x++a :: s) [a]=x :: split s [a]:=by
 induction x with
 | nil=>exact hE a s
 | cons b x ih=>
  rw[List.cons_append,eM a b _ (fun e=>hx (by simp[e])),ih fun h=>hx (by simp[h])]
theorem wu(a x)(hx:a ∉ x):split x [a]=[x]:=by
 induction x with
 | nil=>exact gX a
 | cons b x ih=>rw[eM a b _ (fun e=>hx (by simp[e])),ih fun h=>hx (by simp[h])]
theorem xW(a x xs)(h:∀ y∈x :: xs,a ∉ y):split (gm a (x :: xs)) [a]=x :: xs:=by
 induction xs generalizing x with
 | nil=>simp only[gm,List.flatMap_nil,List.append_nil];exact wu a x (h x (by simp))
 | cons y ys ih=>
  have:=ih y fun z hz=>h z (by simp at hz ⊢;right;exact hz);simp only[gm,List.flatMap_cons,List.cons_append]at this ⊢;rw[tK a x (h x (by simp)),this]
def ax (p:List UInt8):List (List UInt8) × Int:=
 match p with
 | []=>([],0)
 | c :: r=>if c≠47\/2000 < p.length\/br p=false then ([],1) else ((split r [47]).map bK,0)
def aU (l:List (List UInt8)):List UInt8:=l.flatMap fun n=>47 :: dY n
theorem Ef(s:List UInt8):47 ∉ s.flatMap iq:=by
 intro h;simp only[List.mem_flatMap]at h;obtain⟨c,-,h⟩:=h;unfold iq at h;split at h
 ·simp at h
 ·split at h
  ·simp at h
  ·rename_i h1;simp at h;exact h1 h.symm
theorem zC(l):br (aU l)=true:=by
 unfold aU;induction l with
 | nil=>rfl
 | cons n l ih=>rw[List.flatMap_cons,List.cons_append,dZ _ _ (by decide),iR,By,ih]
theorem yh(l)(h:(aU l).length<=2000):ax (aU l)=(l,0):=by
 have hw:=zC l;cases l with
 | nil=>rfl
 | cons n l=>
  have e:aU (n :: l)=47 :: gm 47 ((n :: l).map dY):=by
   simp only[aU,List.flatMap_cons,List.cons_append,List.map_cons,gm,List.flatMap_map]
  rw[e]at h hw ⊢;unfold ax;simp only;rw[if_neg (by rw[hw];simp;simp at h;omega)];rw[List.map_cons,xW 47 _ _ (by
   intro y hy;rw[<-List.map_cons]at hy;obtain⟨z,-,rfl⟩:=List.mem_map.1 hy;rw[iR];exact Ef z)]
  have:∀ (l:List (List UInt8)),(l.map dY).map bK=l:=by
   intro l;induction l with
   | nil=>rfl
   | cons a l ih=>rw[List.map_cons,List.map_cons,ih,iR,jJ]
  rw[<-List.map_cons,this]
theorem te(a b)(h:br (a++47 :: b)=true):br a=true/\br b=true:=by
 induction a with
 | nil=>exact⟨rfl,by rwa [List.nil_append,dZ _ _ (by decide)]at h⟩
 | cons c a ih=>
  by_cases hc:c=126
  ·subst hc;cases a with
   | nil=>rw[List.cons_append,List.nil_append,jn]at h;simp at h
   | cons d a=>
    rw[List.cons_append,List.cons_append,br]at h;simp only[Bool.and_eq_true]at h;obtain⟨h1,h2⟩:=ih h.2;rw[br];simp only[Bool.and_eq_true];exact⟨⟨h.1,h1⟩,h2⟩
  ·rw[List.cons_append,dZ c _ hc]at h;rw[dZ c _ hc];exact ih h
theorem vi(x xs)(h:br (gm 47 (x :: xs))=true):∀ y∈x :: xs,br y=true:=by
 induction xs generalizing x with
 | nil=>intro y hy;rw[List.mem_singleton.1 hy];simpa [gm] using h
 | cons z zs ih=>
  have e:gm 47 (x :: z :: zs)=x++47 :: gm 47 (z :: zs):=by simp[gm]
  rw[e]at h;obtain⟨h1,h2⟩:=te _ _ h;intro y hy;rcases List.mem_cons.1 hy with rfl | hy
  ·exact h1
  ·exact ih z h2 y hy
theorem zd(p b)(h:ax p=(b,0)):aU b=p:=by
 unfold ax at h;split at h
 ·simp only[Prod.mk.injEq,and_true]at h;subst h;rfl
 ·rename_i c r;split at h
  ·simp at h
  ·rename_i hc;simp only[not_or,Decidable.not_not,Bool.not_eq_false]at hc;obtain⟨rfl,-,hw⟩:=hc;simp only[Prod.mk.injEq,and_true]at h;subst h;rw[dZ _ _ (by decide)]at hw;have hg:=yL 47 r;cases hs:split r [47] with
   | nil=>exact absurd hs (iN 47 r)
   | cons x xs=>
    rw[hs]at hg;have hf:∀ y∈x :: xs,47 ∉ y:=by rw[<-hs];exact zJ 47 r
    rw[<-hg]at hw;have hp:=vi x xs hw;have hm:∀ y∈x :: xs,dY (bK y)=y:=by
     intro y hy;obtain⟨m,rfl⟩:=zb y.length y (Nat.le_refl _) (hp y hy) (hf y hy);rw[jJ,iR]
    have e:aU ((x :: xs).map bK)=47 :: gm 47 (x :: xs):=by
     simp only[aU,List.map_cons,List.flatMap_cons,List.cons_append,gm,List.flatMap_map];rw[hm x (by simp)];congr 2
     have:∀ l:List (List UInt8),(∀ y∈l,dY (bK y)=y)->(l.flatMap fun y=>47 :: dY (bK y))=l.flatMap fun y=>47 :: y:=by
      intro l;induction l with
      | nil=>intro _;rfl
      | cons a l ih=>intro h;rw[List.flatMap_cons,List.flatMap_cons,h a (by simp),ih fun y hy=>h y (by simp[hy])]
     exact this xs fun y hy=>hm y (by simp[hy])
    rw[e,hg]
theorem GY(s:List UInt8):(s.flatMap iq).length<=2 * s.length:=by
 induction s with
 | nil=>simp
 | cons c s ih=>
  have:(iq c).length<=2:=by
   unfold iq;repeat' split
   all_goals simp
  simp only[List.flatMap_cons,List.length_append,List.length_cons];omega
theorem eS(l:List UInt8):(ByteArray.mk l.toArray).size=l.length:=by simp[ByteArray.size]
end
theorem vV(w p)(hp:p.length<=1000000):Calls prog 128 #[aR p] w fun e w'=>e=.returned (.bool (br p))/\w'=w:=by
 unfold aR;go_enter func128,ntmps128;go_wp2
 go_loop [3] (fun i=>∃ k:Nat,k<=p.length/\i=.int .i64 k/\Ll (br p=br (p.drop k))) (fun i=>p.length - (intOf i).toNat)
 case atStart=>exact⟨0,Nat.zero_le _,rfl,aa rfl⟩
 case round=>
  obtain⟨k,hk,rfl,HA⟩:=hrel;by_cases hlt:k < p.length
  ·have hb:(p[k].toNat:Int) < 256:=by have:=p[k].toNat_lt;omega
   have L9:k < (ByteArray.mk p.toArray).size:=by simpa [ByteArray.size] using hlt
   have hget:(ByteArray.mk p.toArray)[k]=p[k]:=rfl;have hdr:p.drop k=p[k] :: p.drop (k+1):=ME hlt;by_cases hc:p[k]=126
   ·have n1:((p[k].toNat:Int) != 126)=false:=by rw[hc];rfl
    have q1:((p[k].toNat:Int) == 126)=true:=by rw[hc];rfl
    by_cases hend:k+1=p.length
    ·have e1:((k:Int)+1 == (p.length:Int))=true:=by rw[beq_iff_eq];omega
     have e2:(k:Int)+1=(p.length:Int):=by omega
     have F:Ll (br p=false):=aa (by
      rw[HA.o,hdr,hc,hend,List.drop_length];rfl)
     clear hc hend hdr;go_wp2
     go_ret;exact⟨by rw[F.o];rfl,rfl⟩
    ·have hlt2:k+1 < p.length:=by omega
     have e1:((k:Int)+1 == (p.length:Int))=false:=by rw[MO];omega
     have e2:¬((k:Int)+1=(p.length:Int)):=by omega
     have hsz2:k+1 < (ByteArray.mk p.toArray).size:=by simpa [ByteArray.size] using hlt2
     have hget2:(ByteArray.mk p.toArray)[k+1]=p[k+1]:=rfl;have hdr2:p.drop (k+1)=p[k+1] :: p.drop (k+1+1):=ME hlt2;have hb2:(p[k+1].toNat:Int) < 256:=by have:=p[k+1].toNat_lt;omega
     by_cases h48:p[k+1]=48
     ·have m1:((p[k+1].toNat:Int) != 48)=false:=by rw[h48];rfl
      have m2:((p[k+1].toNat:Int) == 48)=true:=by rw[h48];rfl
      have F:Ll (br p=br (p.drop (k+1))):=aa (by
       rw[HA.o,hdr,hc,hdr2,h48,br];simp)
      clear hc h48 hdr hdr2 hend;go_wp2
      go_round
      case rel=>exact⟨k+1,by omega,by go_num,F⟩
      case measure=>simp[intOf];omega
     ·have m1:((p[k+1].toNat:Int) != 48)=true:=by
       have:p[k+1].toNat≠48:=fun e=>h48 (UInt8.toNat_inj.1 e);simp only[bne_iff_ne,ne_eq];omega
      have m2:((p[k+1].toNat:Int) == 48)=false:=by
       have:p[k+1].toNat≠48:=fun e=>h48 (UInt8.toNat_inj.1 e);rw[MO];omega
      by_cases h49:p[k+1]=49
      ·have m3:((p[k+1].toNat:Int) != 49)=false:=by rw[h49];rfl
       have m4:((p[k+1].toNat:Int) == 49)=true:=by rw[h49];rfl
       have F:Ll (br p=br (p.drop (k+1))):=aa (by
        rw[HA.o,hdr,hc,hdr2,h49,br];simp)
       clear hc h48 h49 hdr hdr2 hend;go_wp2
       go_round
       case rel=>exact⟨k+1,by omega,by go_num,F⟩
       case measure=>simp[intOf];omega
      ·have m3:((p[k+1].toNat:Int) != 49)=true:=by
        have:p[k+1].toNat≠49:=fun e=>h49 (UInt8.toNat_inj.1 e);simp only[bne_iff_ne,ne_eq];omega
       have m4:((p[k+1].toNat:Int) == 49)=false:=by
        have:p[k+1].toNat≠49:=fun e=>h49 (UInt8.toNat_inj.1 e);rw[MO];omega
       have F:Ll (br p=false):=aa (by
        rw[HA.o,hdr,hc,hdr2,br];simp[h48,h49])
       clear hc h48 h49 hdr hdr2 hend;go_wp2
       go_ret;exact⟨by rw[F.o];rfl,rfl⟩
   ·have n1:((p[k].toNat:Int) != 126)=true:=by
     have:p[k].toNat≠126:=fun e=>hc (UInt8.toNat_inj.1 e);simp only[bne_iff_ne,ne_eq];omega
    have q1:((p[k].toNat:Int) == 126)=false:=by
     have:p[k].toNat≠126:=fun e=>hc (UInt8.toNat_inj.1 e);rw[MO];omega
    have F:Ll (br p=br (p.drop (k+1))):=aa (by rw[HA.o,hdr,dZ _ _ hc]);clear hc hdr;go_wp2
    go_round
    case rel=>exact⟨k+1,by omega,by go_num,F⟩
    case measure=>simp[intOf];omega
  ·have Mc:k=p.length:=by omega
   subst Mc;have F:Ll (br p=true):=aa (by rw[HA.o,List.drop_length];rfl);go_wp2
   go_ret;exact⟨by rw[F.o];rfl,rfl⟩
end Go.Proofs.YtbdlfclnkpofaaaGreatDoor
namespace Go.Proofs
open Go.Shelf
open Tryz
def Tryz.lays146_ren:Go.Shelf.Ren:=⟨fun | 146=>129 | 221=>155 | 268=>165 | 138=>166 | 143=>167 | 195=>177 | 197=>176 | 218=>178 | 219=>179 | 260=>188 | 217=>144 | 225=>189 | 224=>190 | 267=>191 | 266=>161 | 314=>199 | n=>n,fun | 9=>9 | 31=>22 | 3=>3 | 4=>4 | 0=>0 | 105=>170 | 21=>21 | 5=>5 | 46=>98 | 119=>192 | 139=>195 | 138=>194 | 146=>196 | 51=>130 | n=>n,fun | 1=>0 | 3=>4 | 4=>5 | n=>n⟩
theorem Tryz.lays146:Go.Proofs.Lays.n146 prog Tryz.lays146_ren:={
 mixed:=by kernel_rfl
 f138:=func166.trans (congrArg some (by kernel_rfl))
 f143:=func167.trans (congrArg some (by kernel_rfl))
 f146:=func129.trans (congrArg some (by kernel_rfl))
 f195:=func177.trans (congrArg some (by kernel_rfl))
 f197:=func176.trans (congrArg some (by kernel_rfl))
 f217:=func144.trans (congrArg some (by kernel_rfl))
 f218:=func178.trans (congrArg some (by kernel_rfl))
 f219:=func179.trans (congrArg some (by kernel_rfl))
 f221:=func155.trans (congrArg some (by kernel_rfl))
 f224:=func190.trans (congrArg some (by kernel_rfl))
 f225:=func189.trans (congrArg some (by kernel_rfl))
 f260:=func188.trans (congrArg some (by kernel_rfl))
 f266:=func161.trans (congrArg some (by kernel_rfl))
 f267:=func191.trans (congrArg some (by kernel_rfl))
 f268:=func165.trans (congrArg some (by kernel_rfl))
 f314:=func199.trans (congrArg some (by kernel_rfl))
 t0:=underlying0
 a0:=isAgg0
 z0:=sizeOf0
 v0:=zeroValue0
 t3:=underlying3
 a3:=isAgg3
 z3:=sizeOf3
 v3:=zeroValue3
 t4:=underlying4
 a4:=isAgg4
 z4:=sizeOf4
 v4:=zeroValue4
 t5:=underlying5
 a5:=isAgg5
 z5:=sizeOf5
 v5:=zeroValue5
 t9:=underlying9
 a9:=isAgg9
 z9:=sizeOf9
 v9:=zeroValue9
 t21:=underlying21
 a21:=isAgg21
 z21:=sizeOf21
 v21:=zeroValue21
 t31:=underlying22
 a31:=isAgg22
 z31:=sizeOf22
 v31:=zeroValue22
 t46:=underlying98
 a46:=isAgg98
 z46:=sizeOf98
 v46:=zeroValue98
 t51:=underlying130
 a51:=isAgg130
 z51:=sizeOf130
 v51:=zeroValue130
 t105:=underlying170
 a105:=isAgg170
 z105:=sizeOf170
 v105:=zeroValue170
 t119:=underlying192
 a119:=isAgg192
 z119:=sizeOf192
 t138:=underlying194
 a138:=isAgg194
 z138:=sizeOf194
 v138:=zeroValue194
 t139:=underlying195
 a139:=isAgg195
 z139:=sizeOf195
 v139:=zeroValue195
 t146:=underlying196
 a146:=isAgg196
 z146:=sizeOf196
 v146:=zeroValue196
 g1:=by kernel_rfl
 g3:=by kernel_rfl
 g4:=by kernel_rfl }
open Go.RowKit Go.Lib in
theorem Tryz.strings_Split (s sep:ByteArray) (m:Int) (w:World) (hs:s.size < 4294967281) (hm:w.cell? ⟨0,0,none⟩=some (.int .i64 m)) (h1:1<=sep.size) :
 Calls prog 129 #[.string s,.string sep] w fun e w'=>
  e=.returned (.slice (some ⟨w.heap.size,0,none⟩) (Lib.countB s sep+1) (Lib.countB s sep+1))/\w'=w.alloc (.cells ((Lib.splitB sep 0 (Lib.countB s sep) s).map Value.string).toArray 9):=Any.strings_Split Tryz.lays146 (by kernel_rfl) s sep m w hs hm h1
def Tryz.lays155_ren:Go.Shelf.Ren:=⟨fun | 155=>146 | 154=>163 | 138=>166 | 165=>175 | 143=>167 | 166=>108 | 197=>176 | 169=>110 | 195=>177 | 218=>178 | 240=>145 | 241=>187 | 219=>179 | 260=>188 | 276=>162 | 277=>198 | 217=>144 | 225=>189 | 224=>190 | 267=>191 | 266=>161 | 314=>199 | n=>n,fun | 9=>9 | 3=>3 | 4=>4 | 72=>115 | 0=>0 | 76=>119 | 105=>170 | 21=>21 | 5=>5 | 70=>113 | 20=>20 | 37=>67 | 75=>117 | 127=>142 | 164=>155 | 46=>98 | 119=>192 | 139=>195 | 138=>194 | 146=>196 | 51=>130 | 80=>111 | n=>n,fun | 1=>0 | 3=>4 | 4=>5 | n=>n⟩
theorem Tryz.lays155:Go.Proofs.Lays.n155 prog Tryz.lays155_ren:={
 mixed:=by kernel_rfl
 f138:=func166.trans (congrArg some (by kernel_rfl))
 f143:=func167.trans (congrArg some (by kernel_rfl))
 f154:=func163.trans (congrArg some (by kernel_rfl))
 f155:=func146.trans (congrArg some (by kernel_rfl))
 f165:=func175.trans (congrArg some (by kernel_rfl))
 f166:=func108.trans (congrArg some (by kernel_rfl))
 f169:=func110.trans (congrArg some (by kernel_rfl))
 f195:=func177.trans (congrArg some (by kernel_rfl))
 f197:=func176.trans (congrArg some (by kernel_rfl))
 f217:=func144.trans (congrArg some (by kernel_rfl))
 f218:=func178.trans (congrArg some (by kernel_rfl))
 f219:=func179.trans (congrArg some (by kernel_rfl))
 f224:=func190.trans (congrArg some (by kernel_rfl))
 f225:=func189.trans (congrArg some (by kernel_rfl))
 f240:=func145.trans (congrArg some (by kernel_rfl))
 f241:=func187.trans (congrArg some (by kernel_rfl))
 f260:=func188.trans (congrArg some (by kernel_rfl))
 f266:=func161.trans (congrArg some (by kernel_rfl))
 f267:=func191.trans (congrArg some (by kernel_rfl))
 f276:=func162.trans (congrArg some (by kernel_rfl))
 f277:=func198.trans (congrArg some (by kernel_rfl))
 f314:=func199.trans (congrArg some (by kernel_rfl))
 t0:=underlying0
 a0:=isAgg0
 z0:=sizeOf0
 v0:=zeroValue0
 t3:=underlying3
 a3:=isAgg3
 z3:=sizeOf3
 v3:=zeroValue3
 t4:=underlying4
 a4:=isAgg4
 z4:=sizeOf4
 v4:=zeroValue4
 t5:=underlying5
 a5:=isAgg5
 z5:=sizeOf5
 v5:=zeroValue5
 t9:=underlying9
 a9:=isAgg9
 z9:=sizeOf9
 v9:=zeroValue9
 t20:=underlying20
 a20:=isAgg20
 z20:=sizeOf20
 v20:=zeroValue20
 t21:=underlying21
 a21:=isAgg21
 z21:=sizeOf21
 v21:=zeroValue21
 t37:=underlying67
 a37:=isAgg67
 z37:=sizeOf67
 v37:=zeroValue67
 t46:=underlying98
 a46:=isAgg98
 z46:=sizeOf98
 v46:=zeroValue98
 t51:=underlying130
 a51:=isAgg130
 z51:=sizeOf130
 v51:=zeroValue130
 t70:=underlying113
 a70:=isAgg113
 z70:=sizeOf113
 v70:=zeroValue113
 t72:=underlying115
 a72:=isAgg115
 z72:=sizeOf115
 v72:=zeroValue115
 t75:=underlying117
 a75:=isAgg117
 z75:=sizeOf117
 v75:=zeroValue117
 t76:=underlying119
 a76:=isAgg119
 z76:=sizeOf119
 v76:=zeroValue119
 t105:=underlying170
 a105:=isAgg170
 z105:=sizeOf170
 v105:=zeroValue170
 t119:=underlying192
 a119:=isAgg192
 z119:=sizeOf192
 t127:=underlying142
 a127:=isAgg142
 z127:=sizeOf142
 v127:=zeroValue142
 t138:=underlying194
 a138:=isAgg194
 z138:=sizeOf194
 v138:=zeroValue194
 t139:=underlying195
 a139:=isAgg195
 z139:=sizeOf195
 v139:=zeroValue195
 t146:=underlying196
 a146:=isAgg196
 z146:=sizeOf196
 v146:=zeroValue196
 t164:=underlying155
 a164:=isAgg155
 z164:=sizeOf155
 v164:=zeroValue155
 g1:=by kernel_rfl
 g3:=by kernel_rfl
 g4:=by kernel_rfl }
theorem Tryz.Builder_Extra_155:Builder.Extra prog Tryz.lays155_ren:={
 sizeBuilder:=by kernel_rfl
 liesBuilder:=by kernel_rfl
 t5:=underlying5
 a5:=isAgg5
 z5:=sizeOf5
 v5:=zeroValue5
 infoByte:=by kernel_rfl
 cellsByte:=by kernel_rfl
 sizeByte:=by kernel_rfl
 neB5:=by decide }
open Go.RowKit Go.Lib in
theorem Tryz.strings_ReplaceAll (s old new:ByteArray) (m:Int) (w:World) (hs:s.size < 4294967281) (hm:w.cell? ⟨0,0,none⟩=some (.int .i64 m)) (h1:1<=old.size) (LT:s.size+Lib.countB s old * new.size<=140737488355328) :
 Calls prog 146 #[.string s,.string old,.string new] w fun e w'=>
  e=.returned (.string ⟨(Lib.replaceAll s.data.toList old.data.toList new.data.toList).toArray⟩)/\Below w.heap.size w w':=Any.strings_ReplaceAll Tryz.lays155 Tryz.Builder_Extra_155 s old new m w hs hm h1 LT
def Tryz.laysB_ren:Go.Shelf.Ren:=⟨fun | 167=>107 | 155=>146 | 154=>163 | 138=>166 | 165=>175 | 143=>167 | 166=>108 | 197=>176 | 169=>110 | 195=>177 | 218=>178 | 240=>145 | 241=>187 | 219=>179 | 260=>188 | 276=>162 | 277=>198 | 217=>144 | 225=>189 | 224=>190 | 267=>191 | 266=>161 | 314=>199 | n=>n,fun | 9=>9 | 3=>3 | 4=>4 | 72=>115 | 0=>0 | 76=>119 | 105=>170 | 21=>21 | 5=>5 | 70=>113 | 20=>20 | 37=>67 | 75=>117 | 127=>142 | 164=>155 | 46=>98 | 119=>192 | 139=>195 | 138=>194 | 146=>196 | 51=>130 | 80=>111 | n=>n,fun | 1=>0 | 3=>4 | 4=>5 | n=>n⟩
theorem Tryz.laysB166:Go.Proofs.Lays.n166 prog Tryz.laysB_ren:={
 mixed:=by kernel_rfl
 f166:=func108.trans (congrArg some (by kernel_rfl))
 f240:=func145.trans (congrArg some (by kernel_rfl))
 f276:=func162.trans (congrArg some (by kernel_rfl))
 t0:=underlying0
 a0:=isAgg0
 z0:=sizeOf0
 v0:=zeroValue0
 t3:=underlying3
 a3:=isAgg3
 z3:=sizeOf3
 v3:=zeroValue3
 t4:=underlying4
 a4:=isAgg4
 z4:=sizeOf4
 v4:=zeroValue4
 t9:=underlying9
 a9:=isAgg9
 z9:=sizeOf9
 v9:=zeroValue9
 t20:=underlying20
 a20:=isAgg20
 z20:=sizeOf20
 v20:=zeroValue20
 t37:=underlying67
 a37:=isAgg67
 z37:=sizeOf67
 v37:=zeroValue67
 t70:=underlying113
 a70:=isAgg113
 z70:=sizeOf113
 v70:=zeroValue113
 t72:=underlying115
 a72:=isAgg115
 z72:=sizeOf115
 v72:=zeroValue115
 t75:=underlying117
 a75:=isAgg117
 z75:=sizeOf117
 v75:=zeroValue117
 t164:=underlying155
 a164:=isAgg155
 z164:=sizeOf155
 v164:=zeroValue155 }
theorem Tryz.laysB167:Go.Proofs.Lays.n167 prog Tryz.laysB_ren:={
 mixed:=by kernel_rfl
 f167:=func107.trans (congrArg some (by kernel_rfl))
 f240:=func145.trans (congrArg some (by kernel_rfl))
 f276:=func162.trans (congrArg some (by kernel_rfl))
 t0:=underlying0
 a0:=isAgg0
 z0:=sizeOf0
 v0:=zeroValue0
 t4:=underlying4
 a4:=isAgg4
 z4:=sizeOf4
 v4:=zeroValue4
 t5:=underlying5
 a5:=isAgg5
 z5:=sizeOf5
 v5:=zeroValue5
 t9:=underlying9
 a9:=isAgg9
 z9:=sizeOf9
 v9:=zeroValue9
 t20:=underlying20
 a20:=isAgg20
 z20:=sizeOf20
 v20:=zeroValue20
 t37:=underlying67
 a37:=isAgg67
 z37:=sizeOf67
 v37:=zeroValue67
 t70:=underlying113
 a70:=isAgg113
 z70:=sizeOf113
 v70:=zeroValue113
 t72:=underlying115
 a72:=isAgg115
 z72:=sizeOf115
 v72:=zeroValue115
 t75:=underlying117
 a75:=isAgg117
 z75:=sizeOf117
 v75:=zeroValue117
 t164:=underlying155
 a164:=isAgg155
 z164:=sizeOf155
 v164:=zeroValue155 }
theorem Tryz.laysB169:Go.Proofs.Lays.n169 prog Tryz.laysB_ren:={
 mixed:=by kernel_rfl
 f169:=func110.trans (congrArg some (by kernel_rfl))
 t0:=underlying0
 a0:=isAgg0
 z0:=sizeOf0
 v0:=zeroValue0
 t3:=underlying3
 a3:=isAgg3
 z3:=sizeOf3
 v3:=zeroValue3
 t9:=underlying9
 a9:=isAgg9
 z9:=sizeOf9
 v9:=zeroValue9
 t37:=underlying67
 a37:=isAgg67
 z37:=sizeOf67
 v37:=zeroValue67
 t70:=underlying113
 a70:=isAgg113
 z70:=sizeOf113
 v70:=zeroValue113
 t72:=underlying115
 a72:=isAgg115
 z72:=sizeOf115
 v72:=zeroValue115
 t127:=underlying142
 a127:=isAgg142
 z127:=sizeOf142
 v127:=zeroValue142 }
theorem Tryz.laysB_extra:Builder.Extra prog Tryz.laysB_ren:={
 sizeBuilder:=by kernel_rfl
 liesBuilder:=by kernel_rfl
 t5:=underlying5
 a5:=isAgg5
 z5:=sizeOf5
 v5:=zeroValue5
 infoByte:=by kernel_rfl
 cellsByte:=by kernel_rfl
 sizeByte:=by kernel_rfl
 neB5:=by decide }
end Go.Proofs
namespace Go.Proofs.YtbdlfclnkpofaaaGreatDoor
open Go.RowKit
open _root_.Go.Proofs.Tryz
variable {w w':World}
def bj (w:LC):Prop:=∃ m,w.cell? ⟨0,0,none⟩=some (.int .i64 m)
theorem bj.bel(h:bj w)(hb:La w w'):bj w':=by
 obtain⟨m,hm⟩:=h;exact⟨m,(World.cell?_of_block (hb.block _ (World.block_lt_of_cell? w _ hm))).trans hm⟩
theorem yQ(s sub)(h:1<=sub.size):Lib.countB s sub<=s.size:=Lib.countB_le sub h s.size s (MG _)
theorem qD{old new}(hne:old≠[])(hd:old≠new)(hl:new.length<=old.length)(n):∀ s:Lz,s.length<=n->(Lib.replaceAll s old new).length<=s.length:=by
 induction n with
 | zero=>
  intro s hs;obtain rfl:s=[]:=List.eq_nil_of_length_eq_zero (by omega);rw[iP hne hd];exact MG _
 | succ n ih=>
  intro s hs;cases s with
  | nil=>rw[iP hne hd];exact MG _
  | cons c r=>
   cases hp:old.isPrefixOf (c :: r) with
   | true=>
    obtain⟨t,ht⟩:=List.isPrefixOf_iff_prefix.1 hp;have hpos:0 < old.length:=List.length_pos_iff.2 hne;have LT:=congrArg List.length ht;simp only[Mx,My]at LT hs;rw[<-ht,kh hne hd];have:=ih t (by omega);simp only[Mx];omega
   | false=>
    rw[gd hne hd hp];have:=ih r (by simp at hs;omega);simp only[My];omega
theorem xH(s old new:Lz)(h:1<=old.length)(hn:new.length<=2):(ByteArray.mk s.toArray).size+Lib.countB ⟨s.toArray⟩ ⟨old.toArray⟩ * (ByteArray.mk new.toArray).size<=3 * s.length:=by
 have h1:=yQ ⟨s.toArray⟩ ⟨old.toArray⟩ (by rw[eS];exact h);rw[eS]at h1;rw[eS,eS];have:Lib.countB ⟨s.toArray⟩ ⟨old.toArray⟩ * new.length<=s.length * 2:=Nat.mul_le_mul h1 hn;omega
theorem oP(w s old new)(hs:s.length<=40000000)(ho:1<=old.length)(hn:new.length<=2)(hM:bj w):Calls prog 146 #[.string ⟨s.toArray⟩,.string ⟨old.toArray⟩,.string ⟨new.toArray⟩] w fun e w'=>e=.returned (.string ⟨(Lib.replaceAll s old new).toArray⟩)/\La w w':=by
 obtain⟨m,hm⟩:=hM;have h1:=xH s old new ho hn;exact Tryz.strings_ReplaceAll ⟨s.toArray⟩ ⟨old.toArray⟩ ⟨new.toArray⟩ m w (by rw[eS];omega) hm (by rw[eS];exact ho) (by omega)
theorem wm(w:LC)(s)(hs:s.length<=1000000)(hM:bj w):Calls prog 130 #[aR s] w fun e w'=>e=.returned (aR (bK s))/\La w w':=by
 have HM:=aa hM;clear hM;unfold aR;go_enter func130,ntmps130;go_wp2_with fail
 refine Lk (oP _ s [126,49] [47] (by omega) (by simp) (by simp) (by exact HM.o)) fun w1 hb1=>?_;have HB1:=aa hb1;have HM1:=aa (HM.o.bel hb1);have hl:(Lib.replaceAll s [126,49] [47]).length<=s.length:=qD (by simp) (by simp) (by simp) _ s (MG _);clear hb1;go_wp2_with fail
 refine Lk (oP _ (Lib.replaceAll s [126,49] [47]) [126,48] [126] (by omega) (by simp) (by simp) (by exact HM1.o)) fun w2 hb2=>?_;have HB2:=aa hb2;clear hb2;go_wp2_with fail
 go_ret;exact⟨rfl,ab HB1.o HB2.o⟩
variable {v:Value}
structure mq (w:LC) where
 W:LC
 h:La w W
theorem dE{P:Program}{id}{Q:Exit->Act->LC->Prop}{a}{l:List Oper}(hm:P.follows .mixedOrders=true)(hB:Region.lexB .any l.toArray=true)(h:wpQuiet P l.toArray (fun w'=>∃ p:mq w,w'=p.W) (fun a'=>∀ w',(∃ p:mq w,w'=p.W)->Q .normal a' w') l a):(Code.region id l.toArray true).wp P Q a w:=
 wp_region_quiet (C:=fun w'=>∃ p:mq w,w'=p.W) hm hB ⟨⟨w.drew,(MK _ w).drew⟩,rfl⟩ (by simpa using h)
theorem mY{a}(h:w.cell? a=some v)(p:mq w):p.W.cell? a=some v:=ah p.h h
theorem Calls.belW{P:Program}{f:FuncId}{args:Array Value}{p:mq w}(h:Calls P f args p.W fun e w'=>e=.returned v/\Below p.W.heap.size p.W w'):Calls P f args p.W fun e w''=>e=.returned v/\∃ q:mq w,w''=q.W:=
 h.mono fun _ w' ⟨he,hq⟩=>⟨he,⟨w',ab p.h hq⟩,rfl⟩
section
open Go.Lib (index count replaceK replaceAll split splitK)
def mb:List UInt8->List UInt8->List (List UInt8)->Option (List (List UInt8))
 | [],now,l=>some (l++[now])
 | c :: r,now,l=>
  if c=47 then mb r [] (l++[now])
  else if c≠126 then mb r (now++[c]) l
  else match r with
   | []=>none
   | d :: r'=>if d=48 then mb r' (now++[126]) l else if d=49 then mb r' (now++[47]) l else none
theorem tC(r now:List UInt8)(l:List (List UInt8)):mb (47 :: r) now l=mb r [] (l++[now]):=by rw[mb.eq_def];simp
theorem UK{c:UInt8}(h1:c≠47)(h2:c≠126)(r now:List UInt8)(l:List (List UInt8)):mb (c :: r) now l=mb r (now++[c]) l:=by rw[mb.eq_def];simp[h1,h2]
theorem Si(r now:List UInt8)(l:List (List UInt8)):mb (126 :: 48 :: r) now l=mb r (now++[126]) l:=by rw[mb.eq_def];simp
theorem Sq(r now:List UInt8)(l:List (List UInt8)):mb (126 :: 49 :: r) now l=mb r (now++[47]) l:=by rw[mb.eq_def];simp
theorem Sj(now:List UInt8)(l:List (List UInt8)):mb [126] now l=none:=by rw[mb.eq_def];simp
theorem SQ{d:UInt8}(h1:d≠48)(h2:d≠49)(r now:List UInt8)(l:List (List UInt8)):mb (126 :: d :: r) now l=none:=by rw[mb.eq_def];simp[h1,h2]
theorem ze(now:List UInt8)(l:List (List UInt8)):mb [] now l=some (l++[now]):=by rw[mb.eq_def]
theorem Sz(m rest:List UInt8):∀ (now:List UInt8) (l:List (List UInt8)),mb (m.flatMap iq++rest) now l=mb rest (now++m) l:=by
 induction m with
 | nil=>intro now l;simp
 | cons c m ih=>
  intro now l;rw[List.flatMap_cons,List.append_assoc];by_cases h1:c=126
  ·subst h1;rw[show iq 126=[126,48] from rfl,List.cons_append,List.cons_append,List.nil_append,Si,ih];simp
  ·by_cases h2:c=47
   ·subst h2;rw[show iq 47=[126,49] from rfl,List.cons_append,List.cons_append,List.nil_append,Sq,ih];simp
   ·rw[show iq c=[c] by simp[iq,h1,h2],List.cons_append,List.nil_append,UK h2 h1,ih];simp
theorem Te(n:Nat):∀ (r now:List UInt8) (l:List (List UInt8)),r.length<=n->(mb r now l=none↔br r=false):=by
 induction n with
 | zero=>
  intro r now l h;cases r with
  | nil=>simp[ze,br]
  | cons c r=>simp at h
 | succ n ih=>
  intro r now l h;cases r with
  | nil=>simp[ze,br]
  | cons c r=>
   simp only[List.length_cons]at h;by_cases h1:c=47
   ·subst h1;rw[tC,ih r _ _ (by omega),dZ 47 r (by decide)]
   ·by_cases h2:c=126
    ·subst h2;cases r with
     | nil=>simp[Sj,br]
     | cons d r=>
      simp only[List.length_cons]at h;rw[jn];by_cases h3:d=48
      ·subst h3;rw[Si,ih r _ _ (by omega)];simp
      ·by_cases h4:d=49
       ·subst h4;rw[Sq,ih r _ _ (by omega)];simp
       ·rw[SQ h3 h4];simp[h3,h4]
    ·rw[UK h1 h2,ih r _ _ (by omega),dZ c r h2]
theorem E8:∀ (xs:List (List UInt8)) (x now:List UInt8) (l:List (List UInt8)),mb (gm 47 ((x :: xs).map fun m=>m.flatMap iq)) now l=some (l++(now++x) :: xs)
 | [],x,now,l=>by
  have:=Sz x [] now l;simp only[List.map_cons,List.map_nil,gm,List.flatMap_nil];rw[this,ze]
 | y :: ys,x,now,l=>by
  have h:=Sz x (47 :: gm 47 ((y :: ys).map fun m=>m.flatMap iq)) now l;have e:gm 47 ((x :: y :: ys).map fun m=>m.flatMap iq)=x.flatMap iq++47 :: gm 47 ((y :: ys).map fun m=>m.flatMap iq):=by simp[gm]
  rw[e,h,tC,E8 ys y [] (l++[now++x])];simp
theorem Bq(r:List UInt8)(h:br r=true):∃ (x:List UInt8) (xs:List (List UInt8)),split r [47]=(x :: xs).map (fun m=>m.flatMap iq):=by
 have hne:=iN 47 r;have hfree:=zJ 47 r;have hg:=yL 47 r;cases hs:split r [47] with
 | nil=>exact absurd hs hne
 | cons y ys=>
  rw[hs]at hfree hg;have hw:=vi y ys (by rw[hg];exact h);have all:∀ (zs:List (List UInt8)),(∀ z∈zs,47 ∉ z/\br z=true)->∃ ms:List (List UInt8),zs=ms.map (fun m=>m.flatMap iq):=by
   intro zs;induction zs with
   | nil=>intro _;exact⟨[],rfl⟩
   | cons z zs ih=>
    intro hz;obtain⟨ms,hms⟩:=ih fun w hw=>hz w (by simp[hw]);obtain⟨m,hm⟩:=zb z.length z (Nat.le_refl _) (hz z (by simp)).2 (hz z (by simp)).1;exact⟨m :: ms,by rw[List.map_cons,hms,hm]⟩
  obtain⟨ms,hms⟩:=all (y :: ys) fun z hz=>⟨hfree z hz,hw z hz⟩
  cases ms with
  | nil=>simp at hms
  | cons m ms=>exact⟨m,ms,hms⟩
theorem Sg(r:List UInt8):mb r [] []=if br r then some ((split r [47]).map bK) else none:=by
 by_cases h:br r=true
 ·rw[if_pos h];obtain⟨x,xs,e⟩:=Bq r h;have hg:=yL 47 r;have h1:=E8 xs x [] [];rw[<-e,hg]at h1;rw[h1,e];simp[List.map_map,Function.comp_def,jJ]
 ·have h':br r=false:=by simpa using h
  rw[if_neg h];exact(Te r.length r [] [] (Nat.le_refl _)).2 h'
end
end Go.Proofs.YtbdlfclnkpofaaaGreatDoor
