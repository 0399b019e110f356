/- The contracts of the library that the texts name, over this program. -/
import Derived.Test.YtmdemcjmcnfjmaaGreatDoorGRe
import Derived.Lib.AtoiErrMem
import Derived.Lib.ItoaLen
import Derived.Shelf.Strconv.ErrVarAll
import Derived.Test.YtmdemcjmcnfjmaaGreatDoorCards
import Derived.Test.YtmdemcjmcnfjmaaGreatDoorTie
import Derived.WalkKit
import Derived.ProofKit
import Derived.OpenShut
import Derived.ShutString
import Derived.Deep.DeepHandedRow
import Derived.Deep.DeepWitnessRowRef
import Derived.Lib.LaidTab
import Derived.Stop.LaidErr
import Derived.SevenTiedAt
import Derived.SizedLaws
import Derived.Lib.AppendZeros
import Derived.Laws.AppendOwnNone
import Derived.Carry
import Derived.Deep.Slices
import Derived.SliceStrings
import Derived.ChangeOld
import Derived.Lib.Replace
import Derived.Lib.Split
import Derived.Lib.CountLaws
import Derived.Shelf.Strings.BuilderK
import Derived.Shelf.Strings.Builder1
import Derived.Shelf.Strings.Builder2
import Derived.Shelf.Small.Bits
import Derived.Shelf.Small.Strs
import Derived.Shelf.Small.Wraps
import Derived.Shelf.Strings.BuilderF
import Derived.Shelf.Strconv.Atoi
import Derived.Shelf.Strconv.Itoa0
import Derived.Shelf.Strconv.Itoa1
import Derived.Shelf.LaysM
import Derived.Shelf.Strconv.Itoa2
import Derived.Shelf.Strconv.Itoa3
import Derived.Shelf.Strconv.AtoiErrFast
import Derived.Shelf.Strconv.ParseIntEmpty
import Derived.Shelf.Strconv.AtoiFail
import Derived.Shelf.Strconv.Clone
import Derived.Shelf.Strconv.SyntaxError
import Derived.Shelf.LaysC
import Derived.Shelf.Strconv.ToError
import Derived.Shelf.Strconv.Lower
import Derived.Shelf.Strconv.ParseUint10
import Derived.Shelf.Strconv.ParseUint10Empty
import Derived.Shelf.Strconv.ParseUint10Any
import Derived.Shelf.Strconv.ParseInt10
import Derived.Shelf.Strconv.AtoiLong
import Derived.Shelf.Strconv.AtoiInnerAll
import Derived.Shelf.Strconv.RangeError
import Derived.Shelf.Strconv.ToErrorRange
import Derived.Shelf.Strconv.AtoiAll
import Derived.Shelf.Strings.Search1
import Derived.Shelf.Strings.Search2
import Derived.Shelf.Strings.Search3
import Derived.Shelf.Strings.Count
import Derived.Shelf.Strings.Shaped
import Derived.Shelf.Strings.Prefix
import Derived.Shelf.Strings.Split
import Derived.Shelf.Strings.Replace
import Derived.Shelf.Strings.SplitShaped
import Derived.Shelf.Unicode.DecodeSlow
import Derived.Shelf.Slices.Turned
import Derived.Shelf.Slices.Equal
import Derived.Shelf.Slices.Empties2
import Derived.Ground.SlgfProg
import Derived.Shelf.SlicesE.IndexFunc
import Derived.Ground.SlsfProg
import Derived.Shelf.SlSortCmp.Insertion
import Derived.Shelf.SlSortCmp.SiftDown1
import Derived.Shelf.SlSortCmp.HeapSort1
import Derived.Shelf.SlSortCmp.Insertion1
import Derived.Shelf.SlSortCmp.Median1
import Derived.Shelf.SlSortCmp.Pivot1
import Derived.Shelf.SlSortCmp.ReverseRange1
import Derived.Shelf.SlSortCmp.PartialInsertion1
import Derived.Shelf.SlSortCmp.PartitionEqual1
import Derived.Shelf.SlSortCmp.Partition1
import Derived.Shelf.SlSortCmp.Pdq1
import Derived.Shelf.SlSortCmp.Whole1
import Derived.Shelf.SlSortCmp.NoneTotal
import Derived.Test.YtmdemcjmcnfjmaaGreatDoorProg
set_option linter.unusedSimpArgs false
set_option linter.unusedVariables false
namespace Go.Proofs.YtmdemcjmcnfjmaaGreatDoor
open Go.RowKit Go.Shelf
def Glob (w:World):Prop:=
 (∃ tp p t f,w.heap[3]?=some (.cells #[.iface tp p] t f))/\(∃ tp p t f,w.heap[4]?=some (.cells #[.iface tp p] t f)) /\
 ∃ t f,w.heap[5]?=some (.cells (Lib.pow10Tab.map fun z=>Value.int .u64 z).toArray t f)
theorem Glob.grown {w w':World} {r:Option Nat} (h:Glob w) (hg:w.grownBy w' r) (hr:∀ k,r=some k->6<=k):Glob w':=by
 obtain⟨⟨tp,p,t,f,h1⟩,⟨tq,q,t2,f2,h2⟩,⟨t3,f3,h3⟩⟩:=h
 have lt:∀ k o,w.heap[k]?=some o->k < w.heap.size:=fun k o e=>(Array.getElem?_eq_some_iff.1 e).1
 refine⟨⟨tp,p,t,f,(hg.block _ (lt _ _ h1) ?_).trans h1⟩,⟨tq,q,t2,f2,(hg.block _ (lt _ _ h2) ?_).trans h2⟩,⟨t3,f3,(hg.block _ (lt _ _ h3) ?_).trans h3⟩⟩ <;>
 ·intro e
  have:=hr _ e.symm
  omega
theorem Glob.size {w:World} (h:Glob w):6<=w.heap.size:=by
 obtain⟨⟨tp,p,t,f,h1⟩,⟨tq,q,t2,f2,h2⟩,⟨t3,f3,h3⟩⟩:=h
 have lt:∀ k o,w.heap[k]?=some o->k < w.heap.size:=fun k o e=>(Array.getElem?_eq_some_iff.1 e).1
 have:=lt _ _ h1
 have:=lt _ _ h2
 have:=lt _ _ h3
 omega
theorem Glob.same {w w':World} (h:Glob w) (e:w'.heap=w.heap):Glob w':=by
 unfold Glob at h ⊢
 rw[e];exact h
theorem atoi_ok (s:ByteArray) (hs:s.size<=2000) (v:Int) (h:Lib.atoiAll s.data.toList=.ok v) (w:World) :
 Calls Tryz.prog 135 #[.string s] w fun e w'=>e=.returned (.tuple #[.int .i64 v,.nilIface])/\Below w.heap.size w w':=by
 refine(Any.strconv_Atoi_ok Tryz.laysC172 s (by omega) v h w).mono ?_
 rintro e w' ⟨rfl,rfl | ⟨t,rfl⟩⟩
 ·exact⟨rfl,Below.refl _ _⟩
 ·exact⟨rfl,Lib.bytesWorld_below w _ t⟩
theorem atoi_no (s:ByteArray) (hs:s.size<=2000) (h:∀ v,Lib.atoiAll s.data.toList≠.ok v) (w:World) (hG:Glob w) :
 Calls Tryz.prog 135 #[.string s] w fun e w'=>∃ v N T,e=.returned (.tuple #[.int .i64 v,.iface T (.pointer (some ⟨N,0,none⟩))])/\Below w.heap.size w w':=by
 obtain⟨⟨tp,p,t,f,h1⟩,⟨tq,q,t2,f2,h2⟩,_⟩:=hG
 rcases h9:Lib.atoiAll s.data.toList with v | _ | _
 ·exact absurd h9 (h v)
 ·refine(Any.strconv_Atoi_syntax_var Tryz.laysC172 s (by omega) h9 tp p w ?_).mono ?_
  ·unfold World.var?
   rw[show Program.globalNamed Tryz.prog _=some 3 from by kernel_rfl]
   simp[h1]
  ·rintro e w' ⟨N,rfl,-,-,hb⟩
   exact⟨0,N,_,rfl,hb⟩
 ·refine(Any.strconv_Atoi_range_var Tryz.laysC172 s (by omega) h9 tq q w ?_).mono ?_
  ·unfold World.var?
   rw[show Program.globalNamed Tryz.prog _=some 4 from by kernel_rfl]
   simp[h2]
  ·rintro e w' ⟨N,rfl,-,-,hb⟩
   exact⟨_,N,_,rfl,hb⟩
theorem grow_below (w:World) (os:Array Obj):Below w.heap.size w (Sort.grow w os):=
 ⟨rfl,rfl,rfl,by simp[Sort.grow],fun k hk=>by simp[Sort.grow,Array.getElem?_append,hk]⟩
theorem itoa_at (n:Int) (h0:I64 n) (w:World) (hG:Glob w) :
 Calls Tryz.prog 136 #[.int .i64 n] w fun e w'=>e=.returned (.string ⟨(Lib.itoa n).toArray⟩)/\Below w.heap.size w w':=by
 obtain⟨_,_,t3,f3,h3⟩:=hG
 refine(Any.strconv_Itoa Tryz.laysM171 n h0.1 h0.2 w ?_).mono ?_
 ·unfold Lib.TabIs World.var?
  rw[show Program.globalNamed Tryz.prog _=some 5 from by kernel_rfl]
  simp[h3]
 ·rintro e w' ⟨rfl,k,os,rfl⟩
  have h:Below w.heap.size w (w.drewN k):=⟨rfl,rfl,rfl,Nat.le_refl _,fun _ _=>rfl⟩
  exact⟨rfl,h.trans (grow_below (w.drewN k) os)⟩
def isNum (c:UInt8):Bool:=c == 45 || (decide (48<=c.toNat)&&decide (c.toNat<=57))
def numS (l:List UInt8):Option (Int × List UInt8):=
 match Lib.atoiAll (l.takeWhile isNum) with
 | .ok v=>if Lib.itoa v=l.takeWhile isNum then some (v,l.dropWhile isNum) else none
 | _=>none
def leafV (k n:Int) (s:List UInt8):V:=⟨k,n,s,[],[]⟩
theorem leaf_is (w:World) (ok:Nat->Prop) (d:Nat) (k n:Int) (s:List UInt8) (hk:I64 k) (hn:I64 n) (hs:s.length<=maxLen):VIs w ok (d+1) (leafV k n s) (leaf k n s):=
 ⟨_,_,rfl,hk,hn,hs,⟨by simp[leafV],.inl ⟨rfl,none,rfl⟩⟩,⟨by simp[leafV],.inl ⟨rfl,none,rfl⟩⟩⟩
theorem numS_ok {l:List UInt8} {v:Int} (h:Lib.atoiAll (l.takeWhile isNum)=.ok v) (h2:Lib.itoa v=l.takeWhile isNum):numS l=some (v,l.dropWhile isNum):=by
 simp[numS,h,h2]
theorem numS_ne {l:List UInt8} {v:Int} (h:Lib.atoiAll (l.takeWhile isNum)=.ok v) (h2:Lib.itoa v≠l.takeWhile isNum):numS l=none:=by
 simp[numS,h,h2]
theorem numS_no {l:List UInt8} (h:∀ v,Lib.atoiAll (l.takeWhile isNum)≠.ok v):numS l=none:=by
 unfold numS
 split
 ·rename_i v e;exact absurd e (h v)
 ·rfl
theorem atoi_nil (v:Int):Lib.atoiAll []≠.ok v:=by intro h;cases h
theorem isNum_no {l:List UInt8} (h:isNum (hd0 l)=false):l.dropWhile isNum=l:=by
 cases l with
 | nil=>rfl
 | cons c l=>rw[List.dropWhile_cons,if_neg (by simpa [hd0] using h)]
theorem isNum_yes {l:List UInt8} (h:isNum (hd0 l)=true):∃ c r,l=c :: r/\isNum c=true:=by
 cases l with
 | nil=>simp[hd0,isNum]at h
 | cons c l=>exact⟨c,l,rfl,by simpa [hd0] using h⟩
def IsLeaf (t:V) (v:Value):Prop:=∃ k n,t=leafV k n []/\v=leaf k n []/\I64 k/\I64 n
def zcells:Obj:=.cells #[.int .i64 0,.int .i64 0,.string ⟨#[]⟩,.slice none 0 0,.slice none 0 0] 25
def NumI (w:World) (b:Nat) (s:ByteArray) (l:List UInt8) (bad:Bool) (i0:Nat) (k:Nat) (c:Value) (wr:World) (j:Nat):Prop:=
 ∃ l1,c=.int .u8 (hd0 l1).toNat/\k=l1.length/\RdIs wr b s (i0+j) bad/\s.data.toList.drop (i0+j)=l1/\l.takeWhile isNum=l.take j++l1.takeWhile isNum/\l1.dropWhile isNum=l.dropWhile isNum/\(w.alloc zcells).grownBy wr (some b)
set_option maxRecDepth 100000 in
set_option maxHeartbeats 1000000 in
theorem number_st (w:World) (b:Nat) (s:ByteArray) (st:Option (List UInt8)) (h:RdSt w b s st) (hG:Glob w) (hb4:6<=b) :
 Calls Tryz.prog 97 #[.pointer (some ⟨b,0,none⟩)] w fun e w'=>∃ (t:V) (v:Value) (st':Option (List UInt8)),e=.returned v/\IsLeaf t v /\
  (st.bind numS).map (fun p=>(leafV 2 p.1 [],p.2))=st'.map (fun l=>(t,l))/\RdSt w' b s st'/\w.grownBy w' (some b):=by
 have H:=hidI h
 have hbl:=h.lt
 obtain⟨i0,h1,e1⟩:=h
 obtain⟨c0,c1,c2,f1,f2⟩:=h1.c
 have E1:=hidI e1
 have hi0:=h1.2.1
 have hs0:=h1.2.2
 have R0:=hidI h1
 have HG:=hidI hG
 clear h1 e1 hG
 have hne:b≠w.heap.size:=by omega
 go_enter Tryz.func97,Tryz.ntmps97
 go_wp2_with fail
 refine(ahead_at _ b s (st.getD []) st.isNone (by exact H.out.grown (World.grownBy_alloc w _ none) (by simp))).mono ?_
 rintro e w1 ⟨rfl,n1,rfl⟩
 go_wp2_with fail
 go_loopg [4] (st.getD []).length (fun k c wr=>∃ j,NumI w b s (st.getD []) st.isNone i0 k c wr j)
 case atStart=>
  refine⟨0,st.getD [],rfl,rfl,?_,E1.out,rfl,rfl,gb_drewN (gb_refl _ _) _⟩
  exact⟨(World.grownBy_alloc w _ none).block b hbl (by simp) |>.trans (by exact R0.out.1),R0.out.2⟩
 case round=>
  obtain⟨j,l1,rfl,hk,h2,e2,ht,hd,hg⟩:=hrel
  have A:Hid (gk=l1.length/\RdIs wr b s (i0+j) st.isNone/\s.data.toList.drop (i0+j)=l1/\(st.getD []).takeWhile isNum=(st.getD []).take j++l1.takeWhile isNum/\l1.dropWhile isNum=(st.getD []).dropWhile isNum/\(w.alloc zcells).grownBy wr (some b)):=⟨hk,h2,e2,ht,hd,hg⟩
  obtain⟨c0,c1,c2,f1,f2⟩:=h2.c
  have hj:=h2.2.1
  clear hk h2 e2 ht hd hg
  cases hn:isNum (hd0 l1) with
  | true=>
   obtain⟨c,r,rfl,hc⟩:=isNum_yes hn
   clear hn
   have hc':c.toNat=45\/48<=c.toNat/\c.toNat<=57:=by
    simp only[isNum,Bool.or_eq_true,beq_iff_eq,Bool.and_eq_true,decide_eq_true_eq]at hc
    rcases hc with rfl | h
    ·left;rfl
    ·right;exact h
   have hlt:i0+j < s.size:=by
    have:=congrArg List.length A.out.2.2.1
    rw[List.length_drop,Array.length_toList]at this
    have e:s.data.size=s.size:=rfl
    simp only[List.length_cons]at this
    omega
   have step:Hid (∀ wr' nn,wr'=(wr.setCell ⟨b,1,none⟩ (.int .i64 ((i0:Int)+j+1)))->NumI w b s (st.getD []) st.isNone i0 r.length (.int .u8 (hd0 r).toNat) (wr'.drewN nn) (j+1)):=by
    rintro wr' nn rfl
    obtain⟨hk,h2,e2,ht,hd,hg⟩:=A.out
    have e3:s.data.toList.drop (i0+j+1)=r:=by
     have:=congrArg List.tail e2
     simpa using this
    refine⟨r,rfl,rfl,⟨?_,by omega,h2.2.2⟩,e3,?_,?_,gb_drewN (gb_set hg _ _) _⟩
    ·have e9:((i0:Int)+j+1)=((i0+(j+1):Nat):Int):=by omega
     rw[e9];exact heap_set h2.1 1 _
    ·rw[ht,List.takeWhile_cons,if_pos hc]
     have e8:(st.getD []).drop j=c :: r:=by rw[<-E1.out,List.drop_drop];exact e2
     rw[List.take_add_one,List.append_assoc]
     congr 1
     have e7:(st.getD [])[j]?=some c:=by
      have:=congrArg (fun l=>l[0]?) e8
      simpa using this
     rw[e7];rfl
    ·rw[<-hd,List.dropWhile_cons,if_pos hc]
   have nxt:Hid (RdAt (wr.setCell ⟨b,1,none⟩ (.int .i64 ((i0:Int)+j+1))) b s r st.isNone):=by
    obtain⟨r',e5,e6,h3,h4,-⟩:=step.out _ 0 rfl
    have e7:s.data.toList.drop (i0+j+1)=r:=by
     have:=congrArg List.tail A.out.2.2.1
     simpa using this
    exact⟨i0+(j+1),⟨h3.1,h3.2⟩,e7⟩
   rcases hc' with hq | ⟨hq1,hq2⟩
   ·have q1:(((hd0 (c :: r)).toNat:Int) == 45)=true:=by simp[hd0,hq]
    go_wp2_with fail
    refine(ahead_at _ b s r st.isNone (by exact nxt.out)).mono ?_
    rintro e w1 ⟨rfl,n1,rfl⟩
    go_wp2_with fail
    go_roundg r.length
    case measure=>rw[A.out.1];simp
    case rel=>exact⟨j+1,step.out _ n1 rfl⟩
   ·have q1:(((hd0 (c :: r)).toNat:Int) == 45)=false:=by rw[beq_eq_false_iff_ne];simp only[hd0,List.headD_cons];omega
    have q2:48<=((hd0 (c :: r)).toNat:Int):=by simp only[hd0,List.headD_cons];omega
    have q3:((hd0 (c :: r)).toNat:Int)<=57:=by simp only[hd0,List.headD_cons];omega
    go_wp2_with fail
    refine(ahead_at _ b s r st.isNone (by exact nxt.out)).mono ?_
    rintro e w1 ⟨rfl,n1,rfl⟩
    go_wp2_with fail
    go_roundg r.length
    case measure=>rw[A.out.1];simp
    case rel=>exact⟨j+1,step.out _ n1 rfl⟩
  | false=>
   have hn':¬(((hd0 l1).toNat:Int)=45):=by
    intro e
    have:hd0 l1=45:=UInt8.toNat_inj.1 (by simpa using Int.ofNat.inj e)
    rw[this]at hn;exact absurd hn (by decide)
   have hn1:(((hd0 l1).toNat:Int) == 45)=false:=by rw[beq_eq_false_iff_ne];exact hn'
   have hsplit:(48<=((hd0 l1).toNat:Int))/\¬(((hd0 l1).toNat:Int)<=57)\/¬(48<=((hd0 l1).toNat:Int)):=by
    by_cases g1:48<=((hd0 l1).toNat:Int)
    ·left
     refine⟨g1,fun g2=>?_⟩
     have:isNum (hd0 l1)=true:=by
      simp only[isNum,Bool.or_eq_true,beq_iff_eq,Bool.and_eq_true,decide_eq_true_eq]
      right;omega
     rw[this]at hn;cases hn
    ·right;exact g1
   have b1:(i0:Int)<=((i0+j:Nat):Int):=by omega
   have b2:((i0+j:Nat):Int)<=(s.size:Int):=by omega
   have hx:Hid ((s.extract i0 (i0+j)).data.toList=(st.getD []).takeWhile isNum):=by
    obtain⟨hk,h2,e2,ht,hd,hg⟩:=A.out
    have hz:l1.takeWhile isNum=[]:=by
     cases l1 with
     | nil=>rfl
     | cons x r=>rw[List.takeWhile_cons,if_neg (by simpa [hd0] using hn)]
    rw[ht,hz,List.append_nil,<-E1.out]
    have:=ByteArray.extract_mk s.data.toList i0 (i0+j)
    have e9:(ByteArray.mk s.data.toList.toArray)=s:=by cases s;simp
    rw[e9]at this
    rw[this,Nat.add_sub_cancel_left];exact List.toList_toArray
   have hxl:(s.extract i0 (i0+j)).size<=2000:=by rw[ByteArray.size_extract];omega
   have hend:Hid (RdAt wr b s ((st.getD []).dropWhile isNum) st.isNone):=by
    obtain⟨hk,h2,e2,ht,hd,hg⟩:=A.out
    exact⟨i0+j,h2,by rw[e2,<-hd,isNum_no hn]⟩
   have HN:=hidI hn
   clear hn hn'
   generalize hX:s.extract i0 (i0+j)=X at hx hxl
   have HX:=hidI hX
   have hgw:Hid ((w.alloc zcells).grownBy wr (some b)):=A.out.2.2.2.2.2
   have hbx:Hid (BoxIs wr w.heap.size (.int .i64 0) (.int .i64 0) (.string ⟨#[]⟩) (.slice none 0 0) (.slice none 0 0)):=BoxIs.grown (w:=w.alloc zcells) (heap_alloc_new w _) hgw.out (by simp;omega)
   have hG1:Hid (Glob wr):=(HG.out.grown (World.grownBy_alloc w zcells none) (by simp)).grown hgw.out (by intro k hk;cases hk;exact hb4)
   rcases hv:Lib.atoiAll X.data.toList with v | _ | _
   ·have hvb:I64 v:=Lib.atoiAll_bounds hv
    have HV:=hidI hv
    clear hv
    rcases hsplit with⟨d1,d2⟩ | d1
    all_goals
     go_wp2_with fail
     go_quiet (fail)
     rw[hX]
     go_wp2_with fail
     refine(atoi_ok X hxl v HV.out _).mono ?_
     rintro e w2 ⟨rfl,hb2⟩
     have B2:=hidI hb2
     clear hb2
     go_wp2_with fail
     refine(itoa_at v hvb _ (by exact(hG1.out.same (w':=wr.drewN _) rfl).grown (gb_below (r:=none) B2.out) (by simp))).mono ?_
     rintro e w3 ⟨rfl,hb3⟩
     have B3:=hidI hb3
     clear hb3
     have hg3:Hid (wr.grownBy w3 none):=gb_trans (gb_trans (gb_drewN (gb_refl wr none) _) (gb_below B2.out)) (gb_below B3.out)
     have hbx3:Hid (BoxIs w3 w.heap.size (.int .i64 0) (.int .i64 0) (.string ⟨#[]⟩) (.slice none 0 0) (.slice none 0 0)):=hbx.out.grown hg3.out (by simp)
     obtain⟨x0,x1,x2,x3,x4,y0,y1,y2,y3,y4⟩:=hbx3.out.c
     by_cases heq:Lib.itoa v=X.data.toList
     ·have hq:(Lib.itoa v == X.toList)=true:=by rw[ByteArray.toList_eq,beq_iff_eq];exact heq
      have hB:=hbx3.out.set (.int .i64 2) (.int .i64 v) (str []) (.slice none 0 0) (.slice none 0 0)
      obtain⟨z0,z1,z2,z3,z4,-⟩:=hB.c
      have Z:Hid (_/\_/\_/\_/\_):=⟨z0,z1,z2,z3,z4⟩
      clear z0 z1 z2 z3 z4 hB
      go_wp2_with fail
      obtain⟨z0,z1,z2,z3,z4⟩:=Z.out
      refine bodyPost_ret (v:=leaf 2 v []) ?_ rfl ?_
      ·simp only[set5,str]at z0 z1 z2 z3 z4
       simp[results,Tryz.results97,go_sem,z0,z1,z2,z3,z4,leaf,str]
      ·refine⟨leafV 2 v [],leaf 2 v [],st.map (List.dropWhile isNum),rfl,⟨_,_,rfl,rfl,(by unfold I64;omega),hvb⟩,?_,?_,?_⟩
       ·match st,hx,hend with
        | none,hx,_=>rw[hx.out]at HV;exact absurd HV.out (atoi_nil v)
        | some l,hx,_=>
         have hx':X.data.toList=l.takeWhile isNum:=hx.out
         exact congrArg _ (numS_ok (by rw[<-hx'];exact HV.out) (by rw[<-hx'];exact heq))
       ·have e1:(st.map (List.dropWhile isNum)).getD []=(st.getD []).dropWhile isNum:=by cases st <;> rfl
        have e2:(st.map (List.dropWhile isNum)).isNone=st.isNone:=by cases st <;> rfl
        unfold RdSt
        rw[e1,e2]
        refine hend.out.of_heap (((set5_gb w3 w.heap.size _ _ _ _ _).block b ?_ (by simp;omega)).trans (hg3.out.block b hend.out.lt (by simp)))
        exact Nat.lt_of_lt_of_le hend.out.lt hg3.out.size
       ·exact gb_own (gb_trans (gb_trans (World.grownBy_alloc w zcells _) hgw.out) (gb_own (gb_refl _ _) hg3.out (by simp))) (set5_gb w3 w.heap.size _ _ _ _ _) (by intro k hk;cases hk;exact Nat.le_refl _)
     ·have hq:(Lib.itoa v == X.toList)=false:=by rw[ByteArray.toList_eq,beq_eq_false_iff_ne];exact heq
      go_wp2_with fail
      refine(fail_at _ b s _ _ (by exact hend.out.of_heap (hg3.out.block b hend.out.lt (by simp)))).mono ?_
      rintro e w4 ⟨rfl,h4,hg4⟩
      have R4:Hid (RdAt w4 b s [] true/\w3.grownBy w4 (some b)):=⟨h4,hg4⟩
      clear h4 hg4 x0 x1 x2 x3 x4 y0 y1 y2 y3 y4
      have hb4':=hbx3.out.grown R4.out.2 (by simp;omega)
      obtain⟨x0,x1,x2,x3,x4,y0,y1,y2,y3,y4⟩:=hb4'.c
      have hB:=hb4'.set (.int .i64 0) (.int .i64 0) (str []) (.slice none 0 0) (.slice none 0 0)
      obtain⟨z0,z1,z2,z3,z4,-⟩:=hB.c
      have Z:Hid (_/\_/\_/\_/\_):=⟨z0,z1,z2,z3,z4⟩
      clear z0 z1 z2 z3 z4 hB hb4'
      go_wp2_with fail
      obtain⟨z0,z1,z2,z3,z4⟩:=Z.out
      refine bodyPost_ret (v:=leaf 0 0 []) ?_ rfl ?_
      ·simp only[set5,str]at z0 z1 z2 z3 z4
       simp[results,Tryz.results97,go_sem,z0,z1,z2,z3,z4,leaf,str]
      ·refine⟨leafV 0 0 [],leaf 0 0 [],none,rfl,⟨_,_,rfl,rfl,(by unfold I64;omega),(by unfold I64;omega)⟩,?_,?_,?_⟩
       ·cases st with
        | none=>rfl
        | some l=>
         have hx':X.data.toList=l.takeWhile isNum:=hx.out
         exact congrArg _ (numS_ne (v:=v) (by rw[<-hx'];exact HV.out) (by rw[<-hx'];exact heq))
       ·exact R4.out.1.of_heap ((set5_gb w4 w.heap.size _ _ _ _ _).block b R4.out.1.lt (by simp;omega))
       ·exact gb_own (gb_trans (gb_trans (gb_trans (World.grownBy_alloc w zcells _) hgw.out) (gb_own (gb_refl _ _) hg3.out (by simp))) R4.out.2) (set5_gb w4 w.heap.size _ _ _ _ _) (by intro k hk;cases hk;exact Nat.le_refl _)
   all_goals
    have hno:∀ v,Lib.atoiAll X.data.toList≠.ok v:=by intro v e;rw[hv]at e;cases e
    have HV:=hidI hno
    clear hv hno
    rcases hsplit with⟨d1,d2⟩ | d1
    all_goals
     go_wp2_with fail
     go_quiet (fail)
     rw[hX]
     go_wp2_with fail
     refine(atoi_no X hxl HV.out _ (by exact(hG1.out.same (w':=wr.drewN _) rfl))).mono ?_
     rintro e w3 ⟨v,N,T,rfl,hb2⟩
     have hg3:Hid (wr.grownBy w3 none):=gb_trans (gb_drewN (gb_refl wr none) _) (gb_below hb2)
     clear hb2
     have hbx3:Hid (BoxIs w3 w.heap.size (.int .i64 0) (.int .i64 0) (.string ⟨#[]⟩) (.slice none 0 0) (.slice none 0 0)):=hbx.out.grown hg3.out (by simp)
     go_wp2_with fail
     refine(fail_at _ b s _ _ (by exact hend.out.of_heap (hg3.out.block b hend.out.lt (by simp)))).mono ?_
     rintro e w4 ⟨rfl,h4,hg4⟩
     have R4:Hid (RdAt w4 b s [] true/\w3.grownBy w4 (some b)):=⟨h4,hg4⟩
     clear h4 hg4
     have hb4':=hbx3.out.grown R4.out.2 (by simp;omega)
     obtain⟨x0,x1,x2,x3,x4,y0,y1,y2,y3,y4⟩:=hb4'.c
     have hB:=hb4'.set (.int .i64 0) (.int .i64 0) (str []) (.slice none 0 0) (.slice none 0 0)
     obtain⟨z0,z1,z2,z3,z4,-⟩:=hB.c
     have Z:Hid (_/\_/\_/\_/\_):=⟨z0,z1,z2,z3,z4⟩
     clear z0 z1 z2 z3 z4 hB hb4'
     go_wp2_with fail
     obtain⟨z0,z1,z2,z3,z4⟩:=Z.out
     refine bodyPost_ret (v:=leaf 0 0 []) ?_ rfl ?_
     ·simp only[set5,str]at z0 z1 z2 z3 z4
      simp[results,Tryz.results97,go_sem,z0,z1,z2,z3,z4,leaf,str]
     ·refine⟨leafV 0 0 [],leaf 0 0 [],none,rfl,⟨_,_,rfl,rfl,(by unfold I64;omega),(by unfold I64;omega)⟩,?_,?_,?_⟩
      ·cases st with
       | none=>rfl
       | some l=>
        have hx':X.data.toList=l.takeWhile isNum:=hx.out
        exact congrArg _ (numS_no (by intro v;rw[<-hx'];exact HV.out v))
      ·exact R4.out.1.of_heap ((set5_gb w4 w.heap.size _ _ _ _ _).block b R4.out.1.lt (by simp;omega))
      ·exact gb_own (gb_trans (gb_trans (gb_trans (World.grownBy_alloc w zcells _) hgw.out) (gb_own (gb_refl _ _) hg3.out (by simp))) R4.out.2) (set5_gb w4 w.heap.size _ _ _ _ _) (by intro k hk;cases hk;exact Nat.le_refl _)
end Go.Proofs.YtmdemcjmcnfjmaaGreatDoor
namespace Go.Proofs.YtmdemcjmcnfjmaaGreatDoor
open Go.ChangeShapes Go.WideShapes Go.ChangeAt Go.RowKit
theorem gPow:Tryz.prog.globalNamed "internal/strconv.uint64pow10"=some 5:=by kernel_rfl
theorem gPowType:(Tryz.prog.globals[5]?).map (·.type)=some 197:=by kernel_rfl
theorem gRange:Tryz.prog.globalNamed "strconv.ErrRange"=some 4:=by kernel_rfl
theorem gRangeType:(Tryz.prog.globals[4]?).map (·.type)=some 76:=by kernel_rfl
theorem gSyntax:Tryz.prog.globalNamed "strconv.ErrSyntax"=some 3:=by kernel_rfl
theorem gSyntaxType:(Tryz.prog.globals[3]?).map (·.type)=some 76:=by kernel_rfl
theorem cellsPow:Tryz.prog.cellsOf 197=20:=by kernel_rfl
theorem cellsU64:Tryz.prog.cellsOf 136=1:=by kernel_rfl
theorem cellsErrS:Tryz.prog.cellsOf 195=1:=by kernel_rfl
theorem star: "*"++ "errors.errorString"= "*errors.errorString":=by decide
theorem rowErr (u:TypeId) (h:Tryz.prog.typeName? 3 u=some "*errors.errorString"):u=193:=
 typeName_ptr_named (nm:= "errors.errorString") (by rw[star];kernel_rfl) (by kernel_rfl) (by decide) u (by rw[star];exact h)
theorem powData:(Rows.laid_internal_strconv_uint64pow10:DataW Unit)=Lib.tabData .u64 Lib.pow10Tab:=by kernel_rfl
end Go.Proofs.YtmdemcjmcnfjmaaGreatDoor
namespace Go.Proofs.YtmdemcjmcnfjmaaGreatDoor
open Go.RowKit
def SlIs (w:World) (size:Nat) (v:Value) (n:Nat) (cells:List Value):Prop:=
 cells.length=n * size/\n<=1000000/\(∀ u∈cells,u.oneCell'=true)/\(v=.slice none 0 0/\n=0\/∃ ad c,v=.slice (some ad) n c/\∀ j u,cells[j]?=some u->w.cell? (ad.add j)=some u)
theorem SlIs.below {w w':World} {size:Nat} {v:Value} {n:Nat} {cells:List Value} (h:SlIs w size v n cells) (hb:Below w.heap.size w w'):SlIs w' size v n cells:=by
 obtain⟨h1,h2,h3,h4⟩:=h
 refine⟨h1,h2,h3,?_⟩
 rcases h4 with h4 | ⟨ad,c,e,hc⟩
 ·exact .inl h4
 ·refine .inr ⟨ad,c,e,fun j u hj=>?_⟩
  have:=hc j u hj
  rw[World.cell?_of_block (hb.block _ (World.block_lt_of_cell? w _ this))];exact this
structure Part where
 v:Value
 n:Nat
 cells:List Value
def sumN (ps:List Part):Nat:=(ps.map Part.n).sum
def allC (ps:List Part):List Value:=(ps.map Part.cells).flatten
theorem sumN_snoc (ps:List Part) (p:Part):sumN (ps++[p])=sumN ps+p.n:=by simp[sumN]
theorem allC_snoc (ps:List Part) (p:Part):allC (ps++[p])=allC ps++p.cells:=by simp[allC]
theorem take_snoc' {ps:List Part} {i:Nat} {p:Part} (h:ps[i]?=some p):ps.take (i+1)=ps.take i++[p]:=by rw[List.take_add_one,h];rfl
theorem sumN_take_le (ps:List Part) (i:Nat):sumN (ps.take i)<=sumN ps:=by
 have h:ps=ps.take i++ps.drop i:=(List.take_append_drop i ps).symm
 have:sumN ps=sumN (ps.take i)+sumN (ps.drop i):=by
  have:=congrArg sumN h
  rw[this]
  simp only[sumN,List.map_append,List.sum_append]
 omega
end Go.Proofs.YtmdemcjmcnfjmaaGreatDoor
namespace Go.Proofs.YtmdemcjmcnfjmaaGreatDoor
open Go.RowKit
def pairedV (t:V):Bool:=decide (t.kind=5)&&decide (t.keys.length=t.l.length)
def idxL (key:List UInt8):List (List UInt8)->Option Nat
 | []=>none
 | x :: xs=>if x=key then some 0 else (idxL key xs).map (·+1)
def findV (t:V) (key:List UInt8):Option Nat:=if pairedV t then idxL key t.keys else none
def memV (t:V) (key:List UInt8):Option V:=(findV t key).bind fun i=>t.l[i]?
def optI:Option Nat->Int
 | none=>-1
 | some n=>n
theorem idxL_lt {key:List UInt8} {xs:List (List UInt8)} {i:Nat} (h:idxL key xs=some i):i < xs.length/\xs[i]?=some key:=by
 induction xs generalizing i with
 | nil=>cases h
 | cons x xs ih=>
  simp only[idxL]at h
  split at h
  ·rename_i e;cases h;simp[e]
  ·rw[Option.map_eq_some_iff]at h
   obtain⟨j,hj,rfl⟩:=h
   have:=ih hj
   simpa using this
theorem idxS_eq (key:List UInt8):∀ (xs:List (List UInt8)) (i:Nat),Lib.idxFromS (xs.map fun l=>(⟨l.toArray⟩:ByteArray)) ⟨key.toArray⟩ i=optI ((idxL key xs).map (·+i))
 | [],i=>rfl
 | x :: xs,i=>by
  have ih:=idxS_eq key xs (i+1)
  simp only[List.map_cons,Lib.idxFromS,idxL]
  by_cases h:x=key
  ·subst h;simp[optI]
  ·rw[if_neg h]
   have e:¬((⟨x.toArray⟩:ByteArray)=⟨key.toArray⟩):=by intro e;apply h;simpa using e
   rw[if_neg e,ih]
   cases idxL key xs with
   | none=>rfl
   | some k=>simp[optI];omega
theorem StrsAre.form {w:World} {ok:Nat->Prop} {xs:List (List UInt8)} {v:Value} (h:StrsAre w ok xs v):∃ a c,v=.slice a xs.length c:=by
 rcases h.2 with⟨rfl,a,e⟩ | ⟨b,off,c,e,_⟩
 ·exact⟨_,_,e⟩
 ·exact⟨_,_,e⟩
theorem ValsAre.form {w:World} {ok:Nat->Prop} {R:V->Value->Prop} {xs:List V} {v:Value} (h:ValsAre w ok R xs v):∃ a c,v=.slice a xs.length c:=by
 rcases h.2 with⟨rfl,a,e⟩ | ⟨b,off,c,e,_⟩
 ·exact⟨_,_,e⟩
 ·exact⟨_,_,e⟩
set_option maxRecDepth 100000 in
set_option maxHeartbeats 400000 in
theorem paired_at (w:World) (ok:Nat->Prop) (d:Nat) (t:V) (v:Value) (h:VIs w ok d t v) :
 Calls Tryz.prog 115 #[v] w fun e w'=>e=.returned (.bool (pairedV t))/\Below w.heap.size w w':=by
 match d,h with
 | d+1,h=>
  obtain⟨ks,ls,rfl,h1,h2,h3,h4,h5⟩:=h
  obtain⟨a1,c1,rfl⟩:=h4.form
  obtain⟨a2,c2,rfl⟩:=h5.form
  have l1:=h4.1
  have l2:=h5.1
  unfold maxLen at l1 l2 h3
  unfold str
  clear h4 h5 h1 h2
  by_cases hk:t.kind=5
  ·by_cases hl:t.keys.length=t.l.length
   ·have e1:(t.kind == 5)=true:=by simp[hk]
    have e2:((t.keys.length:Int) == (t.l.length:Int))=true:=by simp[hl]
    have F:Hid (pairedV t=true):=hidI (by simp[pairedV,hk,hl])
    clear hk hl
    go_enter Tryz.func115,Tryz.ntmps115
    go_wp2
    go_ret
    exact⟨by rw[F.out];rfl,(Below.refl _ w).alloc (Nat.le_refl _) _⟩
   ·have e1:(t.kind == 5)=true:=by simp[hk]
    have e2:((t.keys.length:Int) == (t.l.length:Int))=false:=by rw[beq_eq_false_iff_ne];omega
    have F:Hid (pairedV t=false):=hidI (by simp[pairedV,hl])
    clear hk hl
    go_enter Tryz.func115,Tryz.ntmps115
    go_wp2
    go_ret
    exact⟨by rw[F.out];rfl,(Below.refl _ w).alloc (Nat.le_refl _) _⟩
  ·have e1:(t.kind == 5)=false:=by simp[hk]
   have F:Hid (pairedV t=false):=hidI (by simp[pairedV,hk])
   clear hk
   go_enter Tryz.func115,Tryz.ntmps115
   go_wp2
   go_ret
   exact⟨by rw[F.out];rfl,(Below.refl _ w).alloc (Nat.le_refl _) _⟩
theorem indexS_at (w:World) (ok:Nat->Prop) (xs:List (List UInt8)) (v:Value) (key:List UInt8) (h:StrsAre w ok xs v) :
 Calls Tryz.prog 116 #[v,str key] w fun e w'=>e=.returned (.int .i64 (optI (idxL key xs)))/\w'=w:=by
 obtain⟨hm,h⟩:=h
 unfold maxLen at hm
 rcases h with⟨rfl,a,rfl⟩ | ⟨b,off,c,rfl,h1,h2,h3⟩
 ·exact Tryz.slices_Index_string_empty a 0 ⟨key.toArray⟩ w
 ·refine(Tryz.slices_Index_string b off xs.length c (xs.map fun l=>(⟨l.toArray⟩:ByteArray)) ⟨key.toArray⟩ w (by simp) (by omega) ?_).mono ?_
  ·intro j hj
   have hj':j < xs.length:=by simpa using hj
   have:=(h3 j xs[j] (List.getElem?_eq_getElem hj')).2.2
   rw[this]
   simp[str,hj']
  ·rintro e w' ⟨rfl,rfl⟩
   refine⟨?_,rfl⟩
   have e1:(xs.map fun l=>(⟨l.toArray⟩:ByteArray)).take xs.length=xs.map fun l=>(⟨l.toArray⟩:ByteArray):=List.take_of_length_le (by simp)
   rw[e1,Lib.idxOfS,idxS_eq]
   cases idxL key xs <;> rfl
theorem VIs.bel {w w':World} {ok:Nat->Prop} {d:Nat} {t:V} {v:Value} (h:VIs w ok d t v) (hb:Below w.heap.size w w'):VIs w' ok d t v:=h.grown (gb_below (r:=none) hb) (by simp)
theorem StrsAre.bel {w w':World} {ok:Nat->Prop} {xs:List (List UInt8)} {v:Value} (h:StrsAre w ok xs v) (hb:Below w.heap.size w w'):StrsAre w' ok xs v:=h.imp (cells_grown (gb_below (r:=none) hb) (by simp))
set_option maxRecDepth 100000 in
set_option maxHeartbeats 400000 in
theorem find_at (w:World) (ok:Nat->Prop) (d:Nat) (t:V) (v:Value) (key:List UInt8) (h:VIs w ok d t v) :
 Calls Tryz.prog 72 #[v,str key] w fun e w'=>e=.returned (.int .i64 (optI (findV t key)))/\Below w.heap.size w w':=by
 have H:=hidI h
 match d,h with
 | d+1,h=>
  obtain⟨ks,ls,rfl,h1,h2,h3,h4,h5⟩:=h
  have K4:=hidI h4
  obtain⟨a1,c1,rfl⟩:=h4.form
  obtain⟨a2,c2,rfl⟩:=h5.form
  have l1:=h4.1
  have l2:=h5.1
  unfold maxLen at l1 l2 h3
  unfold str
  clear h4 h5 h1 h2
  go_enter Tryz.func72,Tryz.ntmps72
  go_wp2_with fail
  refine(paired_at _ ok _ t _ (by exact H.out.bel (bel_alloc _ _))).mono ?_
  rintro e w1 ⟨rfl,hb1⟩
  have B1:=hidI hb1
  have e0:w1.cell? ⟨w.heap.size,3,none⟩=some (.slice a1 t.keys.length c1):=by
   rw[World.cell?_of_block (hb1.block _ (by simp))];simp
  clear hb1
  cases hp:pairedV t with
  | true=>
   have F:Hid (findV t key=idxL key t.keys):=hidI (by simp[findV,hp])
   go_wp2_with fail
   refine(indexS_at _ ok t.keys _ key (by exact K4.out.bel (bel_trans (bel_alloc _ _) B1.out))).mono ?_
   rintro e w2 ⟨rfl,rfl⟩
   go_wp2_with fail
   go_ret
   exact⟨by rw[F.out];rfl,bel_trans (bel_alloc _ _) B1.out⟩
  | false=>
   have F:Hid (findV t key=none):=hidI (by simp[findV,hp])
   go_wp2_with fail
   go_ret
   exact⟨by rw[F.out];rfl,bel_trans (bel_alloc _ _) B1.out⟩
end Go.Proofs.YtmdemcjmcnfjmaaGreatDoor
namespace Go.Proofs.YtmdemcjmcnfjmaaGreatDoor
open Go.RowKit
theorem findV_some {t:V} {key:List UInt8} {i:Nat} (h:findV t key=some i):pairedV t=true/\idxL key t.keys=some i/\i < t.l.length/\i < t.keys.length:=by
 unfold findV at h
 split at h
 ·rename_i hp
  have h9:=(idxL_lt h).1
  have:t.keys.length=t.l.length:=by
   simp only[pairedV,Bool.and_eq_true,decide_eq_true_eq]at hp;exact hp.2
  exact⟨hp,h,by omega,h9⟩
 ·cases h
theorem box_bel {w w':World} (hb:Below w.heap.size w w') {g:Nat} {c0 c1 c2 c3 c4:Value} (h:BoxIs w g c0 c1 c2 c3 c4):BoxIs w' g c0 c1 c2 c3 c4:=h.grown (gb_below (r:=none) hb) (by simp)
theorem gb_set5 {a w:World} {r:Option Nat} {g:Nat} (h:a.grownBy w r) (hg:a.heap.size<=g) (d0 d1 d2 d3 d4:Value):a.grownBy (set5 w g d0 d1 d2 d3 d4) r:=by
 have k:=set5_gb w g d0 d1 d2 d3 d4
 exact⟨k.os.trans h.os,k.tape.trans h.tape,k.output.trans h.output,Nat.le_trans h.size k.size,fun i hi hr=>(k.block i (Nat.lt_of_lt_of_le hi h.size) (fun e=>by cases e;omega)).trans (h.block i hi hr)⟩
theorem VIs.agg {w:World} {ok:Nat->Prop} {d:Nat} {t:V} {v0 v1 v2 v3 v4:Value} (h:VIs w ok d t (.agg #[v0,v1,v2,v3,v4])) :
 v0=.int .i64 t.kind/\v1=.int .i64 t.n/\v2=.string ⟨t.s.toArray⟩/\(∃ a c,v3=.slice a t.keys.length c)/\∃ a c,v4=.slice a t.l.length c:=by
 match d,h with
 | d+1,h=>
  obtain⟨ks,ls,e,h1,h2,h3,h4,h5⟩:=h
  simp only[Value.agg.injEq,Array.mk.injEq,List.cons.injEq,and_true]at e
  obtain⟨rfl,rfl,rfl,rfl,rfl⟩:=e
  exact⟨rfl,rfl,rfl,h4.form,h5.form⟩
def MemIs (w:World) (ok:Nat->Prop) (d:Nat) (m:Option V) (x:Value) (b:Bool):Prop:=
 match m with
 | some y=>b=true/\VIs w ok d y x
 | none=>b=false/\x=leaf 0 0 []
set_option maxRecDepth 100000 in
set_option maxHeartbeats 400000 in
theorem member_at (w:World) (ok:Nat->Prop) (d:Nat) (t:V) (v:Value) (key:List UInt8) (h:VIs w ok d t v) :
 Calls Tryz.prog 38 #[v,str key] w fun e w'=>∃ x b,e=.returned (.tuple #[x,.bool b])/\Below w.heap.size w w'/\MemIs w' ok d (memV t key) x b:=by
 have H:=hidI h
 match d,h with
 | d+1,h=>
  obtain⟨ks,ls,rfl,h1,h2,h3,h4,h5⟩:=h
  have K5:=hidI h5
  obtain⟨a1,c1,rfl⟩:=h4.form
  obtain⟨a2,c2,hls⟩:=h5.form
  have l1:=h4.1
  have l2:=h5.1
  unfold maxLen at l1 l2 h3
  unfold str
  clear h4 h5 h1 h2
  cases hf:findV t key with
  | none=>
   have F:=hidI hf
   subst hls
   clear hf
   go_enter Tryz.func38,Tryz.ntmps38
   go_wp2_with fail
   refine(find_at _ ok _ t _ key (by exact H.out.bel (bel_trans (bel_alloc _ _) (bel_alloc _ _)))).mono ?_
   rintro e w1 ⟨rfl,hb1⟩
   rw[F.out]
   have B1:=hidI hb1
   have hbx:BoxIs w1 (w.heap.size+1) (.int .i64 0) (.int .i64 0) (.string ⟨#[]⟩) (.slice none 0 0) (.slice none 0 0):=by
    exact box_bel hb1 (h2b w _ _)
   obtain⟨x0,x1,x2,x3,x4,y0,y1,y2,y3,y4⟩:=hbx.c
   obtain⟨z0,z1,z2,z3,z4,-⟩:=(hbx.set (.int .i64 0) (.int .i64 0) (str []) (.slice none 0 0) (.slice none 0 0)).c
   have Z:Hid (_/\_/\_/\_/\_):=⟨z0,z1,z2,z3,z4⟩
   clear z0 z1 z2 z3 z4 hb1
   unfold optI
   go_wp2_with fail
   obtain⟨z0,z1,z2,z3,z4⟩:=Z.out
   refine bodyPost_ret (v:=.tuple #[leaf 0 0 [],.bool false]) ?_ rfl ?_
   ·simp only[set5,str]at z0 z1 z2 z3 z4
    simp[results,Tryz.results38,go_sem,z0,z1,z2,z3,z4,leaf,str]
   ·refine⟨_,_,rfl,?_,?_⟩
    ·exact gb_none (gb_set5 (gb_trans (gb_alloc (gb_alloc (gb_refl _ _) _) _) (gb_below B1.out)) (Nat.le_succ _) _ _ _ _ _)
    ·simp[MemIs,memV,F.out]
  | some i=>
   obtain⟨f1,f2,f3,f4⟩:=findV_some hf
   have F:=hidI hf
   clear hf f1 f2
   obtain⟨_,K5'⟩:=K5.out
   rcases K5' with⟨e,_⟩ | ⟨b,off,c,hls',hc1,hc2,hcs⟩
   ·rw[e]at f3;simp at f3
   ·subst hls'
    obtain⟨v0,v1,v2,v3,v4,g,g0,g1,g2,g3,g4,g5⟩:=hcs i t.l[i] (List.getElem?_eq_getElem f3)
    go_enter Tryz.func38,Tryz.ntmps38
    go_wp2_with fail
    refine(find_at _ ok _ t _ key (by exact H.out.bel (bel_trans (bel_alloc _ _) (bel_alloc _ _)))).mono ?_
    rintro e w1 ⟨rfl,hb1⟩
    rw[F.out]
    have B1:=hidI hb1
    have hbx:BoxIs w1 (w.heap.size+1) (.int .i64 0) (.int .i64 0) (.string ⟨#[]⟩) (.slice none 0 0) (.slice none 0 0):=by
     exact box_bel hb1 (h2b w _ _)
    obtain⟨x0,x1,x2,x3,x4,y0,y1,y2,y3,y4⟩:=hbx.c
    obtain⟨z0,z1,z2,z3,z4,-⟩:=(hbx.set v0 v1 v2 v3 v4).c
    have Z:Hid (_/\_/\_/\_/\_):=⟨z0,z1,z2,z3,z4⟩
    have hbv:BoxIs w1 w.heap.size (.int .i64 t.kind) (.int .i64 t.n) (.string ⟨t.s.toArray⟩) (.slice a1 t.keys.length c1) (.slice (some ⟨b,off,none⟩) t.l.length c2):=box_bel hb1 (h2a w _ _)
    obtain⟨-,-,-,-,q4,-⟩:=hbv.c
    have hb0:Below w.heap.size w w1:=bel_trans (bel_trans (bel_alloc _ _) (bel_alloc _ _)) hb1
    have g0':=cell_bel hb0 g0
    have g1':=cell_bel hb0 g1
    have g2':=cell_bel hb0 g2
    have g3':=cell_bel hb0 g3
    have g4':=cell_bel hb0 g4
    have G5:=hidI g5
    obtain⟨rfl,rfl,rfl,⟨a5,c5,rfl⟩,⟨a6,c6,rfl⟩⟩:=g5.agg
    clear z0 z1 z2 z3 z4 hb1 hb0 g0 g1 g2 g3 g4 g5 hcs hbv hbx
    unfold optI
    have i0:¬((i:Int) < 0):=by omega
    go_wp2_with fail
    obtain⟨z0,z1,z2,z3,z4⟩:=Z.out
    refine bodyPost_ret (v:=.tuple #[.agg #[.int .i64 t.l[i].kind,.int .i64 t.l[i].n,.string ⟨t.l[i].s.toArray⟩,.slice a5 t.l[i].keys.length c5,.slice a6 t.l[i].l.length c6],.bool true]) ?_ rfl ?_
    ·simp only[set5]at z0 z1 z2 z3 z4
     simp[results,Tryz.results38,go_sem,z0,z1,z2,z3,z4]
    ·have hb9:Below w.heap.size w (set5 w1 (w.heap.size+1) (.int .i64 t.l[i].kind) (.int .i64 t.l[i].n) (.string ⟨t.l[i].s.toArray⟩) (.slice a5 t.l[i].keys.length c5) (.slice a6 t.l[i].l.length c6)):=
      gb_none (gb_set5 (gb_trans (gb_alloc (gb_alloc (gb_refl _ _) _) _) (gb_below B1.out)) (Nat.le_succ _) _ _ _ _ _)
     refine⟨_,_,rfl,hb9,?_⟩
     have hm:memV t key=some t.l[i]:=by simp[memV,F.out,List.getElem?_eq_getElem f3]
     rw[hm]
     exact⟨rfl,(G5.out.bel hb9).succ⟩
end Go.Proofs.YtmdemcjmcnfjmaaGreatDoor
namespace Go.Proofs.YtmdemcjmcnfjmaaGreatDoor
open Go.RowKit
def RowV (R:V->Value->Prop):List V->List Value->Prop
 | [],cs=>cs=[]
 | x :: xs,cs=>∃ v0 v1 v2 v3 v4 rest,cs=v0 :: v1 :: v2 :: v3 :: v4 :: rest/\R x (.agg #[v0,v1,v2,v3,v4])/\RowV R xs rest
theorem RowV.length {R:V->Value->Prop}:∀ {xs:List V} {cs:List Value},RowV R xs cs->cs.length=xs.length * 5
 | [],cs,h=>by simp[RowV]at h;simp[h]
 | x :: xs,cs,h=>by
  obtain⟨v0,v1,v2,v3,v4,rest,rfl,_,hr⟩:=h
  have:=hr.length
  simp only[List.length_cons];omega
theorem RowV.append {R:V->Value->Prop} {ys:List V} {ds:List Value} (hy:RowV R ys ds):∀ {xs:List V} {cs:List Value},RowV R xs cs->RowV R (xs++ys) (cs++ds)
 | [],cs,h=>by simp[RowV]at h;subst h;exact hy
 | x :: xs,cs,h=>by
  obtain⟨v0,v1,v2,v3,v4,rest,rfl,hR,hr⟩:=h
  exact⟨v0,v1,v2,v3,v4,rest++ds,rfl,hR,hy.append hr⟩
theorem RowV.split {R:V->Value->Prop} {ys:List V}:∀ {xs:List V} {cs:List Value},RowV R (xs++ys) cs->∃ c1 c2,cs=c1++c2/\RowV R xs c1/\RowV R ys c2
 | [],cs,h=>⟨[],cs,rfl,rfl,h⟩
 | x :: xs,cs,h=>by
  obtain⟨v0,v1,v2,v3,v4,rest,rfl,hR,hr⟩:=h
  obtain⟨c1,c2,rfl,h1,h2⟩:=RowV.split hr
  exact⟨v0 :: v1 :: v2 :: v3 :: v4 :: c1,c2,rfl,⟨v0,v1,v2,v3,v4,c1,rfl,hR,h1⟩,h2⟩
theorem RowV.imp {R R':V->Value->Prop} (hR:∀ x v,R x v->R' x v):∀ {xs:List V} {cs:List Value},RowV R xs cs->RowV R' xs cs
 | [],cs,h=>h
 | x :: xs,cs,h=>by
  obtain⟨v0,v1,v2,v3,v4,rest,rfl,h1,hr⟩:=h
  exact⟨v0,v1,v2,v3,v4,rest,rfl,hR _ _ h1,hr.imp hR⟩
theorem RowV.one {w:World} {ok:Nat->Prop} {d:Nat}:∀ {xs:List V} {cs:List Value},RowV (VIs w ok d) xs cs->∀ u∈cs,u.oneCell'=true
 | [],cs,h=>by simp[RowV]at h;subst h;simp
 | x :: xs,cs,h=>by
  obtain⟨v0,v1,v2,v3,v4,rest,rfl,h1,hr⟩:=h
  obtain⟨rfl,rfl,rfl,⟨a5,c5,rfl⟩,⟨a6,c6,rfl⟩⟩:=h1.agg
  intro u hu
  simp only[List.mem_cons]at hu
  rcases hu with rfl | rfl | rfl | rfl | rfl | hu
  ·rfl
  ·rfl
  ·rfl
  ·rfl
  ·rfl
  ·exact hr.one u hu
theorem RowV.get {R:V->Value->Prop}:∀ {xs:List V} {cs:List Value},RowV R xs cs->∀ i x,xs[i]?=some x->∃ v0 v1 v2 v3 v4,cs[i * 5]?=some v0/\cs[i * 5+1]?=some v1/\cs[i * 5+2]?=some v2/\cs[i * 5+3]?=some v3/\cs[i * 5+4]?=some v4/\R x (.agg #[v0,v1,v2,v3,v4])
 | [],cs,h,i,x,hx=>by simp at hx
 | y :: xs,cs,h,0,x,hx=>by
  obtain⟨v0,v1,v2,v3,v4,rest,rfl,h1,hr⟩:=h
  simp at hx;subst hx
  exact⟨v0,v1,v2,v3,v4,rfl,rfl,rfl,rfl,rfl,h1⟩
 | y :: xs,cs,h,i+1,x,hx=>by
  obtain⟨v0,v1,v2,v3,v4,rest,rfl,h1,hr⟩:=h
  obtain⟨u0,u1,u2,u3,u4,g0,g1,g2,g3,g4,g5⟩:=hr.get i x (by simpa using hx)
  have e:(i+1) * 5=i * 5+5:=by omega
  refine⟨u0,u1,u2,u3,u4,?_,?_,?_,?_,?_,g5⟩
  ·rw[e];exact g0
  ·rw[e];exact g1
  ·rw[e];exact g2
  ·rw[e];exact g3
  ·rw[e];exact g4
theorem rowV_of {w:World} {b:Nat} {R:V->Value->Prop}:∀ (xs:List V) (off:Nat),
 (∀ i x,xs[i]?=some x->∃ v0 v1 v2 v3 v4,w.cell? ⟨b,off+i * 5,none⟩=some v0/\w.cell? ⟨b,off+i * 5+1,none⟩=some v1/\w.cell? ⟨b,off+i * 5+2,none⟩=some v2 /\
  w.cell? ⟨b,off+i * 5+3,none⟩=some v3/\w.cell? ⟨b,off+i * 5+4,none⟩=some v4/\R x (.agg #[v0,v1,v2,v3,v4])) ->
 ∃ cs,RowV R xs cs/\∀ j u,cs[j]?=some u->w.cell? ⟨b,off+j,none⟩=some u
 | [],off,_=>⟨[],rfl,by simp⟩
 | x :: xs,off,h=>by
  obtain⟨v0,v1,v2,v3,v4,g0,g1,g2,g3,g4,g5⟩:=h 0 x rfl
  obtain⟨cs,h1,h2⟩:=rowV_of (w:=w) (b:=b) (R:=R) xs (off+5) (fun i y hy=>by
   have:=h (i+1) y (by simpa using hy)
   have e:off+(i+1) * 5=off+5+i * 5:=by omega
   rw[e]at this;exact this)
  simp only[Nat.zero_mul,Nat.add_zero]at g0 g1 g2 g3 g4
  refine⟨v0 :: v1 :: v2 :: v3 :: v4 :: cs,⟨v0,v1,v2,v3,v4,cs,rfl,g5,h1⟩,?_⟩
  intro j u hj
  match j,hj with
  | 0,hj=>simp at hj;subst hj;exact g0
  | 1,hj=>simp at hj;subst hj;exact g1
  | 2,hj=>simp at hj;subst hj;exact g2
  | 3,hj=>simp at hj;subst hj;exact g3
  | 4,hj=>simp at hj;subst hj;exact g4
  | j+5,hj=>
   have:=h2 j u (by simpa using hj)
   have e:off+(j+5)=off+5+j:=by omega
   rw[e];exact this
theorem ValsAre.plain {w:World} {ok:Nat->Prop} {R:V->Value->Prop} {xs:List V} {b off n c:Nat} (h:ValsAre w ok R xs (.slice (some ⟨b,off,none⟩) n c)) :
 ∃ b' off' c',Value.slice (some ⟨b,off,none⟩) n c=.slice (some ⟨b',off',none⟩) xs.length c'/\xs.length<=c'/\c'<=maxLen /\
 ∀ i x,xs[i]?=some x->∃ v0 v1 v2 v3 v4,ok b'/\w.cell? ⟨b',off'+i * 5,none⟩=some v0/\w.cell? ⟨b',off'+i * 5+1,none⟩=some v1/\w.cell? ⟨b',off'+i * 5+2,none⟩=some v2 /\
  w.cell? ⟨b',off'+i * 5+3,none⟩=some v3/\w.cell? ⟨b',off'+i * 5+4,none⟩=some v4/\R x (.agg #[v0,v1,v2,v3,v4]):=by
 rcases h.2 with⟨e0,a,e⟩ | h
 ·simp only[Value.slice.injEq]at e
  obtain⟨-,e1,e2⟩:=e
  subst e1
  subst e2
  exact⟨b,off,0,by rw[e0];rfl,by rw[e0];simp,Nat.zero_le _,fun i x hx=>by rw[e0]at hx;simp at hx⟩
 ·exact h
theorem StrsAre.plain {w:World} {ok:Nat->Prop} {xs:List (List UInt8)} {b off n c:Nat} (h:StrsAre w ok xs (.slice (some ⟨b,off,none⟩) n c)) :
 ∃ b' off' c',Value.slice (some ⟨b,off,none⟩) n c=.slice (some ⟨b',off',none⟩) xs.length c'/\xs.length<=c'/\c'<=maxLen /\
 ∀ i x,xs[i]?=some x->x.length<=maxLen/\ok b'/\w.cell? ⟨b',off'+i,none⟩=some (str x):=by
 rcases h.2 with⟨e0,a,e⟩ | h
 ·simp only[Value.slice.injEq]at e
  obtain⟨-,e1,e2⟩:=e
  subst e1
  subst e2
  exact⟨b,off,0,by rw[e0];rfl,by rw[e0];simp,Nat.zero_le _,fun i x hx=>by rw[e0]at hx;simp at hx⟩
 ·exact h
theorem ValsAre.row {w:World} {ok:Nat->Prop} {d:Nat} {xs:List V} {b off n c:Nat} (h:ValsAre w ok (VIs w ok d) xs (.slice (some ⟨b,off,none⟩) n c)) :
 n=xs.length/\n<=c/\∃ cs,RowV (VIs w ok d) xs cs/\∀ j u,cs[j]?=some u->w.cell? ⟨b,off+j,none⟩=some u:=by
 obtain⟨b',off',c',e,h1,h2,h3⟩:=h.plain
 ·simp only[Value.slice.injEq,Option.some.injEq,Addr.mk.injEq,and_true]at e
  obtain⟨⟨rfl,rfl⟩,rfl,rfl⟩:=e
  refine⟨rfl,h1,rowV_of xs off (fun i x hx=>?_)⟩
  obtain⟨v0,v1,v2,v3,v4,_,g⟩:=h3 i x hx
  exact⟨v0,v1,v2,v3,v4,g⟩
theorem addr_add (b off j:Nat):(⟨b,off,none⟩:Addr).add j=⟨b,off+j,none⟩:=by
 unfold Addr.add
 split
 ·rename_i h;subst h;rfl
 ·rfl
theorem own_vals {w:World} {ok:Nat->Prop} {d B:Nat} {xs:List V} {cs:List Value} {v:Value} {n:Nat} (hn:n=xs.length) (ho:w.ownsRow B 25 5 v n cs) (hr:RowV (VIs w ok d) xs cs) (hok:∀ k,B<=k->ok k) (hm:xs.length<=maxLen) :
 ValsAre w ok (VIs w ok d) xs v:=by
 subst hn
 refine⟨hm,?_⟩
 rcases ho.2 with⟨e,h0⟩ | ⟨g,cap,cur,e,h1,h2,h3,h4,h5,h6⟩
 ·exact .inl ⟨List.eq_nil_of_length_eq_zero h0,none,e⟩
 ·refine .inr ⟨g,0,cap,e,h3,h4,fun i x hx=>?_⟩
  obtain⟨v0,v1,v2,v3,v4,g0,g1,g2,g3,g4,g5⟩:=hr.get i x hx
  have cell:∀ j u,cs[j]?=some u->w.cell? ⟨g,0+j,none⟩=some u:=fun j u hj=>by
   have:=ho.cells (g:=g) (by rw[e];rfl) j u hj
   rw[addr_add]at this;exact this
  exact⟨v0,v1,v2,v3,v4,hok g h1,cell _ _ g0,cell _ _ g1,cell _ _ g2,cell _ _ g3,cell _ _ g4,g5⟩
theorem own_strs {w:World} {ok:Nat->Prop} {B:Nat} {xs:List (List UInt8)} {v:Value} {n:Nat} (hn:n=xs.length) (ho:w.ownsRow B 9 1 v n (xs.map str)) (hl:∀ x∈xs,x.length<=maxLen) (hok:∀ k,B<=k->ok k) (hm:xs.length<=maxLen):StrsAre w ok xs v:=by
 subst hn
 refine⟨hm,?_⟩
 rcases ho.2 with⟨e,h0⟩ | ⟨g,cap,cur,e,h1,h2,h3,h4,h5,h6⟩
 ·exact .inl ⟨List.eq_nil_of_length_eq_zero h0,none,e⟩
 ·refine .inr ⟨g,0,cap,e,h3,h4,fun i x hx=>⟨hl x (List.mem_of_getElem? hx),hok g h1,?_⟩⟩
  have:=ho.cells (g:=g) (by rw[e];rfl) i (str x) (by simp[hx])
  rw[addr_add]at this;exact this
theorem sl_parts {w:World} {ok:Nat->Prop} {d:Nat} {xs:List V} {b off n c:Nat} (h:ValsAre w ok (VIs w ok d) xs (.slice (some ⟨b,off,none⟩) n c)) (i j:Nat) (hij:i<=j) (hi:j<=xs.length) (hs:xs.length<=1000000) :
 ∃ c1 c2,RowV (VIs w ok d) (xs.take i) c1/\SlIs w 5 (.slice (some ⟨b,off,none⟩) i c) i c1/\RowV (VIs w ok d) (xs.drop j) c2/\SlIs w 5 (.slice (if c=j then some ⟨b,off,none⟩ else some ⟨b,off+j * 5,none⟩) (n - j) (c - j)) (xs.length - j) c2:=by
 obtain⟨hn,hc,cs,hr,hm⟩:=h.row
 have hr1:=hr
 rw[<-List.take_append_drop i xs]at hr1
 obtain⟨c1,c1',e1,h1,h1'⟩:=hr1.split
 have hr2:=hr
 rw[<-List.take_append_drop j xs]at hr2
 obtain⟨c2',c2,e2,h2',h2⟩:=hr2.split
 have l1:=h1.length
 have l2:=h2.length
 have l2':=h2'.length
 rw[List.length_take]at l1 l2'
 rw[List.length_drop]at l2
 refine⟨c1,c2,h1,⟨by rw[l1];congr 1;omega,by omega,h1.one,.inr ⟨_,c,rfl,fun k u hk=>?_⟩⟩,h2,⟨l2,by omega,h2.one,.inr ?_⟩⟩
 ·rw[addr_add]
  refine hm k u ?_
  rw[e1,List.getElem?_append_left (List.getElem?_eq_some_iff.1 hk).1];exact hk
 ·by_cases hcj:c=j
  ·refine⟨⟨b,off,none⟩,c - j,by rw[if_pos hcj,hn],fun k u hk=>?_⟩
   have:c2.length=0:=by rw[l2];omega
   rw[List.eq_nil_of_length_eq_zero this]at hk;simp at hk
  ·refine⟨⟨b,off+j * 5,none⟩,c - j,by rw[if_neg hcj,hn],fun k u hk=>?_⟩
   rw[addr_add,Nat.add_assoc]
   refine hm (j * 5+k) u ?_
   have e3:c2'.length=j * 5:=by rw[l2'];congr 1;omega
   rw[e2,List.getElem?_append_right (by omega),e3,Nat.add_sub_cancel_left];exact hk
theorem ss_parts {w:World} {ok:Nat->Prop} {xs:List (List UInt8)} {b off n c:Nat} (h:StrsAre w ok xs (.slice (some ⟨b,off,none⟩) n c)) (i j:Nat) (hij:i<=j) (hi:j<=xs.length) (hs:xs.length<=1000000) :
 SlIs w 1 (.slice (some ⟨b,off,none⟩) i c) i ((xs.take i).map str)/\SlIs w 1 (.slice (if c=j then some ⟨b,off,none⟩ else some ⟨b,off+j * 1,none⟩) (n - j) (c - j)) (xs.length - j) ((xs.drop j).map str):=by
 obtain⟨b',off',c',e,h1,h2,h3⟩:=h.plain
 ·simp only[Value.slice.injEq,Option.some.injEq,Addr.mk.injEq,and_true]at e
  obtain⟨⟨rfl,rfl⟩,rfl,rfl⟩:=e
  have one:∀ l:List (List UInt8),∀ u∈l.map str,u.oneCell'=true:=by
   intro l u hu
   simp only[List.mem_map]at hu
   obtain⟨a,_,rfl⟩:=hu;rfl
  refine⟨⟨by simp;omega,by omega,one _,.inr ⟨_,c,rfl,fun k u hk=>?_⟩⟩,⟨by simp,by omega,one _,.inr ?_⟩⟩
  ·rw[addr_add]
   simp only[List.getElem?_map,Option.map_eq_some_iff]at hk
   obtain⟨x,hx,rfl⟩:=hk
   exact(h3 k x (by rw[List.getElem?_take]at hx;split at hx;exact hx;cases hx)).2.2
  ·by_cases hcj:c=j
   ·refine⟨⟨b,off,none⟩,c - j,by rw[if_pos hcj],fun k u hk=>?_⟩
    have:xs.drop j=[]:=List.drop_eq_nil_of_le (by omega)
    rw[this]at hk;simp at hk
   ·refine⟨⟨b,off+j * 1,none⟩,c - j,by rw[if_neg hcj],fun k u hk=>?_⟩
    rw[addr_add,Nat.mul_one,Nat.add_assoc]
    simp only[List.getElem?_map,Option.map_eq_some_iff,List.getElem?_drop]at hk
    obtain⟨x,hx,rfl⟩:=hk
    exact(h3 (j+k) x hx).2.2
theorem SlIs.bel {w w':World} {size:Nat} {v:Value} {n:Nat} {cells:List Value} (h:SlIs w size v n cells) (hb:Below w.heap.size w w'):SlIs w' size v n cells:=h.below hb
theorem slnil (w:World) (size:Nat) (a:Option Addr):SlIs w size (.slice a 0 0) 0 []:=by
 refine⟨by simp,by simp,by simp,?_⟩
 cases a with
 | none=>exact .inl ⟨rfl,rfl⟩
 | some ad=>exact .inr ⟨ad,0,rfl,fun j u hj=>by simp at hj⟩
theorem slbox {w:World} {g:Nat} {v0 v1 v2 v3 v4:Value} (h:BoxIs w g v0 v1 v2 v3 v4) (h0:∀ u∈[v0,v1,v2,v3,v4],u.oneCell'=true):SlIs w 5 (.slice (some ⟨g,0,none⟩) 1 1) 1 [v0,v1,v2,v3,v4]:=by
 refine⟨rfl,by omega,h0,.inr ⟨_,_,rfl,fun j u hj=>?_⟩⟩
 rw[addr_add,Nat.zero_add]
 obtain⟨x0,x1,x2,x3,x4,-⟩:=h.c
 match j,hj with
 | 0,hj=>simp at hj;subst hj;exact x0
 | 1,hj=>simp at hj;subst hj;exact x1
 | 2,hj=>simp at hj;subst hj;exact x2
 | 3,hj=>simp at hj;subst hj;exact x3
 | 4,hj=>simp at hj;subst hj;exact x4
theorem slone {w:World} {g:Nat} {t:TypeId} {v:Value} (h:w.heap[g]?=some (.cells #[v] t)) (h0:v.oneCell'=true):SlIs w 1 (.slice (some ⟨g,0,none⟩) 1 1) 1 [v]:=by
 refine⟨rfl,by omega,by simpa using h0,.inr ⟨_,_,rfl,fun j u hj=>?_⟩⟩
 rw[addr_add,Nat.zero_add]
 match j,hj with
 | 0,hj=>simp at hj;subst hj;simp[World.cell?,h]
end Go.Proofs.YtmdemcjmcnfjmaaGreatDoor
namespace Go.Proofs.YtmdemcjmcnfjmaaGreatDoor
open Go.ChangeShapes Go.WideShapes Go.ChangeAt Go.RowKit
set_option maxRecDepth 100000
theorem cellsValue:Tryz.prog.cellsOf 25=5:=by kernel_rfl
theorem cellsInt:Tryz.prog.cellsOf 3=1:=by kernel_rfl
theorem cellsStrs:Tryz.prog.cellsOf 22=1:=by kernel_rfl
theorem cellsVals:Tryz.prog.cellsOf 23=1:=by kernel_rfl
theorem laidOut:laidOutB Tryz.prog=true:=by kernel_rfl
theorem readableV:Tryz.prog.readableRec 25=true:=by kernel_rfl
theorem rowedV:25 < Tryz.prog.types.size:=of_decide_eq_true (by kernel_rfl)
theorem spot_none {w:World} {a:Addr} {v:Value} (h:w.cell? a=some v):a.spot=none:=by
 unfold World.cell? at h
 split at h
 ·split at h
  ·cases h
  ·rename_i hs;simpa using hs
 ·cases h
theorem addr_plain {a:Addr} (h:a.spot=none):a=⟨a.block,a.off,none⟩:=by
 obtain⟨b,o,s⟩:=a
 simp only at h
 subst h;rfl
theorem int_wf {n:Int} (h:(Lit.int .i64 n).wf=true):I64 n:=by
 have h2:IntKind.min .i64<=n/\n<=IntKind.max .i64:=by simpa [Lit.wf] using h
 have e1:IntKind.min .i64=-9223372036854775808:=by decide
 have e2:IntKind.max .i64=9223372036854775807:=by decide
 rw[e1,e2]at h2
 exact h2
theorem strs_of {H:Type} {enc:TypeId × Value->H} {W:World} {fuel:Nat} {v:Value} {x:DataW H × List MemPlace} (h:DataW.trod enc Tryz.prog W 0 (fun _=>true) true fuel 22 [v]=some x) :
 ∃ ks,StrsAre W (fun _=>True) ks v:=by
 rcases open_strings Tryz.underlying22 Tryz.underlying9 cellsString h with⟨e,-⟩ | ⟨a,len,cap,ss,e,-,hl,hm,hss,-,hc,hz⟩
 ·simp only[List.cons.injEq,and_true]at e
  exact⟨[],by simp[maxLen],.inl ⟨rfl,none,e⟩⟩
 ·simp only[List.cons.injEq,and_true]at e
  simp only[if_true]at hss
  refine⟨(ss.take len).map fun s=>s.data.toList,?_,?_⟩
  ·simp only[List.length_map,List.length_take];omega
  ·have hlen:((ss.take len).map fun s=>s.data.toList).length=len:=by simp only[List.length_map,List.length_take];omega
   by_cases h0:cap=0
   ·have:len=0:=by omega
    subst this
    subst h0
    exact .inl ⟨by simp,some a,e⟩
   ·have ha:=addr_plain (spot_none (by have:=hc 0 (by omega);simpa [Addr.add] using this))
    refine .inr ⟨a.block,a.off,cap,by rw[hlen,<-ha];exact e,by omega,hm,fun i y hy=>?_⟩
    simp only[List.getElem?_map,Option.map_eq_some_iff]at hy
    obtain⟨s,hs,rfl⟩:=hy
    have hs2:ss[i]?=some s:=by
     rw[List.getElem?_take]at hs
     split at hs
     ·exact hs
     ·cases hs
    have hi:=(List.getElem?_eq_some_iff.1 hs2).1
    refine⟨by rw[Array.length_toList];exact hz s (List.mem_of_getElem? hs2),trivial,?_⟩
    have:=hc i hi
    rw[ha,addr_add]at this
    rw[this]
    unfold str
    simp[List.getD,hs2]
theorem trod_old {H:Type} {enc:TypeId × Value->H} {W:World} {t:TypeId} {v:Value} {d:DataW H} {p:List MemPlace} (h:DataW.Trod enc Tryz.prog W 0 (fun _=>true) true t v d p):∀ x∈p,x.block < W.heap.size:=by
 obtain⟨f,hf⟩:=h
 exact DataW.trod_lt f t _ _ hf
end Go.Proofs.YtmdemcjmcnfjmaaGreatDoor
namespace Go.Proofs.YtmdemcjmcnfjmaaGreatDoor
open Go.Lib (index count replaceK replaceAll split splitK)
theorem index_pre {old s:List UInt8} (h:old.isPrefixOf s=true) (hne:old≠[]):index s old=0:=by
 cases s with
 | nil=>
  cases old with
  | nil=>exact absurd rfl hne
  | cons a t=>simp[List.isPrefixOf]at h
 | cons b l=>rw[index,if_pos h]
theorem index_skip {old:List UInt8} {b:UInt8} {l:List UInt8} (h:old.isPrefixOf (b :: l)=false):index (b :: l) old=if index l old=-1 then -1 else index l old+1:=by
 rw[index,if_neg (by rw[h];simp)]
 by_cases e:index l old=-1
 ·rw[if_pos (by rw[e];rfl),if_pos e]
 ·rw[if_neg (by simpa using e),if_neg e]
theorem repl_def {s old new:List UInt8} (hd:old≠new):replaceAll s old new=replaceK old new (count s old) s:=by
 unfold Go.Lib.replaceAll Go.Lib.replace
 rw[if_neg (by simpa using hd)]
 unfold Go.Lib.replaceNum
 rw[if_pos (.inl (by omega))]
theorem repl_nil {old new:List UInt8} (hne:old≠[]) (hd:old≠new):replaceAll [] old new=[]:=by
 rw[repl_def hd]
 have:index [] old=-1:=by
  cases old with
  | nil=>exact absurd rfl hne
  | cons a t=>rfl
 rw[Go.Lib.count_miss this];rfl
theorem repl_hit {t old new:List UInt8} (hne:old≠[]) (hd:old≠new):replaceAll (old++t) old new=new++replaceAll t old new:=by
 have hp:old.isPrefixOf (old++t)=true:=List.isPrefixOf_iff_prefix.2 ⟨t,rfl⟩
 have hi:index (old++t) old=(0:Nat):=index_pre hp hne
 rw[repl_def hd,repl_def hd,Go.Lib.count_hit hne hi,Nat.add_comm 1,Go.Lib.replaceK_hit _ _ _ _ 0 hi]
 simp
theorem repl_skip {old new:List UInt8} {b:UInt8} {l:List UInt8} (hne:old≠[]) (hd:old≠new) (h:old.isPrefixOf (b :: l)=false):replaceAll (b :: l) old new=b :: replaceAll l old new:=by
 rw[repl_def hd,repl_def hd]
 have hs:=index_skip h
 by_cases e:index l old=-1
 ·rw[if_pos e]at hs
  rw[Go.Lib.count_miss e,Go.Lib.count_miss hs];rfl
 ·rw[if_neg e]at hs
  obtain⟨i,hi⟩:∃ i:Nat,index l old=i:=⟨(index l old).toNat,by have:=Go.Lib.index_ge l old;omega⟩
  have hi2:index (b :: l) old=(i+1:Nat):=by rw[hs,hi];rfl
  rw[Go.Lib.count_hit hne hi,Go.Lib.count_hit hne hi2]
  have e1:(b :: l).drop (i+1+old.length)=l.drop (i+old.length):=by
   rw[show i+1+old.length=(i+old.length)+1 by omega];rfl
  rw[e1,Nat.add_comm 1,Go.Lib.replaceK_hit _ _ _ _ _ hi,Go.Lib.replaceK_hit _ _ _ _ _ hi2,e1]
  simp
def escP (c:UInt8):List UInt8:=if c=126 then [126,48] else if c=47 then [126,49] else [c]
def markedL (s:List UInt8):List UInt8:=replaceAll (replaceAll s [126] [126,48]) [47] [126,49]
def unmarkedL (s:List UInt8):List UInt8:=replaceAll (replaceAll s [126,49] [47]) [126,48] [126]
theorem pre_one (a b:UInt8) (l:List UInt8):([a]:List UInt8).isPrefixOf (b :: l)=(a == b):=by simp[List.isPrefixOf]
theorem mark1 (s:List UInt8):replaceAll s [126] [126,48]=s.flatMap fun c=>if c=126 then [126,48] else [c]:=by
 induction s with
 | nil=>exact repl_nil (by simp) (by simp)
 | cons c s ih=>
  rw[List.flatMap_cons]
  by_cases h:c=126
  ·subst h
   rw[if_pos rfl,<-ih]
   exact repl_hit (t:=s) (old:=[126]) (by simp) (by simp)
  ·rw[if_neg h,repl_skip (by simp) (by simp) (by rw[pre_one];simpa using fun e=>h e.symm),ih];rfl
theorem mark2 (s:List UInt8):replaceAll s [47] [126,49]=s.flatMap fun c=>if c=47 then [126,49] else [c]:=by
 induction s with
 | nil=>exact repl_nil (by simp) (by simp)
 | cons c s ih=>
  rw[List.flatMap_cons]
  by_cases h:c=47
  ·subst h
   rw[if_pos rfl,<-ih]
   exact repl_hit (t:=s) (old:=[47]) (by simp) (by simp)
  ·rw[if_neg h,repl_skip (by simp) (by simp) (by rw[pre_one];simpa using fun e=>h e.symm),ih];rfl
theorem marked_eq (s:List UInt8):markedL s=s.flatMap escP:=by
 unfold markedL
 rw[mark1,mark2]
 induction s with
 | nil=>rfl
 | cons c s ih=>
  rw[List.flatMap_cons,List.flatMap_append,ih,List.flatMap_cons]
  congr 1
  unfold escP
  by_cases h:c=126
  ·subst h;decide
  ·by_cases h2:c=47
   ·subst h2;decide
   ·simp[h,h2]
theorem unmark1 (s:List UInt8):replaceAll (s.flatMap escP) [126,49] [47]=s.flatMap fun c=>if c=126 then [126,48] else [c]:=by
 induction s with
 | nil=>exact repl_nil (by simp) (by simp)
 | cons c s ih=>
  rw[List.flatMap_cons,List.flatMap_cons]
  unfold escP
  by_cases h:c=126
  ·subst h
   rw[if_pos rfl,if_pos rfl]
   show replaceAll (126 :: 48 :: s.flatMap escP) _ _=_
   rw[repl_skip (by simp) (by simp) (by simp[List.isPrefixOf]),repl_skip (by simp) (by simp) (by simp[List.isPrefixOf]),ih];rfl
  ·rw[if_neg h,if_neg h]
   by_cases h2:c=47
   ·subst h2
    rw[if_pos rfl,<-ih]
    exact repl_hit (t:=s.flatMap escP) (old:=[126,49]) (by simp) (by simp)
   ·rw[if_neg h2]
    show replaceAll (c :: s.flatMap escP) _ _=_
    rw[repl_skip (by simp) (by simp) (by simp[List.isPrefixOf,Ne.symm h]),ih];rfl
theorem unmark2 (s:List UInt8):replaceAll (s.flatMap fun c=>if c=126 then [126,48] else [c]) [126,48] [126]=s:=by
 induction s with
 | nil=>exact repl_nil (by simp) (by simp)
 | cons c s ih=>
  rw[List.flatMap_cons]
  by_cases h:c=126
  ·subst h
   rw[if_pos rfl]
   have:=repl_hit (t:=s.flatMap fun c=>if c=126 then [126,48] else [c]) (old:=[126,48]) (new:=[126]) (by simp) (by simp)
   rw[this,ih];rfl
  ·rw[if_neg h]
   show replaceAll (c :: s.flatMap fun c=>if c=126 then [126,48] else [c]) _ _=_
   rw[repl_skip (by simp) (by simp) (by simp[List.isPrefixOf,Ne.symm h]),ih]
theorem unmarked_marked (s:List UInt8):unmarkedL (s.flatMap escP)=s:=by
 unfold unmarkedL
 rw[unmark1,unmark2]
def wholeP:List UInt8->Bool
 | []=>true
 | c :: r=>(c != 126 || (match r with | d :: _=>d == 48 || d == 49 | []=>false))&&wholeP r
theorem whole_cons (c:UInt8) (r:List UInt8) (h:c≠126):wholeP (c :: r)=wholeP r:=by
 simp[wholeP,h]
theorem whole_mark (d:UInt8) (r:List UInt8):wholeP (126 :: d :: r)=((d == 48 || d == 49)&&wholeP r):=by
 by_cases h:d=126
 ·subst h;simp[wholeP]
 ·rw[wholeP,whole_cons d r h];simp
theorem whole_esc (s:List UInt8) (r:List UInt8):wholeP (s.flatMap escP++r)=wholeP r:=by
 induction s with
 | nil=>rfl
 | cons c s ih=>
  rw[List.flatMap_cons,List.append_assoc]
  unfold escP
  by_cases h:c=126
  ·rw[if_pos h]
   show wholeP (126 :: 48 :: (s.flatMap escP++r))=_
   rw[whole_mark,ih];simp
  ·rw[if_neg h]
   by_cases h2:c=47
   ·rw[if_pos h2]
    show wholeP (126 :: 49 :: (s.flatMap escP++r))=_
    rw[whole_mark,ih];simp
   ·rw[if_neg h2]
    show wholeP (c :: (s.flatMap escP++r))=_
    rw[whole_cons c _ h,ih]
theorem whole_made (n:Nat):∀ (s:List UInt8),s.length<=n->wholeP s=true->47 ∉ s->∃ m:List UInt8,s=m.flatMap escP:=by
 induction n with
 | zero=>
  intro s hs _ _
  obtain rfl:s=[]:=List.eq_nil_of_length_eq_zero (by omega)
  exact⟨[],rfl⟩
 | succ n ih=>
  intro s hs hw hn
  cases s with
  | nil=>exact⟨[],rfl⟩
  | cons c r=>
   by_cases h:c=126
   ·subst h
    cases r with
    | nil=>simp[wholeP]at hw
    | cons d r=>
     rw[whole_mark,Bool.and_eq_true]at hw
     obtain⟨m,hm⟩:=ih r (by simp at hs;omega) hw.2 (fun h=>hn (by simp[h]))
     rcases Bool.or_eq_true _ _ |>.mp hw.1 with hd | hd
     ·have:d=48:=by simpa using hd
      subst this
      exact⟨126 :: m,by rw[List.flatMap_cons,<-hm];rfl⟩
     ·have:d=49:=by simpa using hd
      subst this
      exact⟨47 :: m,by rw[List.flatMap_cons,<-hm];rfl⟩
   ·rw[whole_cons c r h]at hw
    obtain⟨m,hm⟩:=ih r (by simp at hs;omega) hw (fun h=>hn (by simp[h]))
    refine⟨c :: m,?_⟩
    rw[List.flatMap_cons,<-hm]
    unfold escP
    rw[if_neg h,if_neg (fun e=>hn (by simp[e]))];rfl
theorem split_nil (a:UInt8):split [] [a]=[[]]:=by
 unfold Go.Lib.split
 rw[Go.Lib.count_miss (by rfl)];rfl
theorem split_sep (a:UInt8) (r:List UInt8):split (a :: r) [a]=[] :: split r [a]:=by
 have hi:index (a :: r) [a]=(0:Nat):=index_pre (by rw[pre_one];simp) (by simp)
 unfold Go.Lib.split
 rw[Go.Lib.count_hit (by simp) hi,Nat.add_comm 1,splitK,if_neg (by rw[hi];decide),hi]
 rfl
theorem split_other (a b:UInt8) (r:List UInt8) (h:b≠a):split (b :: r) [a]=match split r [a] with | []=>[] | x :: xs=>(b :: x) :: xs:=by
 have hp:([a]:List UInt8).isPrefixOf (b :: r)=false:=by rw[pre_one];simpa using fun e=>h e.symm
 have hs:=index_skip hp
 unfold Go.Lib.split
 by_cases e:index r [a]=-1
 ·rw[if_pos e]at hs
  rw[Go.Lib.count_miss e,Go.Lib.count_miss hs];rfl
 ·rw[if_neg e]at hs
  obtain⟨i,hi⟩:∃ i:Nat,index r [a]=i:=⟨(index r [a]).toNat,by have:=Go.Lib.index_ge r [a];omega⟩
  have hi2:index (b :: r) [a]=(i+1:Nat):=by rw[hs,hi];rfl
  have e1:(b :: r).drop (i+1+1)=r.drop (i+1):=rfl
  rw[Go.Lib.count_hit (by simp) hi,Go.Lib.count_hit (by simp) hi2]
  simp only[List.length_cons,List.length_nil,Nat.zero_add]
  rw[e1,Nat.add_comm 1,splitK,splitK,if_neg (by rw[hi2];rw[beq_iff_eq];omega),if_neg (by rw[hi];rw[beq_iff_eq];omega),hi,hi2]
  rfl
theorem split_ne (a:UInt8) (s:List UInt8):split s [a]≠[]:=by
 induction s with
 | nil=>rw[split_nil];simp
 | cons b r ih=>
  by_cases h:b=a
  ·subst h;rw[split_sep];simp
  ·rw[split_other a b r h]
   cases hr:split r [a] with
   | nil=>exact absurd hr ih
   | cons x xs=>simp
def glue (a:UInt8):List (List UInt8)->List UInt8
 | []=>[]
 | x :: xs=>x++xs.flatMap fun y=>a :: y
theorem glue_split (a:UInt8) (s:List UInt8):glue a (split s [a])=s:=by
 induction s with
 | nil=>rw[split_nil];rfl
 | cons b r ih=>
  by_cases h:b=a
  ·subst h
   rw[split_sep]
   cases hr:split r [b] with
   | nil=>exact absurd hr (split_ne b r)
   | cons x xs=>
    rw[hr]at ih
    simp only[glue,List.nil_append,List.flatMap_cons,List.cons_append]at ih ⊢
    rw[ih]
  ·rw[split_other a b r h]
   cases hr:split r [a] with
   | nil=>exact absurd hr (split_ne a r)
   | cons x xs=>
    rw[hr]at ih
    simp only[glue,List.cons_append]at ih ⊢
    rw[ih]
theorem split_free (a:UInt8) (s:List UInt8):∀ x∈split s [a],a ∉ x:=by
 induction s with
 | nil=>rw[split_nil];simp
 | cons b r ih=>
  by_cases h:b=a
  ·subst h
   rw[split_sep]
   intro x hx
   rcases List.mem_cons.1 hx with rfl | hx
   ·simp
   ·exact ih x hx
  ·rw[split_other a b r h]
   cases hr:split r [a] with
   | nil=>exact absurd hr (split_ne a r)
   | cons y ys=>
    rw[hr]at ih
    intro x hx
    rcases List.mem_cons.1 hx with rfl | hx
    ·intro hm
     rcases List.mem_cons.1 hm with hm | hm
     ·exact h hm.symm
     ·exact ih y (by simp) hm
    ·exact ih x (by simp[hx])
theorem split_append (a:UInt8) (x:List UInt8) (hx:a ∉ x) (s:List UInt8):split (x++a :: s) [a]=x :: split s [a]:=by
 induction x with
 | nil=>exact split_sep a s
 | cons b x ih=>
  rw[List.cons_append,split_other a b _ (fun e=>hx (by simp[e])),ih fun h=>hx (by simp[h])]
theorem split_alone (a:UInt8) (x:List UInt8) (hx:a ∉ x):split x [a]=[x]:=by
 induction x with
 | nil=>exact split_nil a
 | cons b x ih=>rw[split_other a b _ (fun e=>hx (by simp[e])),ih fun h=>hx (by simp[h])]
theorem split_glue (a:UInt8) (x:List UInt8) (xs:List (List UInt8)) (h:∀ y∈x :: xs,a ∉ y):split (glue a (x :: xs)) [a]=x :: xs:=by
 induction xs generalizing x with
 | nil=>simp only[glue,List.flatMap_nil,List.append_nil];exact split_alone a x (h x (by simp))
 | cons y ys ih=>
  have:=ih y fun z hz=>h z (by simp at hz ⊢;right;exact hz)
  simp only[glue,List.flatMap_cons,List.cons_append]at this ⊢
  rw[split_append a x (h x (by simp)),this]
def splitP (p:List UInt8):List (List UInt8) × Int:=
 match p with
 | []=>([],0)
 | c :: r=>if c≠47\/2000 < p.length\/wholeP p=false then ([],1) else ((split r [47]).map unmarkedL,0)
def joinP (l:List (List UInt8)):List UInt8:=l.flatMap fun n=>47 :: markedL n
theorem esc_free (s:List UInt8):47 ∉ s.flatMap escP:=by
 intro h
 simp only[List.mem_flatMap]at h
 obtain⟨c,-,h⟩:=h
 unfold escP at h
 split at h
 ·simp at h
 ·split at h
  ·simp at h
  ·rename_i h1;simp at h;exact h1 h.symm
theorem join_whole (l:List (List UInt8)):wholeP (joinP l)=true:=by
 unfold joinP
 induction l with
 | nil=>rfl
 | cons n l ih=>rw[List.flatMap_cons,List.cons_append,whole_cons _ _ (by decide),marked_eq,whole_esc,ih]
theorem split_join (l:List (List UInt8)) (h:(joinP l).length<=2000):splitP (joinP l)=(l,0):=by
 have hw:=join_whole l
 cases l with
 | nil=>rfl
 | cons n l=>
  have e:joinP (n :: l)=47 :: glue 47 ((n :: l).map markedL):=by
   simp only[joinP,List.flatMap_cons,List.cons_append,List.map_cons,glue,List.flatMap_map]
  rw[e]at h hw ⊢
  unfold splitP
  simp only
  rw[if_neg (by rw[hw];simp;simp at h;omega)]
  rw[List.map_cons,split_glue 47 _ _ (by
   intro y hy
   rw[<-List.map_cons]at hy
   obtain⟨z,-,rfl⟩:=List.mem_map.1 hy
   rw[marked_eq];exact esc_free z)]
  have:∀ (l:List (List UInt8)),(l.map markedL).map unmarkedL=l:=by
   intro l
   induction l with
   | nil=>rfl
   | cons a l ih=>rw[List.map_cons,List.map_cons,ih,marked_eq,unmarked_marked]
  rw[<-List.map_cons,this]
theorem whole_append (a b:List UInt8) (h:wholeP (a++47 :: b)=true):wholeP a=true/\wholeP b=true:=by
 induction a with
 | nil=>exact⟨rfl,by rwa [List.nil_append,whole_cons _ _ (by decide)]at h⟩
 | cons c a ih=>
  by_cases hc:c=126
  ·subst hc
   cases a with
   | nil=>rw[List.cons_append,List.nil_append,whole_mark]at h;simp at h
   | cons d a=>
    rw[List.cons_append,List.cons_append,wholeP]at h
    simp only[Bool.and_eq_true]at h
    obtain⟨h1,h2⟩:=ih h.2
    rw[wholeP]
    simp only[Bool.and_eq_true]
    exact⟨⟨h.1,h1⟩,h2⟩
  ·rw[List.cons_append,whole_cons c _ hc]at h
   rw[whole_cons c _ hc];exact ih h
theorem whole_parts (x:List UInt8) (xs:List (List UInt8)) (h:wholeP (glue 47 (x :: xs))=true):∀ y∈x :: xs,wholeP y=true:=by
 induction xs generalizing x with
 | nil=>intro y hy;rw[List.mem_singleton.1 hy];simpa [glue] using h
 | cons z zs ih=>
  have e:glue 47 (x :: z :: zs)=x++47 :: glue 47 (z :: zs):=by simp[glue]
  rw[e]at h
  obtain⟨h1,h2⟩:=whole_append _ _ h
  intro y hy
  rcases List.mem_cons.1 hy with rfl | hy
  ·exact h1
  ·exact ih z h2 y hy
theorem join_split (p:List UInt8) (b:List (List UInt8)) (h:splitP p=(b,0)):joinP b=p:=by
 unfold splitP at h
 split at h
 ·simp only[Prod.mk.injEq,and_true]at h;subst h;rfl
 ·rename_i c r
  split at h
  ·simp at h
  ·rename_i hc
   simp only[not_or,Decidable.not_not,Bool.not_eq_false]at hc
   obtain⟨rfl,-,hw⟩:=hc
   simp only[Prod.mk.injEq,and_true]at h
   subst h
   rw[whole_cons _ _ (by decide)]at hw
   have hg:=glue_split 47 r
   cases hs:split r [47] with
   | nil=>exact absurd hs (split_ne 47 r)
   | cons x xs=>
    rw[hs]at hg
    have hf:∀ y∈x :: xs,47 ∉ y:=by rw[<-hs];exact split_free 47 r
    rw[<-hg]at hw
    have hp:=whole_parts x xs hw
    have hm:∀ y∈x :: xs,markedL (unmarkedL y)=y:=by
     intro y hy
     obtain⟨m,rfl⟩:=whole_made y.length y (Nat.le_refl _) (hp y hy) (hf y hy)
     rw[unmarked_marked,marked_eq]
    have e:joinP ((x :: xs).map unmarkedL)=47 :: glue 47 (x :: xs):=by
     simp only[joinP,List.map_cons,List.flatMap_cons,List.cons_append,glue,List.flatMap_map]
     rw[hm x (by simp)]
     congr 2
     have:∀ l:List (List UInt8),(∀ y∈l,markedL (unmarkedL y)=y)->(l.flatMap fun y=>47 :: markedL (unmarkedL y))=l.flatMap fun y=>47 :: y:=by
      intro l
      induction l with
      | nil=>intro _;rfl
      | cons a l ih=>intro h;rw[List.flatMap_cons,List.flatMap_cons,h a (by simp),ih fun y hy=>h y (by simp[hy])]
     exact this xs fun y hy=>hm y (by simp[hy])
    rw[e,hg]
theorem esc_len (s:List UInt8):(s.flatMap escP).length<=2 * s.length:=by
 induction s with
 | nil=>simp
 | cons c s ih=>
  have:(escP c).length<=2:=by
   unfold escP;repeat' split
   all_goals simp
  simp only[List.flatMap_cons,List.length_append,List.length_cons];omega
theorem ba_size (l:List UInt8):(ByteArray.mk l.toArray).size=l.length:=by simp[ByteArray.size]
end Go.Proofs.YtmdemcjmcnfjmaaGreatDoor
namespace Go.Proofs.YtmdemcjmcnfjmaaGreatDoor
open Go.RowKit
set_option maxRecDepth 100000 in
set_option maxHeartbeats 1000000 in
theorem whole_at (w:World) (p:List UInt8) (hp:p.length<=1000000) :
 Calls Tryz.prog 39 #[str p] w fun e w'=>e=.returned (.bool (wholeP p))/\w'=w:=by
 unfold str
 go_enter Tryz.func39,Tryz.ntmps39
 go_wp2_with fail
 go_loop [3] (fun i=>∃ k:Nat,k<=p.length/\i=.int .i64 k/\Hid (wholeP p=wholeP (p.drop k))) (fun i=>p.length - (intOf i).toNat)
 case atStart=>exact⟨0,Nat.zero_le _,rfl,hidI rfl⟩
 case round=>
  obtain⟨k,hk,rfl,HA⟩:=hrel
  by_cases hlt:k < p.length
  ·have hb:(p[k].toNat:Int) < 256:=by have:=p[k].toNat_lt;omega
   have hsz:k < (ByteArray.mk p.toArray).size:=by simpa [ByteArray.size] using hlt
   have hget:(ByteArray.mk p.toArray)[k]=p[k]:=rfl
   have hdr:p.drop k=p[k] :: p.drop (k+1):=List.drop_eq_getElem_cons hlt
   by_cases hc:p[k]=126
   ·have n1:((p[k].toNat:Int) != 126)=false:=by rw[hc];rfl
    have q1:((p[k].toNat:Int) == 126)=true:=by rw[hc];rfl
    by_cases hend:k+1=p.length
    ·have e1:((k:Int)+1 == (p.length:Int))=true:=by rw[beq_iff_eq];omega
     have e2:(k:Int)+1=(p.length:Int):=by omega
     have F:Hid (wholeP p=false):=hidI (by
      rw[HA.out,hdr,hc,hend,List.drop_length];rfl)
     clear hc hend hdr
     go_wp2_with fail
     go_ret
     exact⟨by rw[F.out];rfl,rfl⟩
    ·have hlt2:k+1 < p.length:=by omega
     have e1:((k:Int)+1 == (p.length:Int))=false:=by rw[beq_eq_false_iff_ne];omega
     have e2:¬((k:Int)+1=(p.length:Int)):=by omega
     have hsz2:k+1 < (ByteArray.mk p.toArray).size:=by simpa [ByteArray.size] using hlt2
     have hget2:(ByteArray.mk p.toArray)[k+1]=p[k+1]:=rfl
     have hdr2:p.drop (k+1)=p[k+1] :: p.drop (k+1+1):=List.drop_eq_getElem_cons hlt2
     have hb2:(p[k+1].toNat:Int) < 256:=by have:=p[k+1].toNat_lt;omega
     by_cases h48:p[k+1]=48
     ·have m1:((p[k+1].toNat:Int) != 48)=false:=by rw[h48];rfl
      have m2:((p[k+1].toNat:Int) == 48)=true:=by rw[h48];rfl
      have F:Hid (wholeP p=wholeP (p.drop (k+1))):=hidI (by
       rw[HA.out,hdr,hc,hdr2,h48,wholeP];simp)
      clear hc h48 hdr hdr2 hend
      go_wp2_with fail
      go_round
      case rel=>exact⟨k+1,by omega,by go_num,F⟩
      case measure=>simp[intOf];omega
     ·have m1:((p[k+1].toNat:Int) != 48)=true:=by
       have:p[k+1].toNat≠48:=fun e=>h48 (UInt8.toNat_inj.1 e)
       simp only[bne_iff_ne,ne_eq];omega
      have m2:((p[k+1].toNat:Int) == 48)=false:=by
       have:p[k+1].toNat≠48:=fun e=>h48 (UInt8.toNat_inj.1 e)
       rw[beq_eq_false_iff_ne];omega
      by_cases h49:p[k+1]=49
      ·have m3:((p[k+1].toNat:Int) != 49)=false:=by rw[h49];rfl
       have m4:((p[k+1].toNat:Int) == 49)=true:=by rw[h49];rfl
       have F:Hid (wholeP p=wholeP (p.drop (k+1))):=hidI (by
        rw[HA.out,hdr,hc,hdr2,h49,wholeP];simp)
       clear hc h48 h49 hdr hdr2 hend
       go_wp2_with fail
       go_round
       case rel=>exact⟨k+1,by omega,by go_num,F⟩
       case measure=>simp[intOf];omega
      ·have m3:((p[k+1].toNat:Int) != 49)=true:=by
        have:p[k+1].toNat≠49:=fun e=>h49 (UInt8.toNat_inj.1 e)
        simp only[bne_iff_ne,ne_eq];omega
       have m4:((p[k+1].toNat:Int) == 49)=false:=by
        have:p[k+1].toNat≠49:=fun e=>h49 (UInt8.toNat_inj.1 e)
        rw[beq_eq_false_iff_ne];omega
       have F:Hid (wholeP p=false):=hidI (by
        rw[HA.out,hdr,hc,hdr2,wholeP];simp[h48,h49])
       clear hc h48 h49 hdr hdr2 hend
       go_wp2_with fail
       go_ret
       exact⟨by rw[F.out];rfl,rfl⟩
   ·have n1:((p[k].toNat:Int) != 126)=true:=by
     have:p[k].toNat≠126:=fun e=>hc (UInt8.toNat_inj.1 e)
     simp only[bne_iff_ne,ne_eq];omega
    have q1:((p[k].toNat:Int) == 126)=false:=by
     have:p[k].toNat≠126:=fun e=>hc (UInt8.toNat_inj.1 e)
     rw[beq_eq_false_iff_ne];omega
    have F:Hid (wholeP p=wholeP (p.drop (k+1))):=hidI (by rw[HA.out,hdr,whole_cons _ _ hc])
    clear hc hdr
    go_wp2_with fail
    go_round
    case rel=>exact⟨k+1,by omega,by go_num,F⟩
    case measure=>simp[intOf];omega
  ·have hke:k=p.length:=by omega
   subst hke
   have F:Hid (wholeP p=true):=hidI (by rw[HA.out,List.drop_length];rfl)
   go_wp2_with fail
   go_ret
   exact⟨by rw[F.out];rfl,rfl⟩
end Go.Proofs.YtmdemcjmcnfjmaaGreatDoor
namespace Go.Proofs
open Go.Shelf
def Tryz.lays146_ren:Go.Shelf.Ren:=⟨fun | 146=>40 | 221=>73 | 268=>117 | 138=>118 | 143=>119 | 195=>143 | 197=>144 | 218=>145 | 219=>146 | 260=>157 | 217=>137 | 225=>158 | 224=>159 | 267=>160 | 266=>155 | 314=>169 | n=>n,fun | 9=>9 | 31=>22 | 3=>3 | 4=>4 | 0=>0 | 105=>157 | 21=>21 | 5=>5 | 46=>102 | 119=>176 | 139=>179 | 138=>178 | 146=>180 | 51=>134 | n=>n,fun | 1=>0 | 3=>1 | 4=>2 | n=>n⟩
theorem Tryz.lays146:Go.Proofs.Lays.n146 Tryz.prog Tryz.lays146_ren:={
 mixed:=by kernel_rfl
 f138:=Tryz.func118.trans (congrArg some (by kernel_rfl))
 f143:=Tryz.func119.trans (congrArg some (by kernel_rfl))
 f146:=Tryz.func40.trans (congrArg some (by kernel_rfl))
 f195:=Tryz.func143.trans (congrArg some (by kernel_rfl))
 f197:=Tryz.func144.trans (congrArg some (by kernel_rfl))
 f217:=Tryz.func137.trans (congrArg some (by kernel_rfl))
 f218:=Tryz.func145.trans (congrArg some (by kernel_rfl))
 f219:=Tryz.func146.trans (congrArg some (by kernel_rfl))
 f221:=Tryz.func73.trans (congrArg some (by kernel_rfl))
 f224:=Tryz.func159.trans (congrArg some (by kernel_rfl))
 f225:=Tryz.func158.trans (congrArg some (by kernel_rfl))
 f260:=Tryz.func157.trans (congrArg some (by kernel_rfl))
 f266:=Tryz.func155.trans (congrArg some (by kernel_rfl))
 f267:=Tryz.func160.trans (congrArg some (by kernel_rfl))
 f268:=Tryz.func117.trans (congrArg some (by kernel_rfl))
 f314:=Tryz.func169.trans (congrArg some (by kernel_rfl))
 t0:=Tryz.underlying0
 a0:=Tryz.isAgg0
 z0:=Tryz.sizeOf0
 v0:=Tryz.zeroValue0
 t3:=Tryz.underlying3
 a3:=Tryz.isAgg3
 z3:=Tryz.sizeOf3
 v3:=Tryz.zeroValue3
 t4:=Tryz.underlying4
 a4:=Tryz.isAgg4
 z4:=Tryz.sizeOf4
 v4:=Tryz.zeroValue4
 t5:=Tryz.underlying5
 a5:=Tryz.isAgg5
 z5:=Tryz.sizeOf5
 v5:=Tryz.zeroValue5
 t9:=Tryz.underlying9
 a9:=Tryz.isAgg9
 z9:=Tryz.sizeOf9
 v9:=Tryz.zeroValue9
 t21:=Tryz.underlying21
 a21:=Tryz.isAgg21
 z21:=Tryz.sizeOf21
 v21:=Tryz.zeroValue21
 t31:=Tryz.underlying22
 a31:=Tryz.isAgg22
 z31:=Tryz.sizeOf22
 v31:=Tryz.zeroValue22
 t46:=Tryz.underlying102
 a46:=Tryz.isAgg102
 z46:=Tryz.sizeOf102
 v46:=Tryz.zeroValue102
 t51:=Tryz.underlying134
 a51:=Tryz.isAgg134
 z51:=Tryz.sizeOf134
 v51:=Tryz.zeroValue134
 t105:=Tryz.underlying157
 a105:=Tryz.isAgg157
 z105:=Tryz.sizeOf157
 v105:=Tryz.zeroValue157
 t119:=Tryz.underlying176
 a119:=Tryz.isAgg176
 z119:=Tryz.sizeOf176
 t138:=Tryz.underlying178
 a138:=Tryz.isAgg178
 z138:=Tryz.sizeOf178
 v138:=Tryz.zeroValue178
 t139:=Tryz.underlying179
 a139:=Tryz.isAgg179
 z139:=Tryz.sizeOf179
 v139:=Tryz.zeroValue179
 t146:=Tryz.underlying180
 a146:=Tryz.isAgg180
 z146:=Tryz.sizeOf180
 v146:=Tryz.zeroValue180
 g1:=by kernel_rfl
 g3:=by kernel_rfl
 g4:=by kernel_rfl }
open Go.RowKit Go.Lib in
theorem Tryz.strings_Split (s sep:ByteArray) (m:Int) (w:World) (hs:s.size < 4294967281) (hm:w.cell? ⟨0,0,none⟩=some (.int .i64 m)) (h1:1<=sep.size) :
 Calls Tryz.prog 40 #[.string s,.string sep] w fun e w'=>
  e=.returned (.slice (some ⟨w.heap.size,0,none⟩) (Lib.countB s sep+1) (Lib.countB s sep+1))/\w'=w.alloc (.cells ((Lib.splitB sep 0 (Lib.countB s sep) s).map Value.string).toArray 9):=Any.strings_Split Tryz.lays146 (by kernel_rfl) s sep m w hs hm h1
def Tryz.lays155_ren:Go.Shelf.Ren:=⟨fun | 155=>74 | 154=>120 | 138=>118 | 165=>147 | 143=>119 | 166=>43 | 197=>144 | 169=>45 | 195=>143 | 218=>145 | 240=>75 | 241=>161 | 219=>146 | 260=>157 | 276=>121 | 277=>170 | 217=>137 | 225=>158 | 224=>159 | 267=>160 | 266=>155 | 314=>169 | n=>n,fun | 9=>9 | 3=>3 | 4=>4 | 72=>74 | 0=>0 | 76=>78 | 105=>157 | 21=>21 | 5=>5 | 70=>71 | 20=>20 | 37=>72 | 75=>76 | 127=>107 | 164=>141 | 46=>102 | 119=>176 | 139=>179 | 138=>178 | 146=>180 | 51=>134 | 80=>80 | n=>n,fun | 1=>0 | 3=>1 | 4=>2 | n=>n⟩
theorem Tryz.lays155:Go.Proofs.Lays.n155 Tryz.prog Tryz.lays155_ren:={
 mixed:=by kernel_rfl
 f138:=Tryz.func118.trans (congrArg some (by kernel_rfl))
 f143:=Tryz.func119.trans (congrArg some (by kernel_rfl))
 f154:=Tryz.func120.trans (congrArg some (by kernel_rfl))
 f155:=Tryz.func74.trans (congrArg some (by kernel_rfl))
 f165:=Tryz.func147.trans (congrArg some (by kernel_rfl))
 f166:=Tryz.func43.trans (congrArg some (by kernel_rfl))
 f169:=Tryz.func45.trans (congrArg some (by kernel_rfl))
 f195:=Tryz.func143.trans (congrArg some (by kernel_rfl))
 f197:=Tryz.func144.trans (congrArg some (by kernel_rfl))
 f217:=Tryz.func137.trans (congrArg some (by kernel_rfl))
 f218:=Tryz.func145.trans (congrArg some (by kernel_rfl))
 f219:=Tryz.func146.trans (congrArg some (by kernel_rfl))
 f224:=Tryz.func159.trans (congrArg some (by kernel_rfl))
 f225:=Tryz.func158.trans (congrArg some (by kernel_rfl))
 f240:=Tryz.func75.trans (congrArg some (by kernel_rfl))
 f241:=Tryz.func161.trans (congrArg some (by kernel_rfl))
 f260:=Tryz.func157.trans (congrArg some (by kernel_rfl))
 f266:=Tryz.func155.trans (congrArg some (by kernel_rfl))
 f267:=Tryz.func160.trans (congrArg some (by kernel_rfl))
 f276:=Tryz.func121.trans (congrArg some (by kernel_rfl))
 f277:=Tryz.func170.trans (congrArg some (by kernel_rfl))
 f314:=Tryz.func169.trans (congrArg some (by kernel_rfl))
 t0:=Tryz.underlying0
 a0:=Tryz.isAgg0
 z0:=Tryz.sizeOf0
 v0:=Tryz.zeroValue0
 t3:=Tryz.underlying3
 a3:=Tryz.isAgg3
 z3:=Tryz.sizeOf3
 v3:=Tryz.zeroValue3
 t4:=Tryz.underlying4
 a4:=Tryz.isAgg4
 z4:=Tryz.sizeOf4
 v4:=Tryz.zeroValue4
 t5:=Tryz.underlying5
 a5:=Tryz.isAgg5
 z5:=Tryz.sizeOf5
 v5:=Tryz.zeroValue5
 t9:=Tryz.underlying9
 a9:=Tryz.isAgg9
 z9:=Tryz.sizeOf9
 v9:=Tryz.zeroValue9
 t20:=Tryz.underlying20
 a20:=Tryz.isAgg20
 z20:=Tryz.sizeOf20
 v20:=Tryz.zeroValue20
 t21:=Tryz.underlying21
 a21:=Tryz.isAgg21
 z21:=Tryz.sizeOf21
 v21:=Tryz.zeroValue21
 t37:=Tryz.underlying72
 a37:=Tryz.isAgg72
 z37:=Tryz.sizeOf72
 v37:=Tryz.zeroValue72
 t46:=Tryz.underlying102
 a46:=Tryz.isAgg102
 z46:=Tryz.sizeOf102
 v46:=Tryz.zeroValue102
 t51:=Tryz.underlying134
 a51:=Tryz.isAgg134
 z51:=Tryz.sizeOf134
 v51:=Tryz.zeroValue134
 t70:=Tryz.underlying71
 a70:=Tryz.isAgg71
 z70:=Tryz.sizeOf71
 v70:=Tryz.zeroValue71
 t72:=Tryz.underlying74
 a72:=Tryz.isAgg74
 z72:=Tryz.sizeOf74
 v72:=Tryz.zeroValue74
 t75:=Tryz.underlying76
 a75:=Tryz.isAgg76
 z75:=Tryz.sizeOf76
 v75:=Tryz.zeroValue76
 t76:=Tryz.underlying78
 a76:=Tryz.isAgg78
 z76:=Tryz.sizeOf78
 v76:=Tryz.zeroValue78
 t105:=Tryz.underlying157
 a105:=Tryz.isAgg157
 z105:=Tryz.sizeOf157
 v105:=Tryz.zeroValue157
 t119:=Tryz.underlying176
 a119:=Tryz.isAgg176
 z119:=Tryz.sizeOf176
 t127:=Tryz.underlying107
 a127:=Tryz.isAgg107
 z127:=Tryz.sizeOf107
 v127:=Tryz.zeroValue107
 t138:=Tryz.underlying178
 a138:=Tryz.isAgg178
 z138:=Tryz.sizeOf178
 v138:=Tryz.zeroValue178
 t139:=Tryz.underlying179
 a139:=Tryz.isAgg179
 z139:=Tryz.sizeOf179
 v139:=Tryz.zeroValue179
 t146:=Tryz.underlying180
 a146:=Tryz.isAgg180
 z146:=Tryz.sizeOf180
 v146:=Tryz.zeroValue180
 t164:=Tryz.underlying141
 a164:=Tryz.isAgg141
 z164:=Tryz.sizeOf141
 v164:=Tryz.zeroValue141
 g1:=by kernel_rfl
 g3:=by kernel_rfl
 g4:=by kernel_rfl }
theorem Tryz.Builder_Extra_155:Builder.Extra Tryz.prog Tryz.lays155_ren:={
 sizeBuilder:=by kernel_rfl
 liesBuilder:=by kernel_rfl
 t5:=Tryz.underlying5
 a5:=Tryz.isAgg5
 z5:=Tryz.sizeOf5
 v5:=Tryz.zeroValue5
 infoByte:=by kernel_rfl
 cellsByte:=by kernel_rfl
 sizeByte:=by kernel_rfl
 neB5:=by decide }
open Go.RowKit Go.Lib in
theorem Tryz.strings_ReplaceAll (s old new:ByteArray) (m:Int) (w:World) (hs:s.size < 4294967281) (hm:w.cell? ⟨0,0,none⟩=some (.int .i64 m)) (h1:1<=old.size) (hlen:s.size+Lib.countB s old * new.size<=140737488355328) :
 Calls Tryz.prog 74 #[.string s,.string old,.string new] w fun e w'=>
  e=.returned (.string ⟨(Lib.replaceAll s.data.toList old.data.toList new.data.toList).toArray⟩)/\Below w.heap.size w w':=Any.strings_ReplaceAll Tryz.lays155 Tryz.Builder_Extra_155 s old new m w hs hm h1 hlen
def Tryz.laysB_ren:Go.Shelf.Ren:=⟨fun | 167=>42 | 155=>74 | 154=>120 | 138=>118 | 165=>147 | 143=>119 | 166=>43 | 197=>144 | 169=>45 | 195=>143 | 218=>145 | 240=>75 | 241=>161 | 219=>146 | 260=>157 | 276=>121 | 277=>170 | 217=>137 | 225=>158 | 224=>159 | 267=>160 | 266=>155 | 314=>169 | n=>n,fun | 9=>9 | 3=>3 | 4=>4 | 72=>74 | 0=>0 | 76=>78 | 105=>157 | 21=>21 | 5=>5 | 70=>71 | 20=>20 | 37=>72 | 75=>76 | 127=>107 | 164=>141 | 46=>102 | 119=>176 | 139=>179 | 138=>178 | 146=>180 | 51=>134 | 80=>80 | n=>n,fun | 1=>0 | 3=>1 | 4=>2 | n=>n⟩
theorem Tryz.laysB166:Go.Proofs.Lays.n166 Tryz.prog Tryz.laysB_ren:={
 mixed:=by kernel_rfl
 f166:=Tryz.func43.trans (congrArg some (by kernel_rfl))
 f240:=Tryz.func75.trans (congrArg some (by kernel_rfl))
 f276:=Tryz.func121.trans (congrArg some (by kernel_rfl))
 t0:=Tryz.underlying0
 a0:=Tryz.isAgg0
 z0:=Tryz.sizeOf0
 v0:=Tryz.zeroValue0
 t3:=Tryz.underlying3
 a3:=Tryz.isAgg3
 z3:=Tryz.sizeOf3
 v3:=Tryz.zeroValue3
 t4:=Tryz.underlying4
 a4:=Tryz.isAgg4
 z4:=Tryz.sizeOf4
 v4:=Tryz.zeroValue4
 t9:=Tryz.underlying9
 a9:=Tryz.isAgg9
 z9:=Tryz.sizeOf9
 v9:=Tryz.zeroValue9
 t20:=Tryz.underlying20
 a20:=Tryz.isAgg20
 z20:=Tryz.sizeOf20
 v20:=Tryz.zeroValue20
 t37:=Tryz.underlying72
 a37:=Tryz.isAgg72
 z37:=Tryz.sizeOf72
 v37:=Tryz.zeroValue72
 t70:=Tryz.underlying71
 a70:=Tryz.isAgg71
 z70:=Tryz.sizeOf71
 v70:=Tryz.zeroValue71
 t72:=Tryz.underlying74
 a72:=Tryz.isAgg74
 z72:=Tryz.sizeOf74
 v72:=Tryz.zeroValue74
 t75:=Tryz.underlying76
 a75:=Tryz.isAgg76
 z75:=Tryz.sizeOf76
 v75:=Tryz.zeroValue76
 t164:=Tryz.underlying141
 a164:=Tryz.isAgg141
 z164:=Tryz.sizeOf141
 v164:=Tryz.zeroValue141 }
theorem Tryz.laysB167:Go.Proofs.Lays.n167 Tryz.prog Tryz.laysB_ren:={
 mixed:=by kernel_rfl
 f167:=Tryz.func42.trans (congrArg some (by kernel_rfl))
 f240:=Tryz.func75.trans (congrArg some (by kernel_rfl))
 f276:=Tryz.func121.trans (congrArg some (by kernel_rfl))
 t0:=Tryz.underlying0
 a0:=Tryz.isAgg0
 z0:=Tryz.sizeOf0
 v0:=Tryz.zeroValue0
 t4:=Tryz.underlying4
 a4:=Tryz.isAgg4
 z4:=Tryz.sizeOf4
 v4:=Tryz.zeroValue4
 t5:=Tryz.underlying5
 a5:=Tryz.isAgg5
 z5:=Tryz.sizeOf5
 v5:=Tryz.zeroValue5
 t9:=Tryz.underlying9
 a9:=Tryz.isAgg9
 z9:=Tryz.sizeOf9
 v9:=Tryz.zeroValue9
 t20:=Tryz.underlying20
 a20:=Tryz.isAgg20
 z20:=Tryz.sizeOf20
 v20:=Tryz.zeroValue20
 t37:=Tryz.underlying72
 a37:=Tryz.isAgg72
 z37:=Tryz.sizeOf72
 v37:=Tryz.zeroValue72
 t70:=Tryz.underlying71
 a70:=Tryz.isAgg71
 z70:=Tryz.sizeOf71
 v70:=Tryz.zeroValue71
 t72:=Tryz.underlying74
 a72:=Tryz.isAgg74
 z72:=Tryz.sizeOf74
 v72:=Tryz.zeroValue74
 t75:=Tryz.underlying76
 a75:=Tryz.isAgg76
 z75:=Tryz.sizeOf76
 v75:=Tryz.zeroValue76
 t164:=Tryz.underlying141
 a164:=Tryz.isAgg141
 z164:=Tryz.sizeOf141
 v164:=Tryz.zeroValue141 }
theorem Tryz.laysB169:Go.Proofs.Lays.n169 Tryz.prog Tryz.laysB_ren:={
 mixed:=by kernel_rfl
 f169:=Tryz.func45.trans (congrArg some (by kernel_rfl))
 t0:=Tryz.underlying0
 a0:=Tryz.isAgg0
 z0:=Tryz.sizeOf0
 v0:=Tryz.zeroValue0
 t3:=Tryz.underlying3
 a3:=Tryz.isAgg3
 z3:=Tryz.sizeOf3
 v3:=Tryz.zeroValue3
 t9:=Tryz.underlying9
 a9:=Tryz.isAgg9
 z9:=Tryz.sizeOf9
 v9:=Tryz.zeroValue9
 t37:=Tryz.underlying72
 a37:=Tryz.isAgg72
 z37:=Tryz.sizeOf72
 v37:=Tryz.zeroValue72
 t70:=Tryz.underlying71
 a70:=Tryz.isAgg71
 z70:=Tryz.sizeOf71
 v70:=Tryz.zeroValue71
 t72:=Tryz.underlying74
 a72:=Tryz.isAgg74
 z72:=Tryz.sizeOf74
 v72:=Tryz.zeroValue74
 t127:=Tryz.underlying107
 a127:=Tryz.isAgg107
 z127:=Tryz.sizeOf107
 v127:=Tryz.zeroValue107 }
theorem Tryz.laysB_extra:Builder.Extra Tryz.prog Tryz.laysB_ren:={
 sizeBuilder:=by kernel_rfl
 liesBuilder:=by kernel_rfl
 t5:=Tryz.underlying5
 a5:=Tryz.isAgg5
 z5:=Tryz.sizeOf5
 v5:=Tryz.zeroValue5
 infoByte:=by kernel_rfl
 cellsByte:=by kernel_rfl
 sizeByte:=by kernel_rfl
 neB5:=by decide }
end Go.Proofs
