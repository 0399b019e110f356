/- The contracts of the library that the texts name, over this program. -/
import Derived.Test.YtmdemcjmcnfjmaaGreatDoorGFc
import Derived.Deep.AppendLies
import Derived.Test.YtmdemcjmcnfjmaaGreatDoorGOq
import Derived.Deep.DrawnRows
import Derived.Deep.DeepCutAuto
import Derived.Deep.CutBlock
import Derived.Shelf.Strings.Builder1
import Derived.Shelf.Strings.Builder2
import Derived.Shelf.Small.Bits
import Derived.Shelf.Small.Strs
import Derived.Shelf.Small.Wraps
import Derived.Shelf.Strings.BuilderF
import Derived.Shelf.Strconv.Atoi
import Derived.Shelf.Strconv.Itoa0
import Derived.Shelf.Strconv.Itoa1
import Derived.Shelf.LaysM
import Derived.Shelf.Strconv.Itoa2
import Derived.Shelf.Strconv.Itoa3
import Derived.Shelf.Strconv.AtoiErrFast
import Derived.Shelf.Strconv.ParseIntEmpty
import Derived.Shelf.Strconv.AtoiFail
import Derived.Shelf.Strconv.Clone
import Derived.Shelf.Strconv.SyntaxError
import Derived.Shelf.LaysC
import Derived.Shelf.Strconv.ToError
import Derived.Shelf.Strconv.Lower
import Derived.Shelf.Strconv.ParseUint10
import Derived.Shelf.Strconv.ParseUint10Empty
import Derived.Shelf.Strconv.ParseUint10Any
import Derived.Shelf.Strconv.ParseInt10
import Derived.Shelf.Strconv.AtoiLong
import Derived.Shelf.Strconv.AtoiInnerAll
import Derived.Shelf.Strconv.RangeError
import Derived.Shelf.Strconv.ToErrorRange
import Derived.Shelf.Strconv.AtoiAll
import Derived.Shelf.Strconv.ErrVarAll
import Derived.Shelf.Strings.Search1
import Derived.Shelf.Strings.Search2
import Derived.Shelf.Strings.Search3
import Derived.Shelf.Strings.Count
import Derived.Shelf.Strings.Shaped
import Derived.Shelf.Strings.Prefix
import Derived.Shelf.Strings.Split
import Derived.Shelf.Strings.Replace
import Derived.Shelf.Strings.SplitShaped
import Derived.Shelf.Unicode.DecodeSlow
import Derived.Shelf.Slices.Turned
import Derived.Shelf.Slices.Equal
import Derived.Shelf.Slices.Empties2
import Derived.Ground.SlgfProg
import Derived.Shelf.SlicesE.IndexFunc
import Derived.Ground.SlsfProg
import Derived.Shelf.SlSortCmp.Insertion
import Derived.Shelf.SlSortCmp.SiftDown1
import Derived.Shelf.SlSortCmp.HeapSort1
import Derived.Shelf.SlSortCmp.Insertion1
import Derived.Shelf.SlSortCmp.Median1
import Derived.Shelf.SlSortCmp.Pivot1
import Derived.Shelf.SlSortCmp.ReverseRange1
import Derived.Shelf.SlSortCmp.PartialInsertion1
import Derived.Shelf.SlSortCmp.PartitionEqual1
import Derived.Shelf.SlSortCmp.Partition1
import Derived.Shelf.SlSortCmp.Pdq1
import Derived.Shelf.SlSortCmp.Whole1
import Derived.Shelf.SlSortCmp.NoneTotal
import Derived.Test.YtmdemcjmcnfjmaaGreatDoorProg
set_option linter.unusedSimpArgs false
set_option linter.unusedVariables false
namespace Go.Proofs.YtmdemcjmcnfjmaaGreatDoor
open Go.RowKit
theorem own_belK {w w':World} {B:Nat} {e:TypeId} {size:Nat} {v:Value} {n:Nat} {xs:List Value} (h:w.ownsRow B e size v n xs) (hb:Below w.heap.size w w'):w'.ownsRow B e size v n xs:=h.kept (gb_below (r:=none) hb) (by cases v.ownBlock <;> simp)
def StackIn (w:World) (ok:Nat->Prop) (ls:List (List V)) (cs:List Value):Prop:=cs.length=ls.length/\∀ (j:Nat) (l:List V) (c:Value),ls[j]?=some l->cs[j]?=some c->ValsIn w ok l c
theorem StackIn.imp {w w':World} {ok:Nat->Prop} {ls:List (List V)} {cs:List Value} (h:StackIn w ok ls cs) (hi:∀ l c,ValsIn w ok l c->ValsIn w' ok l c):StackIn w' ok ls cs:=
 ⟨h.1,fun j l c h1 h2=>hi l c (h.2 j l c h1 h2)⟩
theorem StackIn.push {w:World} {ok:Nat->Prop} {ls:List (List V)} {cs:List Value} (h:StackIn w ok ls cs) {l:List V} {c:Value} (hl:ValsIn w ok l c):StackIn w ok (ls++[l]) (cs++[c]):=by
 refine⟨by simp[h.1],fun j l' c' h1 h2=>?_⟩
 by_cases hj:j < ls.length
 ·rw[List.getElem?_append_left hj]at h1
  rw[List.getElem?_append_left (by rw[h.1];exact hj)]at h2
  exact h.2 j l' c' h1 h2
 ·have:j < (ls++[l]).length:=(List.getElem?_eq_some_iff.1 h1).1
  simp only[List.length_append,List.length_cons,List.length_nil]at this
  have e:j=ls.length:=by omega
  subst e
  rw[List.getElem?_append_right (by omega)]at h1
  rw[List.getElem?_append_right (by rw[h.1];omega)]at h2
  simp only[Nat.sub_self,List.getElem?_cons_zero,Option.some.injEq]at h1
  rw[h.1]at h2
  simp only[Nat.sub_self,List.getElem?_cons_zero,Option.some.injEq]at h2
  rw[<-h1,<-h2];exact hl
theorem StackIn.pop {w:World} {ok:Nat->Prop} {ls:List (List V)} {l:List V} {cs:List Value} (h:StackIn w ok (ls++[l]) cs):∃ ds c,cs=ds++[c]/\StackIn w ok ls ds/\ValsIn w ok l c:=by
 have hl:cs.length=ls.length+1:=by simpa using h.1
 obtain⟨ds,c,rfl⟩:∃ ds c,cs=ds++[c]:=⟨cs.dropLast,cs.getLast (by intro e;rw[e]at hl;simp at hl),(List.dropLast_concat_getLast _).symm⟩
 have hd:ds.length=ls.length:=by simpa using hl
 refine⟨ds,c,rfl,⟨hd,fun j l' c' h1 h2=>?_⟩,?_⟩
 ·have h3:=(List.getElem?_eq_some_iff.1 h1).1
  exact h.2 j l' c' (by rw[List.getElem?_append_left h3];exact h1) (by rw[List.getElem?_append_left (by omega)];exact h2)
 ·exact h.2 ls.length l c (by simp) (by rw[<-hd];simp)
def Wait (w:World) (B:Nat) (ok:Nat->Prop) (ls:List (List V)) (g cap:Nat):Prop:=
 ∃ cs,w.ownsRow B 23 1 (.slice (some ⟨g,0,none⟩) ls.length cap) ls.length cs/\StackIn w ok ls cs/\∀ k,ok k->k≠g
theorem Wait.lt {w:World} {B:Nat} {ok:Nat->Prop} {ls:List (List V)} {g cap:Nat} (h:Wait w B ok ls g cap):B<=g/\g < w.heap.size:=by
 obtain⟨cs,h,-,-⟩:=h
 rcases h.2 with⟨e,_⟩ | ⟨g',cap',cur,e,h1,h2,_⟩
 ·cases e
 ·cases e
  exact⟨h1,(Array.getElem?_eq_some_iff.1 h2).1⟩
theorem Wait.cap {w:World} {B:Nat} {ok:Nat->Prop} {ls:List (List V)} {g cap:Nat} (h:Wait w B ok ls g cap):ls.length<=cap/\cap<=9223372036854775807:=by
 obtain⟨cs,h,-,-⟩:=h
 rcases h.2 with⟨e,_⟩ | ⟨g',cap',cur,e,h1,h2,h3,h4,_⟩
 ·cases e
 ·cases e
  exact⟨h3,h4⟩
theorem Wait.bel {w w':World} {B:Nat} {ok:Nat->Prop} {ls:List (List V)} {g cap:Nat} (h:Wait w B ok ls g cap) (hb:Below w.heap.size w w'):Wait w' B ok ls g cap:=by
 obtain⟨cs,h1,h2,h3⟩:=h
 exact⟨cs,own_belK h1 hb,h2.imp fun _ _ h=>h.bel hb,h3⟩
theorem Wait.far {w w':World} {B:Nat} {ok:Nat->Prop} {ls:List (List V)} {g cap g':Nat} (h:Wait w B ok ls g cap) (hg:w.grownBy w' (some g')) (hne:g≠g') (hok:∀ k,ok k->k≠g'):Wait w' B ok ls g cap:=by
 obtain⟨cs,h1,h2,h3⟩:=h
 exact⟨cs,h1.kept hg (by simp[Value.ownBlock,hne]),h2.imp fun _ _ h=>h.grown hg hok,h3⟩
theorem Wait.pop {w:World} {B:Nat} {ok:Nat->Prop} {ls:List (List V)} {l:List V} {g cap:Nat} (h:Wait w B ok (ls++[l]) g cap):∃ c,w.cell? ⟨g,ls.length,none⟩=some c/\ValsIn w ok l c/\Wait w B ok ls g cap:=by
 obtain⟨cs,h1,h2,h3⟩:=h
 obtain⟨ds,c,rfl,h4,h5⟩:=h2.pop
 rcases h1.2 with⟨e,_⟩ | ⟨g',cap',cur,e,q1,q2,q3,q4,q5,q6⟩
 ·cases e
 ·cases e
  have hl:ds.length=ls.length:=h4.1
  simp only[List.length_append,List.length_cons,List.length_nil,Nat.mul_one]at q3 q6
  refine⟨c,?_,h5,ds,⟨by simp[hl],.inr ⟨g,cap,cur,rfl,q1,q2,by omega,q4,q5,?_⟩⟩,h4,h3⟩
  ·have:cur.toList[ls.length]?=some c:=by
    have e9:(cur.toList.take (ls.length+(0+1)))[ls.length]?=(ds++[c])[ls.length]?:=by rw[q6]
    rw[List.getElem?_take_of_lt (by omega)]at e9
    rw[e9,<-hl];simp
   simp only[World.cell?,q2]
   simpa using this
  ·have:=congrArg (List.take ls.length) q6
   rw[List.take_take,Nat.min_eq_left (by omega),List.take_append_of_le_length (by omega),List.take_of_length_le (show ds.length<=ls.length by omega)]at this
   simpa using this
theorem info23:(Tryz.prog.info? 23).map (fun i=>(i.zero,i.size,i.bytes))=some (some (.slice none 0 0),1,24):=by kernel_rfl
theorem run_push {w:World} {B:Nat} {ok:Nat->Prop} {ls:List (List V)} {g cap nb:Nat} {l:List V} {c:Value} (hW:Wait w B ok ls g cap) (hnb:w.heap[nb]?=some (.cells #[c] 23)) (hv:ValsIn w ok l c) (hn:ls.length<=5000000000000) (hlow:∀ k,ok k->k < w.heap.size) (ty:TypeId) :
 ∃ g' cap' w',(Builtin.append_ #[99,99] ty #[.slice (some ⟨g,0,none⟩) ls.length cap,.slice (some ⟨nb,0,none⟩) 1 1]).run Tryz.prog w=.ok (.slice (some ⟨g',0,none⟩) (ls.length+1) cap') w'/\Wait w' B ok (ls++[l]) g' cap'/\w.grownBy w' (some g)/\(g'=g\/w.heap.size=g'):=by
 obtain⟨i0,hi,hz0,hz1,hz2⟩:=info_parts info23
 have hgl:=hW.lt
 obtain⟨cs,h1,h2,h3⟩:=hW
 obtain⟨a9,c9,rfl⟩:=hv.form
 obtain⟨g',cap',w',hr,ho,hg,hat,hlt⟩:=run_append_lies (P:=Tryz.prog) w 99 ty B 23 i0 _ 1 24 Tryz.underlying99 hi hz0 hz1 hz2 rfl (by decide) _ ls.length cs h1 ⟨nb,0,none⟩ 1 1 [.slice a9 l.length c9] rfl
  (World.news_of_block (cs:=#[.slice a9 l.length c9]) hnb) (by intro u hu;simp only[List.mem_cons,List.not_mem_nil,or_false]at hu;subst hu;rfl) (by decide) (by unfold maxLen;omega) (by omega) (by omega) w.heap.size rfl
 have hgb:w.grownBy w' (some g):=by simpa [Value.ownBlock] using hg
 refine⟨g',cap',w',hr,⟨cs++[.slice a9 l.length c9],by simpa using ho,(h2.imp fun _ _ h=>h.grown hgb h3).push (hv.grown hgb h3),?_⟩,hgb,?_⟩
 ·intro k hk
  rcases hat with hat | hat
  ·simp only[Value.ownBlock,Option.some.injEq]at hat
   rw[<-hat];exact h3 k hk
  ·have:=hlow k hk;omega
 ·rcases hat with hat | hat
  ·simp only[Value.ownBlock,Option.some.injEq]at hat
   exact .inl hat.symm
  ·exact .inr hat.symm
theorem wp_push {w:World} {o:Oper} {a:Act} {K:Act->World->Prop} {Q:Exit->Act->World->Prop} (s x:Operand) (ho:o.op=.call { callee:=.builtin .append,args:=#[s,x],argTypes:=#[99,99] })
 {B:Nat} {ok:Nat->Prop} {ls:List (List V)} {g cap nb:Nat} {l:List V} {c:Value} (hs:a.eval s=.slice (some ⟨g,0,none⟩) ls.length cap) (hx:a.eval x=.slice (some ⟨nb,0,none⟩) 1 1)
 (hW:Wait w B ok ls g cap) (hnb:w.heap[nb]?=some (.cells #[c] 23)) (hv:ValsIn w ok l c) (hn:ls.length<=5000000000000) (hlow:∀ k,ok k->k < w.heap.size)
 (hK:∀ g' cap' w',Wait w' B ok (ls++[l]) g' cap'->w.grownBy w' (some g)->(g'=g\/w.heap.size=g')->K (a.put o.dst (.slice (some ⟨g',0,none⟩) (ls.length+1) cap')) w'):o.wp Tryz.prog a w K Q:=by
 obtain⟨g',cap',w',hr,h2,h3,h4⟩:=run_push hW hnb hv hn hlow o.type
 unfold Oper.wp execOp
 simp only[ho,resolve,invoke,builtin,Sem.run_bind,Sem.run_pure,Result.andThen_ok,List.map_toArray,List.map_cons,List.map_nil,hs,hx,hr]
 exact hK g' cap' w' h2 h3 h4
theorem step_push {w:World} {ops:Array Oper} {o:Oper} {a:Act} {K:Act->World->Prop} {Q:Exit->Act->World->Prop} {E:Prop} (hgd:o.guard=none) (s x:Operand) (ho:o.op=.call { callee:=.builtin .append,args:=#[s,x],argTypes:=#[99,99] })
 {B:Nat} {ok:Nat->Prop} {ls:List (List V)} {g cap nb:Nat} {l:List V} {c:Value} (hs:a.eval s=.slice (some ⟨g,0,none⟩) ls.length cap) (hx:a.eval x=.slice (some ⟨nb,0,none⟩) 1 1)
 (hW:Wait w B ok ls g cap) (hnb:w.heap[nb]?=some (.cells #[c] 23)) (hv:ValsIn w ok l c) (hn:ls.length<=5000000000000) (hlow:∀ k,ok k->k < w.heap.size)
 (hK:∀ g' cap' w',Wait w' B ok (ls++[l]) g' cap'->w.grownBy w' (some g)->(g'=g\/w.heap.size=g')->K (a.put o.dst (.slice (some ⟨g',0,none⟩) (ls.length+1) cap')) w') :
 if Region.wanted o (yielded ops a.tmps)=true then Oper.wp Tryz.prog o a w K Q else E:=by
 have hw:Region.wanted o (yielded ops a.tmps)=true:=by simp[Region.wanted,hgd]
 rw[if_pos hw]
 exact wp_push s x ho hs hx hW hnb hv hn hlow hK
end Go.Proofs.YtmdemcjmcnfjmaaGreatDoor
namespace Go.Proofs.YtmdemcjmcnfjmaaGreatDoor
open Go.RowKit
def okX (ok:Nat->Prop) (B i:Nat):Nat->Prop:=fun k=>(ok k/\k < B)\/k=i
theorem okX_lt {ok:Nat->Prop} {B i H:Nat} (h1:B<=H) (h2:i < H):∀ k,okX ok B i k->k < H:=by
 intro k hk
 rcases hk with hk | hk <;> omega
theorem okX_ne {ok:Nat->Prop} {B i g:Nat} (h1:B<=g) (h2:i≠g):∀ k,okX ok B i k->k≠g:=by
 intro k hk
 rcases hk with hk | hk <;> omega
theorem bel_al {a w:World} (h:Below a.heap.size a w) (o:Obj):Below a.heap.size a (w.alloc o):=bel_trans h (bel_alloc w o)
theorem bel_dr {a w:World} (h:Below a.heap.size a w):Below a.heap.size a w.drew:=h.drew
theorem szle {a w:World} (h:Below a.heap.size a w):a.heap.size<=w.heap.size:=h.size
theorem two_up {a w w':World} {g g':Nat} (h:Below a.heap.size a w) (q:w.grownBy w' (some g)) (o:g'=g\/w.heap.size=g'):a.grownBy w' (some g)/\(g'=g\/a.heap.size<=g'):=
 ⟨gb_trans (gb_below h) q,o.imp id fun e=>by have:=h.size;omega⟩
theorem heap_old {w:World} {k:Nat} {v:Obj} (h:w.heap[k]?=some v) (o:Obj):(w.alloc o).heap[k]?=some v:=
 ((World.grownBy_alloc w o none).block k (Array.getElem?_eq_some_iff.1 h).1 (by simp)).trans h
theorem heap_at6 (w:World) (o1 o2 o3 o4 o5 o6:Obj) (i:Nat) (hi:i < 6):((((((w.alloc o1).alloc o2).alloc o3).alloc o4).alloc o5).alloc o6).heap[w.heap.size+i]?=[o1,o2,o3,o4,o5,o6][i]?:=by
 rcases (show i=0\/i=1\/i=2\/i=3\/i=4\/i=5 by omega) with rfl | rfl | rfl | rfl | rfl | rfl
 ·exact heap_old (heap_old (heap_old (heap_old (heap_old (heap_alloc_new w o1) _) _) _) _) _
 ·exact heap_old (heap_old (heap_old (heap_old (by simpa using heap_alloc_new (w.alloc o1) o2) _) _) _) _
 ·exact heap_old (heap_old (heap_old (by simpa using heap_alloc_new ((w.alloc o1).alloc o2) o3) _) _) _
 ·exact heap_old (heap_old (by simpa using heap_alloc_new (((w.alloc o1).alloc o2).alloc o3) o4) _) _
 ·exact heap_old (by simpa using heap_alloc_new ((((w.alloc o1).alloc o2).alloc o3).alloc o4) o5) _
 ·simpa using heap_alloc_new (((((w.alloc o1).alloc o2).alloc o3).alloc o4).alloc o5) o6
def SE (w:World) (ok ok':Nat->Prop) (ia ib:Nat) (ls rs:List (List V)) (gL gR cL cR:Nat) (wr:World):Prop:=
 Wait wr w.heap.size (okX ok w.heap.size ia) ls gL cL/\Wait wr w.heap.size (okX ok' w.heap.size ib) rs gR cR/\gL≠gR/\ia≠gL/\ia≠gR/\ib≠gL/\ib≠gR/\ia < wr.heap.size/\ib < wr.heap.size/\Below w.heap.size w wr
theorem SE.bel {w wr wr':World} {ok ok':Nat->Prop} {ia ib:Nat} {ls rs:List (List V)} {gL gR cL cR:Nat} (h:SE w ok ok' ia ib ls rs gL gR cL cR wr) (hb:Below wr.heap.size wr wr'):SE w ok ok' ia ib ls rs gL gR cL cR wr':=by
 obtain⟨h3,h4,h5,h6,h7,h8,h9,h10,h11,h12⟩:=h
 exact⟨h3.bel hb,h4.bel hb,h5,h6,h7,h8,h9,Nat.lt_of_lt_of_le h10 hb.size,Nat.lt_of_lt_of_le h11 hb.size,bel_trans h12 hb⟩
theorem SE.swap {w wr:World} {ok ok':Nat->Prop} {ia ib:Nat} {ls rs:List (List V)} {gL gR cL cR:Nat} (h:SE w ok ok' ia ib ls rs gL gR cL cR wr):SE w ok' ok ib ia rs ls gR gL cR cL wr:=by
 obtain⟨h3,h4,h5,h6,h7,h8,h9,h10,h11,h12⟩:=h
 exact⟨h4,h3,h5.symm,h9,h8,h7,h6,h11,h10,h12⟩
theorem SE.lows {w wr:World} {ok ok':Nat->Prop} {ia ib:Nat} {ls rs:List (List V)} {gL gR cL cR:Nat} (h:SE w ok ok' ia ib ls rs gL gR cL cR wr):∀ k,okX ok w.heap.size ia k->k < wr.heap.size:=okX_lt h.2.2.2.2.2.2.2.2.2.size h.2.2.2.2.2.2.2.1
theorem push_end {w w4 w5 w6:World} {ok ok':Nat->Prop} {ia ib:Nat} {ls rs:List (List V)} {gL gR cL cR g5 g6 c5 c6:Nat} {lx ly:List V} (h:SE w ok ok' ia ib ls rs gL gR cL cR w4) (q5:w4.grownBy w5 (some gL)) (h5:Wait w5 w.heap.size (okX ok w.heap.size ia) (ls++[lx]) g5 c5) (o5:g5=gL\/w4.heap.size<=g5)
 (q6:w5.grownBy w6 (some gR)) (h6:Wait w6 w.heap.size (okX ok' w.heap.size ib) (rs++[ly]) g6 c6) (o6:g6=gR\/w5.heap.size<=g6):SE w ok ok' ia ib (ls++[lx]) (rs++[ly]) g5 g6 c5 c6 w6:=by
 obtain⟨h3,h4,e1,e2,e3,e4,e5,e6,e7,hB⟩:=h
 have l3:=h3.lt
 have l4:=h4.lt
 have l5:=h5.lt
 have s5:=q5.size
 have s6:=q6.size
 have hn:g5≠gR:=by omega
 refine⟨h5.far q6 hn (okX_ne l4.1 e3),h6,by omega,by omega,by omega,by omega,by omega,by omega,by omega,?_⟩
 exact gb_none (gb_out (gb_out (gb_below hB) q5 l3.1) q6 l4.1)
def SI (w:World) (ok ok':Nat->Prop) (ia ib:Nat) (ls rs:List (List V)) (lv rv:Value) (wr:World):Prop:=
 ∃ gL gR cL cR,lv=.slice (some ⟨gL,0,none⟩) ls.length cL/\rv=.slice (some ⟨gR,0,none⟩) rs.length cR/\SE w ok ok' ia ib ls rs gL gR cL cR wr
theorem SI.bel {w wr wr':World} {ok ok':Nat->Prop} {ia ib:Nat} {ls rs:List (List V)} {lv rv:Value} (h:SI w ok ok' ia ib ls rs lv rv wr) (hb:Below wr.heap.size wr wr'):SI w ok ok' ia ib ls rs lv rv wr':=by
 obtain⟨gL,gR,cL,cR,h1,h2,h3⟩:=h
 exact⟨gL,gR,cL,cR,h1,h2,h3.bel hb⟩
theorem own_one {w:World} {g B:Nat} {t:TypeId} {v:Value} (h:w.heap[g]?=some (.cells #[v] t)) (hB:B<=g):w.ownsRow B t 1 (.slice (some ⟨g,0,none⟩) 1 1) 1 [v]:=
 ⟨rfl,.inr ⟨g,1,#[v],rfl,hB,h,Nat.le_refl _,by simp[maxLen],rfl,rfl⟩⟩
theorem wait_one {w:World} {g i B:Nat} {ok:Nat->Prop} {t:V} {c0 c1 c2 c3 c4:Value} (hx:In w (okX ok B i) t (.agg #[c0,c1,c2,c3,c4])) (h1:BoxIs w i c0 c1 c2 c3 c4) (h2:w.heap[g]?=some (.cells #[.slice (some ⟨i,0,none⟩) 1 1] 23)) (hB:B<=g) (hne:i≠g):Wait w B (okX ok B i) [[t]] g 1:=by
 refine⟨[.slice (some ⟨i,0,none⟩) 1 1],own_one h2 hB,⟨rfl,?_⟩,okX_ne hB hne⟩
 intro j l c h3 h4
 cases j with
 | zero=>
  simp only[List.getElem?_cons_zero,Option.some.injEq]at h3 h4
  subst h3 h4
  exact vals_one hx h1 (.inr rfl)
 | succ j=>simp at h3
theorem si_start {w W:World} {ok ok':Nat->Prop} {ia ib gL gR:Nat} {a b:V} {a0 a1 a2 a3 a4 b0 b1 b2 b3 b4:Value} (ha:In w ok a (.agg #[a0,a1,a2,a3,a4])) (hb:In w ok' b (.agg #[b0,b1,b2,b3,b4])) (hB:Below w.heap.size w W)
 (h1:W.heap[gL]?=some (.cells #[.slice (some ⟨ia,0,none⟩) 1 1] 23)) (h2:W.heap[gR]?=some (.cells #[.slice (some ⟨ib,0,none⟩) 1 1] 23)) (h3:BoxIs W ia a0 a1 a2 a3 a4) (h4:BoxIs W ib b0 b1 b2 b3 b4) (hn:gL≠gR/\ia≠gL/\ia≠gR/\ib≠gL/\ib≠gR/\w.heap.size<=gL/\w.heap.size<=gR) :
 SI w ok ok' ia ib [[a]] [[b]] (.slice (some ⟨gL,0,none⟩) 1 1) (.slice (some ⟨gR,0,none⟩) 1 1) W:=by
 obtain⟨n1,n2,n3,n4,n5,n6,n7⟩:=hn
 have k1:In W (okX ok w.heap.size ia) a (.agg #[a0,a1,a2,a3,a4]):=(ha.low.bel hB).weak fun k hk=>.inl hk
 have k2:In W (okX ok' w.heap.size ib) b (.agg #[b0,b1,b2,b3,b4]):=(hb.low.bel hB).weak fun k hk=>.inl hk
 exact⟨gL,gR,1,1,rfl,rfl,wait_one k1 h3 h1 n6 n2,wait_one k2 h4 h2 n7 n5,n1,n2,n3,n4,n5,h3.lt,h4.lt,hB⟩
def PL (ls rs:List (List V)):Prop:=rs.length=ls.length/\∀ (j:Nat) (l r:List V),ls[j]?=some l->rs[j]?=some r->r.length=l.length
theorem PL.push {ls rs:List (List V)} (h:PL ls rs) {l r:List V} (hl:r.length=l.length):PL (ls++[l]) (rs++[r]):=by
 refine⟨by simp[h.1],fun j l' r' h1 h2=>?_⟩
 by_cases hj:j < ls.length
 ·rw[List.getElem?_append_left hj]at h1
  rw[List.getElem?_append_left (by rw[h.1];exact hj)]at h2
  exact h.2 j l' r' h1 h2
 ·have:j < (ls++[l]).length:=(List.getElem?_eq_some_iff.1 h1).1
  simp only[List.length_append,List.length_cons,List.length_nil]at this
  have e:j=ls.length:=by omega
  subst e
  rw[List.getElem?_append_right (by omega)]at h1
  rw[List.getElem?_append_right (by rw[h.1];omega)]at h2
  simp only[Nat.sub_self,List.getElem?_cons_zero,Option.some.injEq]at h1
  rw[h.1]at h2
  simp only[Nat.sub_self,List.getElem?_cons_zero,Option.some.injEq]at h2
  rw[<-h1,<-h2];exact hl
theorem PL.pop {ls rs:List (List V)} {l:List V} (h:PL (ls++[l]) rs):∃ qs r,rs=qs++[r]/\PL ls qs/\r.length=l.length:=by
 have hl:rs.length=ls.length+1:=by simpa using h.1
 obtain⟨qs,r,rfl⟩:∃ qs r,rs=qs++[r]:=⟨rs.dropLast,rs.getLast (by intro e;rw[e]at hl;simp at hl),(List.dropLast_concat_getLast _).symm⟩
 have hd:qs.length=ls.length:=by simpa using hl
 refine⟨qs,r,rfl,⟨hd,fun j l' r' h1 h2=>?_⟩,?_⟩
 ·have h3:=(List.getElem?_eq_some_iff.1 h1).1
  exact h.2 j l' r' (by rw[List.getElem?_append_left h3];exact h1) (by rw[List.getElem?_append_left (by omega)];exact h2)
 ·exact h.2 ls.length l r (by simp) (by rw[<-hd];simp)
theorem ends {α:Type} (ls:List α):ls=[]\/∃ ms l,ls=ms++[l]:=by
 cases ls with
 | nil=>exact .inl rfl
 | cons x xs=>exact .inr ⟨(x :: xs).dropLast,(x :: xs).getLast (by simp),(List.dropLast_concat_getLast _).symm⟩
theorem drop_both {xs ys:List V} {k:Nat} (h1:k < xs.length) (h2:k < ys.length):(xs.drop k=ys.drop k↔xs[k]=ys[k]/\xs.drop (k+1)=ys.drop (k+1)):=by
 rw[List.drop_eq_getElem_cons h1,List.drop_eq_getElem_cons h2,List.cons.injEq]
theorem snoc_both {α:Type} {a b:List α} {x y:α}:(a++[x]=b++[y]↔a=b/\x=y):=by
 constructor
 ·intro h;exact List.append_inj' h rfl |>.imp id fun e=>List.cons.inj e |>.1
 ·rintro⟨rfl,rfl⟩;rfl
def SameP (w:World) (a b:V) (e:Ending) (w':World):Prop:=∃ r,e=.returned (.bool r)/\(r=true↔a=b)/\Below w.heap.size w w'
def SJ (w:World) (ok ok':Nat->Prop) (ia ib:Nat) (a b:V) (xs ys:List V) (xv yv:Value) (M k:Nat) (lv rv:Value) (wr:World):Prop:=
 ∃ ls rs,(a=b↔ls=rs/\xs.drop k=ys.drop k)/\PL ls rs/\mu ls+cnts (xs.drop k)+1<=M/\M<=2000000000001/\ValsIn wr (okX ok w.heap.size ia) xs xv/\ValsIn wr (okX ok' w.heap.size ib) ys yv/\SI w ok ok' ia ib ls rs lv rv wr
theorem SJ.bel {w wr wr':World} {ok ok':Nat->Prop} {ia ib:Nat} {a b:V} {xs ys:List V} {xv yv:Value} {M k:Nat} {lv rv:Value} (h:SJ w ok ok' ia ib a b xs ys xv yv M k lv rv wr) (hb:Below wr.heap.size wr wr'):SJ w ok ok' ia ib a b xs ys xv yv M k lv rv wr':=by
 obtain⟨ls,rs,h1,h2,h3,h4,h5,h6,h7⟩:=h
 exact⟨ls,rs,h1,h2,h3,h4,h5.bel hb,h6.bel hb,h7.bel hb⟩
end Go.Proofs.YtmdemcjmcnfjmaaGreatDoor
namespace Go.Proofs.YtmdemcjmcnfjmaaGreatDoor
open Go.RowKit
attribute [local go_sem ↓] Go.wp_at_zero Go.wp_at_succ
set_option maxRecDepth 100000 in
set_option maxHeartbeats 40000000 in
theorem with_found (w:World) (ok:Nat->Prop) (d:Nat) (t x:V) (v xv:Value) (key:List UInt8) (i:Nat) (h:VIs w ok (d+1) t v) (hx:VIs w ok d x xv) (hf:findV t key=some i) (hsz:t.l.length<=100000) :
 Calls Tryz.prog 78 #[v,str key,xv] w fun e w'=>∃ r,e=.returned r/\VIs w' (okN ok w.heap.size) (d+1) { t with l:=t.l.take i++x :: t.l.drop (i+1) } r/\Below w.heap.size w w':=by
 have H:=hidI h
 have HX:=hidI hx
 obtain⟨ks,ls,rfl,h1,h2,h3,h4,h5⟩:=h
 have K5:=hidI h5
 have KK:Hid (I64 t.kind/\I64 t.n/\t.s.length<=maxLen/\StrsAre w ok t.keys ks):=⟨h1,h2,h3,h4⟩
 obtain⟨a1,c1,rfl⟩:=h4.form
 have l1:=h4.1
 obtain⟨f1,f2,f3,f4⟩:=findV_some hf
 have F:=hidI hf
 have FP:=hidI f1
 clear hf f1 f2
 obtain⟨_,K5'⟩:=K5.out
 rcases K5' with⟨e,_⟩ | ⟨b,off,c,hls',hc1,hc2,hcs⟩
 ·rw[e]at f3;simp at f3
 subst hls'
 obtain⟨xk,xl,hxv⟩:∃ xk xl,xv=.agg #[.int .i64 x.kind,.int .i64 x.n,str x.s,xk,xl]:=by
  match d,hx with
  | d+1,hx=>obtain⟨ks,ls,e,_⟩:=hx;exact⟨ks,ls,e⟩
 subst hxv
 obtain⟨-,-,-,⟨a7,c7,rfl⟩,⟨a8,c8,rfl⟩⟩:=hx.agg
 unfold maxLen at l1 h3 hc2
 unfold str
 clear h4 h5 h1 h2 hx hcs
 go_enter Tryz.func78,Tryz.ntmps78
 go_wp2_with fail
 refine(paired_at _ ok _ t _ (by exact H.out.bel (bel_trans (bel_trans (bel_alloc _ _) (bel_alloc _ _)) (bel_alloc _ _)))).mono ?_
 rintro e w1 ⟨rfl,hb1⟩
 rw[FP.out]
 have bx:Hid (BoxIs w1 w.heap.size (.int .i64 t.kind) (.int .i64 t.n) (.string ⟨t.s.toArray⟩) (.slice a1 t.keys.length c1) (.slice (some ⟨b,off,none⟩) t.l.length c)/\BoxIs w1 (w.heap.size+1) (.int .i64 x.kind) (.int .i64 x.n) (.string ⟨x.s.toArray⟩) (.slice a7 x.keys.length c7) (.slice a8 x.l.length c8)/\BoxIs w1 (w.heap.size+2) (.int .i64 0) (.int .i64 0) (.string ⟨#[]⟩) (.slice none 0 0) (.slice none 0 0)):=⟨box_bel hb1 (h3a w _ _ _),box_bel hb1 (h3b w _ _ _),box_bel hb1 (h3c w _ _ _)⟩
 obtain⟨p0,p1,p2,p3,p4,-,-,-,p9,p10⟩:=bx.out.1.c
 have B1:Hid (Below w.heap.size w w1):=bel_trans (bel_trans (bel_trans (bel_alloc _ _) (bel_alloc _ _)) (bel_alloc _ _)) hb1
 clear hb1
 go_wp2_with fail
 refine(find_at _ ok _ t _ key (by exact H.out.bel B1.out)).mono ?_
 rintro e w2 ⟨rfl,hb2⟩
 rw[F.out]
 have bx2:Hid (BoxIs w2 w.heap.size (.int .i64 t.kind) (.int .i64 t.n) (.string ⟨t.s.toArray⟩) (.slice a1 t.keys.length c1) (.slice (some ⟨b,off,none⟩) t.l.length c)/\BoxIs w2 (w.heap.size+1) (.int .i64 x.kind) (.int .i64 x.n) (.string ⟨x.s.toArray⟩) (.slice a7 x.keys.length c7) (.slice a8 x.l.length c8)/\BoxIs w2 (w.heap.size+2) (.int .i64 0) (.int .i64 0) (.string ⟨#[]⟩) (.slice none 0 0) (.slice none 0 0)):=⟨box_bel hb2 bx.out.1,box_bel hb2 bx.out.2.1,box_bel hb2 bx.out.2.2⟩
 have B2:Hid (Below w.heap.size w w2):=bel_trans B1.out hb2
 have hsz2:w.heap.size+2 < w2.heap.size:=bx2.out.2.2.lt
 clear hb2 p0 p1 p2 p3 p4 p9 p10 bx B1
 unfold optI
 obtain⟨p0,p1,p2,p3,p4,-,-,-,p9,p10⟩:=bx2.out.1.c
 obtain⟨q0,q1,q2,q3,q4,-⟩:=bx2.out.2.1.c
 have i0:0<=(i:Int):=by omega
 have i1:(i:Int)<=(c:Int):=by omega
 have i2:(i:Int)+1<=(t.l.length:Int):=by omega
 have i3:(t.l.length:Int)<=(c:Int):=by omega
 obtain⟨cs1,cs2,r1,s1,r2,s2⟩:=sl_parts K5.out i (i+1) (by omega) f3 (by omega)
 obtain⟨a3,hifs⟩:∃ a3,(if c=i+1 then (some ⟨b,off,none⟩:Option Addr) else some ⟨b,off+(i+1) * 5,none⟩)=a3:=⟨_,rfl⟩
 rw[hifs]at s2
 have PP:Hid (RowV (VIs w ok d) (t.l.take i) cs1/\SlIs w 5 (.slice (some ⟨b,off,none⟩) i c) i cs1/\RowV (VIs w ok d) (t.l.drop (i+1)) cs2/\SlIs w 5 (.slice a3 (t.l.length - (i+1)) (c - (i+1))) (t.l.length - (i+1)) cs2):=⟨r1,s1,r2,s2⟩
 clear r1 s1 r2 s2
 go_wp2_with fail
 have hw1:IntKind.i64.wrap ((i:Int)+1)=(i:Int)+1:=by rw[IntKind.wrap_i64];omega
 have i4:(0:Int)<=(i:Int)+1:=by omega
 have hS:Hid (∀ W',Below w2.heap.size w2 W'->BoxIs W' w.heap.size (.int .i64 t.kind) (.int .i64 t.n) (.string ⟨t.s.toArray⟩) (.slice a1 t.keys.length c1) (.slice (some ⟨b,off,none⟩) t.l.length c)/\BoxIs W' (w.heap.size+1) (.int .i64 x.kind) (.int .i64 x.n) (.string ⟨x.s.toArray⟩) (.slice a7 x.keys.length c7) (.slice a8 x.l.length c8)/\BoxIs W' (w.heap.size+2) (.int .i64 0) (.int .i64 0) (.string ⟨#[]⟩) (.slice none 0 0) (.slice none 0 0)):=
  fun W' hb=>⟨box_bel hb bx2.out.1,box_bel hb bx2.out.2.1,box_bel hb bx2.out.2.2⟩
 have hcon:Hid (∀ W,W.heap=((w2.alloc (.cells #[.int .i64 x.kind,.int .i64 x.n,.string ⟨x.s.toArray⟩,.slice a7 x.keys.length c7,.slice a8 x.l.length c8] 25)).alloc (.cells #[.slice (some ⟨b,off,none⟩) i c,.slice (some ⟨w2.heap.size,0,none⟩) 1 1,.slice a3 (t.l.length - (i+1)) (c - (i+1))] 23)).heap->W.os=w2.os->W.tape=w2.tape->W.output=w2.output ->
  Calls Tryz.prog 79 #[.slice (some ⟨w2.heap.size+1,0,none⟩) 3 3] W fun e w'=>∃ g cap,e=.returned (.slice (some ⟨g,0,none⟩) t.l.length cap)/\w'.ownsRow w2.heap.size 25 5 (.slice (some ⟨g,0,none⟩) t.l.length cap) t.l.length (cs1++[.int .i64 x.kind,.int .i64 x.n,.string ⟨x.s.toArray⟩,.slice a7 x.keys.length c7,.slice a8 x.l.length c8]++cs2)/\Below w2.heap.size w2 w'):=by
  intro W e1 e2 e3 e4
  have hbW:Below w2.heap.size w2 W:=by
   have:=bel_trans (bel_alloc w2 (.cells #[.int .i64 x.kind,.int .i64 x.n,.string ⟨x.s.toArray⟩,.slice a7 x.keys.length c7,.slice a8 x.l.length c8] 25)) (bel_alloc _ (.cells #[.slice (some ⟨b,off,none⟩) i c,.slice (some ⟨w2.heap.size,0,none⟩) 1 1,.slice a3 (t.l.length - (i+1)) (c - (i+1))] 23))
   exact⟨e2,e3,e4,by rw[e1];exact this.size,fun k hk=>by rw[e1];exact this.block k hk⟩
  have ha:=h2a w2 (.cells #[.int .i64 x.kind,.int .i64 x.n,.string ⟨x.s.toArray⟩,.slice a7 x.keys.length c7,.slice a8 x.l.length c8] 25) (.cells #[.slice (some ⟨b,off,none⟩) i c,.slice (some ⟨w2.heap.size,0,none⟩) 1 1,.slice a3 (t.l.length - (i+1)) (c - (i+1))] 23)
  have hb:=h2b w2 (.cells #[.int .i64 x.kind,.int .i64 x.n,.string ⟨x.s.toArray⟩,.slice a7 x.keys.length c7,.slice a8 x.l.length c8] 25) (.cells #[.slice (some ⟨b,off,none⟩) i c,.slice (some ⟨w2.heap.size,0,none⟩) 1 1,.slice a3 (t.l.length - (i+1)) (c - (i+1))] 23)
  rw[<-e1]at ha hb
  have hbw:Below w.heap.size w W:=bel_trans B2.out hbW
  refine(concatV3 W (w2.heap.size+1) ⟨_,i,cs1⟩ ⟨_,1,_⟩ ⟨_,t.l.length - (i+1),cs2⟩ (by simp[World.cell?,hb]) (by simp[World.cell?,hb]) (by simp[World.cell?,hb]) (PP.out.2.1.bel hbw) (slbox ha (one5 _ _ _ _ _ _ _ _ _)) (PP.out.2.2.2.bel hbw) (by simp only;omega)).mono ?_
  rintro e w' ⟨v,rfl,ho,hb9⟩
  have en:i+1+(t.l.length - (i+1))=t.l.length:=by omega
  simp only at ho
  rw[en]at ho
  have ho':w'.ownsRow w2.heap.size 25 5 v t.l.length (cs1++[.int .i64 x.kind,.int .i64 x.n,.string ⟨x.s.toArray⟩,.slice a7 x.keys.length c7,.slice a8 x.l.length c8]++cs2):=own_base ho hbW.size
  rcases ho'.2 with⟨_,h0⟩ | ⟨g,cap,cur,e,rest⟩
  ·omega
  ·subst e
   exact⟨g,cap,rfl,ho',bel_trans hbW hb9⟩
 have k4:∀ o,(w2.alloc o).cell? ⟨w.heap.size,4,none⟩=some (.slice (some ⟨b,off,none⟩) t.l.length c):=fun o=>(hS.out _ (bel_alloc w2 o)).1.c.2.2.2.2.1
 have m0:∀ o,(w2.alloc o).cell? ⟨w.heap.size+1,0,none⟩=some (.int .i64 x.kind):=fun o=>(hS.out _ (bel_alloc w2 o)).2.1.c.1
 have m1:∀ o,(w2.alloc o).cell? ⟨w.heap.size+1,1,none⟩=some (.int .i64 x.n):=fun o=>(hS.out _ (bel_alloc w2 o)).2.1.c.2.1
 have m2:∀ o,(w2.alloc o).cell? ⟨w.heap.size+1,2,none⟩=some (.string ⟨x.s.toArray⟩):=fun o=>(hS.out _ (bel_alloc w2 o)).2.1.c.2.2.1
 have m3:∀ o,(w2.alloc o).cell? ⟨w.heap.size+1,3,none⟩=some (.slice a7 x.keys.length c7):=fun o=>(hS.out _ (bel_alloc w2 o)).2.1.c.2.2.2.1
 have m4:∀ o,(w2.alloc o).cell? ⟨w.heap.size+1,4,none⟩=some (.slice a8 x.l.length c8):=fun o=>(hS.out _ (bel_alloc w2 o)).2.1.c.2.2.2.2.1
 have fin:Hid (∀ w3 g cap,w3.ownsRow w2.heap.size 25 5 (.slice (some ⟨g,0,none⟩) t.l.length cap) t.l.length (cs1++[.int .i64 x.kind,.int .i64 x.n,.string ⟨x.s.toArray⟩,.slice a7 x.keys.length c7,.slice a8 x.l.length c8]++cs2)->Below w2.heap.size w2 w3 ->
  VIs (set5 (w3.setCell ⟨w.heap.size,4,none⟩ (.slice (some ⟨g,0,none⟩) t.l.length cap)) (w.heap.size+2) (.int .i64 t.kind) (.int .i64 t.n) (.string ⟨t.s.toArray⟩) (.slice a1 t.keys.length c1) (.slice (some ⟨g,0,none⟩) t.l.length cap)) (okN ok w.heap.size) (d+1) { t with l:=t.l.take i++x :: t.l.drop (i+1) } (.agg #[.int .i64 t.kind,.int .i64 t.n,.string ⟨t.s.toArray⟩,.slice a1 t.keys.length c1,.slice (some ⟨g,0,none⟩) t.l.length cap]) /\
  Below w.heap.size w (set5 (w3.setCell ⟨w.heap.size,4,none⟩ (.slice (some ⟨g,0,none⟩) t.l.length cap)) (w.heap.size+2) (.int .i64 t.kind) (.int .i64 t.n) (.string ⟨t.s.toArray⟩) (.slice a1 t.keys.length c1) (.slice (some ⟨g,0,none⟩) t.l.length cap)) /\
  BoxIs (set5 (w3.setCell ⟨w.heap.size,4,none⟩ (.slice (some ⟨g,0,none⟩) t.l.length cap)) (w.heap.size+2) (.int .i64 t.kind) (.int .i64 t.n) (.string ⟨t.s.toArray⟩) (.slice a1 t.keys.length c1) (.slice (some ⟨g,0,none⟩) t.l.length cap)) (w.heap.size+2) (.int .i64 t.kind) (.int .i64 t.n) (.string ⟨t.s.toArray⟩) (.slice a1 t.keys.length c1) (.slice (some ⟨g,0,none⟩) t.l.length cap)):=by
  intro w3 g cap ho hb
  have g1:w3.grownBy (w3.setCell ⟨w.heap.size,4,none⟩ (.slice (some ⟨g,0,none⟩) t.l.length cap)) (some w.heap.size):=gb_set (gb_refl _ _) _ _
  have g2:=set5_gb (w3.setCell ⟨w.heap.size,4,none⟩ (.slice (some ⟨g,0,none⟩) t.l.length cap)) (w.heap.size+2) (.int .i64 t.kind) (.int .i64 t.n) (.string ⟨t.s.toArray⟩) (.slice a1 t.keys.length c1) (.slice (some ⟨g,0,none⟩) t.l.length cap)
  have hbx:=((hS.out _ hb).2.2.grown g1 (by simp)).set (.int .i64 t.kind) (.int .i64 t.n) (.string ⟨t.s.toArray⟩) (.slice a1 t.keys.length c1) (.slice (some ⟨g,0,none⟩) t.l.length cap)
  have hbw:Below w.heap.size w w3:=bel_trans B2.out hb
  have hb9:Below w.heap.size w (set5 (w3.setCell ⟨w.heap.size,4,none⟩ (.slice (some ⟨g,0,none⟩) t.l.length cap)) (w.heap.size+2) (.int .i64 t.kind) (.int .i64 t.n) (.string ⟨t.s.toArray⟩) (.slice a1 t.keys.length c1) (.slice (some ⟨g,0,none⟩) t.l.length cap)):=
   gb_none (gb_set5 (gb_setA (gb_below hbw) (Nat.le_refl _) _ _) (by omega) _ _ _ _ _)
  refine⟨⟨_,_,rfl,KK.out.1,KK.out.2.1,KK.out.2.2.1,?_,?_⟩,hb9,hbx⟩
  ·exact(KK.out.2.2.2.bel hb9).imp fun a x h1 h2=>⟨.inl h1,h2⟩
  ·have ho9:=own_kept' (own_kept' ho g1 (by omega)) g2 (by omega)
   have hlen:t.l.length=(t.l.take i++x :: t.l.drop (i+1)).length:=by simp;omega
   refine own_vals hlen ho9 ?_ (fun k hk=>.inr (by omega)) (by rw[<-hlen];unfold maxLen;omega)
   have rx:RowV (VIs _ (okN ok w.heap.size) d) [x] [.int .i64 x.kind,.int .i64 x.n,.string ⟨x.s.toArray⟩,.slice a7 x.keys.length c7,.slice a8 x.l.length c8]:=⟨_,_,_,_,_,[],rfl,(HX.out.bel hb9).toN,rfl⟩
   have:=((PP.out.2.2.1.bel (B:=w.heap.size) hb9).append rx).append (PP.out.1.bel (B:=w.heap.size) hb9)
   rw[List.append_assoc]
   exact this
 go_region_with ((go_at_call 79;refine(hcon.out _ (by rfl) (by rfl) (by rfl) (by rfl)).mono ?_;rintro e w3 ⟨g,cap,rfl,ho3,hb3⟩;obtain⟨p0,p1,p2,p3,p4,-,-,-,p9,p10⟩:=(hS.out _ hb3).1.c;obtain⟨x0,x1,x2,x3,x4,y0,y1,y2,y3,y4⟩:=(hS.out _ hb3).2.2.c;have O3:=hidI ho3;have HB3:=hidI hb3;clear ho3 hb3))
 all_goals
  go_wp2_with fail
  obtain⟨f1,f2,f3⟩:=fin.out _ g cap O3.out HB3.out
  obtain⟨z0,z1,z2,z3,z4,-⟩:=f3.c
  refine bodyPost_ret (v:=.agg #[.int .i64 t.kind,.int .i64 t.n,.string ⟨t.s.toArray⟩,.slice a1 t.keys.length c1,.slice (some ⟨g,0,none⟩) t.l.length cap]) ?_ rfl ?_
  ·simp only[set5]at z0 z1 z2 z3 z4
   simp[results,Tryz.results78,go_sem,z0,z1,z2,z3,z4]
  ·exact⟨_,rfl,f1,f2⟩
end Go.Proofs.YtmdemcjmcnfjmaaGreatDoor
namespace Go.Proofs.YtmdemcjmcnfjmaaGreatDoor
open Go.RowKit
theorem conS3 {w2:World} {v1 v3:Value} {n1 n3 N:Nat} {cs1 cs3:List Value} (key:ByteArray) (s1:SlIs w2 1 v1 n1 cs1) (s3:SlIs w2 1 v3 n3 cs3) (hN:n1+1+n3=N) (hn:N<=1000000) (W:World)
 (e1:W.heap=((w2.alloc (.cells #[.string key] 9)).alloc (.cells #[v1,.slice (some ⟨w2.heap.size,0,none⟩) 1 1,v3] 22)).heap) (e2:W.os=w2.os) (e3:W.tape=w2.tape) (e4:W.output=w2.output) :
 Calls Tryz.prog 123 #[.slice (some ⟨w2.heap.size+1,0,none⟩) 3 3] W fun e w'=>∃ g cap,e=.returned (.slice (some ⟨g,0,none⟩) N cap)/\w'.ownsRow w2.heap.size 9 1 (.slice (some ⟨g,0,none⟩) N cap) N (cs1++[.string key]++cs3)/\Below w2.heap.size w2 w':=by
 have hbW:Below w2.heap.size w2 W:=by
  have:=bel_trans (bel_alloc w2 (.cells #[.string key] 9)) (bel_alloc _ (.cells #[v1,.slice (some ⟨w2.heap.size,0,none⟩) 1 1,v3] 22))
  exact⟨e2,e3,e4,by rw[e1];exact this.size,fun k hk=>by rw[e1];exact this.block k hk⟩
 have ha:=h2a w2 (.cells #[.string key] 9) (.cells #[v1,.slice (some ⟨w2.heap.size,0,none⟩) 1 1,v3] 22)
 have hb:=h2b w2 (.cells #[.string key] 9) (.cells #[v1,.slice (some ⟨w2.heap.size,0,none⟩) 1 1,v3] 22)
 rw[<-e1]at ha hb
 refine(concatS3 W (w2.heap.size+1) ⟨v1,n1,cs1⟩ ⟨_,1,_⟩ ⟨v3,n3,cs3⟩ (by simp[World.cell?,hb]) (by simp[World.cell?,hb]) (by simp[World.cell?,hb]) (s1.bel hbW) (slone ha rfl) (s3.bel hbW) (by simp only;omega)).mono ?_
 rintro e w' ⟨v,rfl,ho,hb9⟩
 simp only at ho
 rw[hN]at ho
 have ho':=own_base ho hbW.size
 rcases ho'.2 with⟨_,h0⟩ | ⟨g,cap,cur,e,rest⟩
 ·omega
 ·subst e
  exact⟨g,cap,rfl,ho',bel_trans hbW hb9⟩
theorem conV3 {w2:World} {v1 v3:Value} {n1 n3 N:Nat} {cs1 cs3:List Value} (k n:Int) (s:ByteArray) (a7 a8:Option Addr) (l7 c7 l8 c8:Nat) (s1:SlIs w2 5 v1 n1 cs1) (s3:SlIs w2 5 v3 n3 cs3) (hN:n1+1+n3=N) (hn:N<=1000000) (W:World)
 (e1:W.heap=((w2.alloc (.cells #[.int .i64 k,.int .i64 n,.string s,.slice a7 l7 c7,.slice a8 l8 c8] 25)).alloc (.cells #[v1,.slice (some ⟨w2.heap.size,0,none⟩) 1 1,v3] 23)).heap) (e2:W.os=w2.os) (e3:W.tape=w2.tape) (e4:W.output=w2.output) :
 Calls Tryz.prog 79 #[.slice (some ⟨w2.heap.size+1,0,none⟩) 3 3] W fun e w'=>∃ g cap,e=.returned (.slice (some ⟨g,0,none⟩) N cap)/\w'.ownsRow w2.heap.size 25 5 (.slice (some ⟨g,0,none⟩) N cap) N (cs1++[.int .i64 k,.int .i64 n,.string s,.slice a7 l7 c7,.slice a8 l8 c8]++cs3)/\Below w2.heap.size w2 w':=by
 have hbW:Below w2.heap.size w2 W:=by
  have:=bel_trans (bel_alloc w2 (.cells #[.int .i64 k,.int .i64 n,.string s,.slice a7 l7 c7,.slice a8 l8 c8] 25)) (bel_alloc _ (.cells #[v1,.slice (some ⟨w2.heap.size,0,none⟩) 1 1,v3] 23))
  exact⟨e2,e3,e4,by rw[e1];exact this.size,fun k hk=>by rw[e1];exact this.block k hk⟩
 have ha:=h2a w2 (.cells #[.int .i64 k,.int .i64 n,.string s,.slice a7 l7 c7,.slice a8 l8 c8] 25) (.cells #[v1,.slice (some ⟨w2.heap.size,0,none⟩) 1 1,v3] 23)
 have hb:=h2b w2 (.cells #[.int .i64 k,.int .i64 n,.string s,.slice a7 l7 c7,.slice a8 l8 c8] 25) (.cells #[v1,.slice (some ⟨w2.heap.size,0,none⟩) 1 1,v3] 23)
 rw[<-e1]at ha hb
 refine(concatV3 W (w2.heap.size+1) ⟨v1,n1,cs1⟩ ⟨_,1,_⟩ ⟨v3,n3,cs3⟩ (by simp[World.cell?,hb]) (by simp[World.cell?,hb]) (by simp[World.cell?,hb]) (s1.bel hbW) (slbox ha (one5 _ _ _ _ _ _ _ _ _)) (s3.bel hbW) (by simp only;omega)).mono ?_
 rintro e w' ⟨v,rfl,ho,hb9⟩
 simp only at ho
 rw[hN]at ho
 have ho':=own_base ho hbW.size
 rcases ho'.2 with⟨_,h0⟩ | ⟨g,cap,cur,e,rest⟩
 ·omega
 ·subst e
  exact⟨g,cap,rfl,ho',bel_trans hbW hb9⟩
end Go.Proofs.YtmdemcjmcnfjmaaGreatDoor
namespace Go.Proofs.YtmdemcjmcnfjmaaGreatDoor
open Go.RowKit
attribute [local go_sem ↓] Go.wp_at_zero Go.wp_at_succ
def insAt (key:List UInt8) (keys:List (List UInt8)):Nat:=(keys.takeWhile fun a=>Op.bytesLess a key).length
theorem insAt_le (key:List UInt8) (keys:List (List UInt8)):insAt key keys<=keys.length:=(List.takeWhile_sublist _).length_le
theorem insAt_step {key a:List UInt8} {keys:List (List UInt8)} {k:Nat} (h:keys[k]?=some a) (hk:k<=insAt key keys) (hl:Op.bytesLess a key=true):k < insAt key keys:=by
 induction keys generalizing k with
 | nil=>simp at h
 | cons b keys ih=>
  unfold insAt at hk ⊢
  rw[List.takeWhile_cons]at hk ⊢
  cases k with
  | zero=>simp at h;subst h;simp[hl]
  | succ k=>
   split at hk
   ·rename_i hb
    rw[if_pos hb]
    simp only[List.length_cons]at hk ⊢
    have:=ih (k:=k) (by simpa using h) (by unfold insAt;omega)
    unfold insAt at this;omega
   ·simp at hk
theorem insAt_end {key a:List UInt8} {keys:List (List UInt8)} {k:Nat} (h:keys[k]?=some a) (hk:k<=insAt key keys) (hl:Op.bytesLess a key=false):k=insAt key keys:=by
 induction keys generalizing k with
 | nil=>simp at h
 | cons b keys ih=>
  unfold insAt at hk ⊢
  rw[List.takeWhile_cons]at hk ⊢
  cases k with
  | zero=>simp at h;subst h;simp[hl]
  | succ k=>
   split at hk
   ·rename_i hb
    rw[if_pos hb]
    simp only[List.length_cons]at hk ⊢
    have:=ih (k:=k) (by simpa using h) (by unfold insAt;omega)
    unfold insAt at this;omega
   ·simp at hk
def MidI (w w2:World) (t x:V) (key:List UInt8) (at_:Nat) (a2 a7 a8:Option Addr) (c2 c7 c8:Nat) (wc:World):Prop:=
 ∃ g cap,BoxIs wc w.heap.size (.int .i64 t.kind) (.int .i64 t.n) (.string ⟨t.s.toArray⟩) (.slice (some ⟨g,0,none⟩) (t.keys.length+1) cap) (.slice a2 t.l.length c2) /\
  BoxIs wc (w.heap.size+1) (.int .i64 x.kind) (.int .i64 x.n) (.string ⟨x.s.toArray⟩) (.slice a7 x.keys.length c7) (.slice a8 x.l.length c8) /\
  BoxIs wc (w.heap.size+2) (.int .i64 0) (.int .i64 0) (.string ⟨#[]⟩) (.slice none 0 0) (.slice none 0 0) /\
  wc.ownsRow w2.heap.size 9 1 (.slice (some ⟨g,0,none⟩) (t.keys.length+1) cap) (t.keys.length+1) ((t.keys.take at_).map str++[str key]++(t.keys.drop at_).map str) /\
  Below w.heap.size w wc/\w2.heap.size<=wc.heap.size
theorem own_bel {w w':World} {B:Nat} {e:TypeId} {size:Nat} {v:Value} {n:Nat} {xs:List Value} (h:w.ownsRow B e size v n xs) (hb:Below w.heap.size w w'):w'.ownsRow B e size v n xs:=h.kept (gb_below (r:=none) hb) (by cases v.ownBlock <;> simp)
theorem StrsAre.mem {w:World} {ok:Nat->Prop} {xs:List (List UInt8)} {v:Value} (h:StrsAre w ok xs v) (y:List UInt8) (hy:y∈xs):y.length<=maxLen:=by
 rcases h.2 with⟨e,_⟩ | ⟨b,off,c,e,h1,h2,h3⟩
 ·rw[e]at hy;simp at hy
 ·obtain⟨i,hi⟩:=List.getElem?_of_mem hy
  exact(h3 i y hi).1
theorem box_set3 {w:World} {g:Nat} {c0 c1 c2 c3 c4:Value} (h:BoxIs w g c0 c1 c2 c3 c4) (v:Value):BoxIs (w.setCell ⟨g,3,none⟩ v) g c0 c1 c2 v c4:=heap_set h 3 v
set_option maxRecDepth 100000 in
set_option maxHeartbeats 40000000 in
theorem with_new (w:World) (ok:Nat->Prop) (d:Nat) (t x:V) (v xv:Value) (key:List UInt8) (h:VIs w ok (d+1) t v) (hx:VIs w ok d x xv) (hf:findV t key=none) (hp:pairedV t=true) (hsz:t.l.length<=100000) (hkey:key.length<=maxLen) :
 Calls Tryz.prog 78 #[v,str key,xv] w fun e w'=>∃ r,e=.returned r/\VIs w' (okN ok w.heap.size) (d+1) { t with keys:=t.keys.take (insAt key t.keys)++key :: t.keys.drop (insAt key t.keys),l:=t.l.take (insAt key t.keys)++x :: t.l.drop (insAt key t.keys) } r/\Below w.heap.size w w':=by
 have H:=hidI h
 have HX:=hidI hx
 obtain⟨ks,ls,rfl,h1,h2,h3,h4,h5⟩:=h
 have KK:Hid (I64 t.kind/\I64 t.n/\t.s.length<=maxLen/\StrsAre w ok t.keys ks/\ValsAre w ok (VIs w ok d) t.l ls):=⟨h1,h2,h3,h4,h5⟩
 obtain⟨a1,c1,rfl⟩:=h4.form
 obtain⟨a2,c2,rfl⟩:=h5.form
 have l1:=h4.1
 have l2:=h5.1
 have F:=hidI hf
 have FP:=hidI hp
 have hkl:t.keys.length=t.l.length:=by
  simp only[pairedV,Bool.and_eq_true,decide_eq_true_eq]at hp;exact hp.2
 have HKL:=hidI hkl
 have hkl1:t.keys.length<=t.l.length:=by omega
 have hkl2:t.l.length<=t.keys.length:=by omega
 clear hf hp hkl
 obtain⟨xk,xl,hxv⟩:∃ xk xl,xv=.agg #[.int .i64 x.kind,.int .i64 x.n,str x.s,xk,xl]:=by
  match d,hx with
  | d+1,hx=>obtain⟨ks,ls,e,_⟩:=hx;exact⟨ks,ls,e⟩
 subst hxv
 obtain⟨-,-,-,⟨a7,c7,rfl⟩,⟨a8,c8,rfl⟩⟩:=hx.agg
 unfold maxLen at l1 h3 l2
 unfold str
 clear h4 h5 h1 h2 hx
 go_enter Tryz.func78,Tryz.ntmps78
 go_wp2_with fail
 refine(paired_at _ ok _ t _ (by exact H.out.bel (bel_trans (bel_trans (bel_alloc _ _) (bel_alloc _ _)) (bel_alloc _ _)))).mono ?_
 rintro e w1 ⟨rfl,hb1⟩
 rw[FP.out]
 have bx:Hid (BoxIs w1 w.heap.size (.int .i64 t.kind) (.int .i64 t.n) (.string ⟨t.s.toArray⟩) (.slice a1 t.keys.length c1) (.slice a2 t.l.length c2)/\BoxIs w1 (w.heap.size+1) (.int .i64 x.kind) (.int .i64 x.n) (.string ⟨x.s.toArray⟩) (.slice a7 x.keys.length c7) (.slice a8 x.l.length c8)/\BoxIs w1 (w.heap.size+2) (.int .i64 0) (.int .i64 0) (.string ⟨#[]⟩) (.slice none 0 0) (.slice none 0 0)):=⟨box_bel hb1 (h3a w _ _ _),box_bel hb1 (h3b w _ _ _),box_bel hb1 (h3c w _ _ _)⟩
 obtain⟨p0,p1,p2,p3,p4,-,-,-,p9,p10⟩:=bx.out.1.c
 have B1:Hid (Below w.heap.size w w1):=bel_trans (bel_trans (bel_trans (bel_alloc _ _) (bel_alloc _ _)) (bel_alloc _ _)) hb1
 clear hb1
 go_wp2_with fail
 refine(find_at _ ok _ t _ key (by exact H.out.bel B1.out)).mono ?_
 rintro e w2 ⟨rfl,hb2⟩
 rw[F.out]
 have bx2:Hid (BoxIs w2 w.heap.size (.int .i64 t.kind) (.int .i64 t.n) (.string ⟨t.s.toArray⟩) (.slice a1 t.keys.length c1) (.slice a2 t.l.length c2)/\BoxIs w2 (w.heap.size+1) (.int .i64 x.kind) (.int .i64 x.n) (.string ⟨x.s.toArray⟩) (.slice a7 x.keys.length c7) (.slice a8 x.l.length c8)/\BoxIs w2 (w.heap.size+2) (.int .i64 0) (.int .i64 0) (.string ⟨#[]⟩) (.slice none 0 0) (.slice none 0 0)):=⟨box_bel hb2 bx.out.1,box_bel hb2 bx.out.2.1,box_bel hb2 bx.out.2.2⟩
 have B2:Hid (Below w.heap.size w w2):=bel_trans B1.out hb2
 have hsz2:w.heap.size+2 < w2.heap.size:=bx2.out.2.2.lt
 clear hb2 p0 p1 p2 p3 p4 p9 p10 bx B1
 unfold optI
 obtain⟨p0,p1,p2,p3,p4,-,-,-,p9,p10⟩:=bx2.out.1.c
 obtain⟨q0,q1,q2,q3,q4,-⟩:=bx2.out.2.1.c
 go_upto_block 0 with fail
 go_cut [8] (fun i wc=>i=.int .i64 (insAt key t.keys:Nat)/\wc=w2)
 case first=>
  go_wp2_with fail
  go_loopg [8] t.keys.length (fun g i wr=>∃ k:Nat,k<=insAt key t.keys/\g=t.keys.length - k/\i=.int .i64 k/\wr=w2)
  case atStart=>exact⟨0,Nat.zero_le _,rfl,rfl,rfl⟩
  case round=>
   obtain⟨k,hk,hgk,rfl,rfl⟩:=hrel
   have GK:=hidI hgk
   have hia:=insAt_le key t.keys
   clear hgk
   by_cases hlt:k < t.keys.length
   ·obtain⟨_,K4⟩:=KK.out.2.2.2.1
    rcases K4 with⟨e,_⟩ | ⟨kb,ko,kc,hks,hc1,hc2,hcs⟩
    ·rw[e]at hlt;simp at hlt
    simp only[Value.slice.injEq]at hks
    obtain⟨rfl,-,rfl⟩:=hks
    have hc:=cell_bel B2.out (hcs k t.keys[k] (List.getElem?_eq_getElem hlt)).2.2
    clear hcs
    unfold str at hc
    cases hless:Op.bytesLess t.keys[k] key with
    | true=>
     have hk1:k < insAt key t.keys:=insAt_step (List.getElem?_eq_getElem hlt) hk hless
     go_wp2_with fail
     go_roundg (t.keys.length - (k+1))
     case measure=>rw[GK.out];omega
     case rel=>exact⟨k+1,hk1,rfl,by go_num,rfl⟩
    | false=>
     have hk1:k=insAt key t.keys:=insAt_end (List.getElem?_eq_getElem hlt) hk hless
     have HK1:=hidI hk1
     clear hk1
     go_wp2_with fail
     go_meet
     case rel=>exact⟨by rw[<-HK1.out],rfl⟩
   ·have hk1:k=insAt key t.keys:=by omega
    have HK1:=hidI hk1
    clear hk1
    go_wp2_with fail
    go_meet
    case rel=>exact⟨by rw[<-HK1.out],rfl⟩
 case rest=>
  obtain⟨rfl,hw⟩:=hcut
  have hw':=hw.symm
  clear hw
  subst hw'
  have hia:=insAt_le key t.keys
  obtain⟨at_,hat⟩:∃ a,insAt key t.keys=a:=⟨_,rfl⟩
  rw[hat]at hia ⊢
  have HAT:=hidI hat
  clear hat
  have j0:(0:Int)<=(at_:Int):=by omega
  have j1:(at_:Int)<=(t.keys.length:Int):=by omega
  have j2:(at_:Int)<=(t.l.length:Int):=by omega
  have fin10:Hid (∀ w3 g cap,w3.ownsRow w2.heap.size 9 1 (.slice (some ⟨g,0,none⟩) (t.keys.length+1) cap) (t.keys.length+1) ((t.keys.take at_).map str++[.string ⟨key.toArray⟩]++(t.keys.drop at_).map str)->Below w2.heap.size w2 w3 ->
   MidI w w2 t x key at_ a2 a7 a8 c2 c7 c8 (w3.setCell ⟨w.heap.size,3,none⟩ (.slice (some ⟨g,0,none⟩) (t.keys.length+1) cap))):=by
   intro w3 g cap ho hb
   have g1:w3.grownBy (w3.setCell ⟨w.heap.size,3,none⟩ (.slice (some ⟨g,0,none⟩) (t.keys.length+1) cap)) (some w.heap.size):=gb_set (gb_refl _ _) _ _
   refine⟨g,cap,box_set3 (box_bel hb bx2.out.1) _,(box_bel hb bx2.out.2.1).grown g1 (by simp),(box_bel hb bx2.out.2.2).grown g1 (by simp),own_kept' ho g1 (by omega),?_,Nat.le_trans hb.size g1.size⟩
   exact gb_none (gb_setA (gb_below (bel_trans B2.out hb)) (Nat.le_refl _) _ _)
  go_upto_region 10 with fail
  go_cut [8] (fun i wc'=>i=.int .i64 (at_:Nat)/\MidI w w2 t x key at_ a2 a7 a8 c2 c7 c8 wc')
  case first=>
   have k3:∀ o,(w2.alloc o).cell? ⟨w.heap.size,3,none⟩=some (.slice a1 t.keys.length c1):=fun o=>(box_bel (bel_alloc w2 o) bx2.out.1).c.2.2.2.1
   obtain⟨_,K4⟩:=KK.out.2.2.2.1
   rcases K4 with⟨e,e2⟩ | ⟨kb,ko,kc,hks,hc1,hc2,hcs⟩
   ·obtain⟨a0,e2⟩:=e2
    simp only[Value.slice.injEq]at e2
    obtain⟨-,e3,e6⟩:=e2
    subst e6
    have E3:Hid (t.keys.length=0/\t.keys=[]):=⟨e3,e⟩
    have j4:(t.keys.length:Int)<=0:=by omega
    have e7:at_=0:=by omega
    clear e e3
    subst e7
    have con:Hid (∀ W,W.heap=((w2.alloc (.cells #[.string ⟨key.toArray⟩] 9)).alloc (.cells #[.slice a1 0 0,.slice (some ⟨w2.heap.size,0,none⟩) 1 1,.slice a1 t.keys.length 0] 22)).heap->W.os=w2.os->W.tape=w2.tape->W.output=w2.output ->
     Calls Tryz.prog 123 #[.slice (some ⟨w2.heap.size+1,0,none⟩) 3 3] W fun e w'=>∃ g cap,e=.returned (.slice (some ⟨g,0,none⟩) (t.keys.length+1) cap)/\w'.ownsRow w2.heap.size 9 1 (.slice (some ⟨g,0,none⟩) (t.keys.length+1) cap) (t.keys.length+1) ((t.keys.take 0).map str++[.string ⟨key.toArray⟩]++(t.keys.drop 0).map str)/\Below w2.heap.size w2 w'):=by
     intro W e1 e2 e4 e5
     obtain⟨q1,q2⟩:=E3.out
     rw[q1]at e1
     rw[q2]
     simp only[List.take_nil,List.drop_nil,List.map_nil,List.length_nil]
     exact conS3 ⟨key.toArray⟩ (slnil w2 1 a1) (slnil w2 1 a1) rfl (by simp) W e1 e2 e4 e5
    go_region_with ((go_at_call 123;refine(con.out _ (by rfl) (by rfl) (by rfl) (by rfl)).mono ?_;rintro e w3 ⟨g,cap,rfl,ho3,hb3⟩;obtain⟨p0,p1,p2,p3,p4,-,-,-,p9,p10⟩:=(box_bel hb3 bx2.out.1).c;have O3:=hidI ho3;have HB3:=hidI hb3;clear ho3 hb3))
    all_goals
     go_wp2_with fail
     go_meet
     case rel=>exact⟨rfl,fin10.out _ _ _ O3.out HB3.out⟩
   ·simp only[Value.slice.injEq]at hks
    obtain⟨rfl,-,rfl⟩:=hks
    clear hcs
    unfold maxLen at hc2
    have j3:(at_:Int)<=(c1:Int):=by omega
    have j4:(t.keys.length:Int)<=(c1:Int):=by omega
    obtain⟨s1,s2⟩:=ss_parts KK.out.2.2.2.1 at_ at_ (Nat.le_refl _) hia (by omega)
    obtain⟨a3,hifs⟩:∃ a3,(if c1=at_ then (some ⟨kb,ko,none⟩:Option Addr) else some ⟨kb,ko+at_,none⟩)=a3:=⟨_,rfl⟩
    rw[Nat.mul_one,hifs]at s2
    have con:Hid (∀ W,W.heap=((w2.alloc (.cells #[.string ⟨key.toArray⟩] 9)).alloc (.cells #[.slice (some ⟨kb,ko,none⟩) at_ c1,.slice (some ⟨w2.heap.size,0,none⟩) 1 1,.slice a3 (t.keys.length - at_) (c1 - at_)] 22)).heap->W.os=w2.os->W.tape=w2.tape->W.output=w2.output ->
     Calls Tryz.prog 123 #[.slice (some ⟨w2.heap.size+1,0,none⟩) 3 3] W fun e w'=>∃ g cap,e=.returned (.slice (some ⟨g,0,none⟩) (t.keys.length+1) cap)/\w'.ownsRow w2.heap.size 9 1 (.slice (some ⟨g,0,none⟩) (t.keys.length+1) cap) (t.keys.length+1) ((t.keys.take at_).map str++[.string ⟨key.toArray⟩]++(t.keys.drop at_).map str)/\Below w2.heap.size w2 w'):=by
     intro W e1 e2 e4 e5
     exact conS3 ⟨key.toArray⟩ (s1.bel B2.out) (s2.bel B2.out) (by omega) (by omega) W e1 e2 e4 e5
    clear s1 s2
    go_region_with ((go_at_call 123;refine(con.out _ (by rfl) (by rfl) (by rfl) (by rfl)).mono ?_;rintro e w3 ⟨g,cap,rfl,ho3,hb3⟩;obtain⟨p0,p1,p2,p3,p4,-,-,-,p9,p10⟩:=(box_bel hb3 bx2.out.1).c;have O3:=hidI ho3;have HB3:=hidI hb3;clear ho3 hb3))
    all_goals
     go_wp2_with fail
     go_meet
     case rel=>exact⟨rfl,fin10.out _ _ _ O3.out HB3.out⟩
  case rest=>
   obtain⟨rfl,gk,kcap,hm1,hm2,hm3,hm4,hm5,hm6⟩:=hcut
   have M:Hid (BoxIs wc w.heap.size (.int .i64 t.kind) (.int .i64 t.n) (.string ⟨t.s.toArray⟩) (.slice (some ⟨gk,0,none⟩) (t.keys.length+1) kcap) (.slice a2 t.l.length c2)/\BoxIs wc (w.heap.size+1) (.int .i64 x.kind) (.int .i64 x.n) (.string ⟨x.s.toArray⟩) (.slice a7 x.keys.length c7) (.slice a8 x.l.length c8)/\BoxIs wc (w.heap.size+2) (.int .i64 0) (.int .i64 0) (.string ⟨#[]⟩) (.slice none 0 0) (.slice none 0 0)/\wc.ownsRow w2.heap.size 9 1 (.slice (some ⟨gk,0,none⟩) (t.keys.length+1) kcap) (t.keys.length+1) ((t.keys.take at_).map str++[str key]++(t.keys.drop at_).map str)/\Below w.heap.size w wc/\w2.heap.size<=wc.heap.size):=⟨hm1,hm2,hm3,hm4,hm5,hm6⟩
   clear hm1 hm2 hm3 hm4 hm5 fin10 p0 p1 p2 p3 p4 p9 p10 q0 q1 q2 q3 q4
   obtain⟨p0,p1,p2,p3,p4,-,-,-,p9,p10⟩:=M.out.1.c
   obtain⟨q0,q1,q2,q3,q4,-⟩:=M.out.2.1.c
   have k4:∀ o,(wc.alloc o).cell? ⟨w.heap.size,4,none⟩=some (.slice a2 t.l.length c2):=fun o=>(box_bel (bel_alloc wc o) M.out.1).c.2.2.2.2.1
   have m0:∀ o,(wc.alloc o).cell? ⟨w.heap.size+1,0,none⟩=some (.int .i64 x.kind):=fun o=>(box_bel (bel_alloc wc o) M.out.2.1).c.1
   have m1:∀ o,(wc.alloc o).cell? ⟨w.heap.size+1,1,none⟩=some (.int .i64 x.n):=fun o=>(box_bel (bel_alloc wc o) M.out.2.1).c.2.1
   have m2:∀ o,(wc.alloc o).cell? ⟨w.heap.size+1,2,none⟩=some (.string ⟨x.s.toArray⟩):=fun o=>(box_bel (bel_alloc wc o) M.out.2.1).c.2.2.1
   have m3:∀ o,(wc.alloc o).cell? ⟨w.heap.size+1,3,none⟩=some (.slice a7 x.keys.length c7):=fun o=>(box_bel (bel_alloc wc o) M.out.2.1).c.2.2.2.1
   have m4:∀ o,(wc.alloc o).cell? ⟨w.heap.size+1,4,none⟩=some (.slice a8 x.l.length c8):=fun o=>(box_bel (bel_alloc wc o) M.out.2.1).c.2.2.2.2.1
   have hrows:∃ cs1 cs2 v1 v3,RowV (VIs w ok d) (t.l.take at_) cs1/\RowV (VIs w ok d) (t.l.drop at_) cs2/\SlIs w 5 v1 at_ cs1/\SlIs w 5 v3 (t.l.length - at_) cs2/\(c2=0/\t.l.length=0/\v1=.slice a2 0 0/\v3=.slice a2 t.l.length 0\/∃ b off,a2=some ⟨b,off,none⟩/\t.l.length<=c2/\c2<=maxLen/\v1=.slice (some ⟨b,off,none⟩) at_ c2/\v3=.slice (if c2=at_ then some ⟨b,off,none⟩ else some ⟨b,off+at_ * 5,none⟩) (t.l.length - at_) (c2 - at_)):=by
    obtain⟨_,K5⟩:=KK.out.2.2.2.2
    rcases K5 with⟨e,e2⟩ | ⟨b,off,c,hls,hc1,hc2,hcs⟩
    ·obtain⟨a0,e2⟩:=e2
     simp only[Value.slice.injEq]at e2
     obtain⟨-,e3,e6⟩:=e2
     subst e6
     have e4:at_=0:=by omega
     refine⟨[],[],_,_,?_,?_,?_,?_,.inl ⟨rfl,e3,rfl,rfl⟩⟩
     ·rw[e,List.take_nil];rfl
     ·rw[e,List.drop_nil];rfl
     ·rw[e4];exact slnil w 5 a2
     ·rw[e3,e4];exact slnil w 5 a2
    ·simp only[Value.slice.injEq]at hls
     obtain⟨rfl,-,rfl⟩:=hls
     obtain⟨cs1,cs2,r1,s1,r2,s2⟩:=sl_parts KK.out.2.2.2.2 at_ at_ (Nat.le_refl _) (by omega) (by omega)
     exact⟨cs1,cs2,_,_,r1,r2,s1,s2,.inr ⟨b,off,rfl,hc1,hc2,rfl,rfl⟩⟩
   obtain⟨cs1,cs2,v1,v3,r1,r2,s1,s3,hcase⟩:=hrows
   have con:Hid (∀ W,W.heap=((wc.alloc (.cells #[.int .i64 x.kind,.int .i64 x.n,.string ⟨x.s.toArray⟩,.slice a7 x.keys.length c7,.slice a8 x.l.length c8] 25)).alloc (.cells #[v1,.slice (some ⟨wc.heap.size,0,none⟩) 1 1,v3] 23)).heap->W.os=wc.os->W.tape=wc.tape->W.output=wc.output ->
    Calls Tryz.prog 79 #[.slice (some ⟨wc.heap.size+1,0,none⟩) 3 3] W fun e w'=>∃ g cap,e=.returned (.slice (some ⟨g,0,none⟩) (t.l.length+1) cap)/\w'.ownsRow wc.heap.size 25 5 (.slice (some ⟨g,0,none⟩) (t.l.length+1) cap) (t.l.length+1) (cs1++[.int .i64 x.kind,.int .i64 x.n,.string ⟨x.s.toArray⟩,.slice a7 x.keys.length c7,.slice a8 x.l.length c8]++cs2)/\Below wc.heap.size wc w'):=by
    intro W e1 e2 e4 e5
    exact conV3 _ _ _ _ _ _ _ _ _ (s1.bel M.out.2.2.2.2.1) (s3.bel M.out.2.2.2.2.1) (by omega) (by omega) W e1 e2 e4 e5
   have fin:Hid (∀ w3 g cap,w3.ownsRow wc.heap.size 25 5 (.slice (some ⟨g,0,none⟩) (t.l.length+1) cap) (t.l.length+1) (cs1++[.int .i64 x.kind,.int .i64 x.n,.string ⟨x.s.toArray⟩,.slice a7 x.keys.length c7,.slice a8 x.l.length c8]++cs2)->Below wc.heap.size wc w3 ->
    VIs (set5 (w3.setCell ⟨w.heap.size,4,none⟩ (.slice (some ⟨g,0,none⟩) (t.l.length+1) cap)) (w.heap.size+2) (.int .i64 t.kind) (.int .i64 t.n) (.string ⟨t.s.toArray⟩) (.slice (some ⟨gk,0,none⟩) (t.keys.length+1) kcap) (.slice (some ⟨g,0,none⟩) (t.l.length+1) cap)) (okN ok w.heap.size) (d+1) { t with keys:=t.keys.take at_++key :: t.keys.drop at_,l:=t.l.take at_++x :: t.l.drop at_ } (.agg #[.int .i64 t.kind,.int .i64 t.n,.string ⟨t.s.toArray⟩,.slice (some ⟨gk,0,none⟩) (t.keys.length+1) kcap,.slice (some ⟨g,0,none⟩) (t.l.length+1) cap]) /\
    Below w.heap.size w (set5 (w3.setCell ⟨w.heap.size,4,none⟩ (.slice (some ⟨g,0,none⟩) (t.l.length+1) cap)) (w.heap.size+2) (.int .i64 t.kind) (.int .i64 t.n) (.string ⟨t.s.toArray⟩) (.slice (some ⟨gk,0,none⟩) (t.keys.length+1) kcap) (.slice (some ⟨g,0,none⟩) (t.l.length+1) cap))/\BoxIs (set5 (w3.setCell ⟨w.heap.size,4,none⟩ (.slice (some ⟨g,0,none⟩) (t.l.length+1) cap)) (w.heap.size+2) (.int .i64 t.kind) (.int .i64 t.n) (.string ⟨t.s.toArray⟩) (.slice (some ⟨gk,0,none⟩) (t.keys.length+1) kcap) (.slice (some ⟨g,0,none⟩) (t.l.length+1) cap)) (w.heap.size+2) (.int .i64 t.kind) (.int .i64 t.n) (.string ⟨t.s.toArray⟩) (.slice (some ⟨gk,0,none⟩) (t.keys.length+1) kcap) (.slice (some ⟨g,0,none⟩) (t.l.length+1) cap)):=by
    intro w3 g cap ho hb
    have g1:w3.grownBy (w3.setCell ⟨w.heap.size,4,none⟩ (.slice (some ⟨g,0,none⟩) (t.l.length+1) cap)) (some w.heap.size):=gb_set (gb_refl _ _) _ _
    have g2:=set5_gb (w3.setCell ⟨w.heap.size,4,none⟩ (.slice (some ⟨g,0,none⟩) (t.l.length+1) cap)) (w.heap.size+2) (.int .i64 t.kind) (.int .i64 t.n) (.string ⟨t.s.toArray⟩) (.slice (some ⟨gk,0,none⟩) (t.keys.length+1) kcap) (.slice (some ⟨g,0,none⟩) (t.l.length+1) cap)
    have hbx:=((box_bel hb M.out.2.2.1).grown g1 (by simp)).set (.int .i64 t.kind) (.int .i64 t.n) (.string ⟨t.s.toArray⟩) (.slice (some ⟨gk,0,none⟩) (t.keys.length+1) kcap) (.slice (some ⟨g,0,none⟩) (t.l.length+1) cap)
    have hbw:Below w.heap.size w w3:=bel_trans M.out.2.2.2.2.1 hb
    have hb9:Below w.heap.size w (set5 (w3.setCell ⟨w.heap.size,4,none⟩ (.slice (some ⟨g,0,none⟩) (t.l.length+1) cap)) (w.heap.size+2) (.int .i64 t.kind) (.int .i64 t.n) (.string ⟨t.s.toArray⟩) (.slice (some ⟨gk,0,none⟩) (t.keys.length+1) kcap) (.slice (some ⟨g,0,none⟩) (t.l.length+1) cap)):=gb_none (gb_set5 (gb_setA (gb_below hbw) (Nat.le_refl _) _ _) (by omega) _ _ _ _ _)
    have hsz3:w.heap.size+2 < w2.heap.size:=hsz2
    refine⟨⟨_,_,rfl,KK.out.1,KK.out.2.1,KK.out.2.2.1,?_,?_⟩,hb9,hbx⟩
    ·have hk3:=own_kept' (own_kept' (own_bel M.out.2.2.2.1 hb) g1 (by omega)) g2 (by omega)
     have hlen:t.keys.length+1=(t.keys.take at_++key :: t.keys.drop at_).length:=by simp;omega
     refine own_strs (B:=w2.heap.size) hlen ?_ ?_ (fun k hk=>.inr (by omega)) (by rw[<-hlen];unfold maxLen;omega)
     ·have e9:(t.keys.take at_++key :: t.keys.drop at_).map str=(t.keys.take at_).map str++[str key]++(t.keys.drop at_).map str:=by simp
      rw[e9];exact hk3
     ·intro y hy
      simp only[List.mem_append,List.mem_cons]at hy
      rcases hy with hy | rfl | hy
      ·exact KK.out.2.2.2.1.mem y (List.mem_of_mem_take hy)
      ·exact hkey
      ·exact KK.out.2.2.2.1.mem y (List.mem_of_mem_drop hy)
    ·have ho9:=own_kept' (own_kept' ho g1 (by omega)) g2 (by omega)
     have hlen:t.l.length+1=(t.l.take at_++x :: t.l.drop at_).length:=by simp;omega
     refine own_vals hlen ho9 ?_ (fun k hk=>.inr (by omega)) (by rw[<-hlen];unfold maxLen;omega)
     have rx:RowV (VIs _ (okN ok w.heap.size) d) [x] [.int .i64 x.kind,.int .i64 x.n,.string ⟨x.s.toArray⟩,.slice a7 x.keys.length c7,.slice a8 x.l.length c8]:=⟨_,_,_,_,_,[],rfl,(HX.out.bel hb9).toN,rfl⟩
     have:=((r2.bel (B:=w.heap.size) hb9).append rx).append (r1.bel (B:=w.heap.size) hb9)
     rw[List.append_assoc]
     exact this
   clear r1 r2 s1 s3
   have hfinish:Hid True:=trivial
   rcases hcase with⟨rfl,e3,rfl,rfl⟩ | ⟨b,off,rfl,hc1,hc2,rfl,hv3⟩
   ·have j6:(t.l.length:Int)<=0:=by omega
    have E3:=hidI e3
    have e7:at_=0:=by omega
    clear e3
    subst e7
    go_upto_region 11 with fail
    go_region_with ((go_at_call 79;refine(con.out _ (by rfl) (by rfl) (by rfl) (by rfl)).mono ?_;rintro e w3 ⟨g,cap,rfl,ho3,hb3⟩;obtain⟨p0,p1,p2,p3,p4,-,-,-,p9,p10⟩:=(box_bel hb3 M.out.1).c;obtain⟨x0,x1,x2,x3,x4,y0,y1,y2,y3,y4⟩:=(box_bel hb3 M.out.2.2.1).c;have O3:=hidI ho3;have HB3:=hidI hb3;clear ho3 hb3))
    all_goals
     go_wp2_with fail
     obtain⟨f1,f2,f3⟩:=fin.out _ g cap O3.out HB3.out
     obtain⟨z0,z1,z2,z3,z4,-⟩:=f3.c
     refine bodyPost_ret (v:=.agg #[.int .i64 t.kind,.int .i64 t.n,.string ⟨t.s.toArray⟩,.slice (some ⟨gk,0,none⟩) (t.keys.length+1) kcap,.slice (some ⟨g,0,none⟩) (t.l.length+1) cap]) ?_ rfl ?_
     ·simp only[set5]at z0 z1 z2 z3 z4
      simp[results,Tryz.results78,go_sem,z0,z1,z2,z3,z4]
     ·rw[HAT.out]
      exact⟨_,rfl,f1,f2⟩
   ·obtain⟨a3,hifs⟩:∃ a3,(if c2=at_ then (some ⟨b,off,none⟩:Option Addr) else some ⟨b,off+at_ * 5,none⟩)=a3:=⟨_,rfl⟩
    rw[hifs]at hv3
    subst hv3
    unfold maxLen at hc2
    have j5:(at_:Int)<=(c2:Int):=by omega
    have j6:(t.l.length:Int)<=(c2:Int):=by omega
    go_upto_region 11 with fail
    go_region_with ((go_at_call 79;refine(con.out _ (by rfl) (by rfl) (by rfl) (by rfl)).mono ?_;rintro e w3 ⟨g,cap,rfl,ho3,hb3⟩;obtain⟨p0,p1,p2,p3,p4,-,-,-,p9,p10⟩:=(box_bel hb3 M.out.1).c;obtain⟨x0,x1,x2,x3,x4,y0,y1,y2,y3,y4⟩:=(box_bel hb3 M.out.2.2.1).c;have O3:=hidI ho3;have HB3:=hidI hb3;clear ho3 hb3))
    all_goals
     go_wp2_with fail
     obtain⟨f1,f2,f3⟩:=fin.out _ g cap O3.out HB3.out
     obtain⟨z0,z1,z2,z3,z4,-⟩:=f3.c
     refine bodyPost_ret (v:=.agg #[.int .i64 t.kind,.int .i64 t.n,.string ⟨t.s.toArray⟩,.slice (some ⟨gk,0,none⟩) (t.keys.length+1) kcap,.slice (some ⟨g,0,none⟩) (t.l.length+1) cap]) ?_ rfl ?_
     ·simp only[set5]at z0 z1 z2 z3 z4
      simp[results,Tryz.results78,go_sem,z0,z1,z2,z3,z4]
     ·have hat:=HAT.out
      subst hat
      exact⟨_,rfl,f1,f2⟩
end Go.Proofs.YtmdemcjmcnfjmaaGreatDoor
namespace Go.Proofs.YtmdemcjmcnfjmaaGreatDoor
open Go.RowKit
def WithC:Prop:=∀ (w:World) (ok:Nat->Prop) (d:Nat) (t x:V) (v xv:Value) (key:List UInt8),VIs w ok (d+1) t v->VIs w ok d x xv->pairedV t=true->t.l.length<=100000->key.length<=maxLen ->
 Calls Tryz.prog 78 #[v,str key,xv] w fun e w'=>∃ r,e=.returned r/\VIs w' (okN ok w.heap.size) (d+1) (withV t key x) r/\Below w.heap.size w w'
end Go.Proofs.YtmdemcjmcnfjmaaGreatDoor
namespace Go.Proofs.YtmdemcjmcnfjmaaGreatDoor
open Go.RowKit
theorem with_all:WithC:=by
 intro w ok d t x v xv key h hx hp hsz hkey
 have hk:findV t key=idxL key t.keys:=by simp[findV,hp]
 cases hf:findV t key with
 | some i=>
  have e:withV t key x={ t with l:=t.l.take i++x :: t.l.drop (i+1) }:=by
   unfold withV
   rw[if_pos hp,<-hk,hf]
  rw[e]
  exact with_found w ok d t x v xv key i h hx hf hsz
 | none=>
  have e:withV t key x={ t with keys:=t.keys.take (insAt key t.keys)++key :: t.keys.drop (insAt key t.keys),l:=t.l.take (insAt key t.keys)++x :: t.l.drop (insAt key t.keys) }:=by
   unfold withV
   rw[if_pos hp,<-hk,hf]
   rfl
  rw[e]
  exact with_new w ok d t x v xv key h hx hf hp hsz hkey
end Go.Proofs.YtmdemcjmcnfjmaaGreatDoor
namespace Go.Proofs.YtmdemcjmcnfjmaaGreatDoor
open Go.RowKit
attribute [local go_sem ↓] Go.wp_at_zero Go.wp_at_succ
theorem conS2 {w2:World} {v1 v3:Value} {n1 n3 N:Nat} {cs1 cs3:List Value} (s1:SlIs w2 1 v1 n1 cs1) (s3:SlIs w2 1 v3 n3 cs3) (hN:n1+n3=N) (hn:N<=1000000) (W:World)
 (e1:W.heap=(w2.alloc (.cells #[v1,v3] 22)).heap) (e2:W.os=w2.os) (e3:W.tape=w2.tape) (e4:W.output=w2.output) :
 Calls Tryz.prog 123 #[.slice (some ⟨w2.heap.size,0,none⟩) 2 2] W fun e w'=>∃ a cap,e=.returned (.slice a N cap)/\w'.ownsRow w2.heap.size 9 1 (.slice a N cap) N (cs1++cs3)/\Below w2.heap.size w2 w':=by
 have hbW:Below w2.heap.size w2 W:=by
  have:=bel_alloc w2 (.cells #[v1,v3] 22)
  exact⟨e2,e3,e4,by rw[e1];exact this.size,fun k hk=>by rw[e1];exact this.block k hk⟩
 have hb:=heap_alloc_new w2 (.cells #[v1,v3] 22)
 rw[<-e1]at hb
 refine(concatS W w2.heap.size 0 2 [⟨v1,n1,cs1⟩,⟨v3,n3,cs3⟩] ?_ (by simp[sumN];omega) (by simp) (by simp)).mono ?_
 ·intro i p hp
  match i,hp with
  | 0,hp=>simp at hp;subst hp;exact⟨by simp[World.cell?,hb],s1.bel hbW⟩
  | 1,hp=>simp at hp;subst hp;exact⟨by simp[World.cell?,hb],s3.bel hbW⟩
 rintro e w' ⟨v,rfl,ho,hb9⟩
 have q1:sumN [⟨v1,n1,cs1⟩,⟨v3,n3,cs3⟩]=N:=by simp[sumN];omega
 have q2:allC [⟨v1,n1,cs1⟩,⟨v3,n3,cs3⟩]=cs1++cs3:=by simp[allC]
 rw[q1,q2]at ho
 have ho':=own_base ho hbW.size
 rcases ho'.2 with⟨e,h0⟩ | ⟨g,cap,cur,e,rest⟩
 ·subst e
  subst h0
  exact⟨none,0,rfl,ho',bel_trans hbW hb9⟩
 ·subst e
  exact⟨_,cap,rfl,ho',bel_trans hbW hb9⟩
theorem conV2 {w2:World} {v1 v3:Value} {n1 n3 N:Nat} {cs1 cs3:List Value} (s1:SlIs w2 5 v1 n1 cs1) (s3:SlIs w2 5 v3 n3 cs3) (hN:n1+n3=N) (hn:N<=1000000) (W:World)
 (e1:W.heap=(w2.alloc (.cells #[v1,v3] 23)).heap) (e2:W.os=w2.os) (e3:W.tape=w2.tape) (e4:W.output=w2.output) :
 Calls Tryz.prog 79 #[.slice (some ⟨w2.heap.size,0,none⟩) 2 2] W fun e w'=>∃ a cap,e=.returned (.slice a N cap)/\w'.ownsRow w2.heap.size 25 5 (.slice a N cap) N (cs1++cs3)/\Below w2.heap.size w2 w':=by
 have hbW:Below w2.heap.size w2 W:=by
  have:=bel_alloc w2 (.cells #[v1,v3] 23)
  exact⟨e2,e3,e4,by rw[e1];exact this.size,fun k hk=>by rw[e1];exact this.block k hk⟩
 have hb:=heap_alloc_new w2 (.cells #[v1,v3] 23)
 rw[<-e1]at hb
 refine(concatV W w2.heap.size 0 2 [⟨v1,n1,cs1⟩,⟨v3,n3,cs3⟩] ?_ (by simp[sumN];omega) (by simp) (by simp)).mono ?_
 ·intro i p hp
  match i,hp with
  | 0,hp=>simp at hp;subst hp;exact⟨by simp[World.cell?,hb],s1.bel hbW⟩
  | 1,hp=>simp at hp;subst hp;exact⟨by simp[World.cell?,hb],s3.bel hbW⟩
 rintro e w' ⟨v,rfl,ho,hb9⟩
 have q1:sumN [⟨v1,n1,cs1⟩,⟨v3,n3,cs3⟩]=N:=by simp[sumN];omega
 have q2:allC [⟨v1,n1,cs1⟩,⟨v3,n3,cs3⟩]=cs1++cs3:=by simp[allC]
 rw[q1,q2]at ho
 have ho':=own_base ho hbW.size
 rcases ho'.2 with⟨e,h0⟩ | ⟨g,cap,cur,e,rest⟩
 ·subst e
  subst h0
  exact⟨none,0,rfl,ho',bel_trans hbW hb9⟩
 ·subst e
  exact⟨_,cap,rfl,ho',bel_trans hbW hb9⟩
def MidO (w w2:World) (t:V) (i:Nat) (a2:Option Addr) (c2:Nat) (wc:World):Prop:=
 ∃ a9 c9,BoxIs wc w.heap.size (.int .i64 t.kind) (.int .i64 t.n) (.string ⟨t.s.toArray⟩) (.slice a9 (t.keys.length - 1) c9) (.slice a2 t.l.length c2) /\
  BoxIs wc (w.heap.size+1) (.int .i64 0) (.int .i64 0) (.string ⟨#[]⟩) (.slice none 0 0) (.slice none 0 0) /\
  wc.ownsRow w2.heap.size 9 1 (.slice a9 (t.keys.length - 1) c9) (t.keys.length - 1) ((t.keys.take i).map str++(t.keys.drop (i+1)).map str) /\
  Below w.heap.size w wc/\w2.heap.size<=wc.heap.size
set_option maxRecDepth 100000 in
set_option maxHeartbeats 1000000 in
theorem without_none (w:World) (ok:Nat->Prop) (d:Nat) (t:V) (v:Value) (key:List UInt8) (h:VIs w ok (d+1) t v) (hf:findV t key=none) :
 Calls Tryz.prog 87 #[v,str key] w fun e w'=>∃ r,e=.returned r/\VIs w' (okN ok w.heap.size) (d+1) t r/\Below w.heap.size w w':=by
 have H:=hidI h
 obtain⟨ks,ls,rfl,h1,h2,h3,h4,h5⟩:=h
 obtain⟨a1,c1,rfl⟩:=h4.form
 obtain⟨a2,c2,rfl⟩:=h5.form
 have l1:=h4.1
 have l2:=h5.1
 have F:=hidI hf
 clear hf
 unfold maxLen at l1 h3 l2
 unfold str
 clear h4 h5 h1 h2
 go_enter Tryz.func87,Tryz.ntmps87
 go_wp2_with fail
 refine(find_at _ ok _ t _ key (by exact H.out.bel (bel_trans (bel_alloc _ _) (bel_alloc _ _)))).mono ?_
 rintro e w2 ⟨rfl,hb2⟩
 rw[F.out]
 have bx2:Hid (BoxIs w2 w.heap.size (.int .i64 t.kind) (.int .i64 t.n) (.string ⟨t.s.toArray⟩) (.slice a1 t.keys.length c1) (.slice a2 t.l.length c2)/\BoxIs w2 (w.heap.size+1) (.int .i64 0) (.int .i64 0) (.string ⟨#[]⟩) (.slice none 0 0) (.slice none 0 0)):=⟨box_bel hb2 (h2a w _ _),box_bel hb2 (h2b w _ _)⟩
 have B2:Hid (Below w.heap.size w w2):=bel_trans (bel_trans (bel_alloc _ _) (bel_alloc _ _)) hb2
 clear hb2
 unfold optI
 obtain⟨p0,p1,p2,p3,p4,-⟩:=bx2.out.1.c
 obtain⟨x0,x1,x2,x3,x4,y0,y1,y2,y3,y4⟩:=bx2.out.2.c
 obtain⟨z0,z1,z2,z3,z4,-⟩:=(bx2.out.2.set (.int .i64 t.kind) (.int .i64 t.n) (.string ⟨t.s.toArray⟩) (.slice a1 t.keys.length c1) (.slice a2 t.l.length c2)).c
 have Z:Hid (_/\_/\_/\_/\_):=⟨z0,z1,z2,z3,z4⟩
 clear z0 z1 z2 z3 z4
 go_wp2_with fail
 obtain⟨z0,z1,z2,z3,z4⟩:=Z.out
 refine bodyPost_ret (v:=.agg #[.int .i64 t.kind,.int .i64 t.n,.string ⟨t.s.toArray⟩,.slice a1 t.keys.length c1,.slice a2 t.l.length c2]) ?_ rfl ?_
 ·simp only[set5]at z0 z1 z2 z3 z4
  simp[results,Tryz.results87,go_sem,z0,z1,z2,z3,z4]
 ·have hb9:=gb_none (gb_set5 (gb_below (r:=none) B2.out) (Nat.le_succ w.heap.size) (.int .i64 t.kind) (.int .i64 t.n) (.string ⟨t.s.toArray⟩) (.slice a1 t.keys.length c1) (.slice a2 t.l.length c2))
  exact⟨_,rfl,(H.out.bel hb9).toN,hb9⟩
set_option maxRecDepth 100000 in
set_option maxHeartbeats 40000000 in
theorem without_found (w:World) (ok:Nat->Prop) (d:Nat) (t:V) (v:Value) (key:List UInt8) (i:Nat) (h:VIs w ok (d+1) t v) (hf:findV t key=some i) (hsz:t.l.length<=100000) :
 Calls Tryz.prog 87 #[v,str key] w fun e w'=>∃ r,e=.returned r/\VIs w' (okN ok w.heap.size) (d+1) { t with keys:=t.keys.take i++t.keys.drop (i+1),l:=t.l.take i++t.l.drop (i+1) } r/\Below w.heap.size w w':=by
 have H:=hidI h
 obtain⟨ks,ls,rfl,h1,h2,h3,h4,h5⟩:=h
 have KK:Hid (I64 t.kind/\I64 t.n/\t.s.length<=maxLen/\StrsAre w ok t.keys ks/\ValsAre w ok (VIs w ok d) t.l ls):=⟨h1,h2,h3,h4,h5⟩
 obtain⟨f1,f2,f3,f4⟩:=findV_some hf
 have hkl:t.keys.length=t.l.length:=by
  simp only[pairedV,Bool.and_eq_true,decide_eq_true_eq]at f1;exact f1.2
 have F:=hidI hf
 have hkl1:t.keys.length<=t.l.length:=by omega
 have hkl2:t.l.length<=t.keys.length:=by omega
 clear hf f1 f2 f4 hkl
 obtain⟨_,K4⟩:=h4
 rcases K4 with⟨e,_⟩ | ⟨kb,ko,c1,hks,kc1,kc2,-⟩
 ·have:t.keys.length=0:=by rw[e];rfl
  omega
 subst hks
 obtain⟨_,K5⟩:=h5
 rcases K5 with⟨e,_⟩ | ⟨b,off,c2,hls,hc1,hc2,-⟩
 ·rw[e]at f3;simp at f3
 subst hls
 unfold maxLen at h3 hc2 kc2
 unfold str
 clear h1 h2
 have hsz2:t.keys.length<=100000:=by omega
 have hik:i < t.keys.length:=by omega
 go_enter Tryz.func87,Tryz.ntmps87
 go_wp2_with fail
 refine(find_at _ ok _ t _ key (by exact H.out.bel (bel_trans (bel_alloc _ _) (bel_alloc _ _)))).mono ?_
 rintro e w2 ⟨rfl,hb2⟩
 rw[F.out]
 have bx2:Hid (BoxIs w2 w.heap.size (.int .i64 t.kind) (.int .i64 t.n) (.string ⟨t.s.toArray⟩) (.slice (some ⟨kb,ko,none⟩) t.keys.length c1) (.slice (some ⟨b,off,none⟩) t.l.length c2)/\BoxIs w2 (w.heap.size+1) (.int .i64 0) (.int .i64 0) (.string ⟨#[]⟩) (.slice none 0 0) (.slice none 0 0)):=⟨box_bel hb2 (h2a w _ _),box_bel hb2 (h2b w _ _)⟩
 have B2:Hid (Below w.heap.size w w2):=bel_trans (bel_trans (bel_alloc _ _) (bel_alloc _ _)) hb2
 have hsz3:w.heap.size+1 < w2.heap.size:=bx2.out.2.lt
 clear hb2
 unfold optI
 obtain⟨p0,p1,p2,p3,p4,-,-,-,p9,p10⟩:=bx2.out.1.c
 have i0:0<=(i:Int):=by omega
 have i1:(i:Int)<=(c1:Int):=by omega
 have i2:(i:Int)+1<=(t.keys.length:Int):=by omega
 have i3:(t.keys.length:Int)<=(c1:Int):=by omega
 have hw1:IntKind.i64.wrap ((i:Int)+1)=(i:Int)+1:=by rw[IntKind.wrap_i64];omega
 have i4:(0:Int)<=(i:Int)+1:=by omega
 have j1:(i:Int)<=(c2:Int):=by omega
 have j2:(i:Int)+1<=(t.l.length:Int):=by omega
 have j3:(t.l.length:Int)<=(c2:Int):=by omega
 have fin10:Hid (∀ w3 a9 cap,w3.ownsRow w2.heap.size 9 1 (.slice a9 (t.keys.length - 1) cap) (t.keys.length - 1) ((t.keys.take i).map str++(t.keys.drop (i+1)).map str)->Below w2.heap.size w2 w3 ->
  MidO w w2 t i (some ⟨b,off,none⟩) c2 (w3.setCell ⟨w.heap.size,3,none⟩ (.slice a9 (t.keys.length - 1) cap))):=by
  intro w3 a9 cap ho hb
  have g1:w3.grownBy (w3.setCell ⟨w.heap.size,3,none⟩ (.slice a9 (t.keys.length - 1) cap)) (some w.heap.size):=gb_set (gb_refl _ _) _ _
  refine⟨a9,cap,box_set3 (box_bel hb bx2.out.1) _,(box_bel hb bx2.out.2).grown g1 (by simp),own_kept' ho g1 (by omega),?_,Nat.le_trans hb.size g1.size⟩
  exact gb_none (gb_setA (gb_below (bel_trans B2.out hb)) (Nat.le_refl _) _ _)
 go_upto_region 4 with fail
 go_cut [5] (fun j wc'=>j=.int .i64 (i:Nat)/\MidO w w2 t i (some ⟨b,off,none⟩) c2 wc')
 case first=>
  have k3:∀ o,(w2.alloc o).cell? ⟨w.heap.size,3,none⟩=some (.slice (some ⟨kb,ko,none⟩) t.keys.length c1):=fun o=>(box_bel (bel_alloc w2 o) bx2.out.1).c.2.2.2.1
  obtain⟨s1,s2⟩:=ss_parts KK.out.2.2.2.1 i (i+1) (by omega) hik (by omega)
  obtain⟨a3,hifs⟩:∃ a3,(if c1=i+1 then (some ⟨kb,ko,none⟩:Option Addr) else some ⟨kb,ko+(i+1),none⟩)=a3:=⟨_,rfl⟩
  rw[Nat.mul_one,hifs]at s2
  have con:Hid (∀ W,W.heap=(w2.alloc (.cells #[.slice (some ⟨kb,ko,none⟩) i c1,.slice a3 (t.keys.length - (i+1)) (c1 - (i+1))] 22)).heap->W.os=w2.os->W.tape=w2.tape->W.output=w2.output ->
   Calls Tryz.prog 123 #[.slice (some ⟨w2.heap.size,0,none⟩) 2 2] W fun e w'=>∃ a9 cap,e=.returned (.slice a9 (t.keys.length - 1) cap)/\w'.ownsRow w2.heap.size 9 1 (.slice a9 (t.keys.length - 1) cap) (t.keys.length - 1) ((t.keys.take i).map str++(t.keys.drop (i+1)).map str)/\Below w2.heap.size w2 w'):=by
   intro W e1 e2 e4 e5
   exact conS2 (s1.bel B2.out) (s2.bel B2.out) (by omega) (by omega) W e1 e2 e4 e5
  clear s1 s2
  go_region_with ((go_at_call 123;refine(con.out _ (by rfl) (by rfl) (by rfl) (by rfl)).mono ?_;rintro e w3 ⟨a9,cap,rfl,ho3,hb3⟩;obtain⟨p0,p1,p2,p3,p4,-,-,-,p9,p10⟩:=(box_bel hb3 bx2.out.1).c;have O3:=hidI ho3;have HB3:=hidI hb3;clear ho3 hb3))
  all_goals
   go_wp2_with fail
   go_meet
   case rel=>exact⟨rfl,fin10.out _ _ _ O3.out HB3.out⟩
 case rest=>
  obtain⟨rfl,a9,kcap,hm1,hm2,hm3,hm4,hm5⟩:=hcut
  have M:Hid (BoxIs wc w.heap.size (.int .i64 t.kind) (.int .i64 t.n) (.string ⟨t.s.toArray⟩) (.slice a9 (t.keys.length - 1) kcap) (.slice (some ⟨b,off,none⟩) t.l.length c2)/\BoxIs wc (w.heap.size+1) (.int .i64 0) (.int .i64 0) (.string ⟨#[]⟩) (.slice none 0 0) (.slice none 0 0)/\wc.ownsRow w2.heap.size 9 1 (.slice a9 (t.keys.length - 1) kcap) (t.keys.length - 1) ((t.keys.take i).map str++(t.keys.drop (i+1)).map str)/\Below w.heap.size w wc/\w2.heap.size<=wc.heap.size):=⟨hm1,hm2,hm3,hm4,hm5⟩
  clear hm1 hm2 hm3 hm4 fin10 p0 p1 p2 p3 p4 p9 p10
  obtain⟨p0,p1,p2,p3,p4,-,-,-,p9,p10⟩:=M.out.1.c
  have k4:∀ o,(wc.alloc o).cell? ⟨w.heap.size,4,none⟩=some (.slice (some ⟨b,off,none⟩) t.l.length c2):=fun o=>(box_bel (bel_alloc wc o) M.out.1).c.2.2.2.2.1
  obtain⟨cs1,cs2,r1,s1,r2,s2⟩:=sl_parts KK.out.2.2.2.2 i (i+1) (by omega) f3 (by omega)
  obtain⟨a3,hifs⟩:∃ a3,(if c2=i+1 then (some ⟨b,off,none⟩:Option Addr) else some ⟨b,off+(i+1) * 5,none⟩)=a3:=⟨_,rfl⟩
  rw[hifs]at s2
  have con:Hid (∀ W,W.heap=(wc.alloc (.cells #[.slice (some ⟨b,off,none⟩) i c2,.slice a3 (t.l.length - (i+1)) (c2 - (i+1))] 23)).heap->W.os=wc.os->W.tape=wc.tape->W.output=wc.output ->
   Calls Tryz.prog 79 #[.slice (some ⟨wc.heap.size,0,none⟩) 2 2] W fun e w'=>∃ a8 cap,e=.returned (.slice a8 (t.l.length - 1) cap)/\w'.ownsRow wc.heap.size 25 5 (.slice a8 (t.l.length - 1) cap) (t.l.length - 1) (cs1++cs2)/\Below wc.heap.size wc w'):=by
   intro W e1 e2 e4 e5
   exact conV2 (s1.bel M.out.2.2.2.1) (s2.bel M.out.2.2.2.1) (by omega) (by omega) W e1 e2 e4 e5
  have fin:Hid (∀ w3 a8 cap,w3.ownsRow wc.heap.size 25 5 (.slice a8 (t.l.length - 1) cap) (t.l.length - 1) (cs1++cs2)->Below wc.heap.size wc w3 ->
   VIs (set5 (w3.setCell ⟨w.heap.size,4,none⟩ (.slice a8 (t.l.length - 1) cap)) (w.heap.size+1) (.int .i64 t.kind) (.int .i64 t.n) (.string ⟨t.s.toArray⟩) (.slice a9 (t.keys.length - 1) kcap) (.slice a8 (t.l.length - 1) cap)) (okN ok w.heap.size) (d+1) { t with keys:=t.keys.take i++t.keys.drop (i+1),l:=t.l.take i++t.l.drop (i+1) } (.agg #[.int .i64 t.kind,.int .i64 t.n,.string ⟨t.s.toArray⟩,.slice a9 (t.keys.length - 1) kcap,.slice a8 (t.l.length - 1) cap]) /\
   Below w.heap.size w (set5 (w3.setCell ⟨w.heap.size,4,none⟩ (.slice a8 (t.l.length - 1) cap)) (w.heap.size+1) (.int .i64 t.kind) (.int .i64 t.n) (.string ⟨t.s.toArray⟩) (.slice a9 (t.keys.length - 1) kcap) (.slice a8 (t.l.length - 1) cap))/\BoxIs (set5 (w3.setCell ⟨w.heap.size,4,none⟩ (.slice a8 (t.l.length - 1) cap)) (w.heap.size+1) (.int .i64 t.kind) (.int .i64 t.n) (.string ⟨t.s.toArray⟩) (.slice a9 (t.keys.length - 1) kcap) (.slice a8 (t.l.length - 1) cap)) (w.heap.size+1) (.int .i64 t.kind) (.int .i64 t.n) (.string ⟨t.s.toArray⟩) (.slice a9 (t.keys.length - 1) kcap) (.slice a8 (t.l.length - 1) cap)):=by
   intro w3 a8 cap ho hb
   have g1:w3.grownBy (w3.setCell ⟨w.heap.size,4,none⟩ (.slice a8 (t.l.length - 1) cap)) (some w.heap.size):=gb_set (gb_refl _ _) _ _
   have g2:=set5_gb (w3.setCell ⟨w.heap.size,4,none⟩ (.slice a8 (t.l.length - 1) cap)) (w.heap.size+1) (.int .i64 t.kind) (.int .i64 t.n) (.string ⟨t.s.toArray⟩) (.slice a9 (t.keys.length - 1) kcap) (.slice a8 (t.l.length - 1) cap)
   have hbx:=((box_bel hb M.out.2.1).grown g1 (by simp)).set (.int .i64 t.kind) (.int .i64 t.n) (.string ⟨t.s.toArray⟩) (.slice a9 (t.keys.length - 1) kcap) (.slice a8 (t.l.length - 1) cap)
   have hbw:Below w.heap.size w w3:=bel_trans M.out.2.2.2.1 hb
   have hb9:Below w.heap.size w (set5 (w3.setCell ⟨w.heap.size,4,none⟩ (.slice a8 (t.l.length - 1) cap)) (w.heap.size+1) (.int .i64 t.kind) (.int .i64 t.n) (.string ⟨t.s.toArray⟩) (.slice a9 (t.keys.length - 1) kcap) (.slice a8 (t.l.length - 1) cap)):=gb_none (gb_set5 (gb_setA (gb_below hbw) (Nat.le_refl _) _ _) (by omega) _ _ _ _ _)
   refine⟨⟨_,_,by simp only[List.length_append,List.length_take,List.length_drop];congr 5 <;> omega,KK.out.1,KK.out.2.1,KK.out.2.2.1,?_,?_⟩,hb9,hbx⟩
   ·have hk3:=own_kept' (own_kept' (own_bel M.out.2.2.1 hb) g1 (by omega)) g2 (by omega)
    have hlen:t.keys.length - 1=(t.keys.take i++t.keys.drop (i+1)).length:=by simp;omega
    refine own_strs (B:=w2.heap.size) hlen ?_ ?_ (fun k hk=>.inr (by omega)) (by rw[<-hlen];unfold maxLen;omega)
    ·rw[List.map_append];exact hk3
    ·intro y hy
     simp only[List.mem_append]at hy
     rcases hy with hy | hy
     ·exact KK.out.2.2.2.1.mem y (List.mem_of_mem_take hy)
     ·exact KK.out.2.2.2.1.mem y (List.mem_of_mem_drop hy)
   ·have ho9:=own_kept' (own_kept' ho g1 (by omega)) g2 (by omega)
    have hlen:t.l.length - 1=(t.l.take i++t.l.drop (i+1)).length:=by simp;omega
    refine own_vals hlen ho9 ?_ (fun k hk=>.inr (by omega)) (by rw[<-hlen];unfold maxLen;omega)
    exact(r2.bel (B:=w.heap.size) hb9).append (r1.bel (B:=w.heap.size) hb9)
  clear r1 r2 s1 s2
  go_upto_region 5 with fail
  go_region_with ((go_at_call 79;refine(con.out _ (by rfl) (by rfl) (by rfl) (by rfl)).mono ?_;rintro e w3 ⟨a8,cap,rfl,ho3,hb3⟩;obtain⟨p0,p1,p2,p3,p4,-,-,-,p9,p10⟩:=(box_bel hb3 M.out.1).c;obtain⟨x0,x1,x2,x3,x4,y0,y1,y2,y3,y4⟩:=(box_bel hb3 M.out.2.1).c;have O3:=hidI ho3;have HB3:=hidI hb3;clear ho3 hb3))
  all_goals
   go_wp2_with fail
   obtain⟨f1,f2,f3⟩:=fin.out _ a8 cap O3.out HB3.out
   obtain⟨z0,z1,z2,z3,z4,-⟩:=f3.c
   refine bodyPost_ret (v:=.agg #[.int .i64 t.kind,.int .i64 t.n,.string ⟨t.s.toArray⟩,.slice a9 (t.keys.length - 1) kcap,.slice a8 (t.l.length - 1) cap]) ?_ rfl ?_
   ·simp only[set5]at z0 z1 z2 z3 z4
    simp[results,Tryz.results87,go_sem,z0,z1,z2,z3,z4]
   ·exact⟨_,rfl,f1,f2⟩
theorem without_all (w:World) (ok:Nat->Prop) (d:Nat) (t:V) (v:Value) (key:List UInt8) (h:VIs w ok (d+1) t v) (hsz:t.l.length<=100000) :
 Calls Tryz.prog 87 #[v,str key] w fun e w'=>∃ r,e=.returned r/\VIs w' (okN ok w.heap.size) (d+1) (withoutV t key) r/\Below w.heap.size w w':=by
 unfold withoutV
 cases hf:findV t key with
 | none=>exact without_none w ok d t v key h hf
 | some i=>exact without_found w ok d t v key i h hf hsz
end Go.Proofs.YtmdemcjmcnfjmaaGreatDoor
namespace Go.Proofs.YtmdemcjmcnfjmaaGreatDoor
open Go.RowKit
theorem with_is (w:World) (ok:Nat->Prop) (t x:V) (v xv:Value) (key:List UInt8) (h:In w ok t v) (hx:In w ok x xv) (hp:pairedV t=true) (hl:t.l.length<=100000) (hk:key.length<=9223372036854775807) :
 Calls Tryz.prog 78 #[v,str key,xv] w fun e w'=>∃ r,e=.returned r/\In w' (okN ok w.heap.size) (withV t key x) r/\Below w.heap.size w w':=by
 obtain⟨d,h1,h2⟩:=h.two hx
 refine(with_all w ok d t x v xv key h1 h2 hp hl hk).mono ?_
 rintro e w' ⟨r,rfl,hr,hb⟩
 exact⟨r,rfl,hr.is,hb⟩
theorem without_is (w:World) (ok:Nat->Prop) (t:V) (v:Value) (key:List UInt8) (h:In w ok t v) (hl:t.l.length<=100000) :
 Calls Tryz.prog 87 #[v,str key] w fun e w'=>∃ r,e=.returned r/\In w' (okN ok w.heap.size) (withoutV t key) r/\Below w.heap.size w w':=by
 obtain⟨d,h⟩:=h.at
 refine(without_all w ok d t v key h hl).mono ?_
 rintro e w' ⟨r,rfl,hr,hb⟩
 exact⟨r,rfl,hr.is,hb⟩
end Go.Proofs.YtmdemcjmcnfjmaaGreatDoor
namespace Go.Proofs
open Go.Shelf
def Tryz.lays193_ren:Go.Shelf.Ren:=⟨fun | 193=>99 | n=>n,fun | 31=>22 | 9=>9 | 4=>4 | 3=>3 | 0=>0 | n=>n,fun | n=>n⟩
theorem Tryz.lays193:Go.Proofs.Lays.n193 Tryz.prog Tryz.lays193_ren:={
 mixed:=by kernel_rfl
 f193:=Tryz.func99.trans (congrArg some (by kernel_rfl))
 t0:=Tryz.underlying0
 a0:=Tryz.isAgg0
 z0:=Tryz.sizeOf0
 v0:=Tryz.zeroValue0
 t3:=Tryz.underlying3
 a3:=Tryz.isAgg3
 z3:=Tryz.sizeOf3
 v3:=Tryz.zeroValue3
 t4:=Tryz.underlying4
 a4:=Tryz.isAgg4
 z4:=Tryz.sizeOf4
 v4:=Tryz.zeroValue4
 t9:=Tryz.underlying9
 a9:=Tryz.isAgg9
 z9:=Tryz.sizeOf9
 v9:=Tryz.zeroValue9
 t31:=Tryz.underlying22
 a31:=Tryz.isAgg22
 z31:=Tryz.sizeOf22
 v31:=Tryz.zeroValue22 }
open Go.RowKit Go.Lib in
theorem Tryz.slices_Equal_string (b1 o1 n c b2 o2 m d:Nat) (xs ys:List ByteArray) (w:World) (hx:n<=xs.length) (hy:m<=ys.length) (hbig:n<=9223372036854775807) (hbig2:m<=9223372036854775807) (hc1:∀ j,j < xs.length->w.cell? ⟨b1,o1+j,none⟩=some (.string (xs.getD j ByteArray.empty))) (hc2:∀ j,j < ys.length->w.cell? ⟨b2,o2+j,none⟩=some (.string (ys.getD j ByteArray.empty))) :
 Calls Tryz.prog 99 #[.slice (some ⟨b1,o1,none⟩) n c,.slice (some ⟨b2,o2,none⟩) m d] w fun e w'=>e=.returned (.bool (decide (xs.take n=ys.take m)))/\∃ q,w'=w.drewN q:=Any.slices_Equal_string Tryz.lays193 b1 o1 n c b2 o2 m d xs ys w hx hy hbig hbig2 hc1 hc2
open Go.RowKit Go.Lib in
theorem Tryz.slices_Equal_string_empty (a1 a2:Option Addr) (c m d:Nat) (w:World) (hbig2:m<=9223372036854775807) :
 Calls Tryz.prog 99 #[.slice a1 0 c,.slice a2 m d] w fun e w'=>e=.returned (.bool (decide (m=0)))/\w'=w:=Any.slices_Equal_string_empty Tryz.lays193 a1 a2 c m d w hbig2
open Go.RowKit Go.Lib in
theorem Tryz.slices_Equal_string_lens (a1 a2:Option Addr) (n c m d:Nat) (w:World) (hnm:n≠m) :
 Calls Tryz.prog 99 #[.slice a1 n c,.slice a2 m d] w fun e w'=>e=.returned (.bool false)/\w'=w:=Any.slices_Equal_string_lens Tryz.lays193 a1 a2 n c m d w hnm
end Go.Proofs
