/- What above of package owner does. -/
import Derived.Test.YtmdemcjmcnfjmaaGreatDoorGShp
import Derived.Test.YtmdemcjmcnfjmaaGreatDoorGFc
import Derived.Test.YtmdemcjmcnfjmaaGreatDoorRows
import Derived.Shelf.Abstract
import Derived.Shelf.SlSortCmp.Whole1
import Derived.Shelf.SlSortCmp.NoneTotal
import Derived.Shelf.SlCmpFuncs.BinarySearchFunc
import Derived.Shelf.SlicesE.IndexFunc
import Derived.Shelf.SlicesQ.IndexFunc
import Derived.Shelf.Small.Wraps
import Derived.Shelf.Small.Strs
import Derived.Shelf.SlGeneric
import Derived.Ground.SlsfProg
import Derived.Ground.SlsgProg
import Derived.Ground.SlgfProg
import Derived.Ground.NamesProg
import Derived.Test.YtmdemcjmcnfjmaaGreatDoorProg
set_option linter.unusedSimpArgs false
set_option linter.unusedVariables false
namespace Go.Proofs.YtmdemcjmcnfjmaaGreatDoor
open Go.ChangeShapes Go.WideShapes Go.ChangeAt Go.RowKit
set_option maxRecDepth 100000
theorem bulk_one {H:Type} (d:DataW H):1<=Rows.uptoBulk d:=by
 cases d with
 | lit l=>cases l <;> simp[Rows.uptoBulk]
 | nil=>simp[Rows.uptoBulk]
 | ptr d=>simp[Rows.uptoBulk]
 | slice elems spare=>simp[Rows.uptoBulk]
 | agg parts=>simp[Rows.uptoBulk]
 | iface t d=>simp[Rows.uptoBulk]
 | map entries=>simp[Rows.uptoBulk]
 | held h=>simp[Rows.uptoBulk]
theorem bulk_len {H:Type} (l:List (DataW H)):l.length<=Rows.uptoBulkAll l:=by
 induction l with
 | nil=>simp[Rows.uptoBulkAll]
 | cons x r ih=>have:=bulk_one x;simp only[Rows.uptoBulkAll,List.length_cons];omega
theorem bulk_sizs {H:Type}:∀ (l:List V) (es:List (DataW H)),l.length=es.length->(∀ (i:Nat) (x:V) (e:DataW H),l[i]?=some x->es[i]?=some e->siz x<=Rows.uptoBulk e)->sizs l<=Rows.uptoBulkAll es
 | [],es,_,_=>by simp[sizs]
 | x :: l,[],h,_=>by simp at h
 | x :: l,e :: es,h,hh=>by
  have h1:=hh 0 x e rfl rfl
  have h2:=bulk_sizs l es (by simpa using h) fun i y f hy hf=>hh (i+1) y f (by simpa using hy) (by simpa using hf)
  rw[sizs_cons]
  simp only[Rows.uptoBulkAll]
  omega
theorem strs_bulk {H:Type} {enc:TypeId × Value->H} {W:World} {fuel:Nat} {v:Value} {x:DataW H × List MemPlace} (h:DataW.trod enc Tryz.prog W 0 (fun _=>true) true fuel 22 [v]=some x) {ks:List (List UInt8)} (hk:StrsAre W (fun _=>True) ks v):ks.length<=Rows.uptoBulk x.1:=by
 rcases open_strings Tryz.underlying22 Tryz.underlying9 cellsString h with⟨e,-⟩ | ⟨a,len,cap,ss,e,-,hl,hm,hss,hx,hc,hz⟩
 ·simp only[List.cons.injEq,and_true]at e
  subst e
  rcases hk.2 with⟨h1,-⟩ | ⟨b,off,c,h1,-⟩
  ·rw[h1];simp
  ·simp at h1
 ·simp only[List.cons.injEq,and_true]at e
  subst e
  simp only[if_true]at hss
  have hlen:ks.length=len:=by
   rcases hk.2 with⟨h1,a0,h2⟩ | ⟨b,off,c,h1,-⟩
   ·simp only[Value.slice.injEq]at h2;rw[h1,h2.2.1];rfl
   ·simp only[Value.slice.injEq]at h1;exact h1.2.1.symm
  subst hx
  have h1:=bulk_len (strs (H:=H) (ss.take len))
  have h2:(strs (H:=H) (ss.take len)).length=len:=by simp[strs];omega
  simp only[Rows.uptoBulk]
  omega
theorem vis_bulk {H:Type} {enc:TypeId × Value->H} {W:World} (fuel:Nat):∀ (cs:List Value) (x:DataW H × List MemPlace),DataW.trod enc Tryz.prog W 0 (fun _=>true) true fuel 25 cs=some x ->
 ∃ t v0 v1 v2 v3 v4,cs=[v0,v1,v2,v3,v4]/\VIs W (fun _=>True) fuel t (.agg #[v0,v1,v2,v3,v4])/\siz t<=Rows.uptoBulk x.1:=by
 induction fuel with
 | zero=>intro cs x h;simp[DataW.trod]at h
 | succ fuel ih=>
  intro cs x h
  obtain⟨xs,n,e,hx,hl,hlen,hf⟩:=DataW.trod_struct Tryz.underlying25 h
  obtain rfl:n=fuel:=by omega
  rw[cellsValue]at hl
  match cs,hl,xs,hlen with
  | [v0,v1,v2,v3,v4],_,[y0,y1,y2,y3,y4],_=>
   have g0:DataW.trod enc Tryz.prog W 0 (fun _=>true) true n 3 [v0]=some y0:=by simpa [cellsInt] using hf 0 _ rfl
   have g1:DataW.trod enc Tryz.prog W 0 (fun _=>true) true n 3 [v1]=some y1:=by simpa [cellsInt] using hf 1 _ rfl
   have g2:DataW.trod enc Tryz.prog W 0 (fun _=>true) true n 9 [v2]=some y2:=by simpa [cellsString] using hf 2 _ rfl
   have g3:DataW.trod enc Tryz.prog W 0 (fun _=>true) true n 22 [v3]=some y3:=by simpa [cellsStrs] using hf 3 _ rfl
   have g4:DataW.trod enc Tryz.prog W 0 (fun _=>true) true n 23 [v4]=some y4:=by simpa [cellsVals] using hf 4 _ rfl
   obtain⟨z0,e0,-,w0⟩:=DataW.trod_int Tryz.underlying3 g0
   obtain⟨z1,e1,-,w1⟩:=DataW.trod_int Tryz.underlying3 g1
   obtain⟨s,e2,-,hs⟩:=DataW.trod_string Tryz.underlying9 g2
   simp only[List.cons.injEq,and_true]at e0 e1 e2
   subst e0
   subst e1
   subst e2
   obtain⟨ks,hks⟩:=strs_of g3
   have hkb:=strs_bulk g3 hks
   have hvals:∃ l,ValsAre W (fun _=>True) (VIs W (fun _=>True) n) l v4/\sizs l<=Rows.uptoBulk y4.1:=by
    rcases DataW.trod_slice Tryz.underlying23 g4 with⟨e,-⟩ | ⟨a,len,cap,elems,rest,k,ek,e,hy4,-,hl,hm,hlen,hel,hsp,-⟩
    ·simp only[List.cons.injEq,and_true]at e
     exact⟨[],⟨by simp[maxLen],.inl ⟨rfl,none,e⟩⟩,by simp[sizs]⟩
    ·simp only[List.cons.injEq,and_true]at e
     rw[cellsValue]at hel hsp
     have all:∀ i,i < len->∃ cs' y,W.cells? 0 (a.add (i * 5)) 5=some cs'/\DataW.trod enc Tryz.prog W 0 (fun _=>true) true k 25 cs'=some y/\elems[i]?=some y:=by
      intro i hil
      have:=hel i hil
      rw[List.getElem?_eq_getElem (by omega)]at this
      obtain⟨cs',h1,h2⟩:=Option.bind_eq_some_iff.1 this
      exact⟨cs',_,h1,h2,List.getElem?_eq_getElem (by omega)⟩
     by_cases h0:len=0
     ·subst h0
      have he:elems=[]:=List.eq_nil_of_length_eq_zero hlen
      by_cases hc:cap=0
      ·subst hc
       exact⟨[],⟨by simp[maxLen],.inl ⟨rfl,some a,e⟩⟩,by simp[sizs]⟩
      ·have ha:a=⟨a.block,a.off,none⟩:=by
        obtain⟨hrl,hrest⟩:=hsp rfl
        have:=hrest 0 (by omega)
        rw[List.getElem?_eq_getElem (by omega)]at this
        obtain⟨cs',h1,h2⟩:=Option.bind_eq_some_iff.1 this
        obtain⟨-,h2,h3⟩:=World.cells?_some h1
        have:=h3 0 (by omega)
        rw[List.getElem?_eq_getElem (by omega)]at this
        exact addr_plain (spot_none (v:=cs'[0]) (by simpa [Addr.add] using this))
       exact⟨[],⟨by simp[maxLen],.inr ⟨a.block,a.off,cap,by rw[<-ha];exact e,by simp,hm,fun i t ht=>by simp at ht⟩⟩,by simp[sizs]⟩
     ·have ha:a=⟨a.block,a.off,none⟩:=by
       obtain⟨cs',y,h1,-⟩:=all 0 (by omega)
       obtain⟨-,h2,h3⟩:=World.cells?_some h1
       have:=h3 0 (by omega)
       rw[List.getElem?_eq_getElem (by omega)]at this
       exact addr_plain (spot_none (v:=cs'[0]) (by simpa [Addr.add] using this))
      obtain⟨T,hT⟩:=@Go.Deep.choose_lt V ⟨⟨0,0,[],[],[]⟩⟩ len (fun i t=>∃ v0 v1 v2 v3 v4 y,W.cells? 0 (a.add (i * 5)) 5=some [v0,v1,v2,v3,v4]/\VIs W (fun _=>True) n t (.agg #[v0,v1,v2,v3,v4])/\elems[i]?=some y/\siz t<=Rows.uptoBulk y.1) (fun i hi=>by
       obtain⟨cs',y,h1,h2,h3⟩:=all i hi
       obtain⟨t,v0,v1,v2,v3,v4,rfl,hv,hz⟩:=ih cs' y (DataW.trod_le (by omega) h2)
       exact⟨t,v0,v1,v2,v3,v4,y,h1,hv,h3,hz⟩)
      refine⟨(List.range len).map T,⟨by simp only[List.length_map,List.length_range];omega,.inr ⟨a.block,a.off,cap,by simp only[List.length_map,List.length_range];rw[<-ha];exact e,by simp only[List.length_map,List.length_range];omega,hm,fun i t ht=>?_⟩⟩,?_⟩
      ·simp only[List.getElem?_map,Option.map_eq_some_iff]at ht
       obtain⟨j,hj,rfl⟩:=ht
       obtain⟨hj1,hj2⟩:=List.getElem?_eq_some_iff.1 hj
       simp only[List.length_range]at hj1
       simp only[List.getElem_range]at hj2
       subst hj2
       obtain⟨v0,v1,v2,v3,v4,y,h1,hv,-⟩:=hT i hj1
       obtain⟨-,-,h3⟩:=World.cells?_some h1
       rw[ha]at h3
       have c:∀ q,q < 5->W.cell? ⟨a.block,a.off+i * 5+q,none⟩=[v0,v1,v2,v3,v4][q]?:=by
        intro q hq
        have:=h3 q hq
        rw[addr_add,addr_add]at this
        exact this
       exact⟨v0,v1,v2,v3,v4,trivial,c 0 (by omega),c 1 (by omega),c 2 (by omega),c 3 (by omega),c 4 (by omega),hv⟩
      ·have hb:sizs ((List.range len).map T)<=Rows.uptoBulkAll (elems.map (·.1)):=by
        refine bulk_sizs _ _ (by simp[hlen]) fun i x f hx hf=>?_
        simp only[List.getElem?_map,Option.map_eq_some_iff]at hx hf
        obtain⟨j,hj,rfl⟩:=hx
        obtain⟨hj1,hj2⟩:=List.getElem?_eq_some_iff.1 hj
        simp only[List.length_range]at hj1
        simp only[List.getElem_range]at hj2
        subst hj2
        obtain⟨y',hy',rfl⟩:=hf
        obtain⟨v0,v1,v2,v3,v4,y,-,-,h3,h4⟩:=hT i hj1
        rw[hy']at h3
        cases h3
        exact h4
       rw[hy4]
       simp only[Rows.uptoBulk]
       omega
   obtain⟨l,hl,hlb⟩:=hvals
   refine⟨⟨z0,z1,s.data.toList,ks,l⟩,_,_,_,_,_,rfl,⟨v3,v4,by unfold str;simp,int_wf w0,int_wf w1,by rw[Array.length_toList];exact hs,hks,hl⟩,?_⟩
   rw[siz_eq,hx]
   simp only[List.map_cons,List.map_nil,Rows.uptoBulk,Rows.uptoBulkAll]
   omega
theorem arg_bulk {H:Type} {enc:TypeId × Value->H} {W:World} {base:Nat} {v:Value} {d:DataW H} {p:List MemPlace} (hk:Value.okWide Tryz.prog W .any base 25 v) (h:DataW.Trod enc Tryz.prog W 0 (fun _=>true) true 25 v d p) :
 ∃ f t,VIs W (fun _=>True) f t v/\siz t<=Rows.uptoBulk d:=by
 obtain⟨cs,rfl,-⟩:=okWide_struct Tryz.underlying25 hk
 obtain⟨f,hf⟩:=h
 obtain⟨t,v0,v1,v2,v3,v4,e,hv,hz⟩:=vis_bulk f _ _ hf
 have e2:cs=#[v0,v1,v2,v3,v4]:=by
  obtain⟨l⟩:=cs
  exact congrArg Array.mk e
 subst e2
 exact⟨f,t,hv,hz⟩
theorem bulk_bound {H:Type} {l:List (DataW H)} (hk:Rows.uptoSmall H l=true):Rows.uptoBulkAll l<=1048576:=of_decide_eq_true hk
end Go.Proofs.YtmdemcjmcnfjmaaGreatDoor
namespace Go.Proofs.YtmdemcjmcnfjmaaGreatDoor
open Go.RowKit
def Ob (t:V):Prop:=t.kind=5/\t.n=0/\t.s=[]/\t.keys.length=t.l.length/\Rises t.keys
theorem Ob.paired {t:V} (h:Ob t):pairedV t=true:=by simp[pairedV,h.1,h.2.2.2.1]
def objT:V:=⟨5,0,[],[],[]⟩
theorem ob_objT:Ob objT:=⟨rfl,rfl,rfl,rfl,List.Pairwise.nil⟩
theorem mem_objT (k:List UInt8):memV objT k=none:=rfl
theorem ob_of {t:V} (hs:shapedB t=true) (hk:t.kind=5):Ob t:=by
 obtain⟨h1,h2,h3,h4⟩:=shaped_object hs hk
 simp only[pairedV,Bool.and_eq_true,decide_eq_true_eq]at h1
 exact⟨hk,h3,h4,h1.2,(rise_pair _ _ h2).2.1⟩
theorem look_mem {k:List UInt8} {ps:List (List UInt8 × V)} {x:V} (h:look k ps=some x):(k,x)∈ps:=by
 induction ps with
 | nil=>cases h
 | cons p ps ih=>
  rw[look]at h
  split at h
  ·rename_i e;cases h;rw[<-e];simp
  ·simp[ih h]
theorem look_ext:∀ (a b:List (List UInt8 × V)),(a.map Prod.fst).Pairwise (fun x y=>Op.bytesLess x y=true)->(b.map Prod.fst).Pairwise (fun x y=>Op.bytesLess x y=true)->(∀ k,look k a=look k b)->a=b
 | [],[],_,_,_=>rfl
 | [],q :: b,_,_,h=>by have:=h q.1;simp[look]at this
 | p :: a,[],_,_,h=>by have:=h p.1;simp[look]at this
 | p :: a,q :: b,ha,hb,h=>by
  rw[List.map_cons,List.pairwise_cons]at ha hb
  have less:∀ x y:List UInt8,Op.bytesLess x y=true->Op.bytesLess y x=true->False:=fun x y h1 h2=>by
   have:=less_trans x y x h1 h2;rw[less_irrefl]at this;cases this
  have hk:p.1=q.1:=by
   have h1:=h p.1
   have h2:=h q.1
   rw[look,if_pos rfl,look]at h1
   rw[look]at h2
   split at h1
   ·rename_i e;exact e.symm
   ·rename_i e
    have m1:=look_mem h1.symm
    have l1:=hb.1 p.1 (List.mem_map.2 ⟨_,m1,rfl⟩)
    rw[if_neg (fun e'=>e e'.symm),look,if_pos rfl]at h2
    have m2:=look_mem h2
    have l2:=ha.1 q.1 (List.mem_map.2 ⟨_,m2,rfl⟩)
    exact(less _ _ l1 l2).elim
  have hv:p.2=q.2:=by
   have h1:=h p.1
   rw[look,if_pos rfl,look,if_pos hk.symm]at h1
   exact Option.some.inj h1
  have hp:p=q:=Prod.ext hk hv
  subst hp
  congr 1
  refine look_ext a b ha.2 hb.2 fun k=>?_
  have h1:=h k
  rw[look,look]at h1
  by_cases e:p.1=k
  ·have n1:look k a=none:=look_none fun r hr e'=>by
    have:=ha.1 r.1 (List.mem_map.2 ⟨r,hr,rfl⟩)
    rw[e,<-e',less_irrefl]at this;cases this
   have n2:look k b=none:=look_none fun r hr e'=>by
    have:=hb.1 r.1 (List.mem_map.2 ⟨r,hr,rfl⟩)
    rw[e,<-e',less_irrefl]at this;cases this
   rw[n1,n2]
  ·rwa [if_neg e,if_neg e]at h1
theorem zip_inj {a b:List (List UInt8)} {c d:List V} (h1:a.length=c.length) (h2:b.length=d.length) (h:a.zip c=b.zip d):a=b/\c=d:=by
 have e1:=congrArg (List.map Prod.fst) h
 have e2:=congrArg (List.map Prod.snd) h
 rw[List.map_fst_zip (by omega),List.map_fst_zip (by omega)]at e1
 rw[List.map_snd_zip (by omega),List.map_snd_zip (by omega)]at e2
 exact⟨e1,e2⟩
theorem ob_ext {t u:V} (ht:Ob t) (hu:Ob u) (h:∀ k,memV t k=memV u k):t=u:=by
 have hz:t.keys.zip t.l=u.keys.zip u.l:=look_ext _ _
  (by rw[List.map_fst_zip (by have:=ht.2.2.2.1;omega)];exact ht.2.2.2.2)
  (by rw[List.map_fst_zip (by have:=hu.2.2.2.1;omega)];exact hu.2.2.2.2)
  fun k=>by rw[<-memV_look ht.paired,<-memV_look hu.paired];exact h k
 obtain⟨e1,e2⟩:=zip_inj ht.2.2.2.1 hu.2.2.2.1 hz
 rw[<-V_eta t,<-V_eta u,ht.1,hu.1,ht.2.1,hu.2.1,ht.2.2.1,hu.2.2.1,e1,e2]
theorem less_total:∀ (a b:List UInt8),Op.bytesLess a b=false->a≠b->Op.bytesLess b a=true
 | [],[],_,h=>absurd rfl h
 | [],_ :: _,h,_=>by simp[Op.bytesLess]at h
 | _ :: _,[],_,_=>by simp[Op.bytesLess]
 | x :: a,y :: b,h,hne=>by
  simp only[Op.bytesLess,Bool.or_eq_false_iff,decide_eq_false_iff_not,Bool.and_eq_false_iff]at h
  simp only[Op.bytesLess,Bool.or_eq_true,Bool.and_eq_true,decide_eq_true_eq,beq_iff_eq]
  by_cases e:x=y
  ·subst e
   refine .inr ⟨rfl,less_total a b ?_ (fun e=>hne (by rw[e]))⟩
   rcases h.2 with h2 | h2
   ·simp at h2
   ·exact h2
  ·left
   have h1:=h.1
   rw[UInt8.lt_iff_toNat_lt]at *
   have:x.toNat≠y.toNat:=fun e'=>e (UInt8.toNat_inj.1 e')
   omega
theorem ins_rises {key:List UInt8} {ks:List (List UInt8)} (h:Rises ks) (hn:key ∉ ks):Rises (ks.take (insV key ks)++key :: ks.drop (insV key ks)):=by
 unfold Rises at *
 induction ks with
 | nil=>simp[insV]
 | cons a ks ih=>
  rw[List.pairwise_cons]at h
  simp only[List.mem_cons,not_or]at hn
  unfold insV
  rw[List.takeWhile_cons]
  split
  ·rename_i hl
   simp only[List.length_cons,List.take_succ_cons,List.drop_succ_cons,List.cons_append]
   rw[List.pairwise_cons]
   refine⟨?_,ih h.2 hn.2⟩
   intro x hx
   rw[List.mem_append]at hx
   rcases hx with hx | hx
   ·exact h.1 x (List.mem_of_mem_take hx)
   ·rcases List.mem_cons.1 hx with rfl | hx
    ·exact hl
    ·exact h.1 x (List.mem_of_mem_drop hx)
  ·rename_i hl
   simp only[List.length_nil,List.take_zero,List.drop_zero,List.nil_append]
   have hka:=less_total _ _ (by simpa using hl) (fun e=>hn.1 e.symm)
   rw[List.pairwise_cons]
   refine⟨?_,List.pairwise_cons.2 h⟩
   intro x hx
   rcases List.mem_cons.1 hx with rfl | hx
   ·exact hka
   ·exact less_trans _ _ _ hka (h.1 x hx)
theorem ob_with {t:V} (h:Ob t) (k:List UInt8) (x:V):Ob (withV t k x):=by
 have hp:=h.paired
 have hp':=with_paired hp k x
 simp only[pairedV,Bool.and_eq_true,decide_eq_true_eq]at hp'
 refine⟨hp'.1,?_,?_,hp'.2,?_⟩
 ·unfold withV;rw[if_pos hp];split <;> exact h.2.1
 ·unfold withV;rw[if_pos hp];split <;> exact h.2.2.1
 ·unfold withV;rw[if_pos hp]
  split
  ·exact h.2.2.2.2
  ·rename_i hi
   exact ins_rises h.2.2.2.2 (idxL_not hi)
theorem ob_without {t:V} (h:Ob t) (k:List UInt8):Ob (withoutV t k):=by
 unfold withoutV
 split
 ·rename_i i hi
  obtain⟨-,-,h1,h2⟩:=findV_some hi
  have hl:=h.2.2.2.1
  refine⟨h.1,h.2.1,h.2.2.1,?_,h.2.2.2.2.sublist (out_sub _ _)⟩
  simp only[List.length_append,List.length_take,List.length_drop];omega
 ·exact h
theorem ob_nodup {t:V} (h:Ob t):((t.keys.zip t.l).map Prod.fst).Nodup:=by
 rw[List.map_fst_zip (by have:=h.2.2.2.1;omega)]
 exact rises_nodup h.2.2.2.2
def objOf (v:V):V:=if v.kind=5 then v else objT
theorem ob_objOf {v:V} (h:v.kind=5->Ob v):Ob (objOf v):=by
 unfold objOf
 split
 ·exact h (by assumption)
 ·exact ob_objT
theorem mem_in {t x:V} {k:List UInt8} (h:memV t k=some x):x∈t.l:=by
 unfold memV at h
 rw[Option.bind_eq_some_iff]at h
 obtain⟨i,-,h⟩:=h
 exact List.mem_of_getElem? h
end Go.Proofs.YtmdemcjmcnfjmaaGreatDoor
namespace Go.Proofs.YtmdemcjmcnfjmaaGreatDoor
open Go.RowKit
open Go.Lib (index count replaceK replaceAll split splitK)
def HO:Nat->V->Prop
 | 0,_=>False
 | D+1,t=>(t.kind=5->Ob t)/\∀ x∈t.l,HO D x
def Obs (t:V):Prop:=∃ D,HO D t
theorem HO.succ:∀ (D:Nat) {t:V},HO D t->HO (D+1) t
 | 0,_,h=>h.elim
 | D+1,_,h=>⟨h.1,fun x hx=>HO.succ D (h.2 x hx)⟩
theorem HO.le {D E:Nat} (h:D<=E) {t:V} (ht:HO D t):HO E t:=by
 induction h with
 | refl=>exact ht
 | step _ ih=>exact ih.succ
theorem GoodT.ho:∀ (D:Nat) {t:V},GoodT D t->HO D t
 | 0,_,h=>h
 | D+1,_,h=>⟨fun hk=>ob_of h.1 hk,fun x hx=>GoodT.ho D (h.2 x hx)⟩
theorem obs_good {t:V} (h:goodV t=true):Obs t:=⟨12,(goodV_tree h).ho⟩
theorem Obs.ob {t:V} (h:Obs t) (hk:t.kind=5):Ob t:=by
 obtain⟨D,h⟩:=h
 cases D with
 | zero=>exact h.elim
 | succ D=>exact h.1 hk
theorem obs_mem {t x:V} {k:List UInt8} (h:Obs t) (hm:memV t k=some x):Obs x:=by
 obtain⟨D,h⟩:=h
 cases D with
 | zero=>exact h.elim
 | succ D=>exact⟨D,h.2 x (mem_in hm)⟩
theorem obs_zero:Obs zeroT:=⟨1,fun h=>by simp[zeroT]at h,fun x hx=>by simp[zeroT]at hx⟩
theorem obs_objT:Obs objT:=⟨1,fun _=>ob_objT,fun x hx=>by simp[objT]at hx⟩
theorem obs_objOf {t:V} (h:Obs t):Obs (objOf t):=by
 unfold objOf;split
 ·exact h
 ·exact obs_objT
theorem Obs.obOf {t:V} (h:Obs t):Ob (objOf t):=ob_objOf h.ob
theorem obs_was {t:V} (h:Obs t) (k:List UInt8):Obs ((memV t k).getD zeroT):=by
 cases hm:memV t k with
 | none=>exact obs_zero
 | some x=>exact obs_mem h hm
theorem mem_objOf (t:V) (k:List UInt8):memV (objOf t) k=memV t k:=by
 unfold objOf;split
 ·rfl
 ·rename_i h;simp[memV,findV,pairedV,h,objT,idxL]
theorem with_in {t x y:V} {k:List UInt8} (h:y∈(withV t k x).l):y∈t.l\/y=x:=by
 unfold withV at h
 split at h
 ·split at h
  ·simp only[List.mem_append,List.mem_cons]at h
   rcases h with h | h | h
   ·exact .inl (List.mem_of_mem_take h)
   ·exact .inr h
   ·exact .inl (List.mem_of_mem_drop h)
  ·simp only[List.mem_append,List.mem_cons]at h
   rcases h with h | h | h
   ·exact .inl (List.mem_of_mem_take h)
   ·exact .inr h
   ·exact .inl (List.mem_of_mem_drop h)
 ·exact .inl h
theorem without_in {t y:V} {k:List UInt8} (h:y∈(withoutV t k).l):y∈t.l:=by
 unfold withoutV at h
 split at h
 ·simp only[List.mem_append]at h
  rcases h with h | h
  ·exact List.mem_of_mem_take h
  ·exact List.mem_of_mem_drop h
 ·exact h
theorem obs_with {t x:V} (ht:Obs t) (ho:Ob t) (hx:Obs x) (k:List UInt8):Obs (withV t k x):=by
 obtain⟨D,ht⟩:=ht
 obtain⟨E,hx⟩:=hx
 cases D with
 | zero=>exact ht.elim
 | succ D=>
  refine⟨D+E+1,fun _=>ob_with ho k x,fun y hy=>?_⟩
  rcases with_in hy with h | rfl
  ·exact(ht.2 y h).le (by omega)
  ·exact hx.le (by omega)
theorem obs_without {t:V} (ht:Obs t) (ho:Ob t) (k:List UInt8):Obs (withoutV t k):=by
 obtain⟨D,ht⟩:=ht
 cases D with
 | zero=>exact ht.elim
 | succ D=>exact⟨D+1,fun _=>ob_without ho k,fun y hy=>ht.2 y (without_in hy)⟩
theorem with_same {t y:V} (h:Ob t) {k:List UInt8} (hm:memV t k=some y):withV t k y=t:=by
 refine ob_ext (ob_with h k y) h fun k'=>?_
 by_cases e:k'=k
 ·rw[e,mem_with h.paired,hm]
 ·rw[mem_other h.paired _ _ _ e]
def thr:List (List UInt8)->V->Option V
 | [],v=>some v
 | n :: ns,v=>(memV v n).bind (thr ns)
def laidF:List (List UInt8)->V->V->V
 | [],v,x=>if v.kind=5/\x.kind=5 then v else x
 | n :: ns,v,x=>withV (objOf v) n (laidF ns ((memV v n).getD zeroT) x)
theorem obs_laid:∀ (ns:List (List UInt8)) (v x:V),Obs v->Obs x->Obs (laidF ns v x)
 | [],v,x,hv,hx=>by unfold laidF;split <;> assumption
 | n :: ns,v,x,hv,hx=>obs_with (obs_objOf hv) hv.obOf (obs_laid ns _ x (obs_was hv n) hx) n
theorem thr_zero {ns:List (List UInt8)} (h:ns≠[]):thr ns zeroT=none:=by
 cases ns with
 | nil=>exact absurd rfl h
 | cons n ns=>simp[thr,memV,findV,pairedV,zeroT]
theorem thr_laid:∀ (ns:List (List UInt8)) (v x:V),Obs v->thr ns (laidF ns v x)=some (if ((thr ns v).getD zeroT).kind=5/\x.kind=5 then (thr ns v).getD zeroT else x)
 | [],v,x,hv=>by simp only[thr,laidF,Option.getD_some];rfl
 | n :: ns,v,x,hv=>by
  unfold laidF
  rw[thr,mem_with hv.obOf.paired,Option.bind_some,thr_laid ns _ x (obs_was hv n)]
  rw[thr]
  cases hm:memV v n with
  | some y=>simp
  | none=>
   simp only[Option.getD_none,Option.bind_none]
   cases ns with
   | nil=>simp only[thr,Option.getD_some];rfl
   | cons m ns=>rw[thr_zero (by simp)];rfl
theorem thr_laid_far:∀ (ns b:List (List UInt8)) (v x:V),Obs v->¬ns <+: b->¬b <+: ns->thr b (laidF ns v x)=thr b v
 | [],b,v,x,hv,h1,_=>absurd (List.nil_prefix) h1
 | n :: ns,[],v,x,hv,_,h2=>absurd (List.nil_prefix) h2
 | n :: ns,m :: bs,v,x,hv,h1,h2=>by
  unfold laidF
  rw[thr,thr]
  by_cases e:m=n
  ·subst e
   rw[mem_with hv.obOf.paired,Option.bind_some,thr_laid_far ns bs _ x (obs_was hv m) (fun h=>h1 (List.cons_prefix_cons.2 ⟨rfl,h⟩)) (fun h=>h2 (List.cons_prefix_cons.2 ⟨rfl,h⟩))]
   cases hm:memV v m with
   | some y=>rfl
   | none=>
    have:bs≠[]:=fun e=>h2 (by rw[e];exact List.cons_prefix_cons.2 ⟨rfl,List.nil_prefix⟩)
    simp[thr_zero this]
  ·rw[mem_other hv.obOf.paired _ _ _ e,mem_objOf]
theorem thr_kind {n:List UInt8} {ns:List (List UInt8)} {v y:V} (h:thr (n :: ns) v=some y):v.kind=5/\∃ z,memV v n=some z/\thr ns z=some y:=by
 unfold thr at h
 cases hm:memV v n with
 | none=>rw[hm]at h;cases h
 | some z=>
  rw[hm]at h
  refine⟨?_,z,rfl,h⟩
  by_cases hk:v.kind=5
  ·exact hk
  ·simp[memV,findV,pairedV,hk]at hm
theorem laid_same:∀ (ns:List (List UInt8)) (v x y:V),Obs v->thr ns v=some y->(y=x\/y.kind=5/\x.kind=5)->laidF ns v x=v
 | [],v,x,y,hv,h,hy=>by
  simp only[thr,Option.some.injEq]at h
  subst h
  unfold laidF
  split
  ·rfl
  ·rename_i hn
   rcases hy with h | h
   ·exact h.symm
   ·exact absurd h hn
 | n :: ns,v,x,y,hv,h,hy=>by
  obtain⟨hk,z,hm,hz⟩:=thr_kind h
  unfold laidF
  rw[hm,Option.getD_some,laid_same ns z x y (obs_mem hv hm) hz hy]
  have:objOf v=v:=by simp[objOf,hk]
  rw[this]
  exact with_same (hv.ob hk) hm
def outF:List (List UInt8)->V->V
 | [],v=>v
 | [n],v=>withoutV v n
 | n :: m :: ns,v=>if (outF (m :: ns) ((memV v n).getD zeroT)).l=[] then withoutV v n else withV v n (outF (m :: ns) ((memV v n).getD zeroT))
theorem thr_items {b:List (List UInt8)} {v y:V} (h:thr b v=some y) (hb:b≠[]):v.l≠[]:=by
 cases b with
 | nil=>exact absurd rfl hb
 | cons m bs=>
  obtain⟨hk,z,hm,hz⟩:=thr_kind h
  exact List.ne_nil_of_mem (mem_in hm)
theorem obs_out:∀ (ns:List (List UInt8)) (v:V),Obs v->v.kind=5->(∃ y,thr ns v=some y)->Obs (outF ns v)/\(outF ns v).kind=(if ns=[] then v.kind else 5)
 | [],v,hv,_,_=>⟨hv,by simp[outF]⟩
 | [n],v,hv,hk,_=>⟨obs_without hv (hv.ob hk) n,(ob_without (hv.ob hk) n).1⟩
 | n :: m :: ns,v,hv,hk,⟨y,hy⟩=>by
  obtain⟨-,z,hm,hz⟩:=thr_kind hy
  have hkz:z.kind=5:=(thr_kind hz).1
  have ih:=obs_out (m :: ns) z (obs_mem hv hm) hkz ⟨y,hz⟩
  unfold outF
  rw[hm,Option.getD_some]
  split
  ·exact⟨obs_without hv (hv.ob hk) n,(ob_without (hv.ob hk) n).1⟩
  ·exact⟨obs_with hv (hv.ob hk) ih.1 n,(ob_with (hv.ob hk) n _).1⟩
def Apart (a b:List (List UInt8)):Prop:=¬a <+: b/\¬b <+: a
theorem Apart.symm {a b:List (List UInt8)} (h:Apart a b):Apart b a:=⟨h.2,h.1⟩
theorem Apart.cons {a b:List (List UInt8)} (h:Apart a b) (k:List UInt8):Apart (k :: a) (k :: b):=
 ⟨fun e=>h.1 (List.cons_prefix_cons.1 e).2,fun e=>h.2 (List.cons_prefix_cons.1 e).2⟩
theorem apart_of_head {k m:List UInt8} (h:k≠m) (a b:List (List UInt8)):Apart (k :: a) (m :: b):=
 ⟨fun e=>h (List.cons_prefix_cons.1 e).1,fun e=>h (List.cons_prefix_cons.1 e).1.symm⟩
def lvs:Nat->V->List (List (List UInt8))
 | 0,_=>[]
 | D+1,v=>(v.keys.zip v.l).flatMap fun p=>if p.2.kind=5/\p.2.l≠[] then (lvs D p.2).map (p.1 :: ·) else [[p.1]]
def LeafV (x:V):Prop:=¬(x.kind=5/\x.l≠[])
theorem lvs_in {D:Nat} {v:V} {ns:List (List UInt8)} (h:ns∈lvs (D+1) v):∃ k x,(k,x)∈v.keys.zip v.l/\((x.kind=5/\x.l≠[])/\(∃ r,r∈lvs D x/\ns=k :: r)\/LeafV x/\ns=[k]):=by
 unfold lvs at h
 rw[List.mem_flatMap]at h
 obtain⟨⟨k,x⟩,hp,h⟩:=h
 refine⟨k,x,hp,?_⟩
 by_cases hc:x.kind=5/\x.l≠[]
 ·rw[if_pos hc,List.mem_map]at h
  obtain⟨r,hr,rfl⟩:=h
  exact .inl ⟨hc,r,hr,rfl⟩
 ·rw[if_neg hc,List.mem_singleton]at h
  exact .inr ⟨hc,h⟩
theorem lvs_ne {D:Nat} {v:V} {ns:List (List UInt8)} (h:ns∈lvs D v):ns≠[]:=by
 cases D with
 | zero=>simp[lvs]at h
 | succ D=>
  obtain⟨k,x,-,⟨-,r,-,rfl⟩ | ⟨-,rfl⟩⟩:=lvs_in h <;> simp
theorem look_of_mem {ps:List (List UInt8 × V)} (hn:(ps.map Prod.fst).Nodup) {k:List UInt8} {x:V} (h:(k,x)∈ps):look k ps=some x:=by
 induction ps with
 | nil=>cases h
 | cons p ps ih=>
  rw[List.map_cons,List.nodup_cons]at hn
  rcases List.mem_cons.1 h with e | h
  ·subst e;simp[look]
  ·have:p.1≠k:=fun e=>hn.1 (by rw[e];exact List.mem_map.2 ⟨(k,x),h,rfl⟩)
   rw[look,if_neg this,ih hn.2 h]
theorem mem_of_zip {v x:V} {k:List UInt8} (h:Ob v) (hx:(k,x)∈v.keys.zip v.l):memV v k=some x:=by
 rw[memV_look h.paired]
 exact look_of_mem (ob_nodup h) hx
theorem zip_of_mem {v x:V} {k:List UInt8} (h:Ob v) (hx:memV v k=some x):(k,x)∈v.keys.zip v.l:=by
 rw[memV_look h.paired]at hx
 exact look_mem hx
theorem HO.item {D:Nat} {v x:V} {k:List UInt8} (h:HO (D+1) v) (hx:(k,x)∈v.keys.zip v.l):HO D x:=h.2 x (List.of_mem_zip hx).2
theorem lvs_thr:∀ (D:Nat) (v:V) (ns:List (List UInt8)),HO D v->v.kind=5->ns∈lvs D v->∃ x,thr ns v=some x/\LeafV x
 | 0,v,ns,h,_,_=>h.elim
 | D+1,v,ns,h,hk,hn=>by
  obtain⟨k,x,hp,⟨hc,r,hr,rfl⟩ | ⟨hl,rfl⟩⟩:=lvs_in hn
  ·obtain⟨y,h1,h2⟩:=lvs_thr D x r (h.item hp) hc.1 hr
   exact⟨y,by rw[thr,mem_of_zip (h.1 hk) hp];exact h1,h2⟩
  ·exact⟨x,by rw[thr,mem_of_zip (h.1 hk) hp];rfl,hl⟩
theorem lvs_apart:∀ (D:Nat) (v:V),HO D v->v.kind=5->(lvs D v).Pairwise Apart
 | 0,v,h,_=>h.elim
 | D+1,v,h,hk=>by
  have hnd:=ob_nodup (h.1 hk)
  have hit:∀ p∈v.keys.zip v.l,HO D p.2:=fun p hp=>h.item (k:=p.1) (x:=p.2) hp
  unfold lvs
  generalize v.keys.zip v.l=ps at *
  clear h hk
  induction ps with
  | nil=>exact List.Pairwise.nil
  | cons p ps ih=>
   rw[List.map_cons,List.nodup_cons]at hnd
   rw[List.flatMap_cons,List.pairwise_append]
   refine⟨?_,ih hnd.2 (fun q hq=>hit q (List.mem_cons_of_mem _ hq)),?_⟩
   ·by_cases hc:p.2.kind=5/\p.2.l≠[]
    ·rw[if_pos hc]
     rw[List.pairwise_map]
     exact(lvs_apart D p.2 (hit p (by simp)) hc.1).imp fun h=>h.cons _
    ·rw[if_neg hc];simp
   ·intro a ha b hb
    rw[List.mem_flatMap]at hb
    obtain⟨q,hq,hb⟩:=hb
    have hne:p.1≠q.1:=fun e=>hnd.1 (by rw[e];exact List.mem_map.2 ⟨q,hq,rfl⟩)
    have ha':∃ r,a=p.1 :: r:=by
     split at ha
     ·rw[List.mem_map]at ha;obtain⟨r,-,rfl⟩:=ha;exact⟨r,rfl⟩
     ·rw[List.mem_singleton]at ha;exact⟨[],ha⟩
    have hb':∃ r,b=q.1 :: r:=by
     split at hb
     ·rw[List.mem_map]at hb;obtain⟨r,-,rfl⟩:=hb;exact⟨r,rfl⟩
     ·rw[List.mem_singleton]at hb;exact⟨[],hb⟩
    obtain⟨r,rfl⟩:=ha'
    obtain⟨s,rfl⟩:=hb'
    exact apart_of_head hne r s
def layAll (want:V) (L:List (List (List UInt8))) (v:V):V:=L.foldl (fun v a=>laidF a v ((thr a want).getD zeroT)) v
theorem obs_thr:∀ (ns:List (List UInt8)) (v x:V),Obs v->thr ns v=some x->Obs x
 | [],v,x,h,e=>by cases e;exact h
 | n :: ns,v,x,h,e=>by
  obtain⟨-,z,hm,hz⟩:=thr_kind e
  exact obs_thr ns z x (obs_mem h hm) hz
theorem obs_thrD {want:V} (h:Obs want) (a:List (List UInt8)):Obs ((thr a want).getD zeroT):=by
 cases e:thr a want with
 | none=>exact obs_zero
 | some x=>exact obs_thr a want x h e
theorem laid_kind {ns:List (List UInt8)} (h:ns≠[]) {v x:V} (hv:Obs v):(laidF ns v x).kind=5:=by
 cases ns with
 | nil=>exact absurd rfl h
 | cons n ns=>unfold laidF;exact(ob_with hv.obOf n _).1
theorem layAll_obs {want:V} (hw:Obs want):∀ (L:List (List (List UInt8))) (v:V),(∀ a∈L,a≠[])->Obs v->v.kind=5->Obs (layAll want L v)/\(layAll want L v).kind=5
 | [],v,_,h,hk=>⟨h,hk⟩
 | a :: L,v,hne,h,hk=>layAll_obs hw L _ (fun b hb=>hne b (by simp[hb])) (obs_laid a v _ h (obs_thrD hw a)) (laid_kind (hne a (by simp)) h)
theorem layAll_far {want:V} (hw:Obs want) {b:List (List UInt8)}:∀ (L:List (List (List UInt8))) (v:V),(∀ a∈L,Apart a b)->Obs v->thr b (layAll want L v)=thr b v
 | [],v,_,_=>rfl
 | a :: L,v,hL,h=>by
  have e:layAll want (a :: L) v=layAll want L (laidF a v ((thr a want).getD zeroT)):=rfl
  rw[e,layAll_far hw L _ (fun c hc=>hL c (by simp[hc])) (obs_laid a v _ h (obs_thrD hw a)),thr_laid_far a b v _ h (hL a (by simp)).1 (hL a (by simp)).2]
theorem layAll_at {want:V} (hw:Obs want) {b:List (List UInt8)}:∀ (L:List (List (List UInt8))) (v:V),L.Pairwise Apart->Obs v->b∈L ->
 thr b (layAll want L v)=some (if ((thr b v).getD zeroT).kind=5/\((thr b want).getD zeroT).kind=5 then (thr b v).getD zeroT else (thr b want).getD zeroT)
 | [],v,_,_,hb=>by cases hb
 | a :: L,v,hp,h,hb=>by
  rw[List.pairwise_cons]at hp
  have e:layAll want (a :: L) v=layAll want L (laidF a v ((thr a want).getD zeroT)):=rfl
  rw[e]
  rcases List.mem_cons.1 hb with rfl | hb
  ·rw[layAll_far hw L _ (fun c hc=>(hp.1 c hc).symm) (obs_laid _ v _ h (obs_thrD hw _)),thr_laid _ v _ h]
  ·rw[layAll_at hw L _ hp.2 (obs_laid a v _ h (obs_thrD hw a)) hb]
   have ha:=hp.1 b hb
   rw[thr_laid_far a b v _ h ha.1 ha.2]
theorem layAll_same {want:V}:∀ (L:List (List (List UInt8))) (v:V),Obs v->(∀ b∈L,∃ y,thr b v=some y/\(y=(thr b want).getD zeroT\/y.kind=5/\((thr b want).getD zeroT).kind=5))->layAll want L v=v
 | [],v,_,_=>rfl
 | a :: L,v,h,hL=>by
  obtain⟨y,h1,h2⟩:=hL a (by simp)
  have e:layAll want (a :: L) v=layAll want L (laidF a v ((thr a want).getD zeroT)):=rfl
  rw[e,laid_same a v _ y h h1 h2]
  exact layAll_same L v h fun b hb=>hL b (by simp[hb])
def clearF (keep:List (List UInt8)->Bool) (had:List (List (List UInt8))) (v:V):V:=had.foldl (fun v p=>if (thr p v).isSome&&!keep p then outF p v else v) v
theorem clear_obs {keep:List (List UInt8)->Bool}:∀ (had:List (List (List UInt8))) (v:V),(∀ p∈had,p≠[])->Obs v->v.kind=5->Obs (clearF keep had v)/\(clearF keep had v).kind=5
 | [],v,_,h,hk=>⟨h,hk⟩
 | p :: had,v,hne,h,hk=>by
  have e:clearF keep (p :: had) v=clearF keep had (if (thr p v).isSome&&!keep p then outF p v else v):=rfl
  rw[e]
  split
  ·rename_i hc
   rw[Bool.and_eq_true,Option.isSome_iff_exists]at hc
   obtain⟨h1,h2⟩:=obs_out p v h hk hc.1
   rw[if_neg (hne p (by simp))]at h2
   exact clear_obs had _ (fun q hq=>hne q (by simp[hq])) h1 h2
  ·exact clear_obs had _ (fun q hq=>hne q (by simp[hq])) h hk
theorem clear_none {keep:List (List UInt8)->Bool}:∀ (had:List (List (List UInt8))) (v:V),(∀ p∈had,keep p=true)->clearF keep had v=v
 | [],v,_=>rfl
 | p :: had,v,h=>by
  have e:clearF keep (p :: had) v=clearF keep had (if (thr p v).isSome&&!keep p then outF p v else v):=rfl
  rw[e,h p (by simp)]
  simp only[Bool.not_true,Bool.and_false,Bool.false_eq_true,if_false]
  exact clear_none had v fun q hq=>h q (by simp[hq])
theorem join_cons (n:List UInt8) (ns:List (List UInt8)):joinP (n :: ns)=47 :: (markedL n++joinP ns):=by simp[joinP]
theorem join_append (a b:List (List UInt8)):joinP (a++b)=joinP a++joinP b:=by simp[joinP]
def aboveP (p q:List UInt8):Bool:=(p++[47]).isPrefixOf q
end Go.Proofs.YtmdemcjmcnfjmaaGreatDoor
namespace Go.Proofs.YtmdemcjmcnfjmaaGreatDoor
open Go.RowKit
open Go.Lib (index count replaceK replaceAll split splitK)
def lowB (c:UInt8):Bool:=decide (97<=c.toNat)&&decide (c.toNat<=122)
def namedB (s:List UInt8):Bool:=!s.isEmpty&&decide (s.length<=12)&&s.all lowB
def namesP (p:List UInt8):List (List UInt8):=(splitP p).1
def gpB (p:List UInt8):Bool:=decide ((splitP p).2=0)&&!(namesP p).isEmpty
theorem split_len {p:List UInt8} {b:List (List UInt8)} (h:splitP p=(b,0)):p.length<=2000/\joinP b=p:=by
 refine⟨?_,join_split p b h⟩
 cases p with
 | nil=>simp
 | cons c r=>
  simp only[splitP]at h
  split at h
  ·simp at h
  ·rename_i h9
   simp only[not_or]at h9
   omega
theorem marked_len (s:List UInt8):s.length<=(markedL s).length/\(markedL s).length<=2 * s.length:=by
 rw[marked_eq]
 refine⟨?_,esc_len s⟩
 induction s with
 | nil=>simp
 | cons c r ih2=>
  simp only[List.flatMap_cons,List.length_append,List.length_cons]
  have:1<=(escP c).length:=by unfold escP;split <;> (try split) <;> simp
  omega
theorem join_mem_len {b:List (List UInt8)} {x:List UInt8} (h:x∈b):x.length<=(joinP b).length:=by
 induction b with
 | nil=>cases h
 | cons y ys ih=>
  rw[join_cons]
  simp only[List.length_cons,List.length_append]
  rcases List.mem_cons.1 h with rfl | h
  ·have:=(marked_len x).1;omega
  ·have:=ih h;omega
theorem gp_names {p:List UInt8} (h:gpB p=true):splitP p=(namesP p,0)/\namesP p≠[]/\joinP (namesP p)=p:=by
 unfold gpB at h
 rw[Bool.and_eq_true,decide_eq_true_eq]at h
 have e:splitP p=(namesP p,0):=by unfold namesP;rw[<-h.1]
 refine⟨e,fun h9=>by rw[h9]at h;simp at h,(split_len e).2⟩
theorem gp_of {ns:List (List UInt8)} (h:(joinP ns).length<=2000) (hne:ns≠[]):gpB (joinP ns)=true/\namesP (joinP ns)=ns:=by
 have e:=split_join ns h
 have e2:namesP (joinP ns)=ns:=by unfold namesP;rw[e]
 refine⟨?_,e2⟩
 unfold gpB
 rw[e2,e]
 cases ns with
 | nil=>exact absurd rfl hne
 | cons a r=>rfl
def risesB:List (List UInt8)->Bool
 | []=>true
 | [_]=>true
 | a :: b :: r=>Op.bytesLess a b&&risesB (b :: r)
theorem rises_iff:∀ (l:List (List UInt8)),risesB l=true↔Rises l
 | []=>by simp[risesB,Rises]
 | [a]=>by simp[risesB,Rises]
 | a :: b :: r=>by
  rw[risesB,Bool.and_eq_true,rises_iff (b :: r)]
  unfold Rises
  rw[List.pairwise_cons (a:=a)]
  constructor
  ·rintro⟨h1,h2⟩
   refine⟨fun x hx=>?_,h2⟩
   rcases List.mem_cons.1 hx with rfl | hx
   ·exact h1
   ·exact less_trans _ _ _ h1 ((List.pairwise_cons.1 h2).1 x hx)
  ·rintro⟨h1,h2⟩
   exact⟨h1 b (by simp),h2⟩
theorem rises_at:∀ (l:List (List UInt8)),risesB l=true↔∀ i x y,l[i]?=some x->l[i+1]?=some y->Op.bytesLess x y=true
 | []=>by simp[risesB]
 | [a]=>by
  simp only[risesB,true_iff]
  intro i x y h1 h2
  simp at h2
 | a :: b :: r=>by
  rw[risesB,Bool.and_eq_true,rises_at (b :: r)]
  constructor
  ·rintro⟨h1,h2⟩ i x y hx hy
   cases i with
   | zero=>simp at hx hy;subst hx;subst hy;exact h1
   | succ i=>exact h2 i x y (by simpa using hx) (by simpa using hy)
  ·intro h
   exact⟨h 0 a b rfl rfl,fun i x y hx hy=>h (i+1) x y (by simpa using hx) (by simpa using hy)⟩
def gpsB (l:List (List UInt8)):Bool:=!l.isEmpty&&l.all gpB&&risesB l
structure Own where
 name:List UInt8
 paths:List (List UInt8)
def ownB (o:Own):Bool:=namedB o.name&&gpsB o.paths
def goodOs (l:List Own):Bool:=decide (l.length<=6)&&l.all ownB&&risesB (l.map Own.name)
def insL (x:List UInt8):List (List UInt8)->List (List UInt8)
 | []=>[x]
 | y :: ys=>if Op.bytesLess y x then y :: insL x ys else x :: y :: ys
def sortL (l:List (List UInt8)):List (List UInt8):=l.foldr insL []
def LeB (a b:List UInt8):Prop:=Op.bytesLess b a=false
theorem le_anti {a b:List UInt8} (h1:LeB a b) (h2:LeB b a):a=b:=by
 apply Classical.byContradiction
 intro h
 have:=less_total a b h2 h
 rw[h1]at this;cases this
theorem le_of_less {a b:List UInt8} (h:Op.bytesLess a b=true):LeB a b:=by
 unfold LeB
 cases e:Op.bytesLess b a with
 | false=>rfl
 | true=>have:=less_trans _ _ _ h e;rw[less_irrefl]at this;cases this
theorem less_of_le {a b:List UInt8} (h:LeB a b) (hne:a≠b):Op.bytesLess a b=true:=less_total b a h fun e=>hne e.symm
theorem le_trans' {a b c:List UInt8} (h1:LeB a b) (h2:LeB b c):LeB a c:=by
 by_cases e:a=b
 ·rw[e];exact h2
 by_cases e2:b=c
 ·rw[<-e2];exact h1
 exact le_of_less (less_trans _ _ _ (less_of_le h1 e) (less_of_le h2 e2))
theorem ins_perm (x:List UInt8):∀ (l:List (List UInt8)),(insL x l).Perm (x :: l)
 | []=>List.Perm.refl _
 | y :: ys=>by
  unfold insL
  split
  ·exact((ins_perm x ys).cons y).trans (List.Perm.swap x y ys)
  ·exact List.Perm.refl _
theorem sort_perm:∀ (l:List (List UInt8)),(sortL l).Perm l
 | []=>List.Perm.refl _
 | x :: l=>(ins_perm x (sortL l)).trans ((sort_perm l).cons x)
theorem ins_sorted (x:List UInt8):∀ (l:List (List UInt8)),l.Pairwise LeB->(insL x l).Pairwise LeB
 | [],_=>by simp[insL]
 | y :: ys,h=>by
  rw[List.pairwise_cons]at h
  unfold insL
  split
  ·rename_i hl
   rw[List.pairwise_cons]
   refine⟨fun z hz=>?_,ins_sorted x ys h.2⟩
   rcases List.mem_cons.1 ((ins_perm x ys).mem_iff.1 hz) with rfl | hz
   ·exact le_of_less hl
   ·exact h.1 z hz
  ·rename_i hl
   have hxy:LeB x y:=by unfold LeB;simpa using hl
   rw[List.pairwise_cons,List.pairwise_cons]
   refine⟨fun z hz=>?_,h⟩
   rcases List.mem_cons.1 hz with rfl | hz
   ·exact hxy
   ·exact le_trans' hxy (h.1 z hz)
theorem sort_sorted:∀ (l:List (List UInt8)),(sortL l).Pairwise LeB
 | []=>List.Pairwise.nil
 | x :: l=>ins_sorted x _ (sort_sorted l)
theorem sort_of {l m:List (List UInt8)} (hp:m.Perm l) (hs:m.Pairwise LeB):m=sortL l:=
 List.Perm.eq_of_pairwise (fun a b _ _ h1 h2=>le_anti h1 h2) hs (sort_sorted l) (hp.trans (sort_perm l).symm)
def leavesF (t:V):List (List UInt8):=if t.kind=5/\goodV t=true then sortL ((lvs 12 t).map joinP) else []
theorem keys_plain {t:V} (hs:shapedB t=true) (hk:t.kind=5):∀ k∈t.keys,k.length<=60:=by
 intro k h
 have:=(rise_pair _ _ (shaped_object hs hk).2.1).2.2 k h
 simp only[plainB,Bool.and_eq_true,decide_eq_true_eq]at this
 exact this.1
theorem lvs_len:∀ (D:Nat) (t:V) (ns:List (List UInt8)),GoodT D t->t.kind=5->ns∈lvs D t->(joinP ns).length<=121 * D
 | 0,_,_,h,_,_=>h.elim
 | D+1,t,ns,h,hk,hn=>by
  have key:∀ k x,(k,x)∈t.keys.zip t.l->k.length<=60:=fun k x hp=>keys_plain h.1 hk k (List.of_mem_zip hp).1
  obtain⟨k,x,hp,⟨hc,r,hr,rfl⟩ | ⟨hl,rfl⟩⟩:=lvs_in hn
  ·have:=lvs_len D x r (h.2 x (List.of_mem_zip hp).2) hc.1 hr
   have h1:=key k x hp
   have h2:=(marked_len k).2
   rw[join_cons]
   simp only[List.length_cons,List.length_append]
   omega
  ·have h1:=key k x hp
   have h2:=(marked_len k).2
   rw[join_cons]
   simp only[List.length_cons,List.length_append,joinP,List.flatMap_nil,List.length_nil]
   omega
structure LeavesOk (t:V) (L:List (List UInt8)):Prop where
 rises:Rises L
 good:∀ p∈L,gpB p=true
 names:∀ ns,ns∈L.map namesP↔ns∈lvs 12 t
 apart:(L.map namesP).Pairwise Apart
theorem lvs_gp {t:V} (hk:t.kind=5) (hg:goodV t=true) {ns:List (List UInt8)} (h:ns∈lvs 12 t):gpB (joinP ns)=true/\namesP (joinP ns)=ns:=
 gp_of (by have:=lvs_len 12 t ns (goodV_tree hg) hk h;omega) (lvs_ne h)
theorem leaves_ok {t:V} (hk:t.kind=5) (hg:goodV t=true):LeavesOk t (leavesF t):=by
 have ho:=(goodV_tree hg).ho
 have e:leavesF t=sortL ((lvs 12 t).map joinP):=if_pos ⟨hk,hg⟩
 have hp:=sort_perm ((lvs 12 t).map joinP)
 have hmm:((lvs 12 t).map joinP).map namesP=lvs 12 t:=by
  rw[List.map_map]
  conv=>rhs;rw[<-List.map_id (lvs 12 t)]
  exact List.map_congr_left fun ns hns=>(lvs_gp hk hg hns).2
 have hpn:((leavesF t).map namesP).Perm (lvs 12 t):=by rw[e];have:=hp.map namesP;rwa [hmm]at this
 have hap:=lvs_apart 12 t ho hk
 have hap2:((leavesF t).map namesP).Pairwise Apart:=(hpn.pairwise_iff (fun h=>h.symm)).2 hap
 refine⟨?_,?_,fun ns=>hpn.mem_iff,hap2⟩
 ·have h1:(leavesF t).Pairwise LeB:=by rw[e];exact sort_sorted _
  have h2:(leavesF t).Pairwise (·≠·):=by
   rw[List.pairwise_map]at hap2
   exact hap2.imp fun h e=>h.1 (by rw[e];exact List.prefix_rfl)
  exact(h1.and h2).imp fun⟨h3,h4⟩=>less_of_le h3 h4
 ·intro p h
  rw[e]at h
  obtain⟨ns,hn,rfl⟩:=List.mem_map.1 (hp.mem_iff.1 h)
  exact(lvs_gp hk hg hn).1
open Classical in
noncomputable def otherF (want v:V) (p:List UInt8):Bool:=
 match thr (namesP p) v with
 | none=>true
 | some x=>!decide (x=(thr (namesP p) want).getD zeroT)&&!(decide (x.kind=5)&&decide (((thr (namesP p) want).getD zeroT).kind=5))
noncomputable def blockedF (want v:V) (L:List (List UInt8)) (p:List UInt8):Bool:=
 if L.contains p then otherF want v p else L.any fun q=>aboveP q p || aboveP p q
def keptF (stays:List UInt8->List UInt8->Bool) (l:List Own):List Own:=
 (l.map fun o=>⟨o.name,o.paths.filter (stays o.name)⟩).filter fun o=>!o.paths.isEmpty
def foundF (blk:List UInt8->Bool) (who:List UInt8) (l:List Own):List (List UInt8 × List UInt8):=
 l.flatMap fun o=>(o.paths.filter fun p=>o.name != who&&blk p).map fun p=>(o.name,p)
def pathsOfF (l:List Own) (who:List UInt8):List (List UInt8):=
 match l.find? (fun o=>o.name == who) with
 | some o=>o.paths
 | none=>[]
def concF (l:List Own) (p:List UInt8):Bool:=l.any fun o=>o.paths.any fun q=>q == p || aboveP q p || aboveP p q
def clearedF (L:List (List UInt8)) (others:List Own) (had:List (List UInt8)) (v:V):V:=
 had.foldl (fun v p=>if (thr (namesP p) v).isSome&&!(L.contains p || concF others p) then outF (namesP p) v else v) v
def laidAllF (want:V) (L:List (List UInt8)) (v:V):V:=L.foldl (fun v p=>laidF (namesP p) v ((thr (namesP p) want).getD zeroT)) v
def placeO (l:List Own) (who:List UInt8):Nat:=l.countP fun o=>Op.bytesLess o.name who
def withOwnF (others:List Own) (o:Own):List Own:=
 if o.paths=[] then others else others.take (placeO others o.name)++o :: others.drop (placeO others o.name)
noncomputable def othersF (v want:V) (l:List Own) (who:List UInt8):List Own:=keptF (fun n p=>n != who&&!blockedF want v (leavesF want) p) l
noncomputable def resultF (v want:V) (l:List Own) (who:List UInt8):V:=laidAllF want (leavesF want) (clearedF (leavesF want) (othersF v want l who) (pathsOfF l who) v)
noncomputable def applyF (v:V) (l:List Own) (who:List UInt8) (want:V) (force:Bool):V × List Own × List (List UInt8 × List UInt8) × Int:=
 if (v.kind=5/\goodV v=true)/\(want.kind=5/\goodV want=true)/\goodOs l=true/\namedB who=true then
  if foundF (blockedF want v (leavesF want)) who l≠[]/\force=false then (v,l,foundF (blockedF want v (leavesF want)) who l,5)
  else if goodV (resultF v want l who)=true/\(withOwnF (othersF v want l who) ⟨who,leavesF want⟩).length<=6 then
   (resultF v want l who,withOwnF (othersF v want l who) ⟨who,leavesF want⟩,[],0)
  else (v,l,[],2)
 else (v,l,[],1)
end Go.Proofs.YtmdemcjmcnfjmaaGreatDoor
namespace Go.Proofs.YtmdemcjmcnfjmaaGreatDoor
open Go.RowKit
def OwnsAre (w:World) (ok:Nat->Prop) (xs:List Own) (v:Value):Prop:=
 xs.length<=maxLen/\(xs=[]/\(∃ a,v=.slice a 0 0)\/∃ b off c,v=.slice (some ⟨b,off,none⟩) xs.length c/\xs.length<=c/\c<=maxLen /\
  ∀ i x,xs[i]?=some x->∃ a n c',x.name.length<=maxLen/\ok b/\w.cell? ⟨b,off+i * 2,none⟩=some (str x.name)/\w.cell? ⟨b,off+i * 2+1,none⟩=some (.slice a n c')/\StrsAre w ok x.paths (.slice a n c'))
theorem OwnsAre.imp {w w':World} {ok ok':Nat->Prop} {xs:List Own} {v:Value} (h:OwnsAre w ok xs v)
 (hc:∀ a x,ok a.block->w.cell? a=some x->ok' a.block/\w'.cell? a=some x):OwnsAre w' ok' xs v:=by
 refine⟨h.1,?_⟩
 rcases h.2 with h | ⟨b,off,c,e,h1,h2,h3⟩
 ·exact .inl h
 ·refine .inr ⟨b,off,c,e,h1,h2,fun i x hx=>?_⟩
  obtain⟨a,n,c',g1,g2,g3,g4,g5⟩:=h3 i x hx
  exact⟨a,n,c',g1,(hc ⟨b,off+i * 2,none⟩ _ g2 g3).1,(hc ⟨b,off+i * 2,none⟩ _ g2 g3).2,(hc ⟨b,off+i * 2+1,none⟩ _ g2 g4).2,g5.imp hc⟩
theorem OwnsAre.bel {w w':World} {ok:Nat->Prop} {xs:List Own} {v:Value} (h:OwnsAre w ok xs v) (hb:Below w.heap.size w w'):OwnsAre w' ok xs v:=
 h.imp fun a x h1 h2=>⟨h1,cell_bel hb h2⟩
theorem OwnsAre.low {w:World} {ok:Nat->Prop} {xs:List Own} {v:Value} (h:OwnsAre w ok xs v):OwnsAre w (fun k=>ok k/\k < w.heap.size) xs v:=
 h.imp fun a x h1 h2=>⟨⟨h1,World.block_lt_of_cell? w a h2⟩,h2⟩
theorem OwnsAre.weak {w:World} {ok ok':Nat->Prop} {xs:List Own} {v:Value} (h:OwnsAre w ok xs v) (hk:∀ k,ok k->ok' k):OwnsAre w ok' xs v:=
 h.imp fun a x h1 h2=>⟨hk _ h1,h2⟩
theorem OwnsAre.form {w:World} {ok:Nat->Prop} {xs:List Own} {v:Value} (h:OwnsAre w ok xs v):∃ a c,v=.slice a xs.length c:=by
 rcases h.2 with⟨rfl,a,rfl⟩ | ⟨b,off,c,rfl,-⟩
 ·exact⟨a,0,rfl⟩
 ·exact⟨_,_,rfl⟩
theorem OwnsAre.at {w:World} {ok:Nat->Prop} {xs:List Own} {a:Option Addr} {n c k:Nat} (h:OwnsAre w ok xs (.slice a n c)) (hk:k < xs.length) :
 ∃ b off pa pc,a=some ⟨b,off,none⟩/\xs.length<=c/\c<=9223372036854775807/\w.cell? ⟨b,off+k * 2,none⟩=some (.string ⟨xs[k].name.toArray⟩)/\w.cell? ⟨b,off+k * 2+1,none⟩=some (.slice pa xs[k].paths.length pc) /\
  StrsAre w ok xs[k].paths (.slice pa xs[k].paths.length pc)/\xs[k].name.length<=9223372036854775807:=by
 rcases h.2 with⟨e,_⟩ | ⟨b,off,c',e,h1,h2,h3⟩
 ·rw[e]at hk;simp at hk
 ·simp only[Value.slice.injEq]at e
  obtain⟨rfl,-,rfl⟩:=e
  obtain⟨a,n,c',g1,g2,g3,g4,g5⟩:=h3 k xs[k] (List.getElem?_eq_getElem hk)
  obtain⟨a9,c9,e9⟩:=g5.form
  simp only[Value.slice.injEq]at e9
  obtain⟨rfl,rfl,rfl⟩:=e9
  exact⟨b,off,a,c',rfl,h1,h2,g3,g4,g5,g1⟩
theorem OwnsAre.nil (w:World) (ok:Nat->Prop):OwnsAre w ok [] (.slice none 0 0):=⟨by simp,.inl ⟨rfl,none,rfl⟩⟩
theorem box2 {w:World} {g:Nat} {a b:Value} {t:TypeId} (h:w.heap[g]?=some (.cells #[a,b] t)):w.cell? ⟨g,0,none⟩=some a/\w.cell? ⟨g,1,none⟩=some b:=by
 refine⟨?_,?_⟩ <;> simp[World.cell?,h]
theorem rises_take {xs:List (List UInt8)} {j:Nat} (h:j+1 < xs.length):risesB (xs.take (j+2))=(risesB (xs.take (j+1))&&Op.bytesLess xs[j] xs[j+1]):=by
 rw[Bool.eq_iff_iff,Bool.and_eq_true,rises_at,rises_at]
 constructor
 ·intro h9
  refine⟨fun i x y hx hy=>h9 i x y ?_ ?_,h9 j _ _ ?_ ?_⟩
  ·rw[List.getElem?_take]at hx ⊢;split at hx;rw[if_pos (by omega)];exact hx;cases hx
  ·rw[List.getElem?_take]at hy ⊢;split at hy;rw[if_pos (by omega)];exact hy;cases hy
  ·rw[List.getElem?_take,if_pos (by omega)];exact List.getElem?_eq_getElem (by omega)
  ·rw[List.getElem?_take,if_pos (by omega)];exact List.getElem?_eq_getElem h
 ·rintro⟨h1,h2⟩ i x y hx hy
  by_cases e:i=j
  ·subst e
   rw[List.getElem?_take,if_pos (by omega),List.getElem?_eq_getElem (by omega)]at hx
   rw[List.getElem?_take,if_pos (by omega),List.getElem?_eq_getElem h]at hy
   cases hx;cases hy;exact h2
  ·refine h1 i x y ?_ ?_
   ·rw[List.getElem?_take]at hx hy ⊢;split at hy <;> split at hx <;> (try cases hy) <;> (try cases hx);rw[if_pos (by omega)];assumption
   ·rw[List.getElem?_take]at hy ⊢;split at hy <;> (try cases hy);rw[if_pos (by omega)];assumption
theorem rises_one (xs:List (List UInt8)):risesB (xs.take 1)=true:=by
 cases xs with
 | nil=>rfl
 | cons a r=>rfl
theorem gps_badP {xs:List (List UInt8)} {k:Nat} (hk:k < xs.length) (h:gpB xs[k]=false):gpsB xs=false:=by
 have:xs.all gpB=false:=by rw[List.all_eq_false];exact⟨xs[k],List.getElem_mem _,by simp[h]⟩
 simp[gpsB,this]
theorem rises_bad {xs:List (List UInt8)} {j:Nat} (hj:j+1 < xs.length) (h:Op.bytesLess xs[j] xs[j+1]=false):risesB xs=false:=by
 rw[Bool.eq_false_iff]
 intro h9
 rw[rises_at]at h9
 have:=h9 j _ _ (List.getElem?_eq_getElem (by omega)) (List.getElem?_eq_getElem hj)
 rw[h]at this;cases this
theorem gps_badR {xs:List (List UInt8)} {j:Nat} (hj:j+1 < xs.length) (h:Op.bytesLess xs[j] xs[j+1]=false):gpsB xs=false:=by
 simp[gpsB,rises_bad hj h]
theorem all_take {α:Type} {p:α->Bool} {xs:List α} {k:Nat} (hk:k < xs.length) (h:(xs.take k).all p=true) (h2:p xs[k]=true):(xs.take (k+1)).all p=true:=by
 rw[List.take_succ_eq_append_getElem hk,List.all_append,h];simp[h2]
end Go.Proofs.YtmdemcjmcnfjmaaGreatDoor
namespace Go.Proofs.YtmdemcjmcnfjmaaGreatDoor
open Go.RowKit
def allOf (l:List Own):List (List UInt8 × List UInt8):=l.flatMap fun o=>o.paths.map fun p=>(o.name,p)
theorem allOf_step {l:List Own} {k:Nat} (hk:k < l.length):allOf (l.take (k+1))=allOf (l.take k)++l[k].paths.map fun p=>(l[k].name,p):=by
 unfold allOf
 rw[List.take_succ_eq_append_getElem hk,List.flatMap_append];simp
theorem allOf_pre {l:List Own} {k j:Nat} (hk:k < l.length) (hj:j < l[k].paths.length):allOf (l.take k)++(l[k].paths.take j).map (fun p=>(l[k].name,p))++[(l[k].name,l[k].paths[j])] <+: allOf l:=by
 have e1:allOf l=allOf (l.take (k+1))++allOf (l.drop (k+1)):=by
  unfold allOf
  rw[<-List.flatMap_append,List.take_append_drop]
 have e3:l[k].paths=l[k].paths.take j++[l[k].paths[j]]++l[k].paths.drop (j+1):=by rw[<-List.take_succ_eq_append_getElem hj,List.take_append_drop]
 have e4:=congrArg (List.map fun p=>(l[k].name,p)) e3
 rw[List.map_append,List.map_append,List.map_cons,List.map_nil]at e4
 refine⟨(l[k].paths.drop (j+1)).map (fun p=>(l[k].name,p))++allOf (l.drop (k+1)),?_⟩
 rw[e1,allOf_step hk,e4]
 simp only[List.append_assoc]
theorem allOf_mem {l:List Own} {n p:List UInt8} (h:(n,p)∈allOf l):∃ o∈l,o.name=n/\p∈o.paths:=by
 unfold allOf at h
 rw[List.mem_flatMap]at h
 obtain⟨o,ho,h⟩:=h
 rw[List.mem_map]at h
 obtain⟨q,hq,e⟩:=h
 cases e
 exact⟨o,ho,rfl,hq⟩
structure SeesP (w0:World) (g:Nat) (lb:Array Value) (l:List Own) (ok:Nat->Prop) (v:Value) (I:List (List UInt8 × List UInt8)->(Nat->Prop)->World->Prop):Prop where
 owns:OwnsAre w0 ok l v
 cells:∀ d F W,I d F W->∀ a x,ok a.block->w0.cell? a=some x->W.cell? a=some x
 alloc:∀ d F W o,I d F W->I d (fun k=>F k\/k=W.heap.size) (W.alloc o)
 low:∀ d (F G:Nat->Prop) W,I d F W->(∀ k,G k->F k)->I d G W
 step:∀ d F W n p,I d F W->d++[(n,p)] <+: allOf l->Calls Tryz.prog g (#[.string ⟨n.toArray⟩,.string ⟨p.toArray⟩]++lb) W fun e w'=>e=.returned (.tuple #[])/\I (d++[(n,p)]) F w'/\W.heap.size<=w'.heap.size/\∀ k,F k->k < W.heap.size->w'.heap[k]?=W.heap[k]?
theorem owner_cells {w:World} {ok:Nat->Prop} {xs:List Own} {a:Option Addr} {n c k:Nat} (h:OwnsAre w ok xs (.slice a n c)) (hk:k < xs.length) :
 ∃ b off pa pc,a=some ⟨b,off,none⟩/\ok b/\xs.length<=c/\c<=9223372036854775807/\w.cell? ⟨b,off+k * 2,none⟩=some (.string ⟨xs[k].name.toArray⟩)/\w.cell? ⟨b,off+k * 2+1,none⟩=some (.slice pa xs[k].paths.length pc)/\StrsAre w ok xs[k].paths (.slice pa xs[k].paths.length pc):=by
 rcases h.2 with⟨e,_⟩ | ⟨b,off,c',e,h1,h2,h3⟩
 ·rw[e]at hk;simp at hk
 ·simp only[Value.slice.injEq]at e
  obtain⟨rfl,-,rfl⟩:=e
  obtain⟨a,n,c',g1,g2,g3,g4,g5⟩:=h3 k xs[k] (List.getElem?_eq_getElem hk)
  obtain⟨a9,c9,e9⟩:=g5.form
  simp only[Value.slice.injEq]at e9
  obtain⟨rfl,rfl,rfl⟩:=e9
  exact⟨b,off,a,c',rfl,g2,h1,h2,g3,g4,g5⟩
theorem strs_cellB {w:World} {ok:Nat->Prop} {xs:List (List UInt8)} {a:Option Addr} {n c k:Nat} (h:StrsAre w ok xs (.slice a n c)) (hk:k < xs.length):∃ b off,a=some ⟨b,off,none⟩/\ok b/\xs.length<=c/\c<=9223372036854775807/\w.cell? ⟨b,off+k,none⟩=some (.string ⟨xs[k].toArray⟩):=by
 rcases h.2 with⟨e,_⟩ | ⟨b,off,c',e,h1,h2,h3⟩
 ·rw[e]at hk;simp at hk
 ·simp only[Value.slice.injEq]at e
  obtain⟨rfl,-,rfl⟩:=e
  obtain⟨g1,g2,g3⟩:=h3 k xs[k] (List.getElem?_eq_getElem hk)
  exact⟨b,off,rfl,g2,h1,h2,g3⟩
set_option maxRecDepth 100000 in
set_option maxHeartbeats 4000000 in
theorem eachPath_at (w0 w:World) (ok:Nat->Prop) (l:List Own) (v:Value) (g:Nat) (lb:Array Value) (I:List (List UInt8 × List UInt8)->(Nat->Prop)->World->Prop) (F:Nat->Prop) (eg:∀ args w,(callFunc g args).run Tryz.prog w=.ok (.enter g args) w) (hs:SeesP w0 g lb l ok v I) (h0:I [] F w) :
 Calls Tryz.prog 48 #[v,.func (.func g) #[] lb] w fun e w'=>e=.returned (.tuple #[])/\I (allOf l) F w':=by
 have h:=hs.owns
 obtain⟨a,c,rfl⟩:=h.form
 have HS:=hidI hs
 have ll:=h.1
 unfold maxLen at ll
 have H0:=hidI h0
 clear hs h h0
 go_enter Tryz.func48,Tryz.ntmps48
 go_wp2_with fail
 go_loopg [10] l.length (fun gk i wr=>∃ k:Nat,k<=l.length/\gk=l.length - k/\i=.int .i64 k/\Hid (I (allOf (l.take k)) F wr))
 case atStart=>exact⟨0,Nat.zero_le _,rfl,rfl,H0⟩
 case round=>
  obtain⟨k,hk,hgk,rfl,IK⟩:=hrel
  have GK:=hidI hgk
  clear hgk
  obtain⟨wo,hwo⟩:∃ wo,wo=wr:=⟨wr,rfl⟩
  subst hwo
  by_cases hlt:k < l.length
  ·obtain⟨b,off,pa,pc,rfl,okb,j1,j2,k1,k2,k3⟩:=owner_cells HS.out.owns hlt
   replace k1:=HS.out.cells _ _ _ IK.out _ _ okb k1
   replace k2:=HS.out.cells _ _ _ IK.out _ _ okb k2
   have w2:(k:Int) < (l.length:Int):=by omega
   have w3:(0:Int)<=(k:Int):=by omega
   have AS:=hidI (allOf_step hlt)
   have PRE:Hid (∀ j (hj:j < l[k].paths.length),allOf (l.take k)++(l[k].paths.take j).map (fun p=>(l[k].name,p))++[(l[k].name,l[k].paths[j])] <+: allOf l):=hidI (fun j hj=>allOf_pre hlt hj)
   have pl:=k3.1
   unfold maxLen at pl
   obtain⟨o,ho⟩:∃ o,l[k]=o:=⟨_,rfl⟩
   rw[ho]at k1 k2 k3 AS pl
   have PRE2:Hid (∀ j (hj:j < o.paths.length),allOf (l.take k)++(o.paths.take j).map (fun p=>(o.name,p))++[(o.name,o.paths[j])] <+: allOf l):=hidI (by subst ho;exact PRE.out)
   clear PRE
   clear ho
   obtain⟨W5,hW5⟩:∃ W,W=wo.alloc (.cells #[.string ⟨o.name.toArray⟩,.slice pa o.paths.length pc] 41):=⟨_,rfl⟩
   have BX:Hid (W5.heap[wo.heap.size]?=some (.cells #[.string ⟨o.name.toArray⟩,.slice pa o.paths.length pc] 41)):=hidI (by rw[hW5];exact heap_alloc_new _ _)
   have I5:Hid (I (allOf (l.take k)) (fun k=>F k\/k=wo.heap.size) W5):=hidI (by rw[hW5];exact HS.out.alloc _ _ _ _ IK.out)
   have HW5:=hidI hW5
   clear hW5
   have K3:=hidI k3
   go_upto_region 3 with fail
   rw[<-HW5.out]
   clear k1 k2 k3
   obtain⟨q0,q1⟩:=box2 BX.out
   go_upto_region 4 with fail
   clear q0 q1
   go_loopg [17] o.paths.length (fun gj i wr=>∃ j:Nat,j<=o.paths.length/\gj=o.paths.length - j/\i=.int .i64 j/\Hid (I (allOf (l.take k)++(o.paths.take j).map fun p=>(o.name,p)) (fun k=>F k\/k=wo.heap.size) wr/\wr.heap[wo.heap.size]?=some (.cells #[.string ⟨o.name.toArray⟩,.slice pa o.paths.length pc] 41)))
   case atStart=>exact⟨0,Nat.zero_le _,rfl,rfl,hidI ⟨by simpa using I5.out,BX.out⟩⟩
   case round=>
    obtain⟨j,hj,hgj,rfl,J⟩:=hrel
    have GJ:=hidI hgj
    clear hgj
    by_cases hlj:j < o.paths.length
    ·obtain⟨pb,po,rfl,okp,m1,m2,m3⟩:=strs_cellB K3.out hlj
     replace m3:=HS.out.cells _ _ _ J.out.1 _ _ okp m3
     obtain⟨q0,q1⟩:=box2 J.out.2
     have x2:(j:Int) < (o.paths.length:Int):=by omega
     have x3:(0:Int)<=(j:Int):=by omega
     have CALL:=hidI (HS.out.step _ _ wr o.name o.paths[j] J.out.1 (PRE2.out j hlj))
     have BL:Hid (wo.heap.size < wr.heap.size):=hidI (Array.getElem?_eq_some_iff.1 J.out.2).1
     have TK:Hid ((o.paths.take (j+1)).map (fun p=>(o.name,p))=(o.paths.take j).map (fun p=>(o.name,p))++[(o.name,o.paths[j])]):=hidI (by rw[List.take_succ_eq_append_getElem hlj,List.map_append];rfl)
     go_wp2_with (go_at_fn g;refine CALL.out.mono ?_;rintro e w7 ⟨rfl,hi7,hs7,hk7⟩;have I7:=hidI hi7;have K7:=hidI (hk7 wo.heap.size (.inr rfl) BL.out);clear hi7 hs7 hk7)
     go_roundg (o.paths.length - (j+1))
     case measure=>rw[GJ.out];omega
     case rel=>exact⟨j+1,hlj,rfl,by go_num,hidI ⟨by rw[TK.out,<-List.append_assoc];exact I7.out,K7.out.trans J.out.2⟩⟩
    ·have y1:¬(j:Int) < (o.paths.length:Int):=by omega
     have IE:Hid (I (allOf (l.take (k+1))) F wr):=hidI (by
      rw[AS.out]
      have:=J.out.1
      rw[show o.paths.take j=o.paths from List.take_of_length_le (by omega)]at this
      exact HS.out.low _ _ _ _ this fun k hk=>Or.inl hk)
     clear J
     go_wp2_with fail
     go_roundg (l.length - (k+1))
     case measure=>rw[GK.out];omega
     case rel=>exact⟨k+1,hlt,rfl,by go_num,IE⟩
  ·have d1:¬(k:Int) < (l.length:Int):=by omega
   have IE:Hid (I (allOf l) F wo):=hidI (by have:=IK.out;rwa [List.take_of_length_le (by omega)]at this)
   clear IK
   go_wp2_with fail
   go_end0
   exact⟨rfl,IE.out⟩
end Go.Proofs.YtmdemcjmcnfjmaaGreatDoor
namespace Go.Proofs.YtmdemcjmcnfjmaaGreatDoor
open Go.ChangeShapes Go.WideShapes Go.ChangeAt Go.RowKit
set_option maxRecDepth 100000
theorem cellsOwner:Tryz.prog.cellsOf 41=2:=by kernel_rfl
theorem readableW:Tryz.prog.readableRec 26=true:=by kernel_rfl
theorem rowedW:26 < Tryz.prog.types.size:=of_decide_eq_true (by kernel_rfl)
def ownSum (o:Own):Nat:=(o.paths.map fun x=>x.length+1).sum
theorem sum_memN {l:List Nat} {n:Nat} (h:n∈l):n<=l.sum:=by
 induction l with
 | nil=>cases h
 | cons x r ih=>
  rw[List.sum_cons]
  rcases List.mem_cons.1 h with rfl | e
  ·omega
  ·have:=ih e;omega
theorem sum_len (l:List (List UInt8)):l.length<=(l.map fun x=>x.length+1).sum:=by
 induction l with
 | nil=>simp
 | cons x r ih=>simp only[List.map_cons,List.sum_cons,List.length_cons];omega
theorem allOf_sum (l:List Own):(allOf l).length<=(l.map ownSum).sum:=by
 induction l with
 | nil=>simp[allOf]
 | cons o r ih=>
  have h:=sum_len o.paths
  unfold allOf at ih ⊢
  simp only[List.flatMap_cons,List.length_append,List.length_map,List.map_cons,List.sum_cons]
  unfold ownSum
  unfold ownSum at ih
  omega
theorem path_sum {l:List Own} {o:Own} {x:List UInt8} (ho:o∈l) (hx:x∈o.paths):x.length<=(l.map ownSum).sum:=by
 have h1:ownSum o<=(l.map ownSum).sum:=sum_memN (List.mem_map.2 ⟨o,ho,rfl⟩)
 have h2:x.length+1<=ownSum o:=sum_memN (List.mem_map.2 ⟨x,hx,rfl⟩)
 omega
theorem own_of {H:Type} {enc:TypeId × Value->H} {W:World} (fuel:Nat) (cs:List Value) (x:DataW H × List MemPlace) (h:DataW.trod enc Tryz.prog W 0 (fun _=>true) true fuel 41 cs=some x) :
 ∃ o a n c,cs=[str o.name,.slice a n c]/\o.name.length<=maxLen/\StrsAre W (fun _=>True) o.paths (.slice a n c)/\ownSum o<=Rows.uptoBulk x.1:=by
 obtain⟨xs,n,e,hx,hl,hlen,hf⟩:=DataW.trod_struct Tryz.underlying41 h
 rw[cellsOwner]at hl
 match cs,hl,xs,hlen with
 | [v0,v1],_,[y0,y1],_=>
  have g0:DataW.trod enc Tryz.prog W 0 (fun _=>true) true n 9 [v0]=some y0:=by simpa [cellsString] using hf 0 _ rfl
  have g1:DataW.trod enc Tryz.prog W 0 (fun _=>true) true n 22 [v1]=some y1:=by simpa [cellsString,cellsStrs] using hf 1 _ rfl
  obtain⟨s1,e1,f1,hs1⟩:=DataW.trod_string Tryz.underlying9 g0
  obtain⟨ks,hks,hb⟩:=strs_full g1
  obtain⟨a,c,rfl⟩:=hks.form
  simp only[List.cons.injEq,and_true]at e1
  subst e1
  refine⟨⟨s1.data.toList,ks⟩,a,_,c,by unfold str;simp,by rw[Array.length_toList];exact hs1,hks,?_⟩
  rw[hx]
  simp only[List.map_cons,List.map_nil,Rows.uptoBulk,Rows.uptoBulkAll]
  have hs:ownSum ⟨s1.data.toList,ks⟩=(ks.map fun x=>x.length+1).sum:=rfl
  omega
theorem bulk_owns {H:Type}:∀ (l:List Own) (es:List (DataW H)),l.length=es.length->(∀ (i:Nat) (x:Own) (e:DataW H),l[i]?=some x->es[i]?=some e->ownSum x<=Rows.uptoBulk e)->(l.map ownSum).sum<=Rows.uptoBulkAll es
 | [],es,_,_=>by simp
 | x :: l,[],h,_=>by simp at h
 | x :: l,e :: es,h,hh=>by
  have h1:=hh 0 x e rfl rfl
  have h2:=bulk_owns l es (by simpa using h) fun i y f hy hf=>hh (i+1) y f (by simpa using hy) (by simpa using hf)
  simp only[List.map_cons,List.sum_cons,Rows.uptoBulkAll]
  omega
theorem arg_owns {H:Type} {enc:TypeId × Value->H} {W:World} {base:Nat} {v:Value} {d:DataW H} {p:List MemPlace} (hk:Value.okWide Tryz.prog W .any base 26 v) (h:DataW.Trod enc Tryz.prog W 0 (fun _=>true) true 26 v d p) :
 ∃ os,OwnsAre W (fun _=>True) os v/\(os.map ownSum).sum<=Rows.uptoBulk d:=by
 obtain⟨a0,len0,cap0,rfl⟩:=okWide_slice Tryz.underlying26 hk
 obtain⟨f,hf⟩:=h
 have hf':DataW.trod enc Tryz.prog W 0 (fun _=>true) true f 26 [.slice a0 len0 cap0]=some (d,p):=hf
 rcases DataW.trod_slice Tryz.underlying26 hf' with⟨e,-⟩ | ⟨a,len,cap,elems,rest,k,ek,e,hx,-,hl,hm,hlen,hel,hsp,-⟩
 ·simp only[List.cons.injEq,and_true]at e
  exact⟨[],⟨by simp,.inl ⟨rfl,none,e⟩⟩,by simp⟩
 ·simp only[List.cons.injEq,and_true]at e
  simp only[Prod.mk.injEq]at hx
  rw[cellsOwner]at hel hsp
  obtain⟨hrl,hrest⟩:=hsp rfl
  have all:∀ i,i < len->∃ cs' y,W.cells? 0 (a.add (i * 2)) 2=some cs'/\DataW.trod enc Tryz.prog W 0 (fun _=>true) true k 41 cs'=some y/\elems[i]?=some y:=by
   intro i hi
   have:=hel i hi
   rw[List.getElem?_eq_getElem (by omega)]at this
   obtain⟨cs',h1,h2⟩:=Option.bind_eq_some_iff.1 this
   exact⟨cs',_,h1,h2,List.getElem?_eq_getElem (by omega)⟩
  by_cases h0:len=0
  ·subst h0
   by_cases hc0:cap=0
   ·subst hc0
    exact⟨[],⟨by simp,.inl ⟨rfl,some a,e⟩⟩,by simp⟩
   ·have ha:a=⟨a.block,a.off,none⟩:=by
     have:=hrest 0 (by omega)
     rw[List.getElem?_eq_getElem (by omega)]at this
     obtain⟨cs',h1,-⟩:=Option.bind_eq_some_iff.1 this
     obtain⟨-,h2,h3⟩:=World.cells?_some h1
     have:=h3 0 (by omega)
     rw[List.getElem?_eq_getElem (by omega)]at this
     exact addr_plain (spot_none (v:=cs'[0]) (by simpa [Addr.add] using this))
    exact⟨[],⟨by simp,.inr ⟨a.block,a.off,cap,by rw[<-ha];exact e,by simp,hm,fun i o ho=>by simp at ho⟩⟩,by simp⟩
  ·have ha:a=⟨a.block,a.off,none⟩:=by
    obtain⟨cs',y,h1,-⟩:=all 0 (by omega)
    obtain⟨-,h2,h3⟩:=World.cells?_some h1
    have:=h3 0 (by omega)
    rw[List.getElem?_eq_getElem (by omega)]at this
    exact addr_plain (spot_none (v:=cs'[0]) (by simpa [Addr.add] using this))
   obtain⟨T,hT⟩:=@Go.Deep.choose_lt Own ⟨⟨[],[]⟩⟩ len (fun i o=>∃ a1 n1 c1 y,W.cells? 0 (a.add (i * 2)) 2=some [str o.name,.slice a1 n1 c1]/\o.name.length<=maxLen/\StrsAre W (fun _=>True) o.paths (.slice a1 n1 c1)/\elems[i]?=some y/\ownSum o<=Rows.uptoBulk y.1) (fun i hi=>by
    obtain⟨cs',y,h1,h2,h3⟩:=all i hi
    obtain⟨o,a1,n1,c1,rfl,hn,hs,hb⟩:=own_of k cs' y h2
    exact⟨o,a1,n1,c1,y,h1,hn,hs,h3,hb⟩)
   refine⟨(List.range len).map T,⟨by simp only[List.length_map,List.length_range];omega,.inr ⟨a.block,a.off,cap,by simp only[List.length_map,List.length_range];rw[<-ha];exact e,by simp only[List.length_map,List.length_range];omega,hm,fun i o ho=>?_⟩⟩,?_⟩
   ·simp only[List.getElem?_map,Option.map_eq_some_iff]at ho
    obtain⟨j,hj,rfl⟩:=ho
    obtain⟨hj1,hj2⟩:=List.getElem?_eq_some_iff.1 hj
    simp only[List.length_range]at hj1
    simp only[List.getElem_range]at hj2
    subst hj2
    obtain⟨a1,n1,c1,y,h1,hn,hs,-,-⟩:=hT i hj1
    obtain⟨-,-,h3⟩:=World.cells?_some h1
    rw[ha]at h3
    have c:∀ q,q < 2->W.cell? ⟨a.block,a.off+i * 2+q,none⟩=[str (T i).name,.slice a1 n1 c1][q]?:=by
     intro q hq
     have:=h3 q hq
     rw[addr_add,addr_add]at this
     exact this
    exact⟨a1,n1,c1,hn,trivial,c 0 (by omega),c 1 (by omega),hs⟩
   ·have hb:(((List.range len).map T).map ownSum).sum<=Rows.uptoBulkAll (elems.map (·.1)):=by
     refine bulk_owns _ _ (by simp[hlen]) fun i x f hx hf=>?_
     simp only[List.getElem?_map,Option.map_eq_some_iff]at hx hf
     obtain⟨j,hj,rfl⟩:=hx
     obtain⟨hj1,hj2⟩:=List.getElem?_eq_some_iff.1 hj
     simp only[List.length_range]at hj1
     simp only[List.getElem_range]at hj2
     subst hj2
     obtain⟨y',hy',rfl⟩:=hf
     obtain⟨a1,n1,c1,y,-,-,-,h3,h4⟩:=hT i hj1
     rw[hy']at h3
     cases h3
     exact h4
    rw[hx.1]
    simp only[Rows.uptoBulk]
    omega
end Go.Proofs.YtmdemcjmcnfjmaaGreatDoor
namespace Go.Proofs.YtmdemcjmcnfjmaaGreatDoor
open Go.ChangeShapes Go.WideShapes Go.ChangeAt Go.RowKit
def laidOw:List (String × DataW Unit):=[("math/bits.deBruijn32tab",Rows.laid_math_bits_deBruijn32tab),("math/bits.deBruijn64tab",Rows.laid_math_bits_deBruijn64tab),("internal/strconv.uint64pow10",Rows.laid_internal_strconv_uint64pow10),("unicode/utf8.acceptRanges",Rows.laid_unicode_utf8_acceptRanges),("strconv.ErrRange",Rows.laid_strconv_ErrRange),("strconv.ErrSyntax",Rows.laid_strconv_ErrSyntax),("unicode/utf8.first",Rows.laid_unicode_utf8_first)]
theorem glob_ow {W:World} (h:laidMet Tryz.prog laidOw W):Glob W:=by
 have h3:=h.tail.tail
 have h4:=h3.tail.tail
 have h5:=h4.tail
 rw[powData]at h3
 have hp:=Lib.tabIs_of_head gPow gPowType Tryz.underlying197 Tryz.underlying136 cellsU64 cellsPow h3
 obtain⟨a1,s1,hv1,-,-,-⟩:=laid_sentinel h4 gRange gRangeType Tryz.underlying76 rowErr Tryz.underlying193 Tryz.underlying195 rfl rfl Tryz.underlying9 cellsErrS cellsString
 obtain⟨a2,s2,hv2,-,-,-⟩:=laid_sentinel h5 gSyntax gSyntaxType Tryz.underlying76 rowErr Tryz.underlying193 Tryz.underlying195 rfl rfl Tryz.underlying9 cellsErrS cellsString
 obtain⟨t1,f1,e1⟩:=var_block gRange hv1
 obtain⟨t2,f2,e2⟩:=var_block gSyntax hv2
 obtain⟨t3,f3,e3⟩:=var_block gPow hp
 exact⟨⟨_,_,t2,f2,e2⟩,⟨_,_,t1,f1,e1⟩,t3,f3,e3⟩
noncomputable def owWorld (os:Os):World:=
 let w0:=World.holding Tryz.prog os ⟨#[.cells #[errText Rows.laid_strconv_ErrRange] 195,.cells #[errText Rows.laid_strconv_ErrSyntax] 195],#[],[]⟩
 { w0 with heap:=putAt (putAt (putAt (putAt (putAt (putAt (putAt w0.heap 6 (tabCells Rows.laid_math_bits_deBruijn32tab)) 7 (tabCells Rows.laid_math_bits_deBruijn64tab)) 5 (tabCells Rows.laid_internal_strconv_uint64pow10))
  2 (flatCells Rows.laid_unicode_utf8_acceptRanges)) 4 #[.iface 193 (.pointer (some ⟨low,0,none⟩))]) 3 #[.iface 193 (.pointer (some ⟨low+1,0,none⟩))]) 1 (flatCells Rows.laid_unicode_utf8_first) }
set_option maxRecDepth 100000 in
theorem ow_met (os:Os) (args:Array Value):laidMet Tryz.prog laidOw ((owWorld os).forCall (fun _ _=>0) ⟨#[],args,[]⟩).memory:=
 laidMet_of_run' 8 (by kernel_rfl) (by kernel_rfl)
end Go.Proofs.YtmdemcjmcnfjmaaGreatDoor
namespace Go.Proofs
open Go.Shelf
def Tryz.laysSort_ren:Go.Shelf.Ren:=⟨fun | 6=>33 | 15=>67 | 14=>66 | 28=>108 | 29=>109 | 20=>100 | 21=>101 | 22=>102 | 23=>103 | 24=>104 | 25=>105 | 26=>106 | 27=>107 | 46=>138 | 47=>139 | 48=>140 | 49=>141 | 50=>142 | 57=>156 | n=>n,fun | 22=>22 | 24=>9 | 25=>65 | 3=>3 | 39=>102 | 0=>0 | 53=>134 | 55=>136 | 4=>4 | 46=>128 | 45=>127 | 50=>92 | 5=>5 | 9=>9 | 66=>151 | 70=>68 | 76=>164 | 77=>165 | n=>n,fun | n=>n⟩
theorem Tryz.laysSort:Go.Proofs.SlLaysF.n6 Tryz.prog Tryz.laysSort_ren:={
 mixed:=by kernel_rfl
 f6:=⟨Tryz.f33.name,by decide,Tryz.func33.trans (congrArg some (by kernel_rfl))⟩
 f14:=⟨Tryz.f66.name,by decide,Tryz.func66.trans (congrArg some (by kernel_rfl))⟩
 f15:=Tryz.func67.trans (congrArg some (by kernel_rfl))
 f20:=⟨Tryz.f100.name,by decide,Tryz.func100.trans (congrArg some (by kernel_rfl))⟩
 f21:=⟨Tryz.f101.name,by decide,Tryz.func101.trans (congrArg some (by kernel_rfl))⟩
 f22:=⟨Tryz.f102.name,by decide,Tryz.func102.trans (congrArg some (by kernel_rfl))⟩
 f23:=⟨Tryz.f103.name,by decide,Tryz.func103.trans (congrArg some (by kernel_rfl))⟩
 f24:=⟨Tryz.f104.name,by decide,Tryz.func104.trans (congrArg some (by kernel_rfl))⟩
 f25:=⟨Tryz.f105.name,by decide,Tryz.func105.trans (congrArg some (by kernel_rfl))⟩
 f26:=⟨Tryz.f106.name,by decide,Tryz.func106.trans (congrArg some (by kernel_rfl))⟩
 f27:=⟨Tryz.f107.name,by decide,Tryz.func107.trans (congrArg some (by kernel_rfl))⟩
 f28:=Tryz.func108.trans (congrArg some (by kernel_rfl))
 f29:=Tryz.func109.trans (congrArg some (by kernel_rfl))
 f46:=⟨Tryz.f138.name,by decide,Tryz.func138.trans (congrArg some (by kernel_rfl))⟩
 f47:=Tryz.func139.trans (congrArg some (by kernel_rfl))
 f48:=Tryz.func140.trans (congrArg some (by kernel_rfl))
 f49:=⟨Tryz.f141.name,by decide,Tryz.func141.trans (congrArg some (by kernel_rfl))⟩
 f50:=⟨Tryz.f142.name,by decide,Tryz.func142.trans (congrArg some (by kernel_rfl))⟩
 f57:=⟨Tryz.f156.name,by decide,Tryz.func156.trans (congrArg some (by kernel_rfl))⟩
 t0:=Tryz.underlying0
 a0:=Tryz.isAgg0
 z0:=Tryz.sizeOf0
 v0:=Tryz.zeroValue0
 t3:=Tryz.underlying3
 a3:=Tryz.isAgg3
 z3:=Tryz.sizeOf3
 v3:=Tryz.zeroValue3
 t4:=Tryz.underlying4
 a4:=Tryz.isAgg4
 z4:=Tryz.sizeOf4
 v4:=Tryz.zeroValue4
 t5:=Tryz.underlying5
 a5:=Tryz.isAgg5
 z5:=Tryz.sizeOf5
 v5:=Tryz.zeroValue5
 t9:=Tryz.underlying9
 a9:=Tryz.isAgg9
 z9:=Tryz.sizeOf9
 v9:=Tryz.zeroValue9
 t22:=Tryz.underlying22
 a22:=Tryz.isAgg22
 z22:=Tryz.sizeOf22
 v22:=Tryz.zeroValue22
 a24:=Tryz.isAgg9
 z24:=Tryz.sizeOf9
 t25:=Tryz.underlying65
 a25:=Tryz.isAgg65
 z25:=Tryz.sizeOf65
 v25:=Tryz.zeroValue65
 t39:=Tryz.underlying102
 a39:=Tryz.isAgg102
 z39:=Tryz.sizeOf102
 v39:=Tryz.zeroValue102
 t45:=Tryz.underlying127
 a45:=Tryz.isAgg127
 z45:=Tryz.sizeOf127
 v45:=Tryz.zeroValue127
 t46:=Tryz.underlying128
 a46:=Tryz.isAgg128
 z46:=Tryz.sizeOf128
 v46:=Tryz.zeroValue128
 t50:=Tryz.underlying92
 a50:=Tryz.isAgg92
 z50:=Tryz.sizeOf92
 v50:=Tryz.zeroValue92
 t53:=Tryz.underlying134
 a53:=Tryz.isAgg134
 z53:=Tryz.sizeOf134
 v53:=Tryz.zeroValue134
 t55:=Tryz.underlying136
 a55:=Tryz.isAgg136
 z55:=Tryz.sizeOf136
 v55:=Tryz.zeroValue136
 t66:=Tryz.underlying151
 a66:=Tryz.isAgg151
 z66:=Tryz.sizeOf151
 v66:=Tryz.zeroValue151
 t70:=Tryz.underlying68
 a70:=Tryz.isAgg68
 z70:=Tryz.sizeOf68
 v70:=Tryz.zeroValue68
 t76:=Tryz.underlying164
 a76:=Tryz.isAgg164
 z76:=Tryz.sizeOf164
 v76:=Tryz.zeroValue164
 t77:=Tryz.underlying165
 a77:=Tryz.isAgg165
 z77:=Tryz.sizeOf165
 v77:=Tryz.zeroValue165 }
def Tryz.lays103_ren:Go.Shelf.Ren:=⟨fun | 103=>82 | 210=>125 | 206=>126 | n=>n,fun | 9=>9 | 4=>4 | 24=>114 | 3=>3 | n=>n,fun | n=>n⟩
theorem Tryz.lays103:Go.Proofs.Lays.n103 Tryz.prog Tryz.lays103_ren:={
 mixed:=by kernel_rfl
 f103:=Tryz.func82.trans (congrArg some (by kernel_rfl))
 f206:=Tryz.func126.trans (congrArg some (by kernel_rfl))
 f210:=Tryz.func125.trans (congrArg some (by kernel_rfl))
 t3:=Tryz.underlying3
 a3:=Tryz.isAgg3
 z3:=Tryz.sizeOf3
 v3:=Tryz.zeroValue3
 t4:=Tryz.underlying4
 a4:=Tryz.isAgg4
 z4:=Tryz.sizeOf4
 v4:=Tryz.zeroValue4
 t9:=Tryz.underlying9
 a9:=Tryz.isAgg9
 z9:=Tryz.sizeOf9
 v9:=Tryz.zeroValue9
 t24:=Tryz.underlying114
 a24:=Tryz.isAgg114
 z24:=Tryz.sizeOf114
 v24:=Tryz.zeroValue114 }
theorem Tryz.strings_CutPrefix (s p:ByteArray) (w:World) :
 Calls Tryz.prog 82 #[.string s,.string p] w fun e w'=>e=.returned (.tuple #[.string ⟨(Lib.trimPrefix s.data.toList p.data.toList).toArray⟩,.bool (Lib.hasPrefix s.data.toList p.data.toList)])/\w'=w:=Any.strings_CutPrefix Tryz.lays103 s p w
def Tryz.lays106o_ren:Go.Shelf.Ren:=⟨fun | 106=>34 | 213=>68 | 265=>110 | n=>n,fun | 9=>9 | 3=>3 | n=>n,fun | n=>n⟩
theorem Tryz.lays106o:Go.Proofs.Lays.n106 Tryz.prog Tryz.lays106o_ren:={
 mixed:=by kernel_rfl
 f106:=Tryz.func34.trans (congrArg some (by kernel_rfl))
 f213:=Tryz.func68.trans (congrArg some (by kernel_rfl))
 f265:=Tryz.func110.trans (congrArg some (by kernel_rfl))
 t3:=Tryz.underlying3
 a3:=Tryz.isAgg3
 z3:=Tryz.sizeOf3
 v3:=Tryz.zeroValue3
 t9:=Tryz.underlying9
 a9:=Tryz.isAgg9
 z9:=Tryz.sizeOf9
 v9:=Tryz.zeroValue9 }
theorem Tryz.strCompare (a b:ByteArray) (w:World) :
 Calls Tryz.prog 34 #[.string a,.string b] w fun e w'=>e=.returned (.int .i64 (Lib.compareBytes a.data.toList b.data.toList))/\w'=w:=Any.strings_Compare Tryz.lays106o a b w
end Go.Proofs
namespace Go.Proofs.YtmdemcjmcnfjmaaGreatDoor
open Go.RowKit
theorem cut_above (p q:List UInt8):(Lib.hasPrefix q p&&Lib.hasPrefix (Lib.trimPrefix q p) [47])=(p++[47]).isPrefixOf q:=by
 unfold Lib.trimPrefix Lib.hasPrefix
 by_cases h:p.isPrefixOf q=true
 ·obtain⟨r,rfl⟩:=List.isPrefixOf_iff_prefix.1 h
  rw[h,if_pos rfl,List.drop_left,Bool.true_and]
  rw[Bool.eq_iff_iff,List.isPrefixOf_iff_prefix,List.isPrefixOf_iff_prefix,List.prefix_append_right_inj]
 ·have h2:p.isPrefixOf q=false:=Bool.eq_false_iff.2 h
  have h3:(p++[47]).isPrefixOf q=false:=by
   rw[Bool.eq_false_iff]
   intro h9
   obtain⟨r,rfl⟩:=List.isPrefixOf_iff_prefix.1 h9
   exact h (List.isPrefixOf_iff_prefix.2 ⟨[47]++r,by simp⟩)
  rw[h2,h3];rfl
set_option maxRecDepth 100000 in
set_option maxHeartbeats 4000000 in
theorem above_at (w:World) (p q:List UInt8) :
 Calls Tryz.prog 55 #[str p,str q] w fun e w'=>e=.returned (.bool ((p++[47]).isPrefixOf q))/\w'=w:=by
 have CA:=hidI (cut_above p q)
 unfold str
 have hpx:=Tryz.strings_CutPrefix ⟨q.toArray⟩ ⟨p.toArray⟩ w
 simp only[List.toList_toArray]at hpx
 go_enter Tryz.func55,Tryz.ntmps55
 go_wp2_with fail
 refine hpx.mono ?_
 rintro e w1 ⟨rfl,hw1⟩
 have hw2:=hw1.symm
 subst hw2
 clear hpx hw1
 cases hb:Lib.hasPrefix q p with
 | false=>
  have R:Hid ((p++[47]).isPrefixOf q=false):=hidI (by rw[<-CA.out,hb];rfl)
  clear hb
  go_wp2_with fail
  go_ret
  exact⟨by rw[R.out];first | done | rfl,rfl⟩
 | true=>
  have R:Hid ((p++[47]).isPrefixOf q=Lib.hasPrefix (Lib.trimPrefix q p) [47]):=hidI (by rw[<-CA.out,hb];rfl)
  clear hb
  have hpy:=Tryz.strings_HasPrefix ⟨(Lib.trimPrefix q p).toArray⟩ ⟨#[47]⟩ w
  simp only[List.toList_toArray]at hpy
  go_wp2_with fail
  refine hpy.mono ?_
  rintro e w2 ⟨rfl,hw3⟩
  have hw4:=hw3.symm
  subst hw4
  clear hpy hw3
  go_wp2_with fail
  go_ret
  exact⟨by rw[R.out];first | done | rfl,rfl⟩
end Go.Proofs.YtmdemcjmcnfjmaaGreatDoor
