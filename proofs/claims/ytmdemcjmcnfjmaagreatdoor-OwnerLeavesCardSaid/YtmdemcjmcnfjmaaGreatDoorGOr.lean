/- An object is made of its leaves, plainly. -/
import Derived.Test.YtmdemcjmcnfjmaaGreatDoorGOq
set_option linter.unusedSimpArgs false
set_option linter.unusedVariables false
namespace Go.Proofs.YtmdemcjmcnfjmaaGreatDoor
open Go.RowKit
open Go.Lib (index count replaceK replaceAll split splitK)
def SubD:Nat->V->V->Prop
 | 0,_,_=>False
 | D+1,a,b=>a=b\/Ob a/\Ob b/\∀ k x,memV a k=some x->∃ y,memV b k=some y/\SubD D x y
theorem sub_mem {D:Nat} {a b x:V} {k:List UInt8} (h:SubD (D+1) a b) (hb:HO (D+1) b) (hx:memV a k=some x):∃ y,memV b k=some y/\SubD D x y:=by
 rcases h with rfl | ⟨-,-,h⟩
 ·refine⟨x,hx,?_⟩
  have:=hb.2 x (mem_in hx)
  cases D with
  | zero=>exact this.elim
  | succ D=>exact .inl rfl
 ·exact h k x hx
theorem sub_ob {D:Nat} {a b:V} (h:SubD (D+1) a b) (hb:Ob b):Ob a:=by
 rcases h with rfl | ⟨h,-,-⟩
 ·exact hb
 ·exact h
theorem sub_kind {D:Nat} {a b:V} (h:SubD D a b):a.kind=b.kind:=by
 cases D with
 | zero=>exact h.elim
 | succ D=>
  rcases h with rfl | ⟨h1,h2,-⟩
  ·rfl
  ·rw[h1.1,h2.1]
theorem sub_thr:∀ (ns:List (List UInt8)) (D:Nat) (a b x:V),SubD D a b->HO D b->thr ns a=some x->∃ y E,thr ns b=some y/\SubD E x y/\HO E y
 | [],D,a,b,x,h,hb,hx=>by cases hx;exact⟨b,D,rfl,h,hb⟩
 | n :: ns,0,a,b,x,h,hb,hx=>h.elim
 | n :: ns,D+1,a,b,x,h,hb,hx=>by
  obtain⟨-,z,hm,hz⟩:=thr_kind hx
  obtain⟨y,h1,h2⟩:=sub_mem h hb hm
  obtain⟨u,E,g1,g2⟩:=sub_thr ns D z y x h2 (hb.2 y (mem_in h1)) hz
  exact⟨u,E,by rw[thr,h1];exact g1,g2⟩
theorem sum_pairs {f:V->Nat}:∀ (ps qs:List (List UInt8 × V)),(ps.map Prod.fst).Nodup->(∀ p∈ps,∃ y,(p.1,y)∈qs/\f p.2<=f y)->(ps.map fun p=>f p.2).sum<=(qs.map fun p=>f p.2).sum
 | [],qs,_,_=>by simp
 | p :: ps,qs,hn,h=>by
  rw[List.map_cons,List.nodup_cons]at hn
  obtain⟨y,hy,hle⟩:=h p (by simp)
  obtain⟨s,t,rfl⟩:=List.append_of_mem hy
  have ih:=sum_pairs ps (s++t) hn.2 fun q hq=>by
   obtain⟨z,hz,hl⟩:=h q (by simp[hq])
   refine⟨z,?_,hl⟩
   have hne:q.1≠p.1:=fun e=>hn.1 (by rw[<-e];exact List.mem_map.2 ⟨q,hq,rfl⟩)
   rw[List.mem_append,List.mem_cons]at hz
   rcases hz with hz | hz | hz
   ·exact List.mem_append.2 (.inl hz)
   ·exact absurd (congrArg Prod.fst hz) hne
   ·exact List.mem_append.2 (.inr hz)
  simp only[List.map_append,List.map_cons,List.sum_append,List.sum_cons]at ih ⊢
  omega
theorem sum_zip {f:V->Nat} {t:V} (h:t.keys.length=t.l.length):((t.keys.zip t.l).map fun p=>f p.2).sum=(t.l.map f).sum:=by
 have e:(t.keys.zip t.l).map (fun p=>f p.2)=((t.keys.zip t.l).map Prod.snd).map f:=by rw[List.map_map];rfl
 rw[e,List.map_snd_zip (by omega)]
theorem sub_good:∀ (D:Nat) (a b:V),SubD D a b->GoodT D b->GoodT D a/\szD D a<=szD D b
 | 0,_,_,h,_=>h.elim
 | D+1,a,b,h,hb=>by
  rcases h with rfl | ⟨h1,h2,h3⟩
  ·exact⟨hb,Nat.le_refl _⟩
  have hit:∀ p∈a.keys.zip a.l,∃ y,(p.1,y)∈b.keys.zip b.l/\SubD D p.2 y:=fun p hp=>by
   obtain⟨y,g1,g2⟩:=h3 p.1 p.2 (mem_of_zip h1 hp)
   exact⟨y,zip_of_mem h2 g1,g2⟩
  have hall:∀ p∈a.keys.zip a.l,∃ y,(p.1,y)∈b.keys.zip b.l/\GoodT D p.2/\szD D p.2<=szD D y:=fun p hp=>by
   obtain⟨y,g1,g2⟩:=hit p hp
   obtain⟨g3,g4⟩:=sub_good D p.2 y g2 (hb.2 y (List.of_mem_zip g1).2)
   exact⟨y,g1,g3,g4⟩
  refine⟨⟨?_,fun x hx=>?_⟩,?_⟩
  ·have hr:riseFrom none a.keys=true:=by
    refine rise_of none (fun _ h=>by cases h) h1.2.2.2.2 fun k hk=>?_
    obtain⟨i,hi,rfl⟩:=List.getElem_of_mem hk
    have hi2:i < a.l.length:=by rw[<-h1.2.2.2.1];exact hi
    obtain⟨y,g1,-⟩:=hit (a.keys[i],a.l[i]) (by rw[<-List.getElem_zip (h:=by simp;omega)];exact List.getElem_mem _)
    exact(rise_pair _ _ (shaped_object hb.1 h2.1).2.1).2.2 _ (List.of_mem_zip g1).1
   obtain⟨e1,e2,e3,e4,e5⟩:=h1
   simp[shapedB,e1,e2,e3,e4,hr]
  ·obtain⟨i,hi,rfl⟩:=List.getElem_of_mem hx
   have hi2:i < a.keys.length:=by rw[h1.2.2.2.1];exact hi
   obtain⟨y,-,g2,-⟩:=hall (a.keys[i],a.l[i]) (by rw[<-List.getElem_zip (h:=by simp;omega)];exact List.getElem_mem _)
   exact g2
  ·unfold szD
   rw[<-sum_zip h1.2.2.2.1,<-sum_zip h2.2.2.2.1]
   have:=sum_pairs (f:=szD D) (a.keys.zip a.l) (b.keys.zip b.l) (ob_nodup h1) fun p hp=>by
    obtain⟨y,g1,-,g3⟩:=hall p hp
    exact⟨y,g1,g3⟩
   omega
theorem sub_goodV {a b:V} (h:SubD 12 a b) (hb:goodV b=true):goodV a=true:=by
 rw[good_iff]at hb ⊢
 obtain⟨h1,h2⟩:=sub_good 12 a b h hb.1
 exact⟨h1,by omega⟩
theorem down_laid {x:V}:∀ (ns:List (List UInt8)) (w y:V),Obs w->ns≠[]->thr ns.dropLast w=some y->y.kind=5->(∀ z,thr ns w=some z->z.kind=5->x.kind=5->z=x)->downV (addedV x) ns w=some (laidF ns w x)
 | [],w,y,_,h,_,_,_=>absurd rfl h
 | [n],w,y,hw,_,ht,hk,hz=>by
  cases ht
  unfold downV addedV laidF laidF
  have e:objOf w=w:=by simp[objOf,hk]
  rw[if_pos hk,e]
  split
  ·rename_i hc
   cases hm:memV w n with
   | none=>rw[hm]at hc;simp[zeroT]at hc
   | some z=>
    rw[hm,Option.getD_some]at hc
    rw[Option.getD_some,hz z (by rw[thr,hm];rfl) hc.1 hc.2]
  ·rfl
 | n :: m :: r,w,y,hw,_,ht,hk,hz=>by
  rw[List.dropLast_cons_cons]at ht
  obtain⟨hwk,z,hm,hz2⟩:=thr_kind ht
  have ih:=down_laid (x:=x) (m :: r) z y (obs_mem hw hm) (by simp) hz2 hk fun u hu=>hz u (by rw[thr,hm];exact hu)
  have e:objOf w=w:=by simp[objOf,hwk]
  have hmt:meantV w n=some z:=by unfold meantV;rw[hwk,if_neg (by decide)];exact hm
  rw[downV,hmt,Option.bind_some,ih,Option.bind_some]
  unfold replacedV
  rw[hmt,Option.bind_some,if_pos hwk]
  conv=>rhs;unfold laidF
  rw[e,hm,Option.getD_some]
theorem sub_laid:∀ (ns:List (List UInt8)) (D:Nat) (w v x z:V),SubD D w v->HO D v->thr ns v=some z->(x=z\/x=objT/\Ob z)->(∀ n r,ns=n :: r->r≠[]->∃ y,memV w n=some y)->(∀ i,i < ns.length->∃ y,thr (ns.take i) w=some y)->SubD D (laidF ns w x) v
 | [],D,w,v,x,z,h,hv,hz,hx,_,_=>by
  cases hz
  unfold laidF
  split
  ·exact h
  ·cases D with
   | zero=>exact h.elim
   | succ D=>
    rcases hx with rfl | ⟨rfl,ho⟩
    ·exact .inl rfl
    ·exact .inr ⟨ob_objT,ho,fun k x hk=>by rw[mem_objT]at hk;cases hk⟩
 | n :: ns,0,w,v,x,z,h,_,_,_,_,_=>h.elim
 | n :: ns,D+1,w,v,x,z,h,hv,hz,hx,hm1,hp=>by
  obtain⟨hvk,v',hm,hz2⟩:=thr_kind hz
  have hob:=hv.1 hvk
  have how:=sub_ob h hob
  have e:objOf w=w:=by simp[objOf,how.1]
  unfold laidF
  rw[e]
  have hv':HO D v':=hv.2 v' (mem_in hm)
  refine .inr ⟨ob_with how n _,hob,fun k y hk=>?_⟩
  by_cases hkn:k=n
  ·subst hkn
   rw[mem_with how.paired]at hk
   cases hk
   refine⟨v',hm,?_⟩
   cases hw:memV w k with
   | none=>
    have hns:ns=[]:=by
     apply Classical.byContradiction
     intro hne
     obtain⟨y,hy⟩:=hm1 k ns rfl hne
     rw[hw]at hy;cases hy
    subst hns
    cases hz2
    rw[Option.getD_none]
    unfold laidF
    rw[if_neg (fun h9=>by simp[zeroT]at h9)]
    cases D with
    | zero=>exact hv'.elim
    | succ D=>
     rcases hx with rfl | ⟨rfl,ho⟩
     ·exact .inl rfl
     ·exact .inr ⟨ob_objT,ho,fun k x hk=>by rw[mem_objT]at hk;cases hk⟩
   | some w'=>
    rw[Option.getD_some]
    obtain⟨u,h1,h2⟩:=sub_mem h hv hw
    rw[hm]at h1;cases h1
    refine sub_laid ns D w' v' x z h2 hv' hz2 hx (fun a r ha hr=>?_) (fun i hi=>?_)
    ·subst ha
     obtain⟨y,hy⟩:=hp 2 (by cases r with | nil=>exact absurd rfl hr | cons b r=>simp)
     rw[List.take_succ_cons,List.take_succ_cons,List.take_zero,thr,hw,Option.bind_some,thr]at hy
     cases h9:memV w' a with
     | none=>rw[h9]at hy;cases hy
     | some q=>exact⟨q,rfl⟩
    ·obtain⟨y,hy⟩:=hp (i+1) (by simpa using hi)
     rw[List.take_succ_cons,thr,hw]at hy
     exact⟨y,hy⟩
  ·rw[mem_other how.paired _ _ _ hkn]at hk
   exact sub_mem h hv hk
theorem lvs_some:∀ (D:Nat) (v:V),HO D v->v.kind=5->v.l≠[]->∃ ns,ns∈lvs D v
 | 0,_,h,_,_=>h.elim
 | D+1,v,h,hk,hl=>by
  have hob:=h.1 hk
  obtain⟨x,hx⟩:=List.exists_mem_of_ne_nil _ hl
  obtain⟨i,hi,rfl⟩:=List.getElem_of_mem hx
  have hi2:i < v.keys.length:=by rw[hob.2.2.2.1];exact hi
  have hp:(v.keys[i],v.l[i])∈v.keys.zip v.l:=by rw[<-List.getElem_zip (h:=by simp;omega)];exact List.getElem_mem _
  unfold lvs
  by_cases hc:v.l[i].kind=5/\v.l[i].l≠[]
  ·obtain⟨ns,hn⟩:=lvs_some D v.l[i] (h.2 _ hx) hc.1 hc.2
   exact⟨v.keys[i] :: ns,List.mem_flatMap.2 ⟨_,hp,by rw[if_pos hc];exact List.mem_map.2 ⟨ns,hn,rfl⟩⟩⟩
  ·exact⟨[v.keys[i]],List.mem_flatMap.2 ⟨_,hp,by rw[if_neg hc];simp⟩⟩
theorem sub_all:∀ (D:Nat) (a b:V),SubD D a b->HO D b->b.kind=5->(∀ ns∈lvs D b,thr ns a=thr ns b)->a=b
 | 0,_,_,h,_,_,_=>h.elim
 | D+1,a,b,h,hb,hk,hl=>by
  have hob:=hb.1 hk
  have hoa:=sub_ob h hob
  refine ob_ext hoa hob fun k=>?_
  cases hm:memV b k with
  | none=>
   cases ha:memV a k with
   | none=>rfl
   | some x=>
    obtain⟨y,h1,-⟩:=sub_mem h hb ha
    rw[hm]at h1;cases h1
  | some y=>
   have hp:=zip_of_mem hob hm
   have hy:HO D y:=hb.2 y (mem_in hm)
   by_cases hc:y.kind=5/\y.l≠[]
   ·have hin:∀ r∈lvs D y,k :: r∈lvs (D+1) b:=fun r hr=>by
     unfold lvs
     exact List.mem_flatMap.2 ⟨_,hp,by rw[if_pos hc];exact List.mem_map.2 ⟨r,hr,rfl⟩⟩
    have hth:∀ r∈lvs D y,∃ x,memV a k=some x/\thr r x=thr r y:=fun r hr=>by
     have:=hl _ (hin r hr)
     obtain⟨z,hz,-⟩:=lvs_thr D y r hy hc.1 hr
     rw[thr,thr,hm,Option.bind_some,hz]at this
     cases ha:memV a k with
     | none=>rw[ha]at this;cases this
     | some x=>rw[ha]at this;exact⟨x,rfl,by rw[hz];exact this⟩
    obtain⟨r,hr⟩:=lvs_some D y hy hc.1 hc.2
    obtain⟨x,hx,-⟩:=hth r hr
    obtain⟨u,h1,h2⟩:=sub_mem h hb hx
    rw[hm]at h1;cases h1
    rw[hx,sub_all D x y h2 hy hc.1 fun r hr=>by
     obtain⟨x',hx',e⟩:=hth r hr
     rw[hx]at hx';cases hx';exact e]
   ·have hin:[k]∈lvs (D+1) b:=by
     unfold lvs
     exact List.mem_flatMap.2 ⟨_,hp,by rw[if_neg hc];simp⟩
    have:=hl _ hin
    rw[thr,thr,hm]at this
    cases ha:memV a k with
    | none=>rw[ha]at this;cases this
    | some x=>rw[ha]at this;cases this;rfl
def MadeK (v:V) (L:List (List UInt8)) (k:Nat) (w:V):Prop:=SubD 12 w v/\∀ p∈L.take k,thr (namesP p) w=thr (namesP p) v
def MadeI (v:V) (L:List (List UInt8)) (k:Nat) (ns:List (List UInt8)) (i:Nat) (w:V):Prop:=MadeK v L k w/\∀ j,j < i->∃ y,thr (ns.take j) w=some y/\y.kind=5
theorem made_start {v:V} (hk:v.kind=5) (hg:goodV v=true):MadeK v (leavesF v) 0 objT:=by
 refine⟨.inr ⟨ob_objT,(obs_good hg).ob hk,fun k x h=>by rw[mem_objT]at h;cases h⟩,fun p hp=>by simp at hp⟩
theorem made_end {v w:V} (hk:v.kind=5) (hg:goodV v=true) (h:MadeK v (leavesF v) (leavesF v).length w):w=v:=by
 have O:=leaves_ok hk hg
 refine sub_all 12 w v h.1 ((goodV_tree hg).ho) hk fun ns hn=>?_
 obtain⟨p,hp,rfl⟩:=List.mem_map.1 ((O.names ns).2 hn)
 exact h.2 p (by rw[List.take_length];exact hp)
theorem made_good {v w:V} {L:List (List UInt8)} {k:Nat} (hg:goodV v=true) (h:MadeK v L k w):goodV w=true:=sub_goodV h.1 hg
theorem leaf_at {v:V} (hk:v.kind=5) (hg:goodV v=true) {p:List UInt8} (hp:p∈leavesF v):splitP p=(namesP p,0)/\namesP p≠[]/\joinP (namesP p)=p/\∃ x,getR (splitP p) v=(x,0)/\thr (namesP p) v=some x/\LeafV x:=by
 have O:=leaves_ok hk hg
 obtain⟨h1,h2,h3⟩:=gp_names (O.good p hp)
 obtain⟨x,h4,h5⟩:=lvs_thr 12 v (namesP p) ((goodV_tree hg).ho) hk ((O.names _).1 (List.mem_map.2 ⟨p,hp,rfl⟩))
 exact⟨h1,h2,h3,x,by rw[h1];exact get_ok rfl hg (thr_get _ _ _ h4),h4,h5⟩
theorem thr_take:∀ (ns:List (List UInt8)) (v x:V) (i:Nat),thr ns v=some x->i < ns.length->∃ z,thr (ns.take i) v=some z/\z.kind=5/\z.l≠[]
 | [],v,x,i,_,hi=>by simp at hi
 | n :: ns,v,x,0,h,_=>⟨v,rfl,(thr_kind h).1,thr_items h (by simp)⟩
 | n :: ns,v,x,i+1,h,hi=>by
  obtain⟨-,z,hm,hz⟩:=thr_kind h
  obtain⟨y,h1,h2⟩:=thr_take ns z x i hz (by simpa using hi)
  exact⟨y,by rw[List.take_succ_cons,thr,hm];exact h1,h2⟩
theorem thr_more:∀ (a b:List (List UInt8)) (v:V),thr (a++b) v=(thr a v).bind (thr b)
 | [],b,v=>rfl
 | n :: a,b,v=>by
  rw[List.cons_append,thr,thr,Option.bind_assoc]
  congr 1
  funext y
  exact thr_more a b y
theorem join_take_len:∀ (ns:List (List UInt8)) (i:Nat),(joinP (ns.take i)).length<=(joinP ns).length
 | [],i=>by simp
 | n :: ns,0=>by simp[joinP]
 | n :: ns,i+1=>by
  have:=join_take_len ns i
  rw[List.take_succ_cons,join_cons,join_cons]
  simp only[List.length_cons,List.length_append]
  omega
theorem made_begin {v w:V} {L:List (List UInt8)} {k:Nat} {ns:List (List UInt8)} (hk:v.kind=5) (h:MadeK v L k w):MadeI v L k ns 1 w:=
 ⟨h,fun j hj=>by
  have:j=0:=by omega
  subst this
  exact⟨w,rfl,by rw[sub_kind h.1];exact hk⟩⟩
theorem pre_split {a b:List (List UInt8)} (h:a <+: b):∃ c,b=a++c:=by obtain⟨c,hc⟩:=h;exact⟨c,hc.symm⟩
theorem apart_before {v:V} {k:Nat} {p q:List UInt8} (hk:v.kind=5) (hg:goodV v=true) (hp:(leavesF v)[k]?=some p) (hq:q∈(leavesF v).take k):Apart (namesP q) (namesP p):=by
 have O:=leaves_ok hk hg
 obtain⟨i9,hi9,e9⟩:=List.getElem_of_mem hq
 rw[List.length_take]at hi9
 rw[List.getElem_take]at e9
 obtain⟨hk9,e10⟩:=List.getElem?_eq_some_iff.1 hp
 have:=List.pairwise_iff_getElem.1 O.apart i9 k (by simp;omega) (by simpa using hk9) (by omega)
 rw[List.getElem_map,List.getElem_map,e9,e10]at this
 exact this
theorem made_step {v w:V} {k i:Nat} {p:List UInt8} (hk:v.kind=5) (hg:goodV v=true) (hp:(leavesF v)[k]?=some p) (h1:1<=i) (hi:i < (namesP p).length) (h:MadeI v (leavesF v) k (namesP p) i w) :
 splitP (joinP ((namesP p).take i))=((namesP p).take i,0)/\((getR ((namesP p).take i,0) w).2=0/\MadeI v (leavesF v) k (namesP p) (i+1) w \/
  (getR ((namesP p).take i,0) w).2≠0/\∃ w',layR addedV (joinP ((namesP p).take i)) ((namesP p).take i,0) w objT=(w',0)/\MadeI v (leavesF v) k (namesP p) (i+1) w'):=by
 have O:=leaves_ok hk hg
 have hpm:=List.mem_of_getElem? hp
 obtain⟨s1,s2,s3,x,g1,g2,g3⟩:=leaf_at hk hg hpm
 have hlen:=(split_len s1).1
 have hapA:∀ q∈(leavesF v).take k,Apart (namesP q) (namesP p):=fun q hq=>apart_before hk hg hp hq
 generalize namesP p=ns at *
 have hne:ns.take i≠[]:=fun e=>by rw[List.take_eq_nil_iff]at e;rcases e with e | e;omega;exact s2 e
 have hsp:=split_join (ns.take i) (by have:=join_take_len ns i;rw[s3]at this;omega)
 refine⟨hsp,?_⟩
 have ho:=obs_good hg
 have hho:=(goodV_tree hg).ho
 obtain⟨hm,hpre⟩:=h
 have hwg:=made_good hg hm
 have how:=obs_good hwg
 obtain⟨z,z1,z2,z3⟩:=thr_take ns v x i g2 hi
 have hob:Ob z:=(obs_thr _ _ _ ho z1).ob z2
 cases ht:thr (ns.take i) w with
 | some y=>
  refine .inl ⟨by rw[get_ok rfl hwg (thr_get _ _ _ ht)],hm,fun j hj=>?_⟩
  by_cases hji:j < i
  ·exact hpre j hji
  ·have:j=i:=by omega
   subst this
   obtain⟨z',E,e1,e2,-⟩:=sub_thr _ 12 w v y hm.1 hho ht
   rw[z1]at e1;cases e1
   exact⟨y,ht,by rw[sub_kind e2];exact z2⟩
 | none=>
  obtain⟨y,hy,hyk⟩:=hpre (i - 1) (by omega)
  have hdl:(ns.take i).dropLast=ns.take (i - 1):=by
   rw[List.dropLast_eq_take,List.length_take,List.take_take];congr 1;omega
  have hdown:=down_laid (x:=objT) (ns.take i) w y how hne (by rw[hdl];exact hy) hyk (fun u hu=>by rw[ht]at hu;cases hu)
  have hsub:SubD 12 (laidF (ns.take i) w objT) v:=by
   refine sub_laid (ns.take i) 12 w v objT z hm.1 hho z1 (.inr ⟨rfl,hob⟩) (fun n r hr hr2=>?_) (fun j hj=>?_)
   ·have:1 < i:=by
     have hl:(ns.take i).length=1+r.length:=by rw[hr];simp;omega
     rw[List.length_take]at hl
     have:0 < r.length:=List.length_pos_iff.2 hr2
     omega
    obtain⟨y1,hy1,-⟩:=hpre 1 this
    have e1:ns.take 1=[n]:=by
     cases ns with
     | nil=>exact absurd rfl s2
     | cons m ms=>
      have:i=(i - 1)+1:=by omega
      rw[this,List.take_succ_cons,List.cons.injEq]at hr
      rw[List.take_succ_cons,List.take_zero,hr.1]
    rw[e1,thr]at hy1
    cases h9:memV w n with
    | none=>rw[h9]at hy1;cases hy1
    | some q=>exact⟨q,rfl⟩
   ·rw[List.length_take]at hj
    obtain⟨y1,hy1,-⟩:=hpre j (by omega)
    rw[List.take_take,show min j i=j by omega]
    exact⟨y1,hy1⟩
  have hgw:=sub_goodV hsub hg
  have hget:getV (ns.take i) w=none:=by
   have e:ns.take i=ns.take (i - 1)++[ns[i - 1]'(by omega)]:=by
    conv=>lhs;rw[show i=(i - 1)+1 by omega]
    rw[List.take_succ_eq_append_getElem (by omega)]
   have ga:∀ (a:List (List UInt8)) (b:List UInt8) (u y:V),thr a u=some y->getV (a++[b]) u=(meantV y b):=by
    intro a
    induction a with
    | nil=>intro b u y h;cases h;simp[getV]
    | cons n a ih=>
     intro b u y h
     obtain⟨hk,z,hm,hz⟩:=thr_kind h
     rw[List.cons_append,getV,meantV,hk,if_neg (by decide),hm,Option.bind_some]
     exact ih b z y hz
   rw[e,ga _ _ _ _ hy]
   rw[e,thr_more,hy,Option.bind_some,thr]at ht
   unfold meantV
   rw[hyk,if_neg (by decide)]
   cases h9:memV y (ns[i - 1]'(by omega)) with
   | none=>rfl
   | some q=>rw[h9]at ht;cases ht
  refine .inr ⟨?_,laidF (ns.take i) w objT,?_,⟨hsub,fun q hq=>?_⟩,fun j hj=>?_⟩
  ·unfold getR;simp[hwg,hget]
  ·unfold layR changeR
   rw[show goodV objT=true by decide]
   have hj:joinP (ns.take i)≠[]:=by
    cases h9:ns.take i with
    | nil=>exact absurd h9 hne
    | cons a b=>rw[join_cons];simp
   simp[hj,hne,hwg,hdown,hgw]
  ·have hq2:=hm.2 q hq
   have hap:=hapA q hq
   obtain⟨u,hu⟩:∃ u,thr (namesP q) v=some u:=by
    obtain⟨-,-,-,u,-,hu,-⟩:=leaf_at hk hg (List.mem_of_mem_take hq)
    exact⟨u,hu⟩
   rw[thr_laid_far _ _ _ _ how ?_ ?_]
   ·exact hq2
   ·intro hpr
    obtain⟨c,hc⟩:=pre_split hpr
    rw[hu,hc,thr_more,ht]at hq2
    cases hq2
   ·intro hpr
    exact hap.1 (hpr.trans (List.take_prefix _ _))
  ·by_cases hji:j < i
   ·obtain⟨y1,hy1,hk1⟩:=hpre j hji
    have hsplit:ns.take i=ns.take j++(ns.take i).drop j:=by
     conv=>lhs;rw[<-List.take_append_drop j (ns.take i)]
     rw[List.take_take,show min j i=j by omega]
    have hl:∀ (a b:List (List UInt8)) (u y:V),Obs u->b≠[]->thr a u=some y->y.kind=5->∃ y',thr a (laidF (a++b) u objT)=some y'/\y'.kind=5:=by
     intro a
     induction a with
     | nil=>intro b u y hu hb h _;exact⟨_,rfl,laid_kind hb hu⟩
     | cons n a ih=>
      intro b u y hu hb h hy5
      obtain⟨hku,z,hmz,hz⟩:=thr_kind h
      obtain⟨y',e1,e2⟩:=ih b z y (obs_mem hu hmz) hb hz hy5
      refine⟨y',?_,e2⟩
      rw[List.cons_append,laidF,thr,mem_with hu.obOf.paired,Option.bind_some,hmz,Option.getD_some]
      exact e1
    obtain⟨y',e1,e2⟩:=hl (ns.take j) ((ns.take i).drop j) w y1 how (fun e=>by
     have:=congrArg List.length e
     rw[List.length_drop,List.length_take,List.length_nil]at this;omega) hy1 hk1
    rw[<-hsplit]at e1
    exact⟨y',e1,e2⟩
   ·have:j=i:=by omega
    subst this
    rw[thr_laid _ _ _ how,ht]
    exact⟨_,rfl,rfl⟩
theorem made_leaf {v w x:V} {k:Nat} {p:List UInt8} (hk:v.kind=5) (hg:goodV v=true) (hp:(leavesF v)[k]?=some p) (hx:thr (namesP p) v=some x) (h:MadeI v (leavesF v) k (namesP p) (namesP p).length w) :
 ∃ w',layR addedV p (namesP p,0) w x=(w',0)/\MadeK v (leavesF v) (k+1) w':=by
 have hpm:=List.mem_of_getElem? hp
 obtain⟨s1,s2,s3,x',g1,g2,g3⟩:=leaf_at hk hg hpm
 rw[hx]at g2;cases g2
 have hapA:∀ q∈(leavesF v).take k,Apart (namesP q) (namesP p):=fun q hq=>apart_before hk hg hp hq
 have ho:=obs_good hg
 have hho:=(goodV_tree hg).ho
 obtain⟨hm,hpre⟩:=h
 have hwg:=made_good hg hm
 have how:=obs_good hwg
 have hpos:0 < (namesP p).length:=List.length_pos_iff.2 s2
 obtain⟨y,hy,hyk⟩:=hpre ((namesP p).length - 1) (by omega)
 have hdl:(namesP p).dropLast=(namesP p).take ((namesP p).length - 1):=List.dropLast_eq_take
 have hun:∀ z,thr (namesP p) w=some z->z.kind=5->x.kind=5->z=x:=by
  intro z hz hz5 hx5
  obtain⟨u,E,e1,e2,e3⟩:=sub_thr _ 12 w v z hm.1 hho hz
  rw[hx]at e1;cases e1
  cases E with
  | zero=>exact e2.elim
  | succ E=>
   have hob:=e3.1 hx5
   refine ob_ext (sub_ob e2 hob) hob fun q=>?_
   have hxl:x.l=[]:=by
    apply Classical.byContradiction
    intro h9
    exact g3 ⟨hx5,h9⟩
   have hxn:∀ q,memV x q=none:=fun q=>by
    cases h9:memV x q with
    | none=>rfl
    | some r=>have:=mem_in h9;rw[hxl]at this;cases this
   cases h9:memV z q with
   | none=>rw[hxn]
   | some r=>
    obtain⟨r',h10,-⟩:=sub_mem e2 e3 h9
    rw[hxn]at h10;cases h10
 have hdown:=down_laid (x:=x) (namesP p) w y how s2 (by rw[hdl];exact hy) hyk hun
 have hsub:SubD 12 (laidF (namesP p) w x) v:=by
  refine sub_laid (namesP p) 12 w v x x hm.1 hho hx (.inl rfl) (fun n r hr hr2=>?_) (fun j hj=>?_)
  ·obtain⟨y1,hy1,-⟩:=hpre 1 (by rw[hr];have:0 < r.length:=List.length_pos_iff.2 hr2;simp;omega)
   rw[hr,List.take_succ_cons,List.take_zero,thr]at hy1
   cases h9:memV w n with
   | none=>rw[h9]at hy1;cases hy1
   | some q=>exact⟨q,rfl⟩
  ·obtain⟨y1,hy1,-⟩:=hpre j hj
   exact⟨y1,hy1⟩
 have hgw:=sub_goodV hsub hg
 have hgx:goodV x=true:=by
  have:=nice_of hg
  have hn:∀ (ns:List (List UInt8)) (v x:V) (D:Nat),GoodT D v->D<=12->szD D v<=120->thr ns v=some x->∃ E,E<=12/\GoodT E x/\szD E x<=120:=by
   intro ns
   induction ns with
   | nil=>intro v x D h1 h2 h3 h4;cases h4;exact⟨D,h2,h1,h3⟩
   | cons n ns ih=>
    intro v x D h1 h2 h3 h4
    obtain⟨-,z,hm,hz⟩:=thr_kind h4
    cases D with
    | zero=>exact h1.elim
    | succ D=>
     have hz2:=mem_in hm
     refine ih z x D (h1.2 z hz2) (by omega) ?_ hz
     have:=sum_mem (f:=szD D) hz2
     unfold szD at h3
     omega
  obtain⟨E,e1,e2,e3⟩:=hn (namesP p) v x 12 ((good_iff v).1 hg).1 (by omega) ((good_iff v).1 hg).2 hx
  have up:∀ (D:Nat) (t:V),GoodT D t->GoodT (D+1) t/\szD (D+1) t=szD D t:=by
   intro D
   induction D with
   | zero=>intro t h;exact h.elim
   | succ D ih=>
    intro t h
    refine⟨⟨h.1,fun x hx=>(ih x (h.2 x hx)).1⟩,?_⟩
    conv=>lhs;unfold szD
    conv=>rhs;unfold szD
    rw[List.map_congr_left fun x hx=>(ih x (h.2 x hx)).2]
  rw[good_iff]
  have upto:∀ n,∀ t,GoodT E t->GoodT (E+n) t/\szD (E+n) t=szD E t:=by
   intro n
   induction n with
   | zero=>intro t h;exact⟨h,rfl⟩
   | succ n ih=>intro t h;obtain⟨a,b⟩:=ih t h;obtain⟨c,d⟩:=up _ t a;exact⟨c,by rw[<-b];exact d⟩
  have:=upto (12 - E) x e2
  rw[show E+(12 - E)=12 by omega]at this
  exact⟨this.1,by rw[this.2];exact e3⟩
 have hpn:p≠[]:=fun e=>by
  rw[e]at s3
  cases h9:namesP p with
  | nil=>exact s2 h9
  | cons a b=>rw[e]at h9;rw[h9,join_cons]at s3;cases s3
 refine⟨laidF (namesP p) w x,?_,hsub,fun q hq=>?_⟩
 ·unfold layR changeR
  simp[hpn,s2,hwg,hgx,hdown,hgw]
 ·rw[List.take_add_one,hp,List.mem_append]at hq
  rcases hq with hq | hq
  ·rw[thr_laid_far _ _ _ _ how (hapA q hq).2 (hapA q hq).1]
   exact hm.2 q hq
  ·simp at hq
   subst hq
   rw[thr_laid _ _ _ how,hx]
   congr 1
   split
   ·rename_i hc
    cases h9:thr (namesP q) w with
    | none=>rw[h9]at hc;simp[zeroT]at hc
    | some z=>rw[h9,Option.getD_some]at hc;rw[Option.getD_some];exact hun z h9 hc.1 hc.2
   ·rfl
end Go.Proofs.YtmdemcjmcnfjmaaGreatDoor
