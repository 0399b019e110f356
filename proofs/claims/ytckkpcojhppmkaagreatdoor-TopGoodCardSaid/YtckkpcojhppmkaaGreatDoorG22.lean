/- Whatever it is handed, TopGood answers true and leaves all as it was. Its conditions: a text or a list takes at most 2^47 - 4096 bytes; the listed package-level variables hold what the program's text lays (the card ties them, over a pruned copy of the project). -/
import Derived.Test.YtckkpcojhppmkaaGreatDoorG21
set_option maxRecDepth 100000
set_option maxHeartbeats 40000000
set_option linter.unusedSimpArgs false
set_option linter.unusedVariables false
namespace Go.Proofs.YtckkpcojhppmkaaGreatDoor
open Go.RowKit
open _root_.Go.Proofs.Tryz
theorem vZ{ns}(h:ns≠[]):dr ns aM=none:=by
 cases ns with
 | nil=>exact absurd rfl h
 | cons n ns=>simp[dr,aS,dO,aK,aM]
theorem uO:∀ (ns:List Lz) (v x:V),fL v->dr ns (cK ns v x)=some (if ((dr ns v).getD aM).kind=5/\x.kind=5 then (dr ns v).getD aM else x)
 | [],v,x,hv=>by simp only[dr,cK,Option.getD_some];rfl
 | n :: ns,v,x,hv=>by
  unfold cK;rw[dr,pQ hv.obOf.paired,Option.bind_some,uO ns _ x (lV hv n)];rw[dr];cases hm:aS v n with
  | some y=>simp
  | none=>
   simp only[Option.getD_none,Option.bind_none];cases ns with
   | nil=>simp only[dr,Option.getD_some];rfl
   | cons m ns=>rw[vZ (by simp)];rfl
theorem jt:∀ (ns b:List Lz) (v x:V),fL v->¬ns <+: b->¬b <+: ns->dr b (cK ns v x)=dr b v
 | [],b,v,x,hv,h1,_=>absurd (List.nil_prefix) h1
 | n :: ns,[],v,x,hv,_,h2=>absurd (List.nil_prefix) h2
 | n :: ns,m :: bs,v,x,hv,h1,h2=>by
  unfold cK;rw[dr,dr];by_cases e:m=n
  ·subst e;rw[pQ hv.obOf.paired,Option.bind_some,jt ns bs _ x (lV hv m) (fun h=>h1 (List.cons_prefix_cons.2 ⟨rfl,h⟩)) (fun h=>h2 (List.cons_prefix_cons.2 ⟨rfl,h⟩))];cases hm:aS v m with
   | some y=>rfl
   | none=>
    have:bs≠[]:=fun e=>h2 (by rw[e];exact List.cons_prefix_cons.2 ⟨rfl,List.nil_prefix⟩);simp[vZ this]
  ·rw[mJ hv.obOf.paired _ _ _ e,kC]
theorem qC{want}(hw:fL want){b}:∀ (L:List (List Lz)) (v:V),(∀ a∈L,jF a b)->fL v->dr b (il want L v)=dr b v
 | [],v,_,_=>rfl
 | a :: L,v,hL,h=>by
  have e:il want (a :: L) v=il want L (cK a v ((dr a want).getD aM)):=rfl;rw[e,qC hw L _ (fun c hc=>hL c (by simp[hc])) (iY a v _ h (jW hw a)),jt a b v _ h (hL a (by simp)).1 (hL a (by simp)).2]
theorem rL{want}(hw:fL want){b}:∀ (L:List (List Lz)) (v:V),L.Pairwise jF->fL v->b∈L ->
 dr b (il want L v)=some (if ((dr b v).getD aM).kind=5/\((dr b want).getD aM).kind=5 then (dr b v).getD aM else (dr b want).getD aM)
 | [],v,_,_,hb=>by cases hb
 | a :: L,v,hp,h,hb=>by
  rw[List.pairwise_cons]at hp;have e:il want (a :: L) v=il want L (cK a v ((dr a want).getD aM)):=rfl;rw[e];rcases List.mem_cons.1 hb with rfl | hb
  ·rw[qC hw L _ (fun c hc=>(hp.1 c hc).symm) (iY _ v _ h (jW hw _)),uO _ v _ h]
  ·rw[rL hw L _ hp.2 (iY a v _ h (jW hw a)) hb];have ha:=hp.1 b hb;rw[jt a b v _ h ha.1 ha.2]
theorem vh.at{v l who want}(h:vh v l who want){ns}(hn:ns∈(au want).map aw):∃ y,dr ns (gO v want l who)=some y/\(y=(dr ns want).getD aM\/y.kind=5/\((dr ns want).getD aM).kind=5):=by
 rw[rF h,rL (kg h.wg) _ _ h.lv.apart (h.cleared _).1 hn];refine⟨_,rfl,?_⟩;split
 ·rename_i hc;exact .inr hc
 ·exact .inl rfl
theorem yK(s:Nu)(a:cm):(dD s a).1.acts=s.acts:=by
 unfold dD;simp only;split
 ·rfl
 ·split
  ·split
   ·split <;> rfl
   ·split
    ·rfl
    ·split
     ·split <;> rfl
     ·split
      ·rfl
      ·split
       ·rfl
       ·split <;> rfl
  ·split <;> rfl
theorem Hv{s:Nu}{a:cm}(h:s.acts≠300):(je s a).1.acts=s.acts+1:=by
 unfold je;rw[if_neg h];simp only;split
 ·rfl
 ·split
  ·unfold iz;split <;> rfl
  ·split
   ·rfl
   ·exact yK _ _
theorem ur(l:List cm):∀ k,k<=100->k<=l.length->(oQ l k).acts=k
 | 0,_,_=>rfl
 | k+1,h,hk=>by
  have ih:=ur l k (by omega) (by omega);rw[uD (Mw (show k < l.length by omega)),Hv (by rw[ih];omega),ih];rfl
theorem Fc(w S v)(q:cm)(r:uf):Calls prog 14 #[.pointer (some ⟨S,0,none⟩),v,.agg (Lf q),.agg #[.int .i64 r.code,.int .i64 r.n,.string ⟨r.body.toArray⟩]] w fun e w'=>e=.returned (.bool true)/\La w w':=by
 go_enter func14,ntmps14;go_wp2
 go_ret;exact⟨rfl,ab (ae _ _) (ae _ _)⟩
theorem zk(a:LC)(l:List cm)(S0):Jf a l S0 14 #[] (fun _ _=>True):=
 ⟨fun _ _ _ _ _=>trivial,fun _ _ _ _ _ _ _ _ _=>trivial,fun k q W S v was _ _ _ hL _ _=>(Fc W S was q _).mono fun e w' h=>⟨h.1,hL.more h.2,trivial⟩⟩
theorem sM:∀ args w,(callFunc 14 args).run prog w=.ok (.enter 14 args) w:=enters_of func14 (by kernel_rfl) rfl
theorem pD(a w)(l:List cm)(v)(hb:La a w)(hl:fc a l v)(h1:cn a)(h2:bj a)(h3:di a):Calls prog 5 #[v,.func (.func 14) #[] #[]] w fun e w'=>vp a w l (fun _ _=>True) e w':=
 Ip a w l v _ _ _ sM hb hl h1 h2 h3 trivial (zk a l _)
theorem Nj(time ver t)(a:cm):(al time ver t a).1.name=t.name:=by
 unfold al;split
 ·rfl
 ·split <;> rfl
theorem Nc(l:List cm):∀ k,dP (oQ l k)
 | 0=>by unfold oQ J4;simpa using AW
 | k+1=>by
  by_cases h:k < l.length
  ·rw[uD (Mw h)];exact Ib (Nc l k)
  ·have e:oQ l (k+1)=oQ l k:=by unfold oQ;rw[MD (by omega),MD (by omega)]
   rw[e];exact Nc l k
theorem Qj{s:Nu}{a:cm}(h:dP s):∀ t∈(je s a).1.ths,t∈s.ths\/(∃ o∈s.ths,∃ n,t={ o with st:=(dA (je s a).1.time o n).1 })\/∃ o,(o=eT a.name\/o∈s.ths)/\(al s.time s.ver o a).2.2=0/\t=(al s.time s.ver o a).1:=by
 unfold je;split
 ·exact fun t ht=>.inl ht
 simp only;split
 ·exact fun t ht=>.inl ht
 split
 ·unfold iz;split
  ·exact fun t ht=>.inl ht
  ·intro t ht;obtain⟨o,ho,rfl⟩:=List.mem_map.1 ht;exact .inr (.inl ⟨o,ho,_,rfl⟩)
 split
 ·exact fun t ht=>.inl ht
 generalize hs':({ s with acts:=s.acts+1 }:Nu)=s';have e1:s'.ths=s.ths:=by rw[<-hs']
 have e2:s'.time=s.time:=by rw[<-hs']
 have e3:s'.ver=s.ver:=by rw[<-hs']
 have hr:bD (s'.ths.map Th.name):=by rw[e1];exact h.rise
 by_cases hb:cj s'.ths.length a.kind (dR s'.ths a.name)=0
 ·cases ht:dR s'.ths a.name with
  | false=>
   rw[nQ hb ht];unfold iF;split
   ·rw[e1];exact fun t ht=>.inl ht
   ·rename_i he;intro t hm;simp only[List.mem_append,List.mem_cons]at hm;rcases hm with hm | rfl | hm
    ·exact .inl (by rw[<-e1];exact List.mem_of_mem_take hm)
    ·exact .inr (.inr ⟨_,.inl rfl,by rw[<-e2,<-e3];simpa using he,by rw[<-e2,<-e3]⟩)
    ·exact .inl (by rw[<-e1];exact List.mem_of_mem_drop hm)
  | true=>
   obtain⟨t,h1,h2⟩:=nR _ _ hr ht;have htm:t∈s.ths:=by rw[<-e1];exact List.mem_of_getElem? h1
   rw[fk hb ht h1];split
   ·exact fun u hu=>.inl (by rw[<-e1];exact List.mem_of_mem_eraseIdx hu)
   split
   ·unfold iG;split
    ·rw[e1];exact fun t ht=>.inl ht
    ·intro u hu;rcases List.mem_or_eq_of_mem_set hu with hu | rfl
     ·exact .inl (by rw[<-e1];exact hu)
     ·exact .inr (.inl ⟨t,htm,_,rfl⟩)
   split
   ·rw[e1];exact fun t ht=>.inl ht
   ·unfold fF;split
    ·rw[e1];exact fun t ht=>.inl ht
    split
    ·rw[e1];exact fun t ht=>.inl ht
    ·rename_i he;intro u hu;rcases List.mem_or_eq_of_mem_set hu with hu | rfl
     ·exact .inl (by rw[<-e1];exact hu)
     ·exact .inr (.inr ⟨t,.inr htm,by rw[<-e2,<-e3];simpa using he,by rw[<-e2,<-e3]⟩)
 ·rw[C8 rfl hb,e1];exact fun t ht=>.inl ht
def Qh (v:V) (l:List aL):Prop:=∀ o∈l,∀ p∈o.paths,(dr (aw p) v).isSome=true
theorem QM{v l who want force w m}{c:List (Lz × Lz)}(h:eC v l who want force=(w,m,c,0))(hv:Qh v l):Qh w m:=by
 obtain⟨A,hw,hm,-,hg,h6,-⟩:=ug h;intro o ho p hp;rw[hm,qz]at ho;have inL:p∈au want->(dr (aw p) w).isSome=true:=fun h9=>by
  obtain⟨y,h3,-⟩:=A.at (List.mem_map.2 ⟨p,h9,rfl⟩);rw[hw,h3];rfl
 rcases ho with ho | ⟨-,rfl⟩
 ·have hin:=ho;obtain⟨x,hx,rfl,hne⟩:=oE ho;obtain⟨hpx,hst⟩:=List.mem_filter.1 hp;rw[MJ]at hst;have hb:aV want v (au want) p=false:=by simpa using hst.2
  by_cases hc:p∈au want
  ·exact inL hc
  obtain⟨y,hy⟩:=Option.isSome_iff_exists.1 (hv x hx p hpx);obtain⟨s1,s2,s3⟩:=uM ((mT ((gz A.lg).2.1 x hx).2).2.1 p hpx);unfold aV at hb;rw[if_neg (by simpa using hc),List.any_eq_false]at hb;have R:dr (aw p) w=some y:=by
   rw[hw,rF A];rw[qC (kg A.wg) _ _ (fun a ha=>?_) (A.cleared _).1]
   ·refine PM _ _ (fun q hq=>?_) (fun q hq hkp=>?_) (kg A.vg) A.vk hy
    ·obtain⟨r,hr,rfl⟩:=List.mem_map.1 hq;exact(uM (lB A.lg who r hr)).2.1
    ·unfold pd at hkp;rw[Bool.or_eq_false_iff]at hkp;have hcn:=hkp.2;unfold concF at hcn;rw[List.any_eq_false]at hcn;have:=hcn _ hin;rw[Bool.not_eq_true,List.any_eq_false]at this;have:=this p hp;simp only[Bool.or_eq_true,beq_iff_eq,not_or,Bool.not_eq_true]at this;rw[Ql,s3];exact⟨fun e=>this.1.1 (by rw[e,s3]),this.2,this.1.2⟩
   ·obtain⟨q,hq,rfl⟩:=List.mem_map.1 ha;have:=hb q hq;simp only[Bool.or_eq_true,not_or,Bool.not_eq_true]at this;obtain⟨t1,t2,t3⟩:=uM (A.lv.good q hq);rw[Ql,s3,t3];refine⟨fun e=>?_,this.1,this.2⟩;rw[<-t3,e,s3]at hq;exact hc hq
  rw[R];rfl
 ·exact inL hp
theorem Ra(v l):Qh v (ir v l):=by
 unfold ir;split
 ·intro o ho p hp;obtain⟨x,hx,rfl,-⟩:=oE ho;exact(List.mem_filter.1 hp).2
 ·intro o ho;cases ho
theorem Qs{time ver t}{a:cm}(h:Qh t.value t.owners)(he:(al time ver t a).2.2=0):Qh (al time ver t a).1.value (al time ver t a).1.owners:=by
 unfold al at he ⊢;split
 ·exact h
 split
 ·exact h
 rename_i h1 _;simp only[jw];unfold aJ at h1 ⊢;split
 ·exact h
 rename_i h2;rw[if_neg h2]at h1;split
 ·rename_i h5;rw[if_pos h5]at h1;exact QM (c:=(eC t.value t.owners a.who (cW a.body).1 a.force).2.2.1) (force:=a.force) (who:=a.who) (want:=(cW a.body).1) (by
   have h9:(eC t.value t.owners a.who (cW a.body).1 a.force).2.2.2=0:=by simpa using h1
   rw[<-h9]) h
 split
 ·exact h
 ·exact Ra _ _
theorem Rm{s:Nu}{a:cm}(h:dP s)(hs:∀ t∈s.ths,Qh t.value t.owners):∀ t∈(je s a).1.ths,Qh t.value t.owners:=by
 intro t ht;rcases Qj h t ht with h1 | ⟨o,ho,x,rfl⟩ | ⟨o,ho,he,rfl⟩
 ·exact hs t h1
 ·exact hs o ho
 ·refine Qs ?_ he;rcases ho with rfl | ho
  ·intro o ho;cases ho
  ·exact hs o ho
theorem Qp(l:List cm):∀ k,∀ t∈(oQ l k).ths,Qh t.value t.owners
 | 0=>by unfold oQ J4;intro t ht;simp[vm]at ht
 | k+1=>by
  by_cases h:k < l.length
  ·rw[uD (Mw h)];exact Rm (Nc l k) (Qp l k)
  ·have e:oQ l (k+1)=oQ l k:=by unfold oQ;rw[MD (by omega),MD (by omega)]
   rw[e];exact Qp l k
theorem Oa:∀ (l:List V) (xs:List dN),kW l=some xs->xs.length=l.length/\∀ x∈xs,eW x=true
 | [],xs,h=>by
  simp[kW]at h;subst h;exact⟨rfl,by intro x hx;cases hx⟩
 | t :: l,xs,h=>by
  unfold kW at h;cases h1:aT t with
  | none=>rw[h1]at h;simp at h
  | some x=>
   cases h2:kW l with
   | none=>rw[h1,h2]at h;simp at h
   | some ys=>
    rw[h1,h2]at h;simp at h;subst h;obtain⟨k1,k2⟩:=Oa l ys h2;refine⟨by simp[k1],fun y hy=>?_⟩;rcases List.mem_cons.1 hy with rfl | hy
    ·unfold aT at h1;split at h1
     ·split at h1
      ·rename_i hw;cases h1;have:=zM.1 hw;unfold eW;rw[if_neg (by simp only;omega)];simp[hw]
      ·cases h1
     ·split at h1
      ·split at h1
       ·rename_i hz;cases h1;simp[eW,hz.2]
       ·cases h1
      ·cases h1
    ·exact k2 y hy
theorem NH{v}(h:cI v=0):cM (bE v).1 (bE v).2=true:=by
 have hg:=lq h;have hn:=dQ hg;unfold cI at h;unfold bE;cases hr:eY v with
 | none=>rw[hr]at h;simp at h
 | some p=>
  simp only[Option.getD_some];unfold eY at hr;rw[if_neg (by simp[hg])]at hr;split at hr
  ·cases hr
  ·rename_i m hm;split at hr
   ·cases hr
   ·rename_i hk;have hk3:m.kind=3:=Classical.byContradiction fun h9=>hk (.inl h9);have hne:m.s≠[]:=fun h9=>hk (.inr h9);have hs:=fp (gC hn (lG hm));unfold ce at hs;rw[hk3]at hs;simp[eK]at hs;rw[Nv];split at hr
    ·cases hr;exact⟨⟨hne,by simp only;omega,by simp⟩,by intro x hx;cases hx⟩
    ·split at hr
     ·cases hr
     ·rename_i q _ _ l hl;cases hr;unfold bZ at hl;split at hl
      ·cases hl
      ·rename_i h8;obtain⟨k1,k2⟩:=Oa _ _ hl;exact⟨⟨hne,by simp only;omega,by simp only;omega⟩,k2⟩
theorem N8{g l s now order}(h1:cM g l=true)(h2:cC s=true)(h3:lp now=true)(h4:0<=order/\order<=3):(ij g l s now order).2=0:=by
 unfold ij;rw[if_neg (by simp[h1,h2]),if_neg (by simp[h3]),if_neg (by omega)];split <;> rfl
def NY (o t:dI):Prop:=¬(t.st < o.st/\t.c=o.c/\t.ph≠1/\t.ph≠4)/\(t.a=o.a\/t.a=t.c)
def NU (t:Th):Prop:=cC t.st=true/\t.st.c=(bE t.value).1
def Ok (s:Nu):Prop:=∀ t∈s.ths,NU t
theorem Om{s}(h:cC s=true):s.ph=1\/s.ph=2\/s.ph=3\/s.ph=4:=by
 rcases Es h with⟨h1,-⟩ | ⟨h1,-⟩ | h1
 ·rw[h1];exact .inl rfl
 ·rw[h1];exact .inr (.inr (.inr rfl))
 ·rcases h1.2.2.2.2.2.2.2 with h | h
  ·exact .inr (.inl h.1)
  ·exact .inr (.inr (.inl h.1))
theorem Ny{g l o now order}(e:(ij g l o now order).2=0):cC (ij g l o now order).1=true/\(ij g l o now order).1.c=g/\NY o (ij g l o now order).1:=by
 obtain⟨b1,-,-,b4,b5⟩:=NN e;refine⟨b1,b5,fun⟨c1,c2,c3,c4⟩=>?_,?_⟩
 ·have:=(NR e (by rw[<-b5,c2])).1 (by rcases Om b1 with h | h | h | h <;> first | exact absurd h c3 | exact absurd h c4 | exact .inl h | exact .inr h);omega
 ·rcases b4 with h | h
  ·exact .inl h
  ·exact .inr (by rw[h.2,b5])
theorem Nx{time ver t}{a:cm}(hT:lp time=true)(h:t.gen=0\/NU t)(he:(al time ver t a).2.2=0):NU (al time ver t a).1/\(t.gen≠0->NY t.st (al time ver t a).1.st):=by
 by_cases h1:(aJ t a).2.2≠0
 ·exfalso;unfold al at he;rw[if_pos h1]at he;exact h1 he
 ·by_cases h2:cI (aJ t a).1≠0
  ·exfalso;unfold al at he;rw[if_neg h1,if_pos h2]at he;exact h2 he
  ·have R:(al time ver t a).1=(jw time ver t (aJ t a).1 (aJ t a).2.1).1:=by unfold al;rw[if_neg h1,if_neg h2]
   have sp:=NH (show cI (aJ t a).1=0 by simpa using h2);rw[R];generalize (aJ t a).1=v at sp;generalize (aJ t a).2.1=os;have K:∀ s0,cC s0=true->cC (ij (bE v).1 (bE v).2 s0 time 0).1=true/\(ij (bE v).1 (bE v).2 s0 time 0).1.c=(bE v).1/\NY s0 (ij (bE v).1 (bE v).2 s0 time 0).1:=fun s0 h0=>Ny (N8 sp h0 hT (by omega));unfold NU;simp only[jw];by_cases hg:t.gen=0
   ·rw[if_pos hg];have h0:cC (fV (bE v).1 (bE v).2).1=true:=by
     unfold fV;rw[if_pos sp];exact yP (Nv.1 sp).1.1
    exact⟨⟨(K _ h0).1,(K _ h0).2.1⟩,fun h9=>absurd hg h9⟩
   ·rw[if_neg hg];have h0:cC t.st=true:=by
     rcases h with h | h
     ·exact absurd h hg
     ·exact h.1
    exact⟨⟨(K _ h0).1,(K _ h0).2.1⟩,fun _=>(K _ h0).2.2⟩
def Of (s:Nu) (t:Th):Prop:=t∈s.ths\/NU t/\(dR s.ths t.name=false\/∃ o∈s.ths,o.name=t.name/\NY o.st t.st)
theorem NZ{s:Nu}{a:cm}(h:dP s)(hs:Ok s):∀ t∈(je s a).1.ths,Of s t:=by
 unfold je;split
 ·exact fun t ht=>.inl ht
 simp only;split
 ·exact fun t ht=>.inl ht
 split
 ·unfold iz;split
  ·exact fun t ht=>.inl ht
  ·rename_i hn;intro t ht;obtain⟨o,ho,rfl⟩:=List.mem_map.1 ht;obtain⟨k1,k2,k3⟩:=Ny (N8 (order:=0) (now:=s.time+a.n) (NH (h.ths o ho).rd) (hs o ho).1 (Ak.2 (by have:=h.time;simp only at hn;omega)) (by omega));exact .inr ⟨⟨k1,k2⟩,.inr ⟨o,ho,rfl,k3⟩⟩
 split
 ·exact fun t ht=>.inl ht
 generalize hs':({ s with acts:=s.acts+1 }:Nu)=s';have e1:s'.ths=s.ths:=by rw[<-hs']
 have e2:s'.time=s.time:=by rw[<-hs']
 have hT:lp s'.time=true:=by rw[e2];exact Ak.2 h.time
 have hr:bD (s'.ths.map Th.name):=by rw[e1];exact h.rise
 by_cases hb:cj s'.ths.length a.kind (dR s'.ths a.name)=0
 ·cases ht:dR s'.ths a.name with
  | false=>
   rw[nQ hb ht];unfold iF;split
   ·rw[e1];exact fun t ht=>.inl ht
   ·rename_i he;intro t hm;simp only[List.mem_append,List.mem_cons]at hm;rcases hm with hm | rfl | hm
    ·exact .inl (by rw[<-e1];exact List.mem_of_mem_take hm)
    ·refine .inr ⟨(Nx hT (.inl rfl) (by simpa using he)).1,.inl ?_⟩;rw[Nj,<-e1];exact ht
    ·exact .inl (by rw[<-e1];exact List.mem_of_mem_drop hm)
  | true=>
   obtain⟨t,h1,h2⟩:=nR _ _ hr ht;have htm:t∈s.ths:=by rw[<-e1];exact List.mem_of_getElem? h1
   have S:∀ (x:Th),x.name=t.name->NU x->NY t.st x.st->∀ u∈s'.ths.set (ci s'.ths a.name) x,Of s u:=by
    intro x hx k1 k2 u hu;rcases List.mem_or_eq_of_mem_set hu with hu | rfl
    ·exact .inl (by rw[<-e1];exact hu)
    ·exact .inr ⟨k1,.inr ⟨t,htm,hx.symm,k2⟩⟩
   rw[fk hb ht h1];split
   ·exact fun u hu=>.inl (by rw[<-e1];exact List.mem_of_mem_eraseIdx hu)
   split
   ·unfold iG;split
    ·rw[e1];exact fun t ht=>.inl ht
    ·rename_i he;obtain⟨k1,k2,k3⟩:=Ny (e:=show (ij (bE t.value).1 (bE t.value).2 t.st s'.time a.order).2=0 by simpa [dA] using he);exact S _ rfl ⟨k1,k2⟩ k3
   split
   ·rw[e1];exact fun t ht=>.inl ht
   ·unfold fF;split
    ·rw[e1];exact fun t ht=>.inl ht
    split
    ·rw[e1];exact fun t ht=>.inl ht
    ·rename_i he;obtain⟨k1,k2⟩:=Nx hT (.inr (hs t htm)) (show (al s'.time s'.ver t a).2.2=0 by simpa using he);exact S _ (Nj _ _ _ _) k1 (k2 (by have:=(h.ths t htm).gen.1;omega))
 ·rw[C8 rfl hb,e1];exact fun t ht=>.inl ht
theorem Og{s:Nu}{t}(hs:Ok s)(h:Of s t):NU t:=by
 rcases h with h | h
 ·exact hs t h
 ·exact h.1
theorem Nw(l:List cm):∀ k,Ok (oQ l k)
 | 0=>by unfold oQ J4;intro t ht;simp[vm]at ht
 | k+1=>by
  by_cases h:k < l.length
  ·rw[uD (Mw h)];exact fun t ht=>Og (Nw l k) (NZ (Nc l k) (Nw l k) t ht)
  ·have e:oQ l (k+1)=oQ l k:=by unfold oQ;rw[MD (by omega),MD (by omega)]
   rw[e];exact Nw l k
variable {w w':World}
variable {v:Value}
theorem fc.bel{l:List cm}(h:fc w l v)(hb:La w w'):fc w' l v:=by
 refine⟨h.1,h.2.1,?_⟩;rcases h.2.2 with h | ⟨g,off,c,e,h1,h2,h3⟩
 ·exact .inl h
 ·refine .inr ⟨g,off,c,e,h1,h2,fun i q hq=>?_⟩;obtain⟨q0,q1,q2,q3,q4,q5,q6,q7⟩:=h3 i q hq;exact⟨ah hb q0,ah hb q1,ah hb q2,ah hb q3,ah hb q4,ah hb q5,ah hb q6,ah hb q7⟩
structure PU (t:Th):Prop where
 name:bT t.name=true
 nlen:t.name.length<=9223372036854775807
 good:aE t.value=true
 rd:cI t.value=0
 sta:cC t.st=true
 com:t.st.c=(bE t.value).1
 own:bp t.owners=true
 plen:∀ o∈t.owners,∀ x∈o.paths,x.length<=140737488351232
 gen:¬t.ver < 1/\¬t.gen < 1/\¬t.ver < t.gen
 get:∀ o∈t.owners,∀ p∈o.paths,(fP (ax p) t.value).2=0
theorem N9{s:Nu}(h:dP s)(hs:Ok s)(ho:∀ t∈s.ths,Qh t.value t.owners):∀ t∈s.ths,PU t:=by
 intro t ht;have G:=h.ths t ht;have gv:=lq G.rd;have gp:∀ o∈t.owners,∀ p∈o.paths,oh p=true:=fun o hm p hp=>(mT ((gz G.own).2.1 o hm).2).2.1 p hp;refine⟨G.name,?_,gv,G.rd,(hs t ht).1,(hs t ht).2,G.own,fun o hm p hp=>?_,?_,fun o hm p hp=>?_⟩
 ·have:=G.name;unfold bT at this;simp only[MJ,decide_eq_true_eq]at this;omega
 ·have:=(mO (uM (gp o hm p hp)).1).1;omega
 ·have:=G.gen;omega
 ·obtain⟨y,hy⟩:=Option.isSome_iff_exists.1 (ho t ht o hm p hp);rw[(uM (gp o hm p hp)).1];exact congrArg Prod.snd (Jp (sp:=(aw p,0)) rfl gv (yd _ _ _ hy))
theorem ky{l:List Th}(h:bD (l.map Th.name)){j:Nat}(hj:j+1 < l.length):Op.bytesLess l[j].name l[j+1].name=true:=by
 have:=List.pairwise_iff_getElem.1 h j (j+1) (by simp;omega) (by simpa using hj) (by omega);simpa using this
theorem y8(A)(l:List cm)(S0):Jf A l S0 6 #[] (fun _ _=>True):=by
 refine⟨fun _ _ _ _ _=>trivial,fun _ _ _ _ _ _ _ _ _=>trivial,fun k q W S v was hq hk _ hL _ hT=>?_⟩;have AS:=N9 (Nc l (k+1)) (Nw l (k+1)) (Qp l (k+1));have l8:=(Nc l (k+1)).len;have RS:=(Nc l (k+1)).rise;obtain⟨r,hr⟩:∃ r,(je (oQ l k) q).2=r:=⟨_,rfl⟩
 rw[hr];obtain⟨s',hs'⟩:∃ s',oQ l (k+1)=s':=⟨_,rfl⟩
 rw[hs']at AS l8 RS hL ⊢;clear hr hs' hq hk hT;obtain⟨W1,hW1⟩:∃ W1,W1=(W.alloc (.cells (Lf q) 28)).alloc (.cells #[.int .i64 r.code,.int .i64 r.n,.string ⟨r.body.toArray⟩] 31):=⟨_,rfl⟩
 have Y1:Ll (La W W1):=aa (by rw[hW1];exact ab (ae _ _) (ae _ _));have HW1:=aa hW1;have L1:=aa (hL.more Y1.o);have TH1:=aa (fl L1.o);have HAS:=aa AS;have HRS:=aa RS;have d8:¬(8:Int) < (s'.ths.length:Int):=by omega
 clear hW1 hL AS RS;go_enter func6,ntmps6;go_upto_region 1 with fail
 rw[<-HW1.o];go_upto_region 5 with (go_at_call 7;refine TH1.o.mono ?_;rintro e w3 ⟨rfl,p1,p2,p3⟩;have N3:=aa p1.ths;have L3:=aa p2;clear p1 p2 p3)
 clear TH1;obtain⟨nva,hnva⟩:∃ x:Option Addr,x=some ⟨W1.heap.size,0,none⟩:=⟨_,rfl⟩
 rw[<-hnva]at N3 ⊢;clear hnva;go_loopg [27] s'.ths.length (fun gk i wr=>∃ k:Nat,k<=s'.ths.length/\gk=s'.ths.length - k/\i=.int .i64 k/\Ll (La w3 wr))
 case atStart=>exact⟨0,Nat.zero_le _,rfl,rfl,aa (MK _ _)⟩
 case round=>
  obtain⟨k,hk,hgk,rfl,BL⟩:=hrel;have GK:=aa hgk;clear hgk;by_cases hlt:k < s'.ths.length
  ·have PVC:Ll (∀ (g o:Nat) (n c j:Nat),k=j+1->nva=some ⟨g,o,none⟩->∃ nj:Lz,wr.cell? ⟨g,o+j * 15,none⟩=some (.string ⟨nj.toArray⟩)/\Op.bytesLess nj s'.ths[k].name=true):=fun g o n c j hj hn=>by
    subst hj;obtain⟨g9,o9,e9,-,-,-,a9,b9,c9,d9,oa9,oc9,hx9,-⟩:=(N3.o.bel BL.o).at (show j < s'.ths.length by omega);rw[hn]at e9;cases e9;exact⟨_,hx9.1,ky HRS.o hlt⟩
   obtain⟨g1,o1,rfl,j1,j2,j3,xa,xb,xc,xd,xoa,xoc,hx,kx⟩:=(N3.o.bel BL.o).at hlt;have w2:(k:Int) < (s'.ths.length:Int):=by omega
   have w3:(0:Int)<=(k:Int):=by omega
   have AKK:=aa (HAS.o s'.ths[k] (List.getElem_mem hlt));have KX:=aa kx;obtain⟨t,ho⟩:∃ t,s'.ths[k]=t:=⟨_,rfl⟩
   rw[ho]at hx AKK KX PVC;clear ho kx;obtain⟨x0,x1,x2,x3,x4,x5,x6,x7,x8,x9,x10,x11,x12,x13,x14⟩:=hx;obtain⟨W2,hW2⟩:∃ W,W=wr.alloc (.cells (Ld t xa xc xb xd xoa xoc) 41):=⟨_,rfl⟩
   have A2:Ll (La wr W2):=aa (by rw[hW2];exact ae _ _);have T2:Ll (fN W2 wr.heap.size t xa xb xc xd xoa xoc):=aa (by rw[hW2];exact MN _ _);have HW2:=aa hW2;clear hW2;go_upto_region 7 with fail
   rw[<-HW2.o];obtain⟨x0,x1,x2,x3,x4,x5,x6,x7,x8,x9,x10,x11,x12,x13,x14⟩:=T2.o.c;obtain⟨ss,hss⟩:∃ ss,(bE t.value).2=ss:=⟨_,rfl⟩
   have RD:=Hx W2 _ t.value _ (KX.o.bel A2.o).val;rw[AKK.o.rd,<-AKK.o.com,hss]at RD;have RDZ:Ll (Calls prog 8 #[.agg (KV t.value xa xc xb xd)] W2 fun e w'=>∃ sa sc,e=.returned (.tuple #[.agg #[.string ⟨t.st.c.toArray⟩,.slice sa ss.length sc],.int .i64 0])/\La W2 w'):=RD.mono fun e w' h9=>by
    obtain⟨sl,rfl,p1,p2⟩:=h9;obtain⟨sa,sc,rfl⟩:=p1.form;exact⟨sa,sc,rfl,p2⟩
   clear RD hss;go_upto_region 8 with (go_at_call 8;refine RDZ.o.mono ?_;rintro e w5 ⟨sa,sc,rfl,p2⟩;have B5:=aa p2;clear p2)
   clear RDZ;obtain⟨W5,hW5⟩:∃ W,W=w5.alloc (.cells #[.string ⟨t.st.c.toArray⟩,.slice sa ss.length sc] 44):=⟨_,rfl⟩
   have A5:Ll (La w5 W5):=aa (by rw[hW5];exact ae _ _);have P5:Ll (fM W5 w5.heap.size t.st.c (.slice sa ss.length sc)):=aa (by rw[hW5];exact MN _ _);rw[<-hW5];clear hW5;have B25:=aa (ab B5.o A5.o);have T5:=aa (T2.o.bel B25.o);have BX:=aa (ab A2.o B25.o);have L5:=aa (L3.o.more (ab BL.o BX.o));have K5:=aa (KX.o.bel BX.o);have NM:Ll (∀ p:mq W5,Calls prog 9 #[.string ⟨t.name.toArray⟩] p.W fun e w''=>e=.returned (.bool true)/\∃ q:mq W5,w''=q.W):=fun p=>Calls.belW ((lR p.W t.name AKK.o.nlen).mono fun e w4 h9=>⟨by rw[<-AKK.o.name];exact h9.1,by rw[h9.2];exact MK _ _⟩);have JG:Ll (∀ p:mq W5,Calls prog 10 #[.agg (KV t.value xa xc xb xd)] p.W fun e w''=>e=.returned (.bool true)/\∃ q:mq W5,w''=q.W):=fun p=>Calls.belW ((bG p.W _ t.value _ (K5.o.bel p.h).val).mono fun e w4 h9=>⟨by rw[<-AKK.o.good];exact h9.1,h9.2⟩);have SG:Ll (∀ p:mq W5,Calls prog 11 #[.agg (Li t.st)] p.W fun e w''=>e=.returned (.bool true)/\∃ q:mq W5,w''=q.W):=fun p=>Calls.belW ((eV p.W t.st).mono fun e w4 h9=>⟨by rw[<-AKK.o.sta];exact h9.1,h9.2⟩);have OG:Ll (∀ p:mq W5,Calls prog 12 #[.slice xoa t.owners.length xoc] p.W fun e w''=>e=.returned (.bool true)/\∃ q:mq W5,w''=q.W):=fun p=>Calls.belW ((eZ p.W _ t.owners _ (K5.o.bel p.h).own AKK.o.plen (L5.o.gl.m.bel p.h)).mono fun e w4 h9=>⟨by rw[<-AKK.o.own];exact h9.1,h9.2⟩);obtain⟨x0,x1,x2,x3,x4,x5,x6,x7,x8,x9,x10,x11,x12,x13,x14⟩:=T5.o.c;obtain⟨y0,-⟩:=P5.o.c;have s0:=mY x0;have s1:=mY x1;have s2:=mY x2;have s3:=mY x3;have s4:=mY x4;have s5:=mY x5;have s6:=mY x6;have s7:=mY x7;have s8:=mY x8;have s9:=mY x9;have s10:=mY x10;have s11:=mY x11;have s12:=mY x12;have s13:=mY x13;have s14:=mY x14;have u0:=mY y0;obtain⟨g6,g7,g8⟩:=AKK.o.gen;have hmix:prog.follows .mixedOrders=true:=by kernel_rfl
   have hne:Nonempty (mq W5):=⟨⟨W5,MK _ _⟩⟩
   go_cut [103] (fun cv wc=>cv=.bool false/\La W5 wc)
   case first=>
    cases k with
    | zero=>
     refine dE (by assumption) (by kernel_rfl) ?_;simp only[List.append];repeat(first | go_big_quiet_step (first | (go_at_call 9;with_reducible exact NM.o _) | (go_at_call 10;with_reducible exact JG.o _) | (go_at_call 11;with_reducible exact SG.o _) | (go_at_call 12;with_reducible exact OG.o _)) | quiet_step (first | (go_at_call 9;with_reducible exact NM.o _) | (go_at_call 10;with_reducible exact JG.o _) | (go_at_call 11;with_reducible exact SG.o _) | (go_at_call 12;with_reducible exact OG.o _)))
     refine wpQuiet_nil ?_;intro _ hw';obtain⟨pq,hw''⟩:=hw';subst hw'';go_wp2
     go_meet
     case rel=>exact⟨rfl,pq.h⟩
    | succ j=>
     obtain⟨nj,h9,h8⟩:=PVC.o g1 o1 0 0 j rfl rfl;have u1:=mY (ah BX.o h9);have j0:(0:Int) < ((j+1:Nat):Int):=by omega
     have wjj:IntKind.i64.wrap (((j+1:Nat):Int) - 1)=(j:Int):=by rw[IntKind.wrap_i64];omega
     clear h9;refine dE (by assumption) (by kernel_rfl) ?_;simp only[List.append];repeat(first | go_big_quiet_step (first | (go_at_call 9;with_reducible exact NM.o _) | (go_at_call 10;with_reducible exact JG.o _) | (go_at_call 11;with_reducible exact SG.o _) | (go_at_call 12;with_reducible exact OG.o _)) | quiet_step (first | (go_at_call 9;with_reducible exact NM.o _) | (go_at_call 10;with_reducible exact JG.o _) | (go_at_call 11;with_reducible exact SG.o _) | (go_at_call 12;with_reducible exact OG.o _)))
     refine wpQuiet_nil ?_;intro _ hw';obtain⟨pq,hw''⟩:=hw';subst hw'';go_wp2
     go_meet
     case rel=>exact⟨rfl,pq.h⟩
   case rest=>
    obtain⟨rfl,hb6⟩:=hcut;have B6:=aa hb6;clear hb6 s0 s1 s2 s3 s4 s5 s6 s7 s8 s9 s10 s11 s12 s13 s14 u0 NM JG SG OG;have T6:=aa (T5.o.bel B6.o);have K6:=aa (K5.o.bel B6.o);have L6:=aa (L5.o.more B6.o);obtain⟨x0,x1,x2,x3,x4,x5,x6,x7,x8,x9,x10,x11,x12,x13,x14⟩:=T6.o.c;have lo:=K6.o.own.1;unfold maxLen at lo;go_upto_region 11 with fail
    go_loopg [107] t.owners.length (fun gk i wi=>∃ m:Nat,m<=t.owners.length/\gk=t.owners.length - m/\i=.int .i64 m/\Ll (La wc wi))
    case atStart=>exact⟨0,Nat.zero_le _,rfl,rfl,aa (MK _ _)⟩
    case round=>
     obtain⟨m,hm,hgm,rfl,BMM⟩:=hrel;have GM:=aa hgm;clear hgm;by_cases hlm:m < t.owners.length
     ·obtain⟨b2,f2,pa,pc,rfl,i1,i2,k1,k2,k3,-⟩:=(K6.o.own.bel BMM.o).at hlm;have v2:(m:Int) < (t.owners.length:Int):=by omega
      have v3:(0:Int)<=(m:Int):=by omega
      have GT:=aa (AKK.o.get t.owners[m] (List.getElem_mem hlm));have PLN:=aa (AKK.o.plen t.owners[m] (List.getElem_mem hlm));have K3:=aa k3;obtain⟨oww,how⟩:∃ oww,t.owners[m]=oww:=⟨_,rfl⟩
      rw[how]at k1 k2 K3 GT PLN;clear how k3;obtain⟨W7,hW7⟩:∃ W,W=wr.alloc (.cells #[.string ⟨oww.name.toArray⟩,.slice pa oww.paths.length pc] 52):=⟨_,rfl⟩
      have A7:Ll (La wr W7):=aa (by rw[hW7];exact ae _ _);have b7:=rl (show W7.heap[wr.heap.size]?=_ by rw[hW7];exact MN _ _);have HW7:=aa hW7;clear hW7;go_upto_region 13 with fail
      rw[<-HW7.o];obtain⟨c0,c1⟩:=b7;clear k1 k2;have lpp:=K3.o.1;unfold maxLen at lpp;go_upto_region 14 with fail
      go_loopg [114] oww.paths.length (fun gk i wi=>∃ n:Nat,n<=oww.paths.length/\gk=oww.paths.length - n/\i=.int .i64 n/\Ll (La W7 wi))
      case atStart=>exact⟨0,Nat.zero_le _,rfl,rfl,aa (MK _ _)⟩
      case round=>
       obtain⟨n,hn,hgn,rfl,BN⟩:=hrel;have GN:=aa hgn;clear hgn c0 c1;have BZ:=aa (ab BMM.o (ab A7.o BN.o));by_cases hln:n < oww.paths.length
       ·obtain⟨pb,po,rfl,h5,h6,hcell0⟩:=gQ K3.o hln;unfold maxLen at h6;have LV:=ah (ab A7.o BN.o) hcell0;have z2:(n:Int) < (oww.paths.length:Int):=by omega
        have z3:(0:Int)<=(n:Int):=by omega
        have GO:=GT.o oww.paths[n] (List.getElem_mem hln);have PO:=PLN.o oww.paths[n] (List.getElem_mem hln);clear hcell0;obtain⟨p,hp⟩:∃ p,oww.paths[n]=p:=⟨_,rfl⟩
        rw[hp]at LV GO PO;clear hp;have G1:=zD wr _ t.value _ p (K6.o.bel BZ.o).val PO (L6.o.more BZ.o).gl.m;rw[GO]at G1;have G1C:Ll (Calls prog 13 #[.agg (KV t.value xa xc xb xd),.string ⟨p.toArray⟩] wr fun e w'=>∃ (x:V) (a4 b4:Option Addr) (c4 d4:Nat),e=.returned (.tuple #[.agg (KV x a4 c4 b4 d4),.int .i64 0])/\La wr w'):=G1.mono fun e w' h9=>by
         obtain⟨r9,rfl,hb9,hx9⟩:=h9;obtain⟨a4,b4,c4,d4,rfl⟩:=hx9.form;exact⟨_,a4,b4,c4,d4,rfl,hb9⟩
        clear G1 GO PO;obtain⟨x0,x1,x2,x3,x4,x5,x6,x7,x8,x9,x10,x11,x12,x13,x14⟩:=(T6.o.bel BZ.o).c;go_upto_region 17 with (go_at_call 13;refine G1C.o.mono ?_;rintro e w9 ⟨x,a4,b4,c4,d4,rfl,hb⟩;have B9:=aa hb;clear hb)
        clear LV;obtain⟨W9,hW9⟩:∃ W,W=w9.alloc (.cells (KV x a4 c4 b4 d4) 36):=⟨_,rfl⟩
        have Ane:Ll (La w9 W9):=aa (by rw[hW9];exact ae _ _);rw[<-hW9];clear hW9;go_wp2
        go_roundg (oww.paths.length - (n+1))
        case measure=>rw[GN.o];omega
        case rel=>exact⟨n+1,hln,rfl,by go_num,aa (ab BN.o (ab B9.o Ane.o))⟩
       ·have z2:¬(n:Int) < (oww.paths.length:Int):=by omega
        go_wp2
        go_roundg (t.owners.length - (m+1))
        case measure=>rw[GM.o];omega
        case rel=>exact⟨m+1,hlm,rfl,by go_num,BZ⟩
     ·have v2:¬(m:Int) < (t.owners.length:Int):=by omega
      go_wp2
      go_roundg (s'.ths.length - (k+1))
      case measure=>rw[GK.o];omega
      case rel=>exact⟨k+1,hlt,rfl,by go_num,aa (ab (ab BL.o BX.o) (ab B6.o BMM.o))⟩
  ·have d9:¬(k:Int) < (s'.ths.length:Int):=by omega
   have Lne:=aa (L3.o.more BL.o);go_wp2
   go_ret;first | exact⟨rfl,Lne.o⟩ | exact⟨rfl,Lne.o,trivial⟩
theorem eO:∀ args w,(callFunc 6 args).run prog w=.ok (.enter 6 args) w:=enters_of func6 (by kernel_rfl) rfl
theorem topGood_at(w)(l:List cm)(v)(hl:fc w l v)(h1:cn w)(h2:bj w)(h3:di w):Calls prog 3 #[v] w fun e w'=>e=.returned (.bool true)/\La w w':=by
 have PL:=aa (Ip w w l v _ _ _ eO (MK _ _) hl h1 h2 h3 trivial (y8 w l _));clear hl h1 h2 h3;go_enter func3,ntmps3;go_wp2_with (go_at_call 5;refine PL.o.mono ?_;rintro e w2 ⟨S,v2,rfl,p1,p2,-⟩;have B2:=aa p1.bel;clear p1 p2)
 go_ret;exact⟨rfl,B2.o⟩
end Go.Proofs.YtckkpcojhppmkaaGreatDoor
namespace Go.Proofs.YtckkpcojhppmkaaGreatDoor.topGood
open Go.ChangeShapes Go.WideShapes Go.ChangeAt Go.RowKit
open Go.ChangeMaps (open_string shut_string)
theorem mf(H:Type)(enc:TypeId × Value->H)(W:World)(base:Nat)(args:Array Value)(ds gs:List (DataW H))(before:List MemPlace)(hval:∀ (j:Nat) t v,Tryz.f3.params[j]?=some t->args[j]?=some v->Value.okWide Tryz.prog W .any base t v)(hW:DataW.Whole enc Tryz.prog Tryz.f3.params.toList Rows.topGoodSpec.vars false W args.toList ds gs before)(hZ:(DataW.weightsEach Tryz.prog (Tryz.f3.params.toList++(OpenSpec.ofChange Rows.topGoodSpec).bare.plain.varTypes Tryz.prog) (ds++gs)).all (·<=reachBytes)=true)(hL:laidMet Tryz.prog lS W)(hS:W.ShapedOpen Tryz.prog):Calls Tryz.prog 3 args W fun e W'=>∃ v,e=.returned v/\Rows.topGoodSpec.post enc Tryz.prog Tryz.f3 false true false false W args v W':=by
 have hW':=hW;obtain⟨p,q,hA0,hV,rfl,hfz,hnd⟩:=hW;have hA:DataW.TrodAll enc Tryz.prog W 0 (fun _=>true) true Tryz.f3.params.toList args.toList ds p:=hA0;rw[Tryz.params3]at hA hval;obtain⟨v0,vs0,d0,ds0,p0,q0,hargs0,rfl,rfl,h0,r0⟩:=trodAll_cons hA;obtain⟨rfl,rfl,rfl⟩:=trodAll_nil r0;have hargs:args=#[v0]:=by
  obtain⟨l⟩:=args;exact congrArg Array.mk hargs0
 subst hargs;obtain⟨rfl,rfl⟩:=trodVars_none hV;have k0:Value.okWide Tryz.prog W .any base 22 v0:=hval 0 _ _ (by simp) (by simp);obtain⟨os0,hv0⟩:=uV k0 h0;clear hA0;simp only[List.append_nil]at hW';have walk:=topGood_at W os0 v0 hv0 (um hL) (zS hS) (sf hL);refine walk.mono fun e W' ⟨he,hg⟩=>?_;subst he;have ef:Rows.topGoodSpec.fn H ([d0]++[])={ results:=[.lit (.bool true)],args:=[d0] }:=rfl;refine⟨_,rfl,_,_,_,[],(p0++[]),[],hW',?_,?_,?_,hg.frame _,fun h=>by cases h⟩
 ·rw[ef];exact trodAll_mk1 (shut_bool Tryz.underlying4 _)
 ·rw[ef,Tryz.params3];exact trodAll_cons_mk (Below.trod oI pr Al h0 hg (lK h0)) (trodAll_mk0)
 ·rw[ef];rfl
theorem sd(os:Os){H:Type}(enc:TypeId × Value->H):∃ places,DataW.whole enc Tryz.prog ((kr os).forCall (fun _ _=>0) ⟨#[],#[.slice none 0 0],[]⟩).memory Tryz.f3.params.toList Rows.topGoodSpec.vars false #[Value.slice none 0 0].toList 8=some ([.nil],[],places):=
 ⟨[],by kernel_rfl⟩
theorem xX(os:Os)(started:os.Started)(H:Type)(enc:TypeId × Value->H)(F:Stop.Interp):ReturnsInHanded {} Tryz.checked os 3 .any ((OpenSpec.ofChange Rows.topGoodSpec).preRow enc Tryz.prog Tryz.f3 Rows.topGoodRow.domain false Rows.topGoodRow.laid) (((OpenSpec.ofChange Rows.topGoodSpec).at F).post enc Tryz.prog Tryz.f3 false true false false):=by
 obtain⟨places,hx⟩:=sd os enc;refine returnsInHanded_of_row (C:=Tryz.checked) (s:=OpenSpec.ofChange Rows.topGoodSpec) own started (by kernel_rfl) Tryz.func3
  (witness_row_at (enc:=enc) (C:=Tryz.checked) false (kr os) #[.slice none 0 0] rfl (by kernel_rfl) (by kernel_rfl) (by kernel_rfl)
   (OpenSpec.preRow_of_cond 8 hx (by kernel_rfl) (fun k hk=>by cases hk) (by kernel_rfl) (Af os _))) ?_
 intro W base args ds gs before hval hW _ _ hZ hL hS _;exact mf H enc W base args ds gs before hval hW hZ hL hS
theorem Oz:(Rows.topGoodRow.inPlace == Tryz.prog.inPlace 3)=true:=by kernel_rfl
theorem OA:(Rows.topGoodRow.unfollowed == Tryz.prog.unfollowed 3)=true:=by kernel_rfl
theorem OH:(Rows.topGoodRow.recurses == Tryz.prog.recurses 3)=true:=by kernel_rfl
theorem OF:(Rows.topGoodRow.named == Tryz.prog.varsNamed 3)=true:=by kernel_rfl
theorem Oy:(Rows.topGoodRow.plainKeys == Tryz.prog.plainKeys)=true:=by kernel_rfl
theorem OC:(Rows.topGoodRow.lifted == Tryz.prog.liftsFinal)=true:=by kernel_rfl
theorem Ox:joinedFacts Tryz.prog 3 Tryz.f3 (OpenSpec.ofChange Rows.topGoodSpec).bare Rows.topGoodRow=true:=
 Oq (Oq (Oq (Oq (Oq (Oq (Oq (Oq (Oq (Oq (Oq (Oq (Oq (Oq (Oq (Oq (Oq (Oq (Oq (Oq (Oq (Oq (Oq (Oq (Oq (Oq (Oq (Oq (Oq (Oq (Oq (by kernel_rfl) Ov) Ow) (by kernel_rfl)) (by kernel_rfl)) (by kernel_rfl)) (by kernel_rfl)) (by kernel_rfl)) (by kernel_rfl)) Oz) OA) OH) OF) (by kernel_rfl)) (by kernel_rfl)) (by kernel_rfl)) (by kernel_rfl)) (by kernel_rfl)) (by kernel_rfl)) (by kernel_rfl)) (by kernel_rfl)) (by kernel_rfl)) Oy) (by kernel_rfl)) Ot) Ou) OC) (by kernel_rfl)) (by kernel_rfl)) (by kernel_rfl)) (by kernel_rfl)) (by kernel_rfl)
theorem iZ:Rows.TopGoodSaid:=
 OpenClaim.holds_of_cond 3 Tryz.f3 rfl rfl rfl rfl rfl rfl rfl ⟨rfl,rfl,rfl,rfl,rfl⟩ rfl rfl rfl rfl rfl (by kernel_rfl) Tryz.func3 Ox
  (of_decide_eq_true (by kernel_rfl)) (by unfold Func.isWrapper;first | (rw[if_pos (by decide +kernel)];kernel_rfl) | (rw[if_neg (by decide +kernel)];exact⟨rfl,rfl⟩))
  (fun os started H enc _ F=>by rw[OpenClaim.pre_eq_preRow];exact xX os started H enc F)
theorem nD(f:FuncId)(fn:Func)(hf:Tryz.pinned.checked.prog.funcNamed "stairwell/stairwelltop.TopGood"=some f)(hfn:Tryz.pinned.checked.prog.funcs[f]?=some fn):true=Tryz.pinned.checked.prog.looks []/\∀ (j:Nat) t,fn.params[j]?=some t->Tryz.pinned.checked.prog.wantsStandIn t=false:=by
 obtain rfl:f=3:=Option.some.inj ((show Tryz.prog.funcNamed "stairwell/stairwelltop.TopGood"=some 3 by kernel_rfl).symm.trans hf) |>.symm
 obtain rfl:fn=Tryz.f3:=(Option.some.inj (Tryz.func3.symm.trans hfn)).symm;refine⟨by kernel_rfl,fun j t ht=>?_⟩;rw[Tryz.params3]at ht;have hm:=Array.mem_of_getElem? ht;simp only[Array.mem_def,List.mem_cons,List.not_mem_nil,or_false]at hm;subst hm;exact(show Tryz.prog.wantsStandIn 22=false by kernel_rfl)
theorem card:Rows.TopGoodCardSaid:=
 Claim7.holds_tied_plain_at .later [] _ _ _ _ iZ (fun _ h=>by cases h) (by kernel_rfl) (fun _ h=>by cases h) topGood_row_tie rfl ⟨rfl,rfl⟩ (by kernel_rfl) rfl nD (by kernel_rfl)
end Go.Proofs.YtckkpcojhppmkaaGreatDoor.topGood
