/- Whatever it is handed, TopWeights answers true and leaves all as it was. Its conditions: a text or a list takes at most 2^47 - 4096 bytes; the listed package-level variables hold what the program's text lays (the card ties them, over a pruned copy of the project). -/
import Derived.Test.YtfpcghnhjlnnoaaGreatDoorG21
set_option maxRecDepth 100000
set_option maxHeartbeats 40000000
set_option linter.unusedSimpArgs false
set_option linter.unusedVariables false
namespace Go.Proofs.YtfpcghnhjlnnoaaGreatDoor
open Go.RowKit
open _root_.Go.Proofs.Tryz
variable {k:Nat}
def Ng (l:List Th) (n:Lz):Th:=(l.find? fun t=>t.name == n).getD dT
theorem MW{l n}(h:dR l n=true):Ng l n∈l/\(Ng l n).name=n:=by
 unfold dR at h;unfold Ng;cases e:l.find? fun t=>t.name == n with
 | none=>rw[List.find?_eq_none]at e;rw[List.any_eq_true]at h;obtain⟨x,h1,h2⟩:=h;exact absurd h2 (e x h1)
 | some t=>exact⟨List.mem_of_find?_eq_some e,by simpa using List.find?_some e⟩
theorem M6{l n}(h:∀ x∈l,x.name≠n):Ng l n=dT/\dR l n=false:=by
 unfold Ng dR;rw[List.find?_eq_none.2 (by intro x hx;simpa using h x hx)];exact⟨rfl,by rw[List.any_eq_false];intro x hx;simpa using h x hx⟩
theorem Na{l n}(hk:k < l.length)(h:∀ x∈l.take k,x.name≠n)(he:l[k].name=n):Ng l n=l[k]/\dR l n=true:=by
 unfold Ng dR;have e:l=l.take k++l[k] :: l.drop (k+1):=by rw[<-ME hk,List.take_append_drop]
 have e2:l.find? (fun t=>t.name == n)=some l[k]:=by
  have e3:∀ x,l[k]=x->(l.take k++x :: l.drop (k+1)).find? (fun t=>t.name == n)=some x:=fun x hx=>by
   rw[List.find?_append,List.find?_eq_none.2 (by intro x hx;simpa using h x hx),List.find?_cons_of_pos (by rw[<-hx];simpa using he)];rfl
  have e4:=e3 _ rfl;rwa [<-e]at e4
 exact⟨by rw[e2];rfl,by rw[List.any_eq_true];exact⟨l[k],List.getElem_mem hk,by simpa using he⟩⟩
theorem MP:∀ {l:List Th},bD (l.map Th.name)->∀ {x y:Th},x∈l->y∈l->x.name=y.name->x=y
 | [],_,_,_,h,_,_=>by cases h
 | z :: l,hr,x,y,hx,hy,e=>by
  have h0:∀ y∈l,Op.bytesLess z.name y.name=true:=fun y hy=>(List.pairwise_cons.1 hr).1 y.name (List.mem_map.2 ⟨y,hy,rfl⟩);rcases List.mem_cons.1 hx with h1 | h1 <;> rcases List.mem_cons.1 hy with h2 | h2
  ·rw[h1,h2]
  ·have:=h0 y h2;rw[<-h1,e,cd]at this;cases this
  ·have:=h0 x h1;rw[<-h2,<-e,cd]at this;cases this
  ·exact MP (List.pairwise_cons.1 hr).2 h1 h2 e
theorem Nd{l o}(h:o∈l):dR l o.name=true:=by
 unfold dR;rw[List.any_eq_true];exact⟨o,h,by simp⟩
theorem Nt{l o}(hr:bD (l.map Th.name))(h:o∈l):Ng l o.name=o:=by
 obtain⟨m1,m2⟩:=MW (Nd h);exact MP hr m1 h m2
theorem Nj(time ver t)(a:cm):(al time ver t a).1.name=t.name:=by
 unfold al;split
 ·rfl
 ·split <;> rfl
theorem Nc(l:List cm):∀ k,dP (oQ l k)
 | 0=>by unfold oQ J4;simpa using AW
 | k+1=>by
  by_cases h:k < l.length
  ·rw[uD (Mw h)];exact Ib (Nc l k)
  ·have e:oQ l (k+1)=oQ l k:=by unfold oQ;rw[MD (by omega),MD (by omega)]
   rw[e];exact Nc l k
def M8 (w:LC) (ok:Nat->Prop) (l:List Th) (n:Lz) (e:Ending) (w':LC):Prop:=∃ (a b:Option Addr) (c d:Nat) (oa:Option Addr) (oc:Nat),e=.returned (.tuple #[.agg #[.string ⟨(Ng l n).name.toArray⟩,.int .i64 (Ng l n).value.kind,.int .i64 (Ng l n).value.n,.string ⟨(Ng l n).value.s.toArray⟩,.slice a (Ng l n).value.keys.length c,.slice b (Ng l n).value.l.length d,.slice oa (Ng l n).owners.length oc,.int .i64 (Ng l n).ver,.int .i64 (Ng l n).gen,.string ⟨(Ng l n).st.a.toArray⟩,.string ⟨(Ng l n).st.c.toArray⟩,.int .i64 (Ng l n).st.ph,.int .i64 (Ng l n).st.st,.int .i64 (Ng l n).st.we,.int .i64 (Ng l n).st.si],.bool (dR l n)])/\La w w'/\cQ w' ok (Ng l n) a b c d oa oc
theorem tfind_at(w ok l v n)(h:cO w ok l v):Calls prog 11 #[v,.string ⟨n.toArray⟩] w fun e w'=>M8 w ok l n e w':=by
 have H:=aa h;obtain⟨va,vc,rfl⟩:=h.form;have ll:=h.1;obtain⟨W1,hW1⟩:∃ W,W=w.alloc (.cells Le 41):=⟨_,rfl⟩
 have Y1:Ll (La w W1):=aa (by rw[hW1];exact ae _ _);have X1:Ll (fN W1 w.heap.size dT none none 0 0 none 0):=aa (by rw[hW1];exact MN _ _);have HW1:=aa hW1;clear h hW1;go_enter func11,ntmps11;go_upto_region 1 with fail
 rw[<-HW1.o];go_upto_region 2 with fail
 go_loopg [10] l.length (fun gk i wr=>∃ k:Nat,k<=l.length/\gk=l.length - k/\i=.int .i64 k/\Ll (La W1 wr)/\Ll (∀ x∈l.take k,x.name≠n))
 case atStart=>exact⟨0,Nat.zero_le _,rfl,rfl,aa (MK _ _),aa (by intro x hx;simp at hx)⟩
 case round=>
  obtain⟨k,hk,hgk,rfl,BL,NO⟩:=hrel;have GK:=aa hgk;clear hgk;have X9:=aa (X1.o.bel BL.o);by_cases hlt:k < l.length
  ·obtain⟨g1,o1,rfl,j1,j2,j3,xa,xb,xc,xd,xoa,xoc,hx,kx⟩:=(H.o.low.bel (ab Y1.o BL.o)).at hlt;have KX:=aa kx;have w2:(k:Int) < (l.length:Int):=by omega
   have w3:(0:Int)<=(k:Int):=by omega
   have AT:=aa (Na hlt NO.o);have NX:Ll (l[k].name≠n->∀ x∈l.take (k+1),x.name≠n):=aa (by
    intro h9 x hx;rw[List.take_succ_eq_append_getElem hlt,List.mem_append]at hx;rcases hx with hx | hx
    ·exact NO.o x hx
    ·rw[List.mem_singleton.1 hx];exact h9)
   obtain⟨t,ht⟩:∃ t,l[k]=t:=⟨_,rfl⟩
   rw[ht]at hx KX AT NX;clear ht kx;obtain⟨x0,x1,x2,x3,x4,x5,x6,x7,x8,x9,x10,x11,x12,x13,x14⟩:=hx;obtain⟨W2,hW2⟩:∃ W,W=wr.alloc (.cells (Ld t xa xc xb xd xoa xoc) 41):=⟨_,rfl⟩
   have A2:Ll (La wr W2):=aa (by rw[hW2];exact ae _ _);have T2:Ll (fN W2 wr.heap.size t xa xb xc xd xoa xoc):=aa (by rw[hW2];exact MN _ _);have HW2:=aa hW2;clear hW2;go_upto_region 4 with fail
   rw[<-HW2.o];obtain⟨x0,x1,x2,x3,x4,x5,x6,x7,x8,x9,x10,x11,x12,x13,x14⟩:=T2.o.c;by_cases he:t.name=n
   ·have e0:(t.name == n)=true:=by simpa using he
    have R:=aa (AT.o he);clear he;have n0_:=(X9.o.bel A2.o).c;obtain⟨m0,m1,m2,m3,m4,m5,m6,m7,m8,m9,m10,m11,m12,m13,m14⟩:=(X9.o.bel A2.o).f;have P9:=aa ((X9.o.bel A2.o).put15 t xa xb xc xd xoa xoc);have G9:=aa (mz (r:=none) (aq (ab (ab Y1.o BL.o) A2.o)) (MG _) t xa xb xc xd xoa xoc);have z0_:=P9.o.c;simp only[jE]at z0_;go_wp2
    refine MM (v:=.tuple #[.agg (Ld t xa xc xb xd xoa xoc),.bool true]) ?_ rfl ?_
    ·simp[results,results11,go_sem,z0_]
    ·refine⟨xa,xb,xc,xd,xoa,xoc,by rw[R.o.1,R.o.2],bS G9.o,?_⟩;rw[R.o.1];exact(KX.o.gr (am (aq A2.o) (g15 _ w.heap.size t xa xb xc xd xoa xoc)) (by intro k9 h9 e9;cases e9;exact absurd h9.2 (Nat.lt_irrefl _))).weak fun k9 h9=>h9.1
   ·have e0:(t.name == n)=false:=by rw[MO];exact he
    have N9:=aa (NX.o he);clear he;go_wp2
    go_roundg (l.length - (k+1))
    case measure=>rw[GK.o];omega
    case rel=>exact⟨k+1,hlt,rfl,by go_num,aa (ab BL.o A2.o),N9⟩
  ·have d9:¬(k:Int) < (l.length:Int):=by omega
   have R:=aa (M6 (fun x hx=>NO.o x (by rw[MD (by omega)];exact hx)));have n0_:=X9.o.c;obtain⟨m0,m1,m2,m3,m4,m5,m6,m7,m8,m9,m10,m11,m12,m13,m14⟩:=X9.o.f;have P9:=aa (X9.o.put15 dT none none 0 0 none 0);have G9:=aa (mz (r:=none) (aq (ab Y1.o BL.o)) (MG _) dT none none 0 0 none 0);have z0_:=P9.o.c;simp only[jE,dT,aM,List.length_nil]at z0_;go_wp2
   refine MM (v:=.tuple #[.agg Le,.bool false]) ?_ rfl ?_
   ·simp[results,results11,go_sem,z0_]
   ·refine⟨none,none,0,0,none,0,by rw[R.o.1,R.o.2];rfl,bS G9.o,?_⟩;rw[R.o.1];exact⟨by simp[dT],fG _ _,⟨by simp[dT],.inl ⟨rfl,_,rfl⟩⟩⟩
theorem NN{g l t now order}(e:(ij g l t now order).2=0):cC (ij g l t now order).1=true /\
 ((ij g l t now order).1.st<=t.st\/(ij g l t now order).1.st<=(l.length:Int)) /\
 ((ij g l t now order).1.we=0\/(ij g l t now order).1.we=100\/(ij g l t now order).1.we=t.we\/∃ x∈l,(ij g l t now order).1.we=x.w) /\
 ((ij g l t now order).1.a=t.a\/(ij g l t now order).1.ph=1/\(ij g l t now order).1.a=g)/\(ij g l t now order).1.c=g:=by
 obtain⟨⟨k1,k2,k3,k4,k5⟩,k⟩:=NG e;obtain⟨⟨g1,g2,g3⟩,g4⟩:=Nv.1 k1;generalize ij g l t now order=r at *;obtain⟨u,n⟩:=r;rcases k with h | ⟨h,ha,hc,h1,h2,h3,h4⟩ | ⟨h1,ha,hc,h3,h4,h5,h6,x,m,h7,h8,h9⟩
 ·simp only at h;subst h;exact⟨yP g1,.inr (by simp[aF]),.inr (.inl rfl),.inr ⟨rfl,rfl⟩,rfl⟩
 ·simp only at h ha hc h1 h2 h3;refine⟨by rw[h];exact xR h1 h2 h3,.inr (by rw[h];simp[bw]),.inl (by rw[h];rfl),.inl ha,hc⟩
 ·simp only at h1 ha hc h5 h7;refine⟨h1.ok,.inr ?_,?_,.inl ha,hc⟩
  ·have:=congrArg List.length h7;rw[MB]at this;simp at this;have:=h1.2.2.2.1;simp only;omega
  ·rcases h5 with h | h | h
   ·exact .inl h
   ·exact .inr (.inr (.inl h))
   ·exact .inr (.inr (.inr h))
theorem NR{g l t now order}(e:(ij g l t now order).2=0)(hc:t.c=g):(((ij g l t now order).1.ph=2\/(ij g l t now order).1.ph=3)->t.st<=(ij g l t now order).1.st) /\
 (¬((ij g l t now order).1.ph=2\/(ij g l t now order).1.ph=3)->t.ph≠4\/(ij g l t now order).1=t):=by
 obtain⟨⟨k1,k2,k3,k4,k5⟩,k⟩:=NG e;have h4:t.ph=4->(ij g l t now order).1=t:=by
  intro h;rw[ij,if_neg (by simp[k1,k2]),if_neg (by simp[k3]),if_neg (by omega),if_neg (fun h=>h.1 hc.symm),zq,if_pos hc.symm,EH,if_pos (.inr h)]
 refine⟨fun hp=>?_,fun _=>?_⟩
 ·rcases k with h | ⟨h,_⟩ | ⟨h1,ha,hc',h3,h4,_⟩
  ·rw[h]at hp;simp[aF]at hp
  ·rw[h]at hp;simp[bw]at hp
  ·exact h4 hc
 ·by_cases h:t.ph=4
  ·exact .inr (h4 h)
  ·exact .inl h
theorem Oa:∀ (l:List V) (xs:List dN),kW l=some xs->xs.length=l.length/\∀ x∈xs,eW x=true
 | [],xs,h=>by
  simp[kW]at h;subst h;exact⟨rfl,by intro x hx;cases hx⟩
 | t :: l,xs,h=>by
  unfold kW at h;cases h1:aT t with
  | none=>rw[h1]at h;simp at h
  | some x=>
   cases h2:kW l with
   | none=>rw[h1,h2]at h;simp at h
   | some ys=>
    rw[h1,h2]at h;simp at h;subst h;obtain⟨k1,k2⟩:=Oa l ys h2;refine⟨by simp[k1],fun y hy=>?_⟩;rcases List.mem_cons.1 hy with rfl | hy
    ·unfold aT at h1;split at h1
     ·split at h1
      ·rename_i hw;cases h1;have:=zM.1 hw;unfold eW;rw[if_neg (by simp only;omega)];simp[hw]
      ·cases h1
     ·split at h1
      ·split at h1
       ·rename_i hz;cases h1;simp[eW,hz.2]
       ·cases h1
      ·cases h1
    ·exact k2 y hy
theorem NH{v}(h:cI v=0):cM (bE v).1 (bE v).2=true:=by
 have hg:=lq h;have hn:=dQ hg;unfold cI at h;unfold bE;cases hr:eY v with
 | none=>rw[hr]at h;simp at h
 | some p=>
  simp only[Option.getD_some];unfold eY at hr;rw[if_neg (by simp[hg])]at hr;split at hr
  ·cases hr
  ·rename_i m hm;split at hr
   ·cases hr
   ·rename_i hk;have hk3:m.kind=3:=Classical.byContradiction fun h9=>hk (.inl h9);have hne:m.s≠[]:=fun h9=>hk (.inr h9);have hs:=fp (gC hn (lG hm));unfold ce at hs;rw[hk3]at hs;simp[eK]at hs;rw[Nv];split at hr
    ·cases hr;exact⟨⟨hne,by simp only;omega,by simp⟩,by intro x hx;cases hx⟩
    ·split at hr
     ·cases hr
     ·rename_i q _ _ l hl;cases hr;unfold bZ at hl;split at hl
      ·cases hl
      ·rename_i h8;obtain⟨k1,k2⟩:=Oa _ _ hl;exact⟨⟨hne,by simp only;omega,by simp only;omega⟩,k2⟩
theorem N8{g l s now order}(h1:cM g l=true)(h2:cC s=true)(h3:lp now=true)(h4:0<=order/\order<=3):(ij g l s now order).2=0:=by
 unfold ij;rw[if_neg (by simp[h1,h2]),if_neg (by simp[h3]),if_neg (by omega)];split <;> rfl
def NY (o t:dI):Prop:=¬(t.st < o.st/\t.c=o.c/\t.ph≠1/\t.ph≠4)/\(t.a=o.a\/t.a=t.c)
def NU (t:Th):Prop:=cC t.st=true/\t.st.c=(bE t.value).1
def Ok (s:Nu):Prop:=∀ t∈s.ths,NU t
theorem Om{s}(h:cC s=true):s.ph=1\/s.ph=2\/s.ph=3\/s.ph=4:=by
 rcases Es h with⟨h1,-⟩ | ⟨h1,-⟩ | h1
 ·rw[h1];exact .inl rfl
 ·rw[h1];exact .inr (.inr (.inr rfl))
 ·rcases h1.2.2.2.2.2.2.2 with h | h
  ·exact .inr (.inl h.1)
  ·exact .inr (.inr (.inl h.1))
theorem Ny{g l o now order}(e:(ij g l o now order).2=0):cC (ij g l o now order).1=true/\(ij g l o now order).1.c=g/\NY o (ij g l o now order).1:=by
 obtain⟨b1,-,-,b4,b5⟩:=NN e;refine⟨b1,b5,fun⟨c1,c2,c3,c4⟩=>?_,?_⟩
 ·have:=(NR e (by rw[<-b5,c2])).1 (by rcases Om b1 with h | h | h | h <;> first | exact absurd h c3 | exact absurd h c4 | exact .inl h | exact .inr h);omega
 ·rcases b4 with h | h
  ·exact .inl h
  ·exact .inr (by rw[h.2,b5])
theorem Nx{time ver t}{a:cm}(hT:lp time=true)(h:t.gen=0\/NU t)(he:(al time ver t a).2.2=0):NU (al time ver t a).1/\(t.gen≠0->NY t.st (al time ver t a).1.st):=by
 by_cases h1:(aJ t a).2.2≠0
 ·exfalso;unfold al at he;rw[if_pos h1]at he;exact h1 he
 ·by_cases h2:cI (aJ t a).1≠0
  ·exfalso;unfold al at he;rw[if_neg h1,if_pos h2]at he;exact h2 he
  ·have R:(al time ver t a).1=(jw time ver t (aJ t a).1 (aJ t a).2.1).1:=by unfold al;rw[if_neg h1,if_neg h2]
   have sp:=NH (show cI (aJ t a).1=0 by simpa using h2);rw[R];generalize (aJ t a).1=v at sp;generalize (aJ t a).2.1=os;have K:∀ s0,cC s0=true->cC (ij (bE v).1 (bE v).2 s0 time 0).1=true/\(ij (bE v).1 (bE v).2 s0 time 0).1.c=(bE v).1/\NY s0 (ij (bE v).1 (bE v).2 s0 time 0).1:=fun s0 h0=>Ny (N8 sp h0 hT (by omega));unfold NU;simp only[jw];by_cases hg:t.gen=0
   ·rw[if_pos hg];have h0:cC (fV (bE v).1 (bE v).2).1=true:=by
     unfold fV;rw[if_pos sp];exact yP (Nv.1 sp).1.1
    exact⟨⟨(K _ h0).1,(K _ h0).2.1⟩,fun h9=>absurd hg h9⟩
   ·rw[if_neg hg];have h0:cC t.st=true:=by
     rcases h with h | h
     ·exact absurd h hg
     ·exact h.1
    exact⟨⟨(K _ h0).1,(K _ h0).2.1⟩,fun _=>(K _ h0).2.2⟩
def Of (s:Nu) (t:Th):Prop:=t∈s.ths\/NU t/\(dR s.ths t.name=false\/∃ o∈s.ths,o.name=t.name/\NY o.st t.st)
theorem NZ{s:Nu}{a:cm}(h:dP s)(hs:Ok s):∀ t∈(je s a).1.ths,Of s t:=by
 unfold je;split
 ·exact fun t ht=>.inl ht
 simp only;split
 ·exact fun t ht=>.inl ht
 split
 ·unfold iz;split
  ·exact fun t ht=>.inl ht
  ·rename_i hn;intro t ht;obtain⟨o,ho,rfl⟩:=List.mem_map.1 ht;obtain⟨k1,k2,k3⟩:=Ny (N8 (order:=0) (now:=s.time+a.n) (NH (h.ths o ho).rd) (hs o ho).1 (Ak.2 (by have:=h.time;simp only at hn;omega)) (by omega));exact .inr ⟨⟨k1,k2⟩,.inr ⟨o,ho,rfl,k3⟩⟩
 split
 ·exact fun t ht=>.inl ht
 generalize hs':({ s with acts:=s.acts+1 }:Nu)=s';have e1:s'.ths=s.ths:=by rw[<-hs']
 have e2:s'.time=s.time:=by rw[<-hs']
 have hT:lp s'.time=true:=by rw[e2];exact Ak.2 h.time
 have hr:bD (s'.ths.map Th.name):=by rw[e1];exact h.rise
 by_cases hb:cj s'.ths.length a.kind (dR s'.ths a.name)=0
 ·cases ht:dR s'.ths a.name with
  | false=>
   rw[nQ hb ht];unfold iF;split
   ·rw[e1];exact fun t ht=>.inl ht
   ·rename_i he;intro t hm;simp only[List.mem_append,List.mem_cons]at hm;rcases hm with hm | rfl | hm
    ·exact .inl (by rw[<-e1];exact List.mem_of_mem_take hm)
    ·refine .inr ⟨(Nx hT (.inl rfl) (by simpa using he)).1,.inl ?_⟩;rw[Nj,<-e1];exact ht
    ·exact .inl (by rw[<-e1];exact List.mem_of_mem_drop hm)
  | true=>
   obtain⟨t,h1,h2⟩:=nR _ _ hr ht;have htm:t∈s.ths:=by rw[<-e1];exact List.mem_of_getElem? h1
   have S:∀ (x:Th),x.name=t.name->NU x->NY t.st x.st->∀ u∈s'.ths.set (ci s'.ths a.name) x,Of s u:=by
    intro x hx k1 k2 u hu;rcases List.mem_or_eq_of_mem_set hu with hu | rfl
    ·exact .inl (by rw[<-e1];exact hu)
    ·exact .inr ⟨k1,.inr ⟨t,htm,hx.symm,k2⟩⟩
   rw[fk hb ht h1];split
   ·exact fun u hu=>.inl (by rw[<-e1];exact List.mem_of_mem_eraseIdx hu)
   split
   ·unfold iG;split
    ·rw[e1];exact fun t ht=>.inl ht
    ·rename_i he;obtain⟨k1,k2,k3⟩:=Ny (e:=show (ij (bE t.value).1 (bE t.value).2 t.st s'.time a.order).2=0 by simpa [dA] using he);exact S _ rfl ⟨k1,k2⟩ k3
   split
   ·rw[e1];exact fun t ht=>.inl ht
   ·unfold fF;split
    ·rw[e1];exact fun t ht=>.inl ht
    split
    ·rw[e1];exact fun t ht=>.inl ht
    ·rename_i he;obtain⟨k1,k2⟩:=Nx hT (.inr (hs t htm)) (show (al s'.time s'.ver t a).2.2=0 by simpa using he);exact S _ (Nj _ _ _ _) k1 (k2 (by have:=(h.ths t htm).gen.1;omega))
 ·rw[C8 rfl hb,e1];exact fun t ht=>.inl ht
theorem Og{s:Nu}{t}(hs:Ok s)(h:Of s t):NU t:=by
 rcases h with h | h
 ·exact hs t h
 ·exact h.1
theorem Nw(l:List cm):∀ k,Ok (oQ l k)
 | 0=>by unfold oQ J4;intro t ht;simp[vm]at ht
 | k+1=>by
  by_cases h:k < l.length
  ·rw[uD (Mw h)];exact fun t ht=>Og (Nw l k) (NZ (Nc l k) (Nw l k) t ht)
  ·have e:oQ l (k+1)=oQ l k:=by unfold oQ;rw[MD (by omega),MD (by omega)]
   rw[e];exact Nw l k
variable {w w':World}
variable {g:Nat}
theorem Od{x}(h:cC x=true):¬x.we < 0/\¬100 < x.we/\((x.ph == 1)=true->(x.we != 100)=false)/\((x.ph == 4)=true->(x.we != 0)=false)/\(x.ph == 1)=(x.a == x.c):=by
 rcases Es h with⟨h1,-⟩ | ⟨h1,-,-,h2⟩ | ⟨-,-,h2,-,-,h3,h4,h5⟩
 ·rw[h1];simp[aF]
 ·rw[h1];simp only[bw];refine⟨by omega,by omega,by simp,by simp,?_⟩;rw[show (x.a == x.c)=false by rw[MO];exact h2];rfl
 ·have h6:x.ph≠1/\x.ph≠4:=by omega
  refine⟨by omega,by omega,fun h9=>?_,fun h9=>?_,?_⟩
  ·exact absurd (by simpa using h9) h6.1
  ·exact absurd (by simpa using h9) h6.2
  ·rw[show (x.a == x.c)=false by rw[MO];exact h2,MO];exact h6.1
theorem Oh:∀ {x y:dI},x.a=y.a->x.c=y.c->x.ph=y.ph->x.st=y.st->x.we=y.we->x.si=y.si->x=y
 | ⟨_,_,_,_,_,_⟩,⟨_,_,_,_,_,_⟩,rfl,rfl,rfl,rfl,rfl,rfl=>rfl
def Oj (w:LC) (g:Nat) (x:dI):Prop:=w.heap[g]?=some (.cells (Li x) 39)
theorem Oj.bel{x}(h:Oj w g x)(hb:La w w'):Oj w' g x:=(hb.block g (MF.1 h).1).trans h
theorem Oj.c{x}(h:Oj w g x):w.cell? ⟨g,0,none⟩=some (.string ⟨x.a.toArray⟩)/\w.cell? ⟨g,1,none⟩=some (.string ⟨x.c.toArray⟩)/\w.cell? ⟨g,2,none⟩=some (.int .i64 x.ph)/\w.cell? ⟨g,3,none⟩=some (.int .i64 x.st)/\w.cell? ⟨g,4,none⟩=some (.int .i64 x.we)/\w.cell? ⟨g,5,none⟩=some (.int .i64 x.si):=by
 unfold Oj at h;refine⟨?_,?_,?_,?_,?_,?_⟩ <;> simp[World.cell?,h]
theorem NJ(A)(l:List cm)(S0):Jf A l S0 18 #[] (fun _ _=>True):=by
 refine⟨fun _ _ _ _ _=>trivial,fun _ _ _ _ _ _ _ _ _=>trivial,fun k q W S v was hq hk _ hL _ hT=>?_⟩;have FR:=NZ (a:=q) (Nc l k) (Nw l k);have e1:=uD hq;rw[<-e1]at FR;have SK:=Nw l (k+1);obtain⟨r,hr⟩:∃ r,(je (oQ l k) q).2=r:=⟨_,rfl⟩
 rw[hr];have L8:=(Nc l (k+1)).len;have HRS:=aa (Nc l k).rise;obtain⟨s,hs⟩:∃ s,oQ l k=s:=⟨_,rfl⟩
 rw[hs]at FR hT HRS;obtain⟨s',hs'⟩:∃ s',oQ l (k+1)=s':=⟨_,rfl⟩
 rw[hs']at FR SK hL L8 ⊢;clear hr hs hs' e1 hq hk;obtain⟨W1,hW1⟩:∃ W1,W1=(W.alloc (.cells (Lf q) 28)).alloc (.cells #[.int .i64 r.code,.int .i64 r.n,.string ⟨r.body.toArray⟩] 31):=⟨_,rfl⟩
 have Y1:Ll (La W W1):=aa (by rw[hW1];exact ab (ae _ _) (ae _ _));have HW1:=aa hW1;have L1:=aa (hL.more Y1.o);have T1:=aa (hT.bel Y1.o);have TH1:=aa (fl L1.o);have HFR:=aa FR;have HSK:=aa SK;clear hW1 hL hT FR SK;go_enter func18,ntmps18;go_upto_region 1 with fail
 rw[<-HW1.o];go_upto_region 2 with (go_at_call 10;refine TH1.o.mono ?_;rintro e w3 ⟨rfl,p1,p2,p3⟩;have N3:=aa p1.ths;have L3:=aa p2;have B3:=aa p3;clear p1 p2 p3)
 have T3:=aa (T1.o.bel B3.o);clear T1 TH1;obtain⟨nva,hnva⟩:∃ x:Option Addr,x=some ⟨W1.heap.size,0,none⟩:=⟨_,rfl⟩
 rw[<-hnva]at N3 ⊢;clear hnva;go_loopg [18] s'.ths.length (fun gk i wr=>∃ k:Nat,k<=s'.ths.length/\gk=s'.ths.length - k/\i=.int .i64 k/\Ll (La w3 wr))
 case atStart=>exact⟨0,Nat.zero_le _,rfl,rfl,aa (MK _ _)⟩
 case round=>
  obtain⟨k,hk,hgk,rfl,BL⟩:=hrel;have GK:=aa hgk;clear hgk;by_cases hlt:k < s'.ths.length
  ·obtain⟨g1,o1,rfl,j1,j2,j3,xa,xb,xc,xd,xoa,xoc,hx,-⟩:=(N3.o.bel BL.o).at hlt;have w2:(k:Int) < (s'.ths.length:Int):=by omega
   have w3:(0:Int)<=(k:Int):=by omega
   have FT:=aa (HFR.o s'.ths[k] (List.getElem_mem hlt));have SO:=aa (HSK.o s'.ths[k] (List.getElem_mem hlt)).1;obtain⟨t,ho⟩:∃ t,s'.ths[k]=t:=⟨_,rfl⟩
   rw[ho]at hx FT SO;clear ho;obtain⟨x0,x1,x2,x3,x4,x5,x6,x7,x8,x9,x10,x11,x12,x13,x14⟩:=hx;obtain⟨W2,hW2⟩:∃ W,W=wr.alloc (.cells (Ld t xa xc xb xd xoa xoc) 41):=⟨_,rfl⟩
   have A2:Ll (La wr W2):=aa (by rw[hW2];exact ae _ _);have T2:Ll (fN W2 wr.heap.size t xa xb xc xd xoa xoc):=aa (by rw[hW2];exact MN _ _);have HW2:=aa hW2;clear hW2;go_upto_region 4 with fail
   rw[<-HW2.o];obtain⟨x0,x1,x2,x3,x4,x5,x6,x7,x8,x9,x10,x11,x12,x13,x14⟩:=T2.o.c;obtain⟨W4,hW4⟩:∃ W,W=W2.alloc (.cells (Li t.st) 39):=⟨_,rfl⟩
   have A4:Ll (La W2 W4):=aa (by rw[hW4];exact ae _ _);have S4:Ll (Oj W4 W2.heap.size t.st):=aa (by rw[hW4];exact MN _ _);have HW4:=aa hW4;clear hW4;go_upto_region 5 with fail
   rw[<-HW4.o];obtain⟨x0,x1,x2,x3,x4,x5,x6,x7,x8,x9,x10,x11,x12,x13,x14⟩:=(T2.o.bel A4.o).c;have s0_:=S4.o.c;obtain⟨f1,f2,f3,f4,f5⟩:=Od SO.o;have FD:=aa (tfind_at W4 _ s.ths was t.name (T3.o.bel (ab BL.o (ab A2.o A4.o))));go_cut [62] (fun cv wc=>cv=.bool false/\wc=W4)
   case first=>
    by_cases c1:t.st.ph=1
    ·have e1:(t.st.ph == 1)=true:=by simp[c1]
     have e4:(t.st.ph == 4)=false:=by rw[c1];rfl
     have g3:=f3 e1;have g5:(t.st.a == t.st.c)=true:=by rw[<-f5];exact e1
     clear f3 f4 f5 c1;go_wp2
     go_meet
     case rel=>exact⟨rfl,rfl⟩
    have e1:(t.st.ph == 1)=false:=by rw[MO];exact c1
    have g5:(t.st.a == t.st.c)=false:=by rw[<-f5];exact e1
    by_cases c4:t.st.ph=4
    ·have e4:(t.st.ph == 4)=true:=by simp[c4]
     have g4:=f4 e4;clear f3 f4 f5 c1 c4;go_wp2
     go_meet
     case rel=>exact⟨rfl,rfl⟩
    ·have e4:(t.st.ph == 4)=false:=by rw[MO];exact c4
     clear f3 f4 f5 c1 c4;go_wp2
     go_meet
     case rel=>exact⟨rfl,rfl⟩
   case rest=>
    obtain⟨rfl,rfl⟩:=hcut;clear f1 f2 f3 f4 f5;go_upto_region 8 with (go_at_call 11;refine FD.o.mono ?_;rintro e w5 ⟨a,b,c,d,oa,oc,rfl,p1,-⟩;have B5:=aa p1;clear p1)
    have FR9:Ll (dR s.ths t.name=true->Ng s.ths t.name=t\/NY (Ng s.ths t.name).st t.st):=fun h9=>by
     rcases FT.o with h8 | ⟨-,h8 | ⟨o,ho,he,hre⟩⟩
     ·exact .inl (Nt HRS.o h8)
     ·rw[h9]at h8;cases h8
     ·rw[<-he,Nt HRS.o ho];exact .inr hre
    obtain⟨th,hth⟩:∃ th,dR s.ths t.name=th:=⟨_,rfl⟩
    obtain⟨o,ho⟩:∃ o,Ng s.ths t.name=o:=⟨_,rfl⟩
    rw[hth,ho]at FR9;rw[hth,ho];clear hth ho;obtain⟨W5,hW5⟩:∃ W,W=w5.alloc (.cells (Ld o a c b d oa oc) 41):=⟨_,rfl⟩
    have A5:Ll (La w5 W5):=aa (by rw[hW5];exact ae _ _);have T5:Ll (fN W5 w5.heap.size o a b c d oa oc):=aa (by rw[hW5];exact MN _ _);rw[<-hW5];clear hW5;have B45:=aa (ab B5.o A5.o);have B9:=aa (ab BL.o (ab A2.o (ab A4.o B45.o)));obtain⟨z0,z1,z2,z3,z4,z5,z6,z7,z8,z9,z10,z11,z12,z13,z14⟩:=T5.o.c;have s0_:=(S4.o.bel B45.o).c;cases th with
    | false=>
     go_wp2
     go_roundg (s'.ths.length - (k+1))
     case measure=>rw[GK.o];omega
     case rel=>exact⟨k+1,hlt,rfl,by go_num,B9⟩
    | true=>
     by_cases ex:o.st=t.st
     ·simp only[ex]at z9 z10 z11 z12 z13 z14;clear ex;go_wp2
      go_roundg (s'.ths.length - (k+1))
      case measure=>rw[GK.o];omega
      case rel=>exact⟨k+1,hlt,rfl,by go_num,B9⟩
     ·have NE:Ll (¬(o.st.a=t.st.a/\o.st.c=t.st.c/\o.st.ph=t.st.ph/\o.st.st=t.st.st/\o.st.we=t.st.we/\o.st.si=t.st.si)):=fun⟨h1,h2,h3,h4,h5,h6⟩=>ex (Oh h1 h2 h3 h4 h5 h6);have RE:=aa (show NY o.st t.st by
       rcases FR9.o rfl with h9 | h9
       ·exact absurd (by rw[h9]) ex
       ·exact h9)
      clear ex;go_upto_region 8 with fail
      go_cut [77] (fun cv wc=>cv=.bool false/\wc=W5)
      case first=>
       go_wp2
       all_goals first | (go_meet;exact⟨rfl,rfl⟩) | exact absurd ⟨by assumption,by assumption,by assumption,by assumption,by assumption,by assumption⟩ NE.o
      case rest=>
       obtain⟨rfl,hwc⟩:=hcut;have hwd:=hwc.symm;subst hwd;clear NE;go_upto_region 9 with fail
       go_cut [14] (fun cv wc=>cv=.bool false/\wc=W5)
       case first=>
        have nb:=RE.o.1;by_cases c1:t.st.st < o.st.st
        ·by_cases c2:t.st.c=o.st.c
         ·have d2:(t.st.c == o.st.c)=true:=by simpa using c2
          by_cases c3:t.st.ph=1
          ·have d3:(t.st.ph == 1)=true:=by simpa using c3
           have d4:(t.st.ph != 1)=false:=by simp[c3]
           clear c2 c3 nb;go_wp2
           go_meet
           case rel=>exact⟨rfl,rfl⟩
          ·have c4:t.st.ph=4:=Classical.byContradiction fun h9=>nb ⟨c1,c2,c3,h9⟩;have d3:(t.st.ph == 1)=false:=by rw[c4];rfl
           have d4:(t.st.ph != 1)=true:=by rw[c4];rfl
           have d5:(t.st.ph == 4)=true:=by simpa using c4
           have d6:(t.st.ph != 4)=false:=by simp[c4]
           clear c2 c3 c4 nb;go_wp2
           go_meet
           case rel=>exact⟨rfl,rfl⟩
         ·have d2:(t.st.c == o.st.c)=false:=by rw[MO];exact c2
          clear c2 nb;go_wp2
          go_meet
          case rel=>exact⟨rfl,rfl⟩
        ·clear nb;go_wp2
         go_meet
         case rel=>exact⟨rfl,rfl⟩
       case rest=>
        obtain⟨rfl,rfl⟩:=hcut;by_cases d1:t.st.a=o.st.a
        ·have d2:(t.st.a == o.st.a)=true:=by simpa using d1
         have d3:(t.st.a != o.st.a)=false:=by simp[d1]
         clear d1;go_wp2
         go_roundg (s'.ths.length - (k+1))
         case measure=>rw[GK.o];omega
         case rel=>exact⟨k+1,hlt,rfl,by go_num,B9⟩
        ·have d4:t.st.a=t.st.c:=by
          rcases RE.o.2 with h9 | h9
          ·exact absurd h9 d1
          ·exact h9
         have d2:(t.st.a == o.st.a)=false:=by rw[MO];exact d1
         have d3:(t.st.a != o.st.a)=true:=by simpa using d1
         have d5:(t.st.a == t.st.c)=true:=by simpa using d4
         have d6:(t.st.a != t.st.c)=false:=by simp[d4]
         clear d1 d4;go_wp2
         go_roundg (s'.ths.length - (k+1))
         case measure=>rw[GK.o];omega
         case rel=>exact⟨k+1,hlt,rfl,by go_num,B9⟩
  ·have d9:¬(k:Int) < (s'.ths.length:Int):=by omega
   have L9:=aa (L3.o.more BL.o);go_wp2
   go_ret;first | exact⟨rfl,L9.o⟩ | exact⟨rfl,L9.o,trivial⟩
theorem Nz:∀ args w,(callFunc 18 args).run prog w=.ok (.enter 18 args) w:=enters_of func18 (by kernel_rfl) rfl
theorem topWeights_at(w)(l:List cm)(v)(hl:fc w l v)(h1:cn w)(h2:bj w)(h3:di w):Calls prog 6 #[v] w fun e w'=>e=.returned (.bool true)/\La w w':=by
 have PL:=aa (Ip w w l v _ _ _ Nz (MK _ _) hl h1 h2 h3 trivial (NJ w l _));clear hl h1 h2 h3;go_enter func6,ntmps6;go_wp2_with (go_at_call 8;refine PL.o.mono ?_;rintro e w2 ⟨S,v2,rfl,p1,p2,-⟩;have B2:=aa p1.bel;clear p1 p2)
 go_ret;exact⟨rfl,B2.o⟩
end Go.Proofs.YtfpcghnhjlnnoaaGreatDoor
namespace Go.Proofs.YtfpcghnhjlnnoaaGreatDoor.topWeights
open Go.ChangeShapes Go.WideShapes Go.ChangeAt Go.RowKit
open Go.ChangeMaps (open_string shut_string)
theorem mf(H:Type)(enc:TypeId × Value->H)(W:World)(base:Nat)(args:Array Value)(ds gs:List (DataW H))(before:List MemPlace)(hval:∀ (j:Nat) t v,Tryz.f6.params[j]?=some t->args[j]?=some v->Value.okWide Tryz.prog W .any base t v)(hW:DataW.Whole enc Tryz.prog Tryz.f6.params.toList Rows.topWeightsSpec.vars false W args.toList ds gs before)(hZ:(DataW.weightsEach Tryz.prog (Tryz.f6.params.toList++(OpenSpec.ofChange Rows.topWeightsSpec).bare.plain.varTypes Tryz.prog) (ds++gs)).all (·<=reachBytes)=true)(hL:laidMet Tryz.prog lS W)(hS:W.ShapedOpen Tryz.prog):Calls Tryz.prog 6 args W fun e W'=>∃ v,e=.returned v/\Rows.topWeightsSpec.post enc Tryz.prog Tryz.f6 false true false false W args v W':=by
 have hW':=hW;obtain⟨p,q,hA0,hV,rfl,hfz,hnd⟩:=hW;have hA:DataW.TrodAll enc Tryz.prog W 0 (fun _=>true) true Tryz.f6.params.toList args.toList ds p:=hA0;rw[Tryz.params6]at hA hval;obtain⟨v0,vs0,d0,ds0,p0,q0,hargs0,rfl,rfl,h0,r0⟩:=trodAll_cons hA;obtain⟨rfl,rfl,rfl⟩:=trodAll_nil r0;have hargs:args=#[v0]:=by
  obtain⟨l⟩:=args;exact congrArg Array.mk hargs0
 subst hargs;obtain⟨rfl,rfl⟩:=trodVars_none hV;have k0:Value.okWide Tryz.prog W .any base 22 v0:=hval 0 _ _ (by simp) (by simp);obtain⟨os0,hv0⟩:=arg_acts k0 h0;clear hA0;simp only[List.append_nil]at hW';have walk:=topWeights_at W os0 v0 hv0 (glob_top hL) (zS hS) (glob_topw hL);refine walk.mono fun e W' ⟨he,hg⟩=>?_;subst he;have ef:Rows.topWeightsSpec.fn H ([d0]++[])={ results:=[.lit (.bool true)],args:=[d0] }:=rfl;refine⟨_,rfl,_,_,_,[],(p0++[]),[],hW',?_,?_,?_,hg.frame _,fun h=>by cases h⟩
 ·rw[ef];exact trodAll_mk1 (shut_bool Tryz.underlying4 _)
 ·rw[ef,Tryz.params6];exact trodAll_cons_mk (Below.trod oI pr Al h0 hg (lK h0)) (trodAll_mk0)
 ·rw[ef];rfl
theorem sd(os:Os){H:Type}(enc:TypeId × Value->H):∃ places,DataW.whole enc Tryz.prog ((kr os).forCall (fun _ _=>0) ⟨#[],#[.slice none 0 0],[]⟩).memory Tryz.f6.params.toList Rows.topWeightsSpec.vars false #[Value.slice none 0 0].toList 8=some ([.nil],[],places):=
 ⟨[],by kernel_rfl⟩
theorem xX(os:Os)(started:os.Started)(H:Type)(enc:TypeId × Value->H)(F:Stop.Interp):ReturnsInHanded {} Tryz.checked os 6 .any ((OpenSpec.ofChange Rows.topWeightsSpec).preRow enc Tryz.prog Tryz.f6 Rows.topWeightsRow.domain false Rows.topWeightsRow.laid) (((OpenSpec.ofChange Rows.topWeightsSpec).at F).post enc Tryz.prog Tryz.f6 false true false false):=by
 obtain⟨places,hx⟩:=sd os enc;refine returnsInHanded_of_row (C:=Tryz.checked) (s:=OpenSpec.ofChange Rows.topWeightsSpec) own started (by kernel_rfl) Tryz.func6
  (witness_row_at (enc:=enc) (C:=Tryz.checked) false (kr os) #[.slice none 0 0] rfl (by kernel_rfl) (by kernel_rfl) (by kernel_rfl)
   (OpenSpec.preRow_of_cond 8 hx (by kernel_rfl) (fun k hk=>by cases hk) (by kernel_rfl) (Af os _))) ?_
 intro W base args ds gs before hval hW _ _ hZ hL hS _;exact mf H enc W base args ds gs before hval hW hZ hL hS
theorem Oz:(Rows.topWeightsRow.inPlace == Tryz.prog.inPlace 6)=true:=by kernel_rfl
theorem OA:(Rows.topWeightsRow.unfollowed == Tryz.prog.unfollowed 6)=true:=by kernel_rfl
theorem OH:(Rows.topWeightsRow.recurses == Tryz.prog.recurses 6)=true:=by kernel_rfl
theorem OF:(Rows.topWeightsRow.named == Tryz.prog.varsNamed 6)=true:=by kernel_rfl
theorem Oy:(Rows.topWeightsRow.plainKeys == Tryz.prog.plainKeys)=true:=by kernel_rfl
theorem OC:(Rows.topWeightsRow.lifted == Tryz.prog.liftsFinal)=true:=by kernel_rfl
theorem Ox:joinedFacts Tryz.prog 6 Tryz.f6 (OpenSpec.ofChange Rows.topWeightsSpec).bare Rows.topWeightsRow=true:=
 Oq (Oq (Oq (Oq (Oq (Oq (Oq (Oq (Oq (Oq (Oq (Oq (Oq (Oq (Oq (Oq (Oq (Oq (Oq (Oq (Oq (Oq (Oq (Oq (Oq (Oq (Oq (Oq (Oq (Oq (Oq (by kernel_rfl) Ov) Ow) (by kernel_rfl)) (by kernel_rfl)) (by kernel_rfl)) (by kernel_rfl)) (by kernel_rfl)) (by kernel_rfl)) Oz) OA) OH) OF) (by kernel_rfl)) (by kernel_rfl)) (by kernel_rfl)) (by kernel_rfl)) (by kernel_rfl)) (by kernel_rfl)) (by kernel_rfl)) (by kernel_rfl)) (by kernel_rfl)) Oy) (by kernel_rfl)) Ot) Ou) OC) (by kernel_rfl)) (by kernel_rfl)) (by kernel_rfl)) (by kernel_rfl)) (by kernel_rfl)
theorem iZ:Rows.TopWeightsSaid:=
 OpenClaim.holds_of_cond 6 Tryz.f6 rfl rfl rfl rfl rfl rfl rfl ⟨rfl,rfl,rfl,rfl,rfl⟩ rfl rfl rfl rfl rfl (by kernel_rfl) Tryz.func6 Ox
  (of_decide_eq_true (by kernel_rfl)) (by unfold Func.isWrapper;first | (rw[if_pos (by decide +kernel)];kernel_rfl) | (rw[if_neg (by decide +kernel)];exact⟨rfl,rfl⟩))
  (fun os started H enc _ F=>by rw[OpenClaim.pre_eq_preRow];exact xX os started H enc F)
theorem nD(f:FuncId)(fn:Func)(hf:Tryz.pinned.checked.prog.funcNamed "stairwell/stairwelltop.TopWeights"=some f)(hfn:Tryz.pinned.checked.prog.funcs[f]?=some fn):true=Tryz.pinned.checked.prog.looks []/\∀ (j:Nat) t,fn.params[j]?=some t->Tryz.pinned.checked.prog.wantsStandIn t=false:=by
 obtain rfl:f=6:=Option.some.inj ((show Tryz.prog.funcNamed "stairwell/stairwelltop.TopWeights"=some 6 by kernel_rfl).symm.trans hf) |>.symm
 obtain rfl:fn=Tryz.f6:=(Option.some.inj (Tryz.func6.symm.trans hfn)).symm;refine⟨by kernel_rfl,fun j t ht=>?_⟩;rw[Tryz.params6]at ht;have hm:=Array.mem_of_getElem? ht;simp only[Array.mem_def,List.mem_cons,List.not_mem_nil,or_false]at hm;subst hm;exact(show Tryz.prog.wantsStandIn 22=false by kernel_rfl)
theorem card:Rows.TopWeightsCardSaid:=
 Claim7.holds_tied_plain_at .later [] _ _ _ _ iZ (fun _ h=>by cases h) (by kernel_rfl) (fun _ h=>by cases h) topWeights_row_tie rfl ⟨rfl,rfl⟩ (by kernel_rfl) rfl nD (by kernel_rfl)
end Go.Proofs.YtfpcghnhjlnnoaaGreatDoor.topWeights
