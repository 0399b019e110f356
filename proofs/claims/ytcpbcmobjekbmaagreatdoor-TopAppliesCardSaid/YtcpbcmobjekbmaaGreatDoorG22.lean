/- Whatever it is handed, TopApplies answers true and leaves all as it was. Its conditions: a text or a list takes at most 2^47 - 4096 bytes; the listed package-level variables hold what the program's text lays (the card ties them, over a pruned copy of the project). -/
import Derived.Test.YtcpbcmobjekbmaaGreatDoorG21
set_option maxRecDepth 100000
set_option maxHeartbeats 40000000
set_option linter.unusedSimpArgs false
set_option linter.unusedVariables false
namespace Go.Proofs.YtcpbcmobjekbmaaGreatDoor
open Go.RowKit
open _root_.Go.Proofs.Tryz
theorem yK(s:Nu)(a:cm):(dD s a).1.acts=s.acts:=by
 unfold dD;simp only;split
 ·rfl
 ·split
  ·split
   ·split <;> rfl
   ·split
    ·rfl
    ·split
     ·split <;> rfl
     ·split
      ·rfl
      ·split
       ·rfl
       ·split <;> rfl
  ·split <;> rfl
theorem Hv{s:Nu}{a:cm}(h:s.acts≠300):(je s a).1.acts=s.acts+1:=by
 unfold je;rw[if_neg h];simp only;split
 ·rfl
 ·split
  ·unfold iz;split <;> rfl
  ·split
   ·rfl
   ·exact yK _ _
theorem ur(l:List cm):∀ k,k<=100->k<=l.length->(oQ l k).acts=k
 | 0,_,_=>rfl
 | k+1,h,hk=>by
  have ih:=ur l k (by omega) (by omega);rw[uD (Mw (show k < l.length by omega)),Hv (by rw[ih];omega),ih];rfl
variable {k:Nat}
def Ng (l:List Th) (n:Lz):Th:=(l.find? fun t=>t.name == n).getD dT
theorem MW{l n}(h:dR l n=true):Ng l n∈l/\(Ng l n).name=n:=by
 unfold dR at h;unfold Ng;cases e:l.find? fun t=>t.name == n with
 | none=>rw[List.find?_eq_none]at e;rw[List.any_eq_true]at h;obtain⟨x,h1,h2⟩:=h;exact absurd h2 (e x h1)
 | some t=>exact⟨List.mem_of_find?_eq_some e,by simpa using List.find?_some e⟩
theorem M6{l n}(h:∀ x∈l,x.name≠n):Ng l n=dT/\dR l n=false:=by
 unfold Ng dR;rw[List.find?_eq_none.2 (by intro x hx;simpa using h x hx)];exact⟨rfl,by rw[List.any_eq_false];intro x hx;simpa using h x hx⟩
theorem Na{l n}(hk:k < l.length)(h:∀ x∈l.take k,x.name≠n)(he:l[k].name=n):Ng l n=l[k]/\dR l n=true:=by
 unfold Ng dR;have e:l=l.take k++l[k] :: l.drop (k+1):=by rw[<-ME hk,List.take_append_drop]
 have e2:l.find? (fun t=>t.name == n)=some l[k]:=by
  have e3:∀ x,l[k]=x->(l.take k++x :: l.drop (k+1)).find? (fun t=>t.name == n)=some x:=fun x hx=>by
   rw[List.find?_append,List.find?_eq_none.2 (by intro x hx;simpa using h x hx),List.find?_cons_of_pos (by rw[<-hx];simpa using he)];rfl
  have e4:=e3 _ rfl;rwa [<-e]at e4
 exact⟨by rw[e2];rfl,by rw[List.any_eq_true];exact⟨l[k],List.getElem_mem hk,by simpa using he⟩⟩
theorem MP:∀ {l:List Th},bD (l.map Th.name)->∀ {x y:Th},x∈l->y∈l->x.name=y.name->x=y
 | [],_,_,_,h,_,_=>by cases h
 | z :: l,hr,x,y,hx,hy,e=>by
  have h0:∀ y∈l,Op.bytesLess z.name y.name=true:=fun y hy=>(List.pairwise_cons.1 hr).1 y.name (List.mem_map.2 ⟨y,hy,rfl⟩);rcases List.mem_cons.1 hx with h1 | h1 <;> rcases List.mem_cons.1 hy with h2 | h2
  ·rw[h1,h2]
  ·have:=h0 y h2;rw[<-h1,e,cd]at this;cases this
  ·have:=h0 x h1;rw[<-h2,<-e,cd]at this;cases this
  ·exact MP (List.pairwise_cons.1 hr).2 h1 h2 e
theorem MY{l n t}(hr:bD (l.map Th.name))(h:dR l n=true)(hp:l[ci l n]?=some t):Ng l n=t:=by
 obtain⟨m1,m2⟩:=MW h;obtain⟨t',h1,h2⟩:=nR l n hr h;rw[hp]at h1;cases h1;exact MP hr m1 (List.mem_of_getElem? hp) (m2.trans h2.symm)
theorem Nd{l o}(h:o∈l):dR l o.name=true:=by
 unfold dR;rw[List.any_eq_true];exact⟨o,h,by simp⟩
theorem Nt{l o}(hr:bD (l.map Th.name))(h:o∈l):Ng l o.name=o:=by
 obtain⟨m1,m2⟩:=MW (Nd h);exact MP hr m1 h m2
theorem Nj(time ver t)(a:cm):(al time ver t a).1.name=t.name:=by
 unfold al;split
 ·rfl
 ·split <;> rfl
theorem Nc(l:List cm):∀ k,dP (oQ l k)
 | 0=>by unfold oQ J4;simpa using AW
 | k+1=>by
  by_cases h:k < l.length
  ·rw[uD (Mw h)];exact Ib (Nc l k)
  ·have e:oQ l (k+1)=oQ l k:=by unfold oQ;rw[MD (by omega),MD (by omega)]
   rw[e];exact Nc l k
theorem Ns{l:List cm}{q:cm}(h:l[k]?=some q)(hk:k < 100):(oQ l k).acts≠300:=by
 rw[ur l k (by omega) (by have:=(Mz.1 h).1;omega)];omega
def M8 (w:LC) (ok:Nat->Prop) (l:List Th) (n:Lz) (e:Ending) (w':LC):Prop:=∃ (a b:Option Addr) (c d:Nat) (oa:Option Addr) (oc:Nat),e=.returned (.tuple #[.agg #[.string ⟨(Ng l n).name.toArray⟩,.int .i64 (Ng l n).value.kind,.int .i64 (Ng l n).value.n,.string ⟨(Ng l n).value.s.toArray⟩,.slice a (Ng l n).value.keys.length c,.slice b (Ng l n).value.l.length d,.slice oa (Ng l n).owners.length oc,.int .i64 (Ng l n).ver,.int .i64 (Ng l n).gen,.string ⟨(Ng l n).st.a.toArray⟩,.string ⟨(Ng l n).st.c.toArray⟩,.int .i64 (Ng l n).st.ph,.int .i64 (Ng l n).st.st,.int .i64 (Ng l n).st.we,.int .i64 (Ng l n).st.si],.bool (dR l n)])/\La w w'/\cQ w' ok (Ng l n) a b c d oa oc
theorem Q7(w ok l v n)(h:cO w ok l v):Calls prog 7 #[v,.string ⟨n.toArray⟩] w fun e w'=>M8 w ok l n e w':=by
 have H:=aa h;obtain⟨va,vc,rfl⟩:=h.form;have ll:=h.1;obtain⟨W1,hW1⟩:∃ W,W=w.alloc (.cells Le 42):=⟨_,rfl⟩
 have Y1:Ll (La w W1):=aa (by rw[hW1];exact ae _ _);have X1:Ll (fN W1 w.heap.size dT none none 0 0 none 0):=aa (by rw[hW1];exact MN _ _);have HW1:=aa hW1;clear h hW1;go_enter func7,ntmps7;go_upto_region 1 with fail
 rw[<-HW1.o];go_upto_region 2 with fail
 go_loopg [10] l.length (fun gk i wr=>∃ k:Nat,k<=l.length/\gk=l.length - k/\i=.int .i64 k/\Ll (La W1 wr)/\Ll (∀ x∈l.take k,x.name≠n))
 case atStart=>exact⟨0,Nat.zero_le _,rfl,rfl,aa (MK _ _),aa (by intro x hx;simp at hx)⟩
 case round=>
  obtain⟨k,hk,hgk,rfl,BL,NO⟩:=hrel;have GK:=aa hgk;clear hgk;have X9:=aa (X1.o.bel BL.o);by_cases hlt:k < l.length
  ·obtain⟨g1,o1,rfl,j1,j2,j3,xa,xb,xc,xd,xoa,xoc,hx,kx⟩:=(H.o.low.bel (ab Y1.o BL.o)).at hlt;have KX:=aa kx;have w2:(k:Int) < (l.length:Int):=by omega
   have w3:(0:Int)<=(k:Int):=by omega
   have AT:=aa (Na hlt NO.o);have NX:Ll (l[k].name≠n->∀ x∈l.take (k+1),x.name≠n):=aa (by
    intro h9 x hx;rw[List.take_succ_eq_append_getElem hlt,List.mem_append]at hx;rcases hx with hx | hx
    ·exact NO.o x hx
    ·rw[List.mem_singleton.1 hx];exact h9)
   obtain⟨t,ht⟩:∃ t,l[k]=t:=⟨_,rfl⟩
   rw[ht]at hx KX AT NX;clear ht kx;obtain⟨x0,x1,x2,x3,x4,x5,x6,x7,x8,x9,x10,x11,x12,x13,x14⟩:=hx;obtain⟨W2,hW2⟩:∃ W,W=wr.alloc (.cells (Ld t xa xc xb xd xoa xoc) 42):=⟨_,rfl⟩
   have A2:Ll (La wr W2):=aa (by rw[hW2];exact ae _ _);have T2:Ll (fN W2 wr.heap.size t xa xb xc xd xoa xoc):=aa (by rw[hW2];exact MN _ _);have HW2:=aa hW2;clear hW2;go_upto_region 4 with fail
   rw[<-HW2.o];obtain⟨x0,x1,x2,x3,x4,x5,x6,x7,x8,x9,x10,x11,x12,x13,x14⟩:=T2.o.c;by_cases he:t.name=n
   ·have e0:(t.name == n)=true:=by simpa using he
    have R:=aa (AT.o he);clear he;have n0_:=(X9.o.bel A2.o).c;obtain⟨m0,m1,m2,m3,m4,m5,m6,m7,m8,m9,m10,m11,m12,m13,m14⟩:=(X9.o.bel A2.o).f;have P9:=aa ((X9.o.bel A2.o).put15 t xa xb xc xd xoa xoc);have G9:=aa (mz (r:=none) (aq (ab (ab Y1.o BL.o) A2.o)) (MG _) t xa xb xc xd xoa xoc);have z0_:=P9.o.c;simp only[jE]at z0_;go_wp2
    refine MM (v:=.tuple #[.agg (Ld t xa xc xb xd xoa xoc),.bool true]) ?_ rfl ?_
    ·simp[results,results7,go_sem,z0_]
    ·refine⟨xa,xb,xc,xd,xoa,xoc,by rw[R.o.1,R.o.2],bS G9.o,?_⟩;rw[R.o.1];exact(KX.o.gr (am (aq A2.o) (g15 _ w.heap.size t xa xb xc xd xoa xoc)) (by intro k9 h9 e9;cases e9;exact absurd h9.2 (Nat.lt_irrefl _))).weak fun k9 h9=>h9.1
   ·have e0:(t.name == n)=false:=by rw[MO];exact he
    have N9:=aa (NX.o he);clear he;go_wp2
    go_roundg (l.length - (k+1))
    case measure=>rw[GK.o];omega
    case rel=>exact⟨k+1,hlt,rfl,by go_num,aa (ab BL.o A2.o),N9⟩
  ·have d9:¬(k:Int) < (l.length:Int):=by omega
   have R:=aa (M6 (fun x hx=>NO.o x (by rw[MD (by omega)];exact hx)));have n0_:=X9.o.c;obtain⟨m0,m1,m2,m3,m4,m5,m6,m7,m8,m9,m10,m11,m12,m13,m14⟩:=X9.o.f;have P9:=aa (X9.o.put15 dT none none 0 0 none 0);have G9:=aa (mz (r:=none) (aq (ab Y1.o BL.o)) (MG _) dT none none 0 0 none 0);have z0_:=P9.o.c;simp only[jE,dT,aM,List.length_nil]at z0_;go_wp2
   refine MM (v:=.tuple #[.agg Le,.bool false]) ?_ rfl ?_
   ·simp[results,results7,go_sem,z0_]
   ·refine⟨none,none,0,0,none,0,by rw[R.o.1,R.o.2];rfl,bS G9.o,?_⟩;rw[R.o.1];exact⟨by simp[dT],fG _ _,⟨by simp[dT],.inl ⟨rfl,_,rfl⟩⟩⟩
theorem Ry{time ver:Int}{o:Th}{q:cm}(hk:q.kind=5)(he:(al time ver o q).2.2=0):(cW q.body).2=0/\∃ c,eC o.value o.owners q.who (cW q.body).1 q.force=((al time ver o q).1.value,(al time ver o q).1.owners,c,0):=by
 by_cases h1:(aJ o q).2.2≠0
 ·exfalso;unfold al at he;rw[if_pos h1]at he;exact h1 he
 by_cases h2:cI (aJ o q).1≠0
 ·exfalso;unfold al at he;rw[if_neg h1,if_pos h2]at he;exact h2 he
 have R:(al time ver o q).1=(jw time ver o (aJ o q).1 (aJ o q).2.1).1:=by unfold al;rw[if_neg h1,if_neg h2]
 have h1':(aJ o q).2.2=0:=by simpa using h1
 by_cases hp:(cW q.body).2≠0
 ·exfalso;unfold aJ at h1';rw[if_pos hp]at h1';exact hp h1'
 have W:aJ o q=((eC o.value o.owners q.who (cW q.body).1 q.force).1,(eC o.value o.owners q.who (cW q.body).1 q.force).2.1,(eC o.value o.owners q.who (cW q.body).1 q.force).2.2.2):=by unfold aJ;rw[if_neg hp,if_pos hk]
 refine⟨by simpa using hp,(eC o.value o.owners q.who (cW q.body).1 q.force).2.2.1,?_⟩;rw[R];simp only[jw,W];rw[W]at h1';simp only at h1';rw[<-h1']
theorem RV{l:List Th}{n:Lz}(h:dR l n=false):Ng l n=dT:=by
 unfold Ng;unfold dR at h;rw[List.any_eq_false]at h;rw[List.find?_eq_none.2 h];rfl
theorem RH{s:Nu}{q:cm}(h:dP s)(ha:s.acts≠300)(hk:q.kind=5)(hc:(je s q).2.code=0):(cW q.body).2=0/\dR (je s q).1.ths q.name=true/\∃ v0 c,eC v0 (Ng s.ths q.name).owners q.who (cW q.body).1 q.force=((Ng (je s q).1.ths q.name).value,(Ng (je s q).1.ths q.name).owners,c,0):=by
 have G9:=Ib (a:=q) h;have K:∀ o time ver,(al time ver o q).2.2=0->o.owners=(Ng s.ths q.name).owners->o.name=q.name->(al time ver o q).1∈(je s q).1.ths->(cW q.body).2=0/\dR (je s q).1.ths q.name=true/\∃ v0 c,eC v0 (Ng s.ths q.name).owners q.who (cW q.body).1 q.force=((Ng (je s q).1.ths q.name).value,(Ng (je s q).1.ths q.name).owners,c,0):=by
  intro o time ver he ho hn hm;obtain⟨k1,c,k2⟩:=Ry hk he;have e1:(al time ver o q).1.name=q.name:=(Nj _ _ _ _).trans hn;have e2:=Nt G9.rise hm;have e3:=Nd hm;rw[e1]at e2 e3;refine⟨k1,e3,o.value,c,?_⟩;rw[e2,<-ho];exact k2
 revert K hc
 unfold je;rw[if_neg ha];simp only;rw[if_neg (by omega),if_neg (by omega)];split
 ·intro hc;simp[bz]at hc
 generalize hs':({ s with acts:=s.acts+1 }:Nu)=s';have e1:s'.ths=s.ths:=by rw[<-hs']
 rw[<-e1];have hr:bD (s'.ths.map Th.name):=by rw[e1];exact h.rise
 by_cases hb:cj s'.ths.length q.kind (dR s'.ths q.name)=0
 ·cases ht:dR s'.ths q.name with
  | false=>
   rw[nQ hb ht];unfold iF;split
   ·rename_i he;intro hc;exact absurd hc he
   ·rename_i he;intro _ K;exact K (eT q.name) s'.time s'.ver (by simpa using he) (by rw[RV ht];rfl) rfl (by simp)
  | true=>
   obtain⟨t,h1,h2⟩:=nR _ _ hr ht;rw[fk hb ht h1,if_neg (by omega),if_neg (by omega),if_neg (by omega)];unfold fF;rw[if_neg (fun h9=>h9.1 hk)];split
   ·rename_i he;intro hc;exact absurd hc he
   ·rename_i he;intro _ K;refine K t s'.time s'.ver (by simpa using he) (by rw[MY hr ht h1]) h2 ?_;obtain⟨hl,-⟩:=Mz.1 h1;exact List.mem_set hl _
 ·rw[C8 rfl hb];intro hc;exact absurd hc hb
theorem RC{v:V}{l:List aL}{who:Lz}{LQ:V}{force:Bool}{w:V}{m:List aL}{c:List (Lz × Lz)}(h:eC v l who LQ force=(w,m,c,0)){p:Lz}(hp:p∈au LQ):p.length<=140737488351232/\∃ x y,fP (ax p) LQ=(x,0)/\fP (ax p) w=(y,0)/\(x=y\/x.kind=5/\y.kind=5)/\fa x<=2000000000000:=by
 obtain⟨x,y,h1,h2,h3⟩:=RJ h hp;obtain⟨A,-⟩:=ug h;have hs:=(uM (A.lv.good p hp)).1;have hl:=(mO hs).1;obtain⟨x',hx',-⟩:=A.leaf (List.mem_map.2 ⟨p,hp,rfl⟩);have e:=Jp (sp:=(aw p,0)) rfl A.wg (RZ _ _ _ hx');rw[<-hs,h1]at e;obtain⟨rfl,-⟩:=Prod.mk.inj e;exact⟨by omega,x,y,h1,h2,h3,MH (gE (pU _ _ _ (dQ A.wg) (RZ _ _ _ hx'))) (by omega)⟩
theorem Rw{v:V}{l:List aL}{who:Lz}{LQ:V}{w:V}{m:List aL}{c:List (Lz × Lz)}(h:eC v l who LQ false=(w,m,c,0)){o:aL}(ho:o∈l)(hne:o.name≠who):(∃ x∈m,x.name=o.name)/\∀ y∈m,y.name=o.name->y.paths=o.paths:=by
 obtain⟨h1,-⟩:=RE h ho hne;obtain⟨A,-⟩:=ug h;obtain⟨gm,-,-⟩:=yZ h;have hp:=(mT ((gz A.lg).2.1 o ho).2).1;refine⟨Classical.byContradiction fun h9=>hp ?_,fun y hy e=>?_⟩
 ·rw[<-h1];exact pk fun x hx e=>h9 ⟨x,hx,e⟩
 ·rw[<-h1,<-e,wK (gz gm).2.2 hy]
variable {w wr:World}
variable {v:Value}
theorem gY(h:∃ n,wr=w.drewN n){a}(hc:w.cell? a=some v):wr.cell? a=some v:=by
 obtain⟨n,rfl⟩:=h;exact hc
theorem DF(h:∃ n,wr=w.drewN n):∃ n,wr.drew=w.drewN n:=by
 obtain⟨n,rfl⟩:=h;exact⟨n+1,rfl⟩
theorem zg{α:Type}{xs ys:List α}(h:xs.take k=ys.take k)(hx:k < xs.length)(hy:k < ys.length)(he:xs[k]=ys[k]):xs.take (k+1)=ys.take (k+1):=by
 rw[List.take_succ_eq_append_getElem hx,List.take_succ_eq_append_getElem hy,h,he]
theorem uC(w:LC)(ok ok' xs ys v u)(h:ao w ok xs v)(h':ao w ok' ys u):Calls prog 12 #[v,u] w fun e w'=>e=.returned (.bool (decide (xs=ys)))/\∃ n,w'=w.drewN n:=by
 have H:=aa h;have H':=aa h';obtain⟨a,c,rfl⟩:=h.form;obtain⟨a',c',rfl⟩:=h'.form;have ll:=h.1;have ll':=h'.1;unfold maxLen at ll ll';clear h h';by_cases hl:xs.length=ys.length
 ·have q0:((xs.length:Int) != (ys.length:Int))=false:=by simp[hl]
  have q00:((xs.length:Int) == (ys.length:Int))=true:=by simp[hl]
  have HLN:=aa hl;rw[<-hl];clear hl;go_enter func12,ntmps12;go_wp2
  go_loopg [13] xs.length (fun gk i wr=>∃ k:Nat,k<=xs.length/\gk=xs.length - k/\i=.int .i64 k/\Ll (xs.take k=ys.take k)/\Ll (∃ n,wr=w.drewN n))
  case atStart=>exact⟨0,Nat.zero_le _,rfl,rfl,rfl,aa ⟨0,rfl⟩⟩
  case round=>
   obtain⟨k,hk,hgk,rfl,AL,BL⟩:=hrel;have GK:=aa hgk;clear hgk;by_cases hlt:k < xs.length
   ·have hlt':k < ys.length:=HLN.o ▸ hlt;obtain⟨b,off,rfl,hc1,hc2,hcell0⟩:=gQ H.o hlt;obtain⟨b',off',rfl,hc1',hc2',hcell0'⟩:=gQ H'.o hlt';unfold maxLen at hc2 hc2';have w2:(k:Int) < (xs.length:Int):=by omega
    have w3:(0:Int)<=(k:Int):=by omega
    have TK:Ll (xs[k]=ys[k]->xs.take (k+1)=ys.take (k+1)):=aa (zg AL.o hlt hlt');have NE:Ll (xs[k]≠ys[k]->decide (xs=ys)=false):=aa (fun h9=>decide_eq_false (fun e=>h9 (by subst e;rfl)));have d0:=gY BL.o hcell0;have d1:=gY BL.o hcell0';have BD:Ll (∃ n,wr.drew=w.drewN n):=aa (DF BL.o);clear hcell0 hcell0';by_cases he:xs[k]=ys[k]
    ·have TK2:=aa (TK.o he);rw[<-he]at d1;clear he;go_wp2
     go_region
     go_wp2
     go_roundg (xs.length - (k+1))
     case measure=>rw[GK.o];omega
     case rel=>exact⟨k+1,hlt,rfl,by go_num,TK2,BD⟩
    ·have R:=aa (NE.o he);have e9:(xs[k] == ys[k])=false:=by rw[MO];exact he
     obtain⟨x,hx⟩:∃ x,xs[k]=x:=⟨_,rfl⟩
     obtain⟨y,hy⟩:∃ y,ys[k]=y:=⟨_,rfl⟩
     rw[hx]at d0 he e9;rw[hy]at d1 he e9;clear hx hy TK NE;go_wp2
     go_region
     go_wp2
     go_ret;exact⟨by rw[R.o];rfl,BD.o⟩
   ·have d9:¬(k:Int) < (xs.length:Int):=by omega
    have R:Ll (decide (xs=ys)=true):=aa (decide_eq_true (by
     have:=AL.o;rwa [MD (by omega),MD (by have:=HLN.o;omega)]at this))
    go_wp2
    go_ret;exact⟨by rw[R.o];rfl,BL.o⟩
 ·have q0:((xs.length:Int) != (ys.length:Int))=true:=by simp;omega
  have q00:((xs.length:Int) == (ys.length:Int))=false:=by rw[MO];omega
  have R:Ll (decide (xs=ys)=false):=aa (decide_eq_false (fun e=>hl (by rw[e])));go_enter func12,ntmps12;go_wp2
  go_ret;exact⟨by rw[R.o];rfl,0,rfl⟩
variable {w':World}
theorem fc.bel{l:List cm}(h:fc w l v)(hb:La w w'):fc w' l v:=by
 refine⟨h.1,h.2.1,?_⟩;rcases h.2.2 with h | ⟨g,off,c,e,h1,h2,h3⟩
 ·exact .inl h
 ·refine .inr ⟨g,off,c,e,h1,h2,fun i q hq=>?_⟩;obtain⟨q0,q1,q2,q3,q4,q5,q6,q7⟩:=h3 i q hq;exact⟨ah hb q0,ah hb q1,ah hb q2,ah hb q3,ah hb q4,ah hb q5,ah hb q6,ah hb q7⟩
variable {W:World}
variable {ok:Nat->Prop}
variable {g c d:Nat}
section
attribute [local go_sem ↓] Go.wp_at_zero Go.wp_at_succ
def RU (a0 w:LC) (g:Nat) (t:Th) (a b:Option Addr) (c d:Nat) (oa:Option Addr) (oc:Nat):Prop:=fN w g t a b c d oa oc/\La a0 w/\cQ w (fun _=>True) t a b c d oa oc
theorem RP{a0 t a b oa oc}(h:La a0 w)(k:cQ w ok t a b c d oa oc):RU a0 (w.alloc (.cells (Ld t a c b d oa oc) 42)) w.heap.size t a b c d oa oc:=
 ⟨MN _ _,ab h (ae _ _),(k.bel (ae _ _)).weak fun _ _=>trivial⟩
theorem RQ{a0 t a b oa oc}(h:La a0 w)(hg:a0.heap.size<=g)(hz:fN w g dT none none 0 0 none 0)(k:cQ w (fun j=>j≠g) t a b c d oa oc):RU a0 (jE w g t a b c d oa oc) g t a b c d oa oc:=
 ⟨hz.put15 _ _ _ _ _ _ _,bS (mz (r:=none) (aq h) hg _ _ _ _ _ _ _),(k.gr (g15 _ _ _ _ _ _ _ _ _) (fun j hj e=>hj (Option.some.inj e))).weak fun _ _=>trivial⟩
theorem RX{l}(hz:fN W g dT none none 0 0 none 0)(h:cO w (fun j=>W.heap.size<=j) l v):cO w (fun j=>j≠g) l v:=
 h.weak fun j hj e=>by have:=(MF.1 hz).1;omega
theorem RK{l}(h:cO w (fun j=>ok j/\j < w.heap.size) l v)(o:Obj):cO (w.alloc o) (fun j=>j≠w.heap.size) l v:=
 (h.bel (ae _ _)).weak fun j hj e=>by have:=hj.2;omega
theorem RY{a0}(_:La a0 w):fN (w.alloc (.cells Le 42)) w.heap.size dT none none 0 0 none 0:=MN _ _
theorem Rz(A)(l:List cm)(S0)(hbd:∀ q∈l,q.name.length<=9223372036854775807/\q.body.length<=9223372036854775807/\q.who.length<=9223372036854775807):Jf A l S0 5 #[] (fun _ _=>True):=by
 refine⟨fun _ _ _ _ _=>trivial,fun _ _ _ _ _ _ _ _ _=>trivial,fun k q W S v was hq hk _ hL _ hT=>?_⟩;have AD:=RH (q:=q) (Nc l k) (Ns hq hk);have QBB:=(hbd q (List.mem_of_getElem? hq)).2.1;have e1:=uD hq;rw[<-e1]at AD;have GD:=aa (Nc l (k+1));obtain⟨r,hr⟩:∃ r,(je (oQ l k) q).2=r:=⟨_,rfl⟩
 rw[hr]at AD ⊢;obtain⟨s,hs⟩:∃ s,oQ l k=s:=⟨_,rfl⟩
 rw[hs]at AD hT;obtain⟨s',hs'⟩:∃ s',oQ l (k+1)=s':=⟨_,rfl⟩
 rw[hs']at AD GD hL ⊢;clear hr hs hs' e1 hq hk;obtain⟨W1,hW1⟩:∃ W1,W1=(W.alloc (.cells (Lf q) 28)).alloc (.cells #[.int .i64 r.code,.int .i64 r.n,.string ⟨r.body.toArray⟩] 31):=⟨_,rfl⟩
 have Y1:Ll (La W W1):=aa (by rw[hW1];exact ab (ae _ _) (ae _ _));have AB:Ll (jC W1 W.heap.size q):=aa (by rw[hW1];exact fb _ _ _);have RB:Ll (dK W1 (W.heap.size+1) r.code r.n r.body):=aa (by rw[hW1];exact et _ _ _);have HW1:=aa hW1;have L1:=aa (hL.more Y1.o);have T1:=aa (hT.bel Y1.o);clear hW1 hL hT;obtain⟨q0,q1,q2,q3,q4,q5,q6,q7⟩:=AB.o.c;obtain⟨y0,y1,y2,-⟩:=RB.o.c;by_cases hk5:q.kind=5
 ·by_cases hc:r.code=0
  ·obtain⟨PS,TH9,v0,cc0,hap⟩:=AD hk5 hc;have e5:(q.kind == 5)=true:=by simp[hk5]
   have f5:(q.kind != 5)=false:=by simp[hk5]
   have e0:(r.code == 0)=true:=by simp[hc]
   have f0:(r.code != 0)=false:=by simp[hc]
   obtain⟨LQ,hwant⟩:∃ LQ,(cW q.body).1=LQ:=⟨_,rfl⟩
   have HP:Ll (cW q.body=(LQ,0)):=aa (by rw[<-hwant,<-PS]);obtain⟨t,ht⟩:∃ t,Ng s'.ths q.name=t:=⟨_,rfl⟩
   obtain⟨o,ho⟩:∃ o,Ng s.ths q.name=o:=⟨_,rfl⟩
   rw[hwant,ht,ho]at hap;have HAP:=aa hap;have FDC:Ll (∀ W ok v,cO W ok s'.ths v->Calls prog 7 #[v,.string ⟨q.name.toArray⟩] W fun e w'=>∃ a b c d oa oc,e=.returned (.tuple #[.agg (Ld t a c b d oa oc),.bool true])/\La W w'/\cQ w' ok t a b c d oa oc):=aa (fun W ok v h9=>by
    have:=Q7 W ok s'.ths v q.name h9;unfold M8 at this;rw[TH9,ht]at this;exact this)
   have FDO:Ll (∀ W ok v,cO W ok s.ths v->Calls prog 7 #[v,.string ⟨q.name.toArray⟩] W fun e w'=>∃ a b c d oa oc bb,e=.returned (.tuple #[.agg (Ld o a c b d oa oc),.bool bb])/\La W w'/\cQ w' ok o a b c d oa oc):=aa (fun W ok v h9=>by
    have:=Q7 W ok s.ths v q.name h9;unfold M8 at this;rw[ho]at this;exact this.mono fun e w' h8=>by obtain⟨a,b,c,d,oa,oc,p1,p2,p3⟩:=h8;exact⟨a,b,c,d,oa,oc,_,p1,p2,p3⟩)
   have PAA:=aa (FJ W1 q.body QBB L1.o.gl.g);clear AD hk5 hc PS TH9 hwant ht ho hap QBB;go_enter func5,ntmps5;go_upto_region 1 with fail
   rw[<-HW1.o];go_upto_region 4 with (go_at_call 6;refine PAA.o.mono ?_;rintro e w3 ⟨t9,ee,a7,a8,c7,c8,rfl,hp9,hv9,hb9⟩;rw[HP.o]at hp9;obtain⟨rfl,rfl⟩:=Prod.mk.inj hp9;have B3:=aa hb9;have WI3:=aa (show In w3 (fun _=>True) LQ _ from ⟨_,hv9.weak fun _ _=>trivial⟩);clear hp9 hv9 hb9)
   obtain⟨W3,hW3⟩:∃ W,W=w3.alloc (.cells (KV LQ a7 c7 a8 c8) 35):=⟨_,rfl⟩
   have A3:Ll (La w3 W3):=aa (by rw[hW3];exact ae _ _);have WB3:Ll (KY W3 w3.heap.size LQ a7 c7 a8 c8):=aa (by rw[hW3];exact MN _ _);rw[<-hW3];clear hW3;have B13:=aa (ab B3.o A3.o);have AB3:=aa (AB.o.bel B13.o);have L3:=aa (L1.o.more B13.o);have WI:=aa (WI3.o.bel A3.o);have THG:Ll (∀ W,La W3 W->Calls prog 8 #[.pointer (some ⟨S,0,none⟩)] W fun e w'=>∃ nva,e=.returned (.slice nva s'.ths.length s'.ths.length)/\cO w' (fun j=>W.heap.size<=j) s'.ths (.slice nva s'.ths.length s'.ths.length)/\La W w'):=aa (fun W hW=>(fl (L3.o.more hW)).mono fun e w' h9=>by
    obtain⟨rfl,p1,p2,p3⟩:=h9;exact⟨_,rfl,p1.ths.weak fun j hj=>by
     rcases hj with h8 | h8
     ·omega
     ·have:=Option.some.inj (show some W.heap.size=some j from h8);omega,p3⟩)
   go_cut [11,12] (fun pv bv wc=>bv=.bool true/\∃ g faa fbb fcc fdd foa foc,pv=.pointer (some ⟨g,0,none⟩)/\Ll (RU W3 wc g t faa fbb fcc fdd foa foc))
   case first=>
    refine aD (fun wS=>La W3 wS) [9,10] (by kernel_rfl) (aC _ 1) (fun LI=>?_);refine WT.out ?_;iterate 3
     first
      | refine OJ 0 ?_ [1,4,5,6,7,9,10] LI ?_ ?_
      | refine OJ 2 ?_ [3,4,5,6,7,9,10] LI ?_ ?_
      | refine OJ 3 ?_ [4,5,6,7,9,10] LI ?_ ?_
     rotate_left
     ·intro wS LN;obtain⟨q0,q1,q2,q3,q4,q5,q6,q7⟩:=(AB3.o.bel LN).c;go_simp;all_goals with_reducible rfl
     simp only[av,List.set]
    repeat' (first
     | exact nl
     |(refine ON 1 (fun K hK=>?_) ?_
       go_simp;refine(THG.o _ LI).mono ?_;rintro e w1q ⟨nva,rfl,ht5,hb5⟩;refine hK.out _ _ (ab LI hb5) (fun LJ=>?_);first | (have TT:=aa (RX NB.o ht5)) | (have TT:=aa ht5.low)
       try replace NB:=aa (fN.bel NB.o hb5)
       clear hb5 ht5;clear hK K;replace LI:=LJ;clear LJ;try simp only[Act.put,Mt,Mu,Mv])
     |(refine ON 4 (fun K hK=>?_) ?_
       go_simp;refine(FDC.o _ _ _ TT.o).mono ?_;rintro e w4q ⟨faa,fbb,fcc,fdd,foa,foc,rfl,hb5,hk5⟩;refine hK.out _ _ (ab LI hb5) (fun LJ=>?_);have KT:=aa hk5;have Ma:Ll True:=aa trivial;try replace NB:=aa (fN.bel NB.o hb5)
       clear hb5 hk5;clear hK K;replace LI:=LJ;clear LJ;try simp only[Act.put,Mt,Mu,Mv])
     |(refine ON 8 (fun K hK=>?_) ?_
       go_simp;refine hK.out _ _ (ab LI (ae _ _)) (fun LJ=>?_);have NB:=aa (RY LI);have HGS:=aa LI.size;first | (have cc:=Ma.o;clear cc;have FINA:=aa (RP LI KT.o)) | (replace TT:=aa (RK TT.o (.cells Le 42))) | skip
       clear hK K;replace LI:=LJ;clear LJ;try simp only[Act.put,Mt,Mu,Mv])
     |(refine OO 9 (fun K hK=>?_)
       try rw[show (World.drew W3).heap.size=W3.heap.size from rfl]at NB
       obtain⟨n0,n1,n2,n3,n4,n5,n6,n7,n8,n9,n10,n11,n12,n13,n14⟩:=NB.o.c;obtain⟨m0,m1,m2,m3,m4,m5,m6,m7,m8,m9,m10,m11,m12,m13,m14⟩:=NB.o.f;first | (have cc:=FINA.o;clear cc) | (have FINB:=aa (RQ LI HGS.o NB.o KT.o))
       go_simp;refine hK.out _ _ ?_;clear hK K;try simp only[Act.put,Mt,Mu,Mv])
     |(refine OO 10 (fun K hK=>?_)
       go_simp;refine hK.out _ _ ?_;clear hK K;try simp only[Act.put,Mt,Mu,Mv])
     |(first
        | refine OJ 5 ?_ [6,7,9,10] (by exact LI) ?_ ?_
        | refine OJ 6 ?_ [9,10] (by exact LI) ?_ ?_
       rotate_left
       ·intro wS LN;go_simp;all_goals with_reducible rfl
       simp only[av,List.set])
     |(refine Pm 7 ?_ (by exact LI) ?_ ?_
       rotate_left
       ·intro wS;go_simp;all_goals with_reducible rfl
       simp only[av,List.set])
     | refine OL [1,8] ?_
     | refine OL [4,8] ?_
     | refine OL [8] ?_
     | refine OL [4] ?_
     | refine OL [1] ?_
     | fail)
    all_goals
     refine dn (by kernel_rfl) ?_;go_wp2
     go_meet
     case rel=>first | exact⟨rfl,_,_,_,_,_,_,_,rfl,FINA⟩ | exact⟨rfl,_,_,_,_,_,_,_,rfl,FINB⟩
   case rest=>
    obtain⟨rfl,g4,faa,fbb,fcc,fdd,foa,foc,rfl,F4⟩:=hcut;have BC:=aa F4.o.2.1;have KC:=aa F4.o.2.2;have TBC:=aa F4.o.1;have WBC:=aa (af BC.o WB3.o);have WIC:=aa (WI.o.bel BC.o);have ABC:=aa (AB3.o.bel BC.o);have LC9:=aa (L3.o.more BC.o);have FOC:=aa (FDO.o wc _ _ ((T1.o.bel B13.o).bel BC.o));clear F4 WI WB3 AB3 THG FDC FDO;obtain⟨q0,q1,q2,q3,q4,q5,q6,q7⟩:=ABC.o.c;go_upto_region 6 with (go_at_call 7;refine FOC.o.mono ?_;rintro e w5 ⟨a2,b2,c2,d2,oa2,oc2,bb,rfl,hb5,hk5⟩;have B5:=aa hb5;have K5:=aa hk5;clear hb5 hk5)
    clear FOC;obtain⟨W5,hW5⟩:∃ W,W=w5.alloc (.cells (Ld o a2 c2 b2 d2 oa2 oc2) 42):=⟨_,rfl⟩
    have A5:Ll (La w5 W5):=aa (by rw[hW5];exact ae _ _);have OB5:Ll (fN W5 w5.heap.size o a2 b2 c2 d2 oa2 oc2):=aa (by rw[hW5];exact MN _ _);rw[<-hW5];clear hW5;have BC5:=aa (ab B5.o A5.o);have K55:=aa (K5.o.bel A5.o);have LVS:=C6 W5 _ LQ _ (WIC.o.bel BC5.o) (LC9.o.more BC5.o).gl.m;have LEF:Ll (∀ p∈au LQ,p.length<=140737488351232/\∃ x y,fP (ax p) LQ=(x,0)/\fP (ax p) t.value=(y,0)/\(x=y\/x.kind=5/\y.kind=5)/\fa x<=2000000000000):=aa (fun p hp=>RC HAP.o hp);obtain⟨LL,hLL⟩:∃ LL,au LQ=LL:=⟨_,rfl⟩
    rw[hLL]at LVS LEF;have LVZ:=aa LVS;clear LVS hLL;obtain⟨v0,v1,v2,v3,v4,-⟩:=(af BC5.o WBC.o).c;go_upto_region 9 with (go_at_call 9;refine LVZ.o.mono ?_;rintro e w6 ⟨la,lc,rfl,hs6,hb6⟩;have LS6:=aa hs6;have B6:=aa hb6;clear hs6 hb6)
    clear LVZ;have BC6:=aa (ab BC5.o B6.o);have ll6:=LS6.o.1;unfold maxLen at ll6;go_loopg [65] LL.length (fun gk i wr=>∃ k:Nat,k<=LL.length/\gk=LL.length - k/\i=.int .i64 k/\Ll (La w6 wr))
    case atStart=>exact⟨0,Nat.zero_le _,rfl,rfl,aa (MK _ _)⟩
    case round=>
     obtain⟨k,hk,hgk,rfl,BLL⟩:=hrel;have GKK:=aa hgk;clear hgk;have BW7:=aa (ab BC6.o BLL.o);by_cases hlt:k < LL.length
     ·obtain⟨pb,po,rfl,hc1',hc2',hcell0⟩:=gQ LS6.o hlt;unfold maxLen at hc2';have LV:=ah BLL.o hcell0;have j2:(k:Int) < (LL.length:Int):=by omega
      have j3:(0:Int)<=(k:Int):=by omega
      have LFF:=LEF.o _ (List.getElem_mem hlt);clear hcell0;obtain⟨p,hp⟩:∃ p,LL[k]=p:=⟨_,rfl⟩
      rw[hp]at LV LFF;clear hp;obtain⟨LT,x,y,hx,hy,hxy,hcx⟩:=LFF;have G1:=zD wr _ LQ _ p (WIC.o.bel BW7.o) LT (LC9.o.more BW7.o).gl.m;rw[hx]at G1;have G1C:Ll (Calls prog 10 #[.agg (KV LQ a7 c7 a8 c8),.string ⟨p.toArray⟩] wr fun e w'=>∃ r,e=.returned (.tuple #[r,.int .i64 0])/\La wr w'/\In w' (fun _=>True) x r):=aa (G1.mono fun e w' h9=>by obtain⟨r9,p1,p2,p3⟩:=h9;exact⟨r9,p1,p2,p3.weak fun _ _=>trivial⟩);have HXY:=aa hxy;have HCX:=aa hcx;have HY:=aa hy;have HLEN:=aa LT;clear G1 hx hy hxy LT hcx;obtain⟨v0,v1,v2,v3,v4,-⟩:=(af BW7.o WBC.o).c;go_upto_region 12 with (go_at_call 10;refine G1C.o.mono ?_;rintro e w7 ⟨r9,rfl,hb,hx⟩;obtain⟨a4,b4,c4,d4,rfl⟩:=hx.form;have B7:=aa hb;have XI7:=aa hx;clear hb hx)
      obtain⟨W7,hW7⟩:∃ W,W=w7.alloc (.cells (KV x a4 c4 b4 d4) 35):=⟨_,rfl⟩
      have A7:Ll (La w7 W7):=aa (by rw[hW7];exact ae _ _);have X7:Ll (KY W7 w7.heap.size x a4 c4 b4 d4):=aa (by rw[hW7];exact MN _ _);rw[<-hW7];clear hW7 LV G1C;have BW8:=aa (ab (ab BW7.o B7.o) A7.o);have G2:=zD W7 _ t.value _ p (KC.o.bel BW8.o).val HLEN.o (LC9.o.more BW8.o).gl.m;rw[HY.o]at G2;have G2C:Ll (Calls prog 10 #[.agg (KV t.value faa fcc fbb fdd),.string ⟨p.toArray⟩] W7 fun e w'=>∃ r,e=.returned (.tuple #[r,.int .i64 0])/\La W7 w'/\In w' (fun _=>True) y r):=aa (G2.mono fun e w' h9=>by obtain⟨r9,p1,p2,p3⟩:=h9;exact⟨r9,p1,p2,p3.weak fun _ _=>trivial⟩);clear G2;obtain⟨x0,x1,x2,x3,x4,x5,x6,x7,x8,x9,x10,x11,x12,x13,x14⟩:=(TBC.o.bel BW8.o).c;go_upto_region 13 with (go_at_call 10;refine G2C.o.mono ?_;rintro e w9 ⟨r9,rfl,hb,hy⟩;obtain⟨a5,b5,c5,d5,rfl⟩:=hy.form;have B9:=aa hb;have YI9:=aa hy;clear hb hy)
      clear G2C;obtain⟨W9,hW9⟩:∃ W,W=w9.alloc (.cells (KV y a5 c5 b5 d5) 35):=⟨_,rfl⟩
      have A99:Ll (La w9 W9):=aa (by rw[hW9];exact ae _ _);have X9:Ll (KY W9 w9.heap.size y a5 c5 b5 d5):=aa (by rw[hW9];exact MN _ _);rw[<-hW9];clear hW9;have BEE:=aa (ab (ab (ab (ab BLL.o B7.o) A7.o) B9.o) A99.o);obtain⟨x0,x1,x2,x3,x4,-⟩:=(af (ab B9.o A99.o) X7.o).c;obtain⟨y0,y1,y2,y3,y4,-⟩:=X9.o.c;have SMM:Ll (∀ rr:Bool,(rr=true↔x=y)->Calls prog 11 #[.agg (KV x a4 c4 b4 d4),.agg (KV y a5 c5 b5 d5)] W9 fun e w'=>e=.returned (.bool rr)/\La W9 w'):=aa (fun rr hrr=>(lP W9 _ _ x y _ _ ((XI7.o.bel A7.o).bel (ab B9.o A99.o)) (YI9.o.bel A99.o) HCX.o).mono fun e w' h9=>by
       obtain⟨r9,rfl,hr9,hb9⟩:=h9;refine⟨?_,hb9⟩;have:r9=rr:=by
        cases r9 <;> cases rr <;> first | rfl | (have h7:=hr9.1 rfl;have h6:=hrr.2 h7;cases h6) | (have h7:=hrr.1 rfl;have h6:=hr9.2 h7;cases h6)
       rw[this])
      by_cases hxy:x=y
      ·have SMT:=aa (SMM.o true (by simpa using hxy));clear hxy;go_wp2_with (go_at_call 11;refine SMT.o.mono ?_;rintro e w10 ⟨rfl,hb⟩;have BXX:=aa (ab BEE.o hb);obtain⟨x0,-⟩:=(af (ab (ab B9.o A99.o) hb) X7.o).c;obtain⟨y0,-⟩:=(af hb X9.o).c;clear hb)
       go_roundg (LL.length - (k+1))
       case measure=>rw[GKK.o];omega
       case rel=>exact⟨k+1,hlt,rfl,by go_num,BXX⟩
      ·have SMF:=aa (SMM.o false (by simpa using hxy));obtain⟨k1,k2⟩:x.kind=5/\y.kind=5:=HXY.o.resolve_left hxy;have e55:(x.kind == 5)=true:=by simp[k1]
       have e66:(y.kind == 5)=true:=by simp[k2]
       clear hxy k1 k2;go_wp2_with (go_at_call 11;refine SMF.o.mono ?_;rintro e w10 ⟨rfl,hb⟩;have BXX:=aa (ab BEE.o hb);obtain⟨x0,-⟩:=(af (ab (ab B9.o A99.o) hb) X7.o).c;obtain⟨y0,-⟩:=(af hb X9.o).c;clear hb)
       go_roundg (LL.length - (k+1))
       case measure=>rw[GKK.o];omega
       case rel=>exact⟨k+1,hlt,rfl,by go_num,BXX⟩
     ·have d9:¬(k:Int) < (LL.length:Int):=by omega
      obtain⟨z0,z1,z2,z3,z4,z5,z6,z7,z8,z9,z10,z11,z12,z13,z14⟩:=(OB5.o.bel (ab B6.o BLL.o)).c;have K56:=aa (K55.o.bel (ab B6.o BLL.o));have lo5:=K56.o.own.1;unfold maxLen at lo5;have OTH:Ll (∀ w0∈o.owners,w0.name≠q.who->q.force=false->(∃ x∈t.owners,x.name=w0.name)/\∀ y∈t.owners,y.name=w0.name->y.paths=w0.paths):=aa (fun w0 h9 h8 h7=>by
       have h6:=HAP.o;rw[h7]at h6;exact Rw h6 h9 h8)
      go_upto_region 17 with fail
      obtain⟨WM,hWM⟩:∃ W,W=wr:=⟨_,rfl⟩
      rw[<-hWM]at BW7 K56 ⊢;clear hWM;go_loopg [105] o.owners.length (fun gk i wi=>∃ m:Nat,m<=o.owners.length/\gk=o.owners.length - m/\i=.int .i64 m/\Ll (La WM wi))
      case atStart=>exact⟨0,Nat.zero_le _,rfl,rfl,aa (MK _ _)⟩
      case round=>
       obtain⟨m,hm,hgm,rfl,BMM⟩:=hrel;have GMM:=aa hgm;clear hgm;by_cases hlm:m < o.owners.length
       ·obtain⟨g2,f2,pa,pc,rfl,i1,i2,k1,k2,k3,-⟩:=(K56.o.own.bel BMM.o).at hlm;have v2:(m:Int) < (o.owners.length:Int):=by omega
        have v3:(0:Int)<=(m:Int):=by omega
        have OTT:=aa (OTH.o o.owners[m] (List.getElem_mem hlm));have K33:=aa k3;obtain⟨wws,hww⟩:∃ wws,o.owners[m]=wws:=⟨_,rfl⟩
        rw[hww]at k1 k2 K33 OTT;clear hww k3;obtain⟨W7,hW7⟩:∃ W,W=wr.alloc (.cells #[.string ⟨wws.name.toArray⟩,.slice pa wws.paths.length pc] 50):=⟨_,rfl⟩
        have A7:Ll (La wr W7):=aa (by rw[hW7];exact ae _ _);have X7:Ll (W7.heap[wr.heap.size]?=some (.cells #[.string ⟨wws.name.toArray⟩,.slice pa wws.paths.length pc] 50)):=aa (by rw[hW7];exact MN _ _);have HW7:=aa hW7;clear hW7;go_upto_region 19 with fail
        rw[<-HW7.o];clear k1 k2;have BY7:=aa (ab BMM.o A7.o);have BZ7:=aa (ab BW7.o BY7.o);obtain⟨n0,n1⟩:=rl X7.o;obtain⟨q0,q1,q2,q3,q4,q5,q6,q7⟩:=(ABC.o.bel BZ7.o).c;by_cases hnw:wws.name=q.who
        ·have en:(wws.name == q.who)=true:=by simpa using hnw
         clear hnw;go_wp2
         go_roundg (o.owners.length - (m+1))
         case measure=>rw[GMM.o];omega
         case rel=>exact⟨m+1,hlm,rfl,by go_num,BY7⟩
        have en:(wws.name == q.who)=false:=by rw[MO];exact hnw
        by_cases hfo:q.force=true
        ·rw[hfo]at q7;clear hnw hfo;go_wp2
         go_roundg (o.owners.length - (m+1))
         case measure=>rw[GMM.o];omega
         case rel=>exact⟨m+1,hlm,rfl,by go_num,BY7⟩
        have hff:q.force=false:=by simpa using hfo
        have OX:=aa (OTT.o hnw hff);rw[hff]at q7;clear hnw hfo hff OTT;obtain⟨x0,x1,x2,x3,x4,x5,x6,x7,x8,x9,x10,x11,x12,x13,x14⟩:=(TBC.o.bel BZ7.o).c;have KT7:=aa (KC.o.bel BZ7.o);have lo7:=KT7.o.own.1;unfold maxLen at lo7;go_upto_region 22 with fail
        go_loopg [23,24,121] t.owners.length (fun gk mvv bv i wi=>∃ n:Nat,n<=t.owners.length/\gk=t.owners.length - n/\i=.int .i64 n/\∃ (b:Bool) (ps:List Lz) (ma:Option Addr) (mc:Nat),bv=.bool b/\mvv=.slice ma ps.length mc/\Ll (La W7 wi)/\Ll ((b=false->∀ x∈t.owners.take n,x.name≠wws.name)/\(b=true->∃ x∈t.owners,x.name=wws.name/\x.paths=ps))/\Ll (ao wi (fun _=>True) ps (.slice ma ps.length mc)))
        case atStart=>exact⟨0,Nat.zero_le _,rfl,rfl,false,[],none,0,rfl,rfl,aa (MK _ _),aa ⟨fun _ x hx=>(by simp at hx),fun h9=>(by cases h9)⟩,aa ⟨by simp,.inl ⟨rfl,_,rfl⟩⟩⟩
        case round=>
         obtain⟨n,hn,hgn,rfl,b,ps,ma,mc,rfl,rfl,BNN,IBB,SB⟩:=hrel;have GNN:=aa hgn;clear hgn;by_cases hln:n < t.owners.length
         ·obtain⟨g3,f3,xa,xc,rfl,i3,i4,m1,m2,m3,-⟩:=(KT7.o.own.bel BNN.o).at hln;have z2:(n:Int) < (t.owners.length:Int):=by omega
          have z3:(0:Int)<=(n:Int):=by omega
          have TN:Ll (t.owners[n]∈t.owners/\∀ y∈t.owners.take (n+1),y∈t.owners.take n\/y=t.owners[n]):=aa ⟨List.getElem_mem hln,fun y hy=>by rw[List.take_succ_eq_append_getElem hln,List.mem_append,List.mem_singleton]at hy;exact hy⟩;have M33:=aa m3;obtain⟨x,hx⟩:∃ x,t.owners[n]=x:=⟨_,rfl⟩
          rw[hx]at m1 m2 M33 TN;clear hx m3;obtain⟨W8,hW8⟩:∃ W,W=wr.alloc (.cells #[.string ⟨x.name.toArray⟩,.slice xa x.paths.length xc] 50):=⟨_,rfl⟩
          have AEE:Ll (La wr W8):=aa (by rw[hW8];exact ae _ _);have b8:=rl (show W8.heap[wr.heap.size]?=some (.cells #[.string ⟨x.name.toArray⟩,.slice xa x.paths.length xc] 50) by rw[hW8];exact MN _ _);have HW8:=aa hW8;clear hW8;go_upto_region 24 with fail
          rw[<-HW8.o];clear m1 m2;obtain⟨s0,s1⟩:=b8;obtain⟨n0,n1⟩:=rl (BNN.o.block _ (MF.1 X7.o).1 ▸ X7.o);have n00:=ah AEE.o n0;by_cases hxn:x.name=wws.name
          ·have exx:(x.name == wws.name)=true:=by simpa using hxn
           have HXN:=aa hxn;clear hxn;go_wp2
           go_roundg (t.owners.length - (n+1))
           case measure=>rw[GNN.o];omega
           case rel=>exact⟨n+1,hln,rfl,by go_num,true,x.paths,xa,xc,rfl,rfl,aa (ab BNN.o AEE.o),aa ⟨fun h9=>(by cases h9),fun _=>⟨x,TN.o.1,HXN.o,rfl⟩⟩,aa (M33.o.bel AEE.o)⟩
          ·have exx:(x.name == wws.name)=false:=by rw[MO];exact hxn
           have HXN:=aa hxn;clear hxn;go_wp2
           go_roundg (t.owners.length - (n+1))
           case measure=>rw[GNN.o];omega
           case rel=>exact⟨n+1,hln,rfl,by go_num,b,ps,ma,mc,rfl,rfl,aa (ab BNN.o AEE.o),aa ⟨fun h9 y hy=>(by rcases TN.o.2 y hy with h8 | h8;exact IBB.o.1 h9 y h8;rw[h8];exact HXN.o),IBB.o.2⟩,aa (SB.o.bel AEE.o)⟩
         ·have z2:¬(n:Int) < (t.owners.length:Int):=by omega
          have hb:b=true:=by
           cases b with
           | true=>rfl
           | false=>
            exfalso;obtain⟨x,hx1,hx2⟩:=OX.o.1;exact IBB.o.1 rfl x (by rw[MD (by omega)];exact hx1) hx2
          subst hb;have hps:ps=wws.paths:=by
           obtain⟨x,hx1,hx2,hx3⟩:=IBB.o.2 rfl;rw[<-hx3];exact OX.o.2 x hx1 hx2
          have STX:=aa (show Calls prog 12 #[.slice ma ps.length mc,.slice pa wws.paths.length pc] wr fun e w'=>e=.returned (.bool true)/\La wr w' from (uC wr _ _ ps wws.paths _ _ SB.o ((K33.o.bel A7.o).bel BNN.o)).mono fun e w' h9=>by
           obtain⟨rfl,n9,rfl⟩:=h9;exact⟨by rw[decide_eq_true hps],aC _ _⟩)
          clear hps;obtain⟨n0,n1⟩:=rl (BNN.o.block _ (MF.1 X7.o).1 ▸ X7.o);go_wp2_with (go_at_call 12;refine STX.o.mono ?_;rintro e w10 ⟨rfl,hb⟩;have BXX:=aa (ab (ab BY7.o BNN.o) hb);clear hb)
          go_roundg (o.owners.length - (m+1))
          case measure=>rw[GMM.o];omega
          case rel=>exact⟨m+1,hlm,rfl,by go_num,BXX⟩
       ·have v2:¬(m:Int) < (o.owners.length:Int):=by omega
        have LZZ:=aa (LC9.o.more (ab BW7.o BMM.o));go_wp2
        go_ret;first | exact⟨rfl,LZZ.o⟩ | exact⟨rfl,LZZ.o,trivial⟩
  ·have e5:(q.kind == 5)=true:=by simp[hk5]
   have f5:(q.kind != 5)=false:=by simp[hk5]
   have e0:(r.code == 0)=false:=by rw[MO];exact hc
   have f0:(r.code != 0)=true:=by simpa using hc
   clear AD hk5 hc;go_enter func5,ntmps5;go_upto_region 1 with fail
   rw[<-HW1.o];go_wp2
   go_ret;first | exact⟨rfl,L1.o⟩ | exact⟨rfl,L1.o,trivial⟩
 ·have e5:(q.kind == 5)=false:=by rw[MO];exact hk5
  have f5:(q.kind != 5)=true:=by simpa using hk5
  clear AD hk5;go_enter func5,ntmps5;go_upto_region 1 with fail
  rw[<-HW1.o];go_wp2
  go_ret;first | exact⟨rfl,L1.o⟩ | exact⟨rfl,L1.o,trivial⟩
theorem Rx:∀ args w,(callFunc 5 args).run prog w=.ok (.enter 5 args) w:=enters_of func5 (by kernel_rfl) rfl
theorem topApplies_at(w)(l:List cm)(v)(hl:fc w l v)(h1:cn w)(h2:bj w)(h3:di w):Calls prog 3 #[v] w fun e w'=>e=.returned (.bool true)/\La w w':=by
 have PL:=aa (Ip w w l v _ _ _ Rx (MK _ _) hl h1 h2 h3 trivial (Rz w l _ hl.2.1));clear hl h1 h2 h3;go_enter func3,ntmps3;go_wp2_with (go_at_call 4;refine PL.o.mono ?_;rintro e w2 ⟨S,v2,rfl,p1,p2,-⟩;have B2:=aa p1.bel;clear p1 p2)
 go_ret;exact⟨rfl,B2.o⟩
end
end Go.Proofs.YtcpbcmobjekbmaaGreatDoor
namespace Go.Proofs.YtcpbcmobjekbmaaGreatDoor.topApplies
open Go.ChangeShapes Go.WideShapes Go.ChangeAt Go.RowKit
open Go.ChangeMaps (open_string shut_string)
theorem mf(H:Type)(enc:TypeId × Value->H)(W:World)(base:Nat)(args:Array Value)(ds gs:List (DataW H))(before:List MemPlace)(hval:∀ (j:Nat) t v,Tryz.f3.params[j]?=some t->args[j]?=some v->Value.okWide Tryz.prog W .any base t v)(hW:DataW.Whole enc Tryz.prog Tryz.f3.params.toList Rows.topAppliesSpec.vars false W args.toList ds gs before)(hZ:(DataW.weightsEach Tryz.prog (Tryz.f3.params.toList++(OpenSpec.ofChange Rows.topAppliesSpec).bare.plain.varTypes Tryz.prog) (ds++gs)).all (·<=reachBytes)=true)(hL:laidMet Tryz.prog lS W)(hS:W.ShapedOpen Tryz.prog):Calls Tryz.prog 3 args W fun e W'=>∃ v,e=.returned v/\Rows.topAppliesSpec.post enc Tryz.prog Tryz.f3 false true false false W args v W':=by
 have hW':=hW;obtain⟨p,q,hA0,hV,rfl,hfz,hnd⟩:=hW;have hA:DataW.TrodAll enc Tryz.prog W 0 (fun _=>true) true Tryz.f3.params.toList args.toList ds p:=hA0;rw[Tryz.params3]at hA hval;obtain⟨v0,vs0,d0,ds0,p0,q0,hargs0,rfl,rfl,h0,r0⟩:=trodAll_cons hA;obtain⟨rfl,rfl,rfl⟩:=trodAll_nil r0;have hargs:args=#[v0]:=by
  obtain⟨l⟩:=args;exact congrArg Array.mk hargs0
 subst hargs;obtain⟨rfl,rfl⟩:=trodVars_none hV;have k0:Value.okWide Tryz.prog W .any base 22 v0:=hval 0 _ _ (by simp) (by simp);obtain⟨os0,hv0⟩:=uV k0 h0;clear hA0;simp only[List.append_nil]at hW';have walk:=topApplies_at W os0 v0 hv0 (um hL) (zS hS) (sf hL);refine walk.mono fun e W' ⟨he,hg⟩=>?_;subst he;have ef:Rows.topAppliesSpec.fn H ([d0]++[])={ results:=[.lit (.bool true)],args:=[d0] }:=rfl;refine⟨_,rfl,_,_,_,[],(p0++[]),[],hW',?_,?_,?_,hg.frame _,fun h=>by cases h⟩
 ·rw[ef];exact trodAll_mk1 (shut_bool Tryz.underlying4 _)
 ·rw[ef,Tryz.params3];exact trodAll_cons_mk (Below.trod oI pr Al h0 hg (lK h0)) (trodAll_mk0)
 ·rw[ef];rfl
theorem sd(os:Os){H:Type}(enc:TypeId × Value->H):∃ places,DataW.whole enc Tryz.prog ((kr os).forCall (fun _ _=>0) ⟨#[],#[.slice none 0 0],[]⟩).memory Tryz.f3.params.toList Rows.topAppliesSpec.vars false #[Value.slice none 0 0].toList 8=some ([.nil],[],places):=
 ⟨[],by kernel_rfl⟩
theorem xX(os:Os)(started:os.Started)(H:Type)(enc:TypeId × Value->H)(F:Stop.Interp):ReturnsInHanded {} Tryz.checked os 3 .any ((OpenSpec.ofChange Rows.topAppliesSpec).preRow enc Tryz.prog Tryz.f3 Rows.topAppliesRow.domain false Rows.topAppliesRow.laid) (((OpenSpec.ofChange Rows.topAppliesSpec).at F).post enc Tryz.prog Tryz.f3 false true false false):=by
 obtain⟨places,hx⟩:=sd os enc;refine returnsInHanded_of_row (C:=Tryz.checked) (s:=OpenSpec.ofChange Rows.topAppliesSpec) own started (by kernel_rfl) Tryz.func3
  (witness_row_at (enc:=enc) (C:=Tryz.checked) false (kr os) #[.slice none 0 0] rfl (by kernel_rfl) (by kernel_rfl) (by kernel_rfl)
   (OpenSpec.preRow_of_cond 8 hx (by kernel_rfl) (fun k hk=>by cases hk) (by kernel_rfl) (Af os _))) ?_
 intro W base args ds gs before hval hW _ _ hZ hL hS _;exact mf H enc W base args ds gs before hval hW hZ hL hS
theorem Oz:(Rows.topAppliesRow.inPlace == Tryz.prog.inPlace 3)=true:=by kernel_rfl
theorem OA:(Rows.topAppliesRow.unfollowed == Tryz.prog.unfollowed 3)=true:=by kernel_rfl
theorem OH:(Rows.topAppliesRow.recurses == Tryz.prog.recurses 3)=true:=by kernel_rfl
theorem OF:(Rows.topAppliesRow.named == Tryz.prog.varsNamed 3)=true:=by kernel_rfl
theorem Oy:(Rows.topAppliesRow.plainKeys == Tryz.prog.plainKeys)=true:=by kernel_rfl
theorem OC:(Rows.topAppliesRow.lifted == Tryz.prog.liftsFinal)=true:=by kernel_rfl
theorem Ox:joinedFacts Tryz.prog 3 Tryz.f3 (OpenSpec.ofChange Rows.topAppliesSpec).bare Rows.topAppliesRow=true:=
 Oq (Oq (Oq (Oq (Oq (Oq (Oq (Oq (Oq (Oq (Oq (Oq (Oq (Oq (Oq (Oq (Oq (Oq (Oq (Oq (Oq (Oq (Oq (Oq (Oq (Oq (Oq (Oq (Oq (Oq (Oq (by kernel_rfl) Ov) Ow) (by kernel_rfl)) (by kernel_rfl)) (by kernel_rfl)) (by kernel_rfl)) (by kernel_rfl)) (by kernel_rfl)) Oz) OA) OH) OF) (by kernel_rfl)) (by kernel_rfl)) (by kernel_rfl)) (by kernel_rfl)) (by kernel_rfl)) (by kernel_rfl)) (by kernel_rfl)) (by kernel_rfl)) (by kernel_rfl)) Oy) (by kernel_rfl)) Ot) Ou) OC) (by kernel_rfl)) (by kernel_rfl)) (by kernel_rfl)) (by kernel_rfl)) (by kernel_rfl)
theorem iZ:Rows.TopAppliesSaid:=
 OpenClaim.holds_of_cond 3 Tryz.f3 rfl rfl rfl rfl rfl rfl rfl ⟨rfl,rfl,rfl,rfl,rfl⟩ rfl rfl rfl rfl rfl (by kernel_rfl) Tryz.func3 Ox
  (of_decide_eq_true (by kernel_rfl)) (by unfold Func.isWrapper;first | (rw[if_pos (by decide +kernel)];kernel_rfl) | (rw[if_neg (by decide +kernel)];exact⟨rfl,rfl⟩))
  (fun os started H enc _ F=>by rw[OpenClaim.pre_eq_preRow];exact xX os started H enc F)
theorem nD(f:FuncId)(fn:Func)(hf:Tryz.pinned.checked.prog.funcNamed "stairwell/stairwelltop.TopApplies"=some f)(hfn:Tryz.pinned.checked.prog.funcs[f]?=some fn):true=Tryz.pinned.checked.prog.looks []/\∀ (j:Nat) t,fn.params[j]?=some t->Tryz.pinned.checked.prog.wantsStandIn t=false:=by
 obtain rfl:f=3:=Option.some.inj ((show Tryz.prog.funcNamed "stairwell/stairwelltop.TopApplies"=some 3 by kernel_rfl).symm.trans hf) |>.symm
 obtain rfl:fn=Tryz.f3:=(Option.some.inj (Tryz.func3.symm.trans hfn)).symm;refine⟨by kernel_rfl,fun j t ht=>?_⟩;rw[Tryz.params3]at ht;have hm:=Array.mem_of_getElem? ht;simp only[Array.mem_def,List.mem_cons,List.not_mem_nil,or_false]at hm;subst hm;exact(show Tryz.prog.wantsStandIn 22=false by kernel_rfl)
theorem card:Rows.TopAppliesCardSaid:=
 Claim7.holds_tied_plain_at .later [] _ _ _ _ iZ (fun _ h=>by cases h) (by kernel_rfl) (fun _ h=>by cases h) topApplies_row_tie rfl ⟨rfl,rfl⟩ (by kernel_rfl) rfl nD (by kernel_rfl)
end Go.Proofs.YtcpbcmobjekbmaaGreatDoor.topApplies
