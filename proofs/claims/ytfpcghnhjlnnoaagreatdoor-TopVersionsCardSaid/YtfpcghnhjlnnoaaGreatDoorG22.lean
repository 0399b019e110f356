/- Whatever it is handed, TopVersions answers true and leaves all as it was. Its conditions: a text or a list takes at most 2^47 - 4096 bytes; the listed package-level variables hold what the program's text lays (the card ties them, over a pruned copy of the project). -/
import Derived.Test.YtfpcghnhjlnnoaaGreatDoorG21
set_option maxRecDepth 100000
set_option maxHeartbeats 40000000
set_option linter.unusedSimpArgs false
set_option linter.unusedVariables false
namespace Go.Proofs.YtfpcghnhjlnnoaaGreatDoor
open Go.RowKit
open _root_.Go.Proofs.Tryz
variable {w wr:World}
variable {v:Value}
variable {k:Nat}
theorem gY(h:∃ n,wr=w.drewN n){a}(hc:w.cell? a=some v):wr.cell? a=some v:=by
 obtain⟨n,rfl⟩:=h;exact hc
theorem DF(h:∃ n,wr=w.drewN n):∃ n,wr.drew=w.drewN n:=by
 obtain⟨n,rfl⟩:=h;exact⟨n+1,rfl⟩
theorem vD(h:∃ n,wr=w.drewN n)(m):∃ n,wr.drewN m=w.drewN n:=by
 obtain⟨n,rfl⟩:=h;exact⟨n+m,by simp[World.drewN,Nat.add_assoc]⟩
theorem pE(h:∃ n,wr=w.drewN n):La w wr:=by
 obtain⟨n,rfl⟩:=h;exact aC _ _
theorem zg{α:Type}{xs ys:List α}(h:xs.take k=ys.take k)(hx:k < xs.length)(hy:k < ys.length)(he:xs[k]=ys[k]):xs.take (k+1)=ys.take (k+1):=by
 rw[List.take_succ_eq_append_getElem hx,List.take_succ_eq_append_getElem hy,h,he]
theorem topTexts_at(w:LC)(ok ok' xs ys v u)(h:ao w ok xs v)(h':ao w ok' ys u):Calls prog 25 #[v,u] w fun e w'=>e=.returned (.bool (decide (xs=ys)))/\∃ n,w'=w.drewN n:=by
 have H:=aa h;have H':=aa h';obtain⟨a,c,rfl⟩:=h.form;obtain⟨a',c',rfl⟩:=h'.form;have ll:=h.1;have ll':=h'.1;unfold maxLen at ll ll';clear h h';by_cases hl:xs.length=ys.length
 ·have q0:((xs.length:Int) != (ys.length:Int))=false:=by simp[hl]
  have q00:((xs.length:Int) == (ys.length:Int))=true:=by simp[hl]
  have HLN:=aa hl;rw[<-hl];clear hl;go_enter func25,ntmps25;go_wp2
  go_loopg [13] xs.length (fun gk i wr=>∃ k:Nat,k<=xs.length/\gk=xs.length - k/\i=.int .i64 k/\Ll (xs.take k=ys.take k)/\Ll (∃ n,wr=w.drewN n))
  case atStart=>exact⟨0,Nat.zero_le _,rfl,rfl,rfl,aa ⟨0,rfl⟩⟩
  case round=>
   obtain⟨k,hk,hgk,rfl,AL,BL⟩:=hrel;have GK:=aa hgk;clear hgk;by_cases hlt:k < xs.length
   ·have hlt':k < ys.length:=HLN.o ▸ hlt;obtain⟨b,off,rfl,hc1,hc2,hcell0⟩:=gQ H.o hlt;obtain⟨b',off',rfl,hc1',hc2',hcell0'⟩:=gQ H'.o hlt';unfold maxLen at hc2 hc2';have w2:(k:Int) < (xs.length:Int):=by omega
    have w3:(0:Int)<=(k:Int):=by omega
    have TK:Ll (xs[k]=ys[k]->xs.take (k+1)=ys.take (k+1)):=aa (zg AL.o hlt hlt');have NE:Ll (xs[k]≠ys[k]->decide (xs=ys)=false):=aa (fun h9=>decide_eq_false (fun e=>h9 (by subst e;rfl)));have d0:=gY BL.o hcell0;have d1:=gY BL.o hcell0';have BD:Ll (∃ n,wr.drew=w.drewN n):=aa (DF BL.o);clear hcell0 hcell0';by_cases he:xs[k]=ys[k]
    ·have TK2:=aa (TK.o he);rw[<-he]at d1;clear he;go_wp2
     go_region
     go_wp2
     go_roundg (xs.length - (k+1))
     case measure=>rw[GK.o];omega
     case rel=>exact⟨k+1,hlt,rfl,by go_num,TK2,BD⟩
    ·have R:=aa (NE.o he);have e9:(xs[k] == ys[k])=false:=by rw[MO];exact he
     obtain⟨x,hx⟩:∃ x,xs[k]=x:=⟨_,rfl⟩
     obtain⟨y,hy⟩:∃ y,ys[k]=y:=⟨_,rfl⟩
     rw[hx]at d0 he e9;rw[hy]at d1 he e9;clear hx hy TK NE;go_wp2
     go_region
     go_wp2
     go_ret;exact⟨by rw[R.o];rfl,BD.o⟩
   ·have d9:¬(k:Int) < (xs.length:Int):=by omega
    have R:Ll (decide (xs=ys)=true):=aa (decide_eq_true (by
     have:=AL.o;rwa [MD (by omega),MD (by have:=HLN.o;omega)]at this))
    go_wp2
    go_ret;exact⟨by rw[R.o];rfl,BL.o⟩
 ·have q0:((xs.length:Int) != (ys.length:Int))=true:=by simp;omega
  have q00:((xs.length:Int) == (ys.length:Int))=false:=by rw[MO];omega
  have R:Ll (decide (xs=ys)=false):=aa (decide_eq_false (fun e=>hl (by rw[e])));go_enter func25,ntmps25;go_wp2
  go_ret;exact⟨by rw[R.o];rfl,0,rfl⟩
variable {w':World}
variable {B S:Nat}
theorem srv_nice{s:Nu}(h:dP s):∀ t∈s.ths,dz t.value:=fun t ht=>dQ (lq (h.ths t ht).rd)
def Ng (l:List Th) (n:Lz):Th:=(l.find? fun t=>t.name == n).getD dT
theorem MW{l n}(h:dR l n=true):Ng l n∈l/\(Ng l n).name=n:=by
 unfold dR at h;unfold Ng;cases e:l.find? fun t=>t.name == n with
 | none=>rw[List.find?_eq_none]at e;rw[List.any_eq_true]at h;obtain⟨x,h1,h2⟩:=h;exact absurd h2 (e x h1)
 | some t=>exact⟨List.mem_of_find?_eq_some e,by simpa using List.find?_some e⟩
theorem M6{l n}(h:∀ x∈l,x.name≠n):Ng l n=dT/\dR l n=false:=by
 unfold Ng dR;rw[List.find?_eq_none.2 (by intro x hx;simpa using h x hx)];exact⟨rfl,by rw[List.any_eq_false];intro x hx;simpa using h x hx⟩
theorem Na{l n}(hk:k < l.length)(h:∀ x∈l.take k,x.name≠n)(he:l[k].name=n):Ng l n=l[k]/\dR l n=true:=by
 unfold Ng dR;have e:l=l.take k++l[k] :: l.drop (k+1):=by rw[<-ME hk,List.take_append_drop]
 have e2:l.find? (fun t=>t.name == n)=some l[k]:=by
  have e3:∀ x,l[k]=x->(l.take k++x :: l.drop (k+1)).find? (fun t=>t.name == n)=some x:=fun x hx=>by
   rw[List.find?_append,List.find?_eq_none.2 (by intro x hx;simpa using h x hx),List.find?_cons_of_pos (by rw[<-hx];simpa using he)];rfl
  have e4:=e3 _ rfl;rwa [<-e]at e4
 exact⟨by rw[e2];rfl,by rw[List.any_eq_true];exact⟨l[k],List.getElem_mem hk,by simpa using he⟩⟩
theorem MP:∀ {l:List Th},bD (l.map Th.name)->∀ {x y:Th},x∈l->y∈l->x.name=y.name->x=y
 | [],_,_,_,h,_,_=>by cases h
 | z :: l,hr,x,y,hx,hy,e=>by
  have h0:∀ y∈l,Op.bytesLess z.name y.name=true:=fun y hy=>(List.pairwise_cons.1 hr).1 y.name (List.mem_map.2 ⟨y,hy,rfl⟩);rcases List.mem_cons.1 hx with h1 | h1 <;> rcases List.mem_cons.1 hy with h2 | h2
  ·rw[h1,h2]
  ·have:=h0 y h2;rw[<-h1,e,cd]at this;cases this
  ·have:=h0 x h1;rw[<-h2,<-e,cd]at this;cases this
  ·exact MP (List.pairwise_cons.1 hr).2 h1 h2 e
theorem Nd{l o}(h:o∈l):dR l o.name=true:=by
 unfold dR;rw[List.any_eq_true];exact⟨o,h,by simp⟩
theorem Nt{l o}(hr:bD (l.map Th.name))(h:o∈l):Ng l o.name=o:=by
 obtain⟨m1,m2⟩:=MW (Nd h);exact MP hr m1 h m2
theorem Nj(time ver t)(a:cm):(al time ver t a).1.name=t.name:=by
 unfold al;split
 ·rfl
 ·split <;> rfl
theorem Nc(l:List cm):∀ k,dP (oQ l k)
 | 0=>by unfold oQ J4;simpa using AW
 | k+1=>by
  by_cases h:k < l.length
  ·rw[uD (Mw h)];exact Ib (Nc l k)
  ·have e:oQ l (k+1)=oQ l k:=by unfold oQ;rw[MD (by omega),MD (by omega)]
   rw[e];exact Nc l k
def M8 (w:LC) (ok:Nat->Prop) (l:List Th) (n:Lz) (e:Ending) (w':LC):Prop:=∃ (a b:Option Addr) (c d:Nat) (oa:Option Addr) (oc:Nat),e=.returned (.tuple #[.agg #[.string ⟨(Ng l n).name.toArray⟩,.int .i64 (Ng l n).value.kind,.int .i64 (Ng l n).value.n,.string ⟨(Ng l n).value.s.toArray⟩,.slice a (Ng l n).value.keys.length c,.slice b (Ng l n).value.l.length d,.slice oa (Ng l n).owners.length oc,.int .i64 (Ng l n).ver,.int .i64 (Ng l n).gen,.string ⟨(Ng l n).st.a.toArray⟩,.string ⟨(Ng l n).st.c.toArray⟩,.int .i64 (Ng l n).st.ph,.int .i64 (Ng l n).st.st,.int .i64 (Ng l n).st.we,.int .i64 (Ng l n).st.si],.bool (dR l n)])/\La w w'/\cQ w' ok (Ng l n) a b c d oa oc
theorem tfind_at(w ok l v n)(h:cO w ok l v):Calls prog 11 #[v,.string ⟨n.toArray⟩] w fun e w'=>M8 w ok l n e w':=by
 have H:=aa h;obtain⟨va,vc,rfl⟩:=h.form;have ll:=h.1;obtain⟨W1,hW1⟩:∃ W,W=w.alloc (.cells Le 41):=⟨_,rfl⟩
 have Y1:Ll (La w W1):=aa (by rw[hW1];exact ae _ _);have X1:Ll (fN W1 w.heap.size dT none none 0 0 none 0):=aa (by rw[hW1];exact MN _ _);have HW1:=aa hW1;clear h hW1;go_enter func11,ntmps11;go_upto_region 1 with fail
 rw[<-HW1.o];go_upto_region 2 with fail
 go_loopg [10] l.length (fun gk i wr=>∃ k:Nat,k<=l.length/\gk=l.length - k/\i=.int .i64 k/\Ll (La W1 wr)/\Ll (∀ x∈l.take k,x.name≠n))
 case atStart=>exact⟨0,Nat.zero_le _,rfl,rfl,aa (MK _ _),aa (by intro x hx;simp at hx)⟩
 case round=>
  obtain⟨k,hk,hgk,rfl,BL,NO⟩:=hrel;have GK:=aa hgk;clear hgk;have X9:=aa (X1.o.bel BL.o);by_cases hlt:k < l.length
  ·obtain⟨g1,o1,rfl,j1,j2,j3,xa,xb,xc,xd,xoa,xoc,hx,kx⟩:=(H.o.low.bel (ab Y1.o BL.o)).at hlt;have KX:=aa kx;have w2:(k:Int) < (l.length:Int):=by omega
   have w3:(0:Int)<=(k:Int):=by omega
   have AT:=aa (Na hlt NO.o);have NX:Ll (l[k].name≠n->∀ x∈l.take (k+1),x.name≠n):=aa (by
    intro h9 x hx;rw[List.take_succ_eq_append_getElem hlt,List.mem_append]at hx;rcases hx with hx | hx
    ·exact NO.o x hx
    ·rw[List.mem_singleton.1 hx];exact h9)
   obtain⟨t,ht⟩:∃ t,l[k]=t:=⟨_,rfl⟩
   rw[ht]at hx KX AT NX;clear ht kx;obtain⟨x0,x1,x2,x3,x4,x5,x6,x7,x8,x9,x10,x11,x12,x13,x14⟩:=hx;obtain⟨W2,hW2⟩:∃ W,W=wr.alloc (.cells (Ld t xa xc xb xd xoa xoc) 41):=⟨_,rfl⟩
   have A2:Ll (La wr W2):=aa (by rw[hW2];exact ae _ _);have T2:Ll (fN W2 wr.heap.size t xa xb xc xd xoa xoc):=aa (by rw[hW2];exact MN _ _);have HW2:=aa hW2;clear hW2;go_upto_region 4 with fail
   rw[<-HW2.o];obtain⟨x0,x1,x2,x3,x4,x5,x6,x7,x8,x9,x10,x11,x12,x13,x14⟩:=T2.o.c;by_cases he:t.name=n
   ·have e0:(t.name == n)=true:=by simpa using he
    have R:=aa (AT.o he);clear he;have n0_:=(X9.o.bel A2.o).c;obtain⟨m0,m1,m2,m3,m4,m5,m6,m7,m8,m9,m10,m11,m12,m13,m14⟩:=(X9.o.bel A2.o).f;have P9:=aa ((X9.o.bel A2.o).put15 t xa xb xc xd xoa xoc);have G9:=aa (mz (r:=none) (aq (ab (ab Y1.o BL.o) A2.o)) (MG _) t xa xb xc xd xoa xoc);have z0_:=P9.o.c;simp only[jE]at z0_;go_wp2
    refine MM (v:=.tuple #[.agg (Ld t xa xc xb xd xoa xoc),.bool true]) ?_ rfl ?_
    ·simp[results,results11,go_sem,z0_]
    ·refine⟨xa,xb,xc,xd,xoa,xoc,by rw[R.o.1,R.o.2],bS G9.o,?_⟩;rw[R.o.1];exact(KX.o.gr (am (aq A2.o) (g15 _ w.heap.size t xa xb xc xd xoa xoc)) (by intro k9 h9 e9;cases e9;exact absurd h9.2 (Nat.lt_irrefl _))).weak fun k9 h9=>h9.1
   ·have e0:(t.name == n)=false:=by rw[MO];exact he
    have N9:=aa (NX.o he);clear he;go_wp2
    go_roundg (l.length - (k+1))
    case measure=>rw[GK.o];omega
    case rel=>exact⟨k+1,hlt,rfl,by go_num,aa (ab BL.o A2.o),N9⟩
  ·have d9:¬(k:Int) < (l.length:Int):=by omega
   have R:=aa (M6 (fun x hx=>NO.o x (by rw[MD (by omega)];exact hx)));have n0_:=X9.o.c;obtain⟨m0,m1,m2,m3,m4,m5,m6,m7,m8,m9,m10,m11,m12,m13,m14⟩:=X9.o.f;have P9:=aa (X9.o.put15 dT none none 0 0 none 0);have G9:=aa (mz (r:=none) (aq (ab Y1.o BL.o)) (MG _) dT none none 0 0 none 0);have z0_:=P9.o.c;simp only[jE,dT,aM,List.length_nil]at z0_;go_wp2
   refine MM (v:=.tuple #[.agg Le,.bool false]) ?_ rfl ?_
   ·simp[results,results11,go_sem,z0_]
   ·refine⟨none,none,0,0,none,0,by rw[R.o.1,R.o.2];rfl,bS G9.o,?_⟩;rw[R.o.1];exact⟨by simp[dT],fG _ _,⟨by simp[dT],.inl ⟨rfl,_,rfl⟩⟩⟩
def OV (ver:Int) (th:Bool) (o t:Th):Prop:=(th=true/\o.value=t.value/\o.owners=t.owners->t.ver=o.ver/\t.gen=o.gen)/\(¬(th=true/\o.value=t.value/\o.owners=t.owners)->ver < t.ver/\(th=true->t.gen=o.gen+1\/o.value=t.value/\t.gen=o.gen)/\(th=false->t.gen=1))
theorem Pk{ver o}:OV ver true o o:=⟨fun _=>⟨rfl,rfl⟩,fun h=>absurd ⟨rfl,rfl,rfl⟩ h⟩
theorem Pe{ver o}(x):OV ver true o { o with st:=x }:=⟨fun _=>⟨rfl,rfl⟩,fun h=>absurd ⟨rfl,rfl,rfl⟩ h⟩
theorem Pr{time ver t v os}(hg:t.gen≠0):OV ver true t (jw time ver t v os).1:=by
 unfold OV;simp only[jw,hg,false_or];by_cases h1:v=t.value
 ·by_cases h2:os=t.owners
  ·simp[h1,h2,hg]
  ·have h3:t.owners≠os:=fun e=>h2 e.symm;simp[h1,h2,h3,hg];omega
 ·have h3:t.value≠v:=fun e=>h1 e.symm;simp[h1,h3,hg];omega
theorem Pq{time ver o t v os}(hg:t.gen=0):OV ver false o (jw time ver t v os).1:=by
 unfold OV;simp[jw,hg];omega
theorem OR{time ver t}{a:cm}(he:(al time ver t a).2.2=0):∃ v os,(al time ver t a).1=(jw time ver t v os).1:=by
 by_cases h1:(aJ t a).2.2≠0
 ·exfalso;unfold al at he;rw[if_pos h1]at he;exact h1 he
 ·by_cases h2:cI (aJ t a).1≠0
  ·exfalso;unfold al at he;rw[if_neg h1,if_pos h2]at he;exact h2 he
  ·exact⟨_,_,by unfold al;rw[if_neg h1,if_neg h2]⟩
theorem Pt{s:Nu}{a:cm}(h:dP s):∀ t∈(je s a).1.ths,OV s.ver (dR s.ths t.name) (Ng s.ths t.name) t:=by
 have keep:∀ t∈s.ths,OV s.ver (dR s.ths t.name) (Ng s.ths t.name) t:=fun t ht=>by
  rw[Nd ht,Nt h.rise ht];exact Pk
 unfold je;split
 ·exact keep
 simp only;split
 ·exact keep
 split
 ·unfold iz;split
  ·exact keep
  ·intro t ht;obtain⟨o,ho,rfl⟩:=List.mem_map.1 ht;simp only;rw[Nd ho,Nt h.rise ho];exact Pe _
 split
 ·exact keep
 generalize hs':({ s with acts:=s.acts+1 }:Nu)=s';have e1:s'.ths=s.ths:=by rw[<-hs']
 have e2:s'.ver=s.ver:=by rw[<-hs']
 have hr:bD (s'.ths.map Th.name):=by rw[e1];exact h.rise
 by_cases hb:cj s'.ths.length a.kind (dR s'.ths a.name)=0
 ·cases ht:dR s'.ths a.name with
  | false=>
   rw[nQ hb ht];unfold iF;split
   ·rw[e1];exact keep
   ·rename_i he;intro t hm;simp only[List.mem_append,List.mem_cons]at hm;rcases hm with hm | rfl | hm
    ·exact keep t (by rw[<-e1];exact List.mem_of_mem_take hm)
    ·obtain⟨v,os,ewr⟩:=OR (show (al s'.time s'.ver (eT a.name) a).2.2=0 by simpa using he);have hn:(al s'.time s'.ver (eT a.name) a).1.name=a.name:=Nj _ _ _ _;rw[hn,<-e1,ht,ewr,e2];exact Pq rfl
    ·exact keep t (by rw[<-e1];exact List.mem_of_mem_drop hm)
  | true=>
   obtain⟨t,h1,h2⟩:=nR _ _ hr ht;have htm:t∈s.ths:=by rw[<-e1];exact List.mem_of_getElem? h1
   have S:∀ (x:Th),x.name=t.name->OV s.ver true t x->∀ u∈s'.ths.set (ci s'.ths a.name) x,OV s.ver (dR s.ths u.name) (Ng s.ths u.name) u:=by
    intro x hx k1 u hu;rcases List.mem_or_eq_of_mem_set hu with hu | rfl
    ·exact keep u (by rw[<-e1];exact hu)
    ·rw[hx,Nd htm,Nt h.rise htm];exact k1
   rw[fk hb ht h1];split
   ·exact fun u hu=>keep u (by rw[<-e1];exact List.mem_of_mem_eraseIdx hu)
   split
   ·unfold iG;split
    ·rw[e1];exact keep
    ·exact S _ rfl (Pe _)
   split
   ·rw[e1];exact keep
   ·unfold fF;split
    ·rw[e1];exact keep
    split
    ·rw[e1];exact keep
    ·rename_i he;obtain⟨v,os,ewr⟩:=OR (show (al s'.time s'.ver t a).2.2=0 by simpa using he);refine S _ (Nj _ _ _ _) ?_;rw[ewr,e2];exact Pr (by have:=(h.ths t htm).gen.1;omega)
 ·rw[C8 rfl hb,e1];exact keep
theorem PA{s:Nu}{a:cm}(h:dP s):s.ver<=(je s a).1.ver:=by
 unfold je;split
 ·exact Int.le_refl _
 simp only;split
 ·exact Int.le_refl _
 split
 ·unfold iz;split <;> exact Int.le_refl _
 split
 ·exact Int.le_refl _
 have W:∀ (time ver:Int) (t:Th),ver<=(al time ver t a).2.1:=by
  intro time ver t;unfold al;split
  ·exact Int.le_refl _
  split
  ·exact Int.le_refl _
  ·simp only[jw];split <;> omega
 unfold dD;simp only;split
 ·exact Int.le_refl _
 ·split
  ·split
   ·split
    ·exact Int.le_refl _
    ·exact W _ _ _
   ·split
    ·exact Int.le_refl _
    ·split
     ·split <;> exact Int.le_refl _
     ·split
      ·exact Int.le_refl _
      ·split
       ·exact Int.le_refl _
       ·split
        ·exact Int.le_refl _
        ·exact W _ _ _
  ·split
   ·exact Int.le_refl _
   ·exact W _ _ _
theorem Pl:∀ {x y:aL},x.name=y.name->x.paths=y.paths->x=y
 | ⟨_,_⟩,⟨_,_⟩,rfl,rfl=>rfl
open Classical in
theorem O8(w ok ok' xs ys v u)(h:aB w ok xs v)(h':aB w ok' ys u):Calls prog 13 #[v,u] w fun e w'=>e=.returned (.bool (decide (xs=ys)))/\∃ n,w'=w.drewN n:=by
 have HH1:=aa h;have HH2:=aa h';obtain⟨a,c,rfl⟩:=h.form;obtain⟨a',c',rfl⟩:=h'.form;have ll:=h.1;have ll':=h'.1;unfold maxLen at ll ll';clear h h';by_cases hl:xs.length=ys.length
 ·have q0:((xs.length:Int) != (ys.length:Int))=false:=by simp[hl]
  have q00:((xs.length:Int) == (ys.length:Int))=true:=by simp[hl]
  have HLN:=aa hl;rw[<-hl];clear hl;go_enter func13,ntmps13;go_wp2
  go_loopg [13] xs.length (fun gk i wr=>∃ k:Nat,k<=xs.length/\gk=xs.length - k/\i=.int .i64 k/\Ll (xs.take k=ys.take k)/\Ll (∃ n,wr=w.drewN n))
  case atStart=>exact⟨0,Nat.zero_le _,rfl,rfl,rfl,aa ⟨0,rfl⟩⟩
  case round=>
   obtain⟨k,hk,hgk,rfl,ALL,BLL⟩:=hrel;have HGK:=aa hgk;clear hgk;by_cases hlt:k < xs.length
   ·have hlt':k < ys.length:=HLN.o ▸ hlt;obtain⟨b1,o1,pa,pc,rfl,j1,j2,k1,k2,k3,-⟩:=HH1.o.at hlt;obtain⟨b2,o2,qa,qc,rfl,i1,i2,l1,l2,l3,-⟩:=HH2.o.at hlt';have w2:(k:Int) < (xs.length:Int):=by omega
    have w3:(0:Int)<=(k:Int):=by omega
    have d0:=gY BLL.o k1;have d1:=gY BLL.o k2;have d2:=gY BLL.o l1;have d3:=gY BLL.o l2;have TXX:Ll (∀ W,(∃ n,W=wr.drewN n)->Calls prog 25 #[.slice pa xs[k].paths.length pc,.slice qa ys[k].paths.length qc] W fun e w'=>e=.returned (.bool (decide (xs[k].paths=ys[k].paths)))/\∃ n,w'=wr.drewN n):=fun W hW=>by
     have b9:=ab (pE BLL.o) (pE hW);refine(topTexts_at W ok ok' _ _ _ _ (k3.bel b9) (l3.bel b9)).mono ?_;rintro e w' ⟨rfl,n,rfl⟩;exact⟨by congr,vD hW n⟩
    have TKK:Ll (xs[k]=ys[k]->xs.take (k+1)=ys.take (k+1)):=zg ALL.o hlt hlt';have NEE:Ll (xs[k]≠ys[k]->decide (xs=ys)=false):=fun h9=>decide_eq_false (fun e=>h9 (by subst e;rfl));clear k1 k2 k3 l1 l2 l3;obtain⟨x,hx⟩:∃ x,xs[k]=x:=⟨_,rfl⟩
    obtain⟨y,hy⟩:∃ y,ys[k]=y:=⟨_,rfl⟩
    rw[hx]at d0 d1 TXX TKK NEE;rw[hy]at d2 d3 TXX TKK NEE;clear hx hy;by_cases hnm:x.name=y.name
    ·have e8:(x.name == y.name)=true:=by simpa using hnm
     have e9:(x.name != y.name)=false:=by simp[hnm]
     by_cases hpt:x.paths=y.paths
     ·have TK2:=aa (TKK.o (Pl hnm hpt));rw[decide_eq_true hpt]at TXX;clear hnm hpt TKK NEE;go_upto_region 6 with fail
      go_quiet ((go_at_call 25;exact TXX.o _ ⟨_,rfl⟩))
      have B6:=aa (vD BLL.o nq);go_wp2
      go_roundg (xs.length - (k+1))
      case measure=>rw[HGK.o];omega
      case rel=>exact⟨k+1,hlt,rfl,by go_num,TK2,B6⟩
     ·have RRR:=aa (NEE.o (fun e=>hpt (by rw[e])));rw[decide_eq_false hpt]at TXX;clear hnm hpt TKK NEE;go_upto_region 6 with fail
      go_quiet ((go_at_call 25;exact TXX.o _ ⟨_,rfl⟩))
      have B6:=aa (vD BLL.o nq);go_wp2
      go_ret;exact⟨by rw[RRR.o];rfl,B6.o⟩
    ·have RRR:=aa (NEE.o (fun e=>hnm (by rw[e])));have e8:(x.name == y.name)=false:=by rw[MO];exact hnm
     have e9:(x.name != y.name)=true:=by simpa using hnm
     clear hnm TKK NEE;go_upto_region 6 with fail
     go_quiet ((go_at_call 25;exact TXX.o _ ⟨_,rfl⟩))
     have B6:=aa (vD BLL.o nq);go_wp2
     go_ret;exact⟨by rw[RRR.o];rfl,B6.o⟩
   ·have d9:¬(k:Int) < (xs.length:Int):=by omega
    have RRR:Ll (decide (xs=ys)=true):=decide_eq_true (by
     have:=ALL.o;rwa [MD (by omega),MD (by have:=HLN.o;omega)]at this)
    go_wp2
    go_ret;exact⟨by rw[RRR.o];rfl,BLL.o⟩
 ·have q0:((xs.length:Int) != (ys.length:Int))=true:=by simp;omega
  have q00:((xs.length:Int) == (ys.length:Int))=false:=by rw[MO];omega
  have RRR:Ll (decide (xs=ys)=false):=decide_eq_false (fun e=>hl (by rw[e]));go_enter func13,ntmps13;go_wp2
  go_ret;exact⟨by rw[RRR.o];rfl,0,rfl⟩
variable {W:World}
variable {g:Nat}
def Pn (w:LC) (g:Nat) (b:Int):Prop:=w.heap[g]?=some (.cells #[.int .i64 b] 3)
theorem Pn.bel{b}(h:Pn w g b)(hb:La w w'):Pn w' g b:=(hb.block g (MF.1 h).1).trans h
theorem Pn.c{b}(h:Pn w g b):w.cell? ⟨g,0,none⟩=some (.int .i64 b)/\w.frozen? ⟨g,0,none⟩=false:=by
 unfold Pn at h;refine⟨?_,?_⟩ <;> simp[World.cell?,World.frozen?,h]
theorem iH.put{a}{st:Nu}(h:iH a w S v st)(g:w.grownBy w' (some B))(h1:a.heap.size<=B)(h2:B < S):iH a w' S v st:=
 ⟨Jv h.bel g (fun k e=>by cases e;exact h1),h.srv.gr g (by omega) (fun e=>by have:=h.srv.ne e;omega) (fun k hk=>by have:S < k:=hk.1;omega),h.good,h.gl.gr (fun k hS hk=>g.block k hk (fun e=>by cases e;omega)) ⟨g.os,g.tape,g.output,g.size⟩,h.low⟩
theorem cO.put{l}(h:cO w (fun j=>S < j) l v)(g:w.grownBy w' (some B))(h2:B < S):cO w' (fun j=>S < j) l v:=
 h.imp fun k x hk hx=>⟨hk,by
  have hk9:S < k.block:=hk;rw[<-hx];simp only[World.cell?,g.block k.block (World.block_lt_of_cell? w k hx) (fun e=>by cases e;omega)]⟩
structure Pc (A:LC) (S B:Nat) (v:Value) (s s':Nu) (was now:Value) (W:LC) (b:Int):Prop where
 live:iH A W S v s'
 was:cO W (fun j=>S < j) s.ths was
 now:cO W (fun j=>S < j) s'.ths now
 box:Pn W B b
theorem Pc.more{A}{s s':Nu}{was now W' b}(h:Pc A S B v s s' was now W b)(hb:La W W'):Pc A S B v s s' was now W' b:=
 ⟨h.live.more hb,h.was.bel hb,h.now.bel hb,h.box.bel hb⟩
theorem Pc.put{A}{s s':Nu}{was now b}(h:Pc A S B v s s' was now W b)(h1:A.heap.size<=B)(h2:B < S)(c):Pc A S B v s s' was now (W.setCell ⟨B,0,none⟩ (.int .i64 c)) c:=
 ⟨h.live.put (ap (az _ _) _ _) h1 h2,h.was.put (ap (az _ _) _ _) h2,h.now.put (ap (az _ _) _ _) h2,ak h.box 0 _⟩
theorem Ph:fa aM<=2000000000000:=by simp[aM,fa]
theorem Pw{s:Nu}(h:dP s)(n):fa (Ng s.ths n).value<=2000000000000:=by
 cases ht:dR s.ths n with
 | true=>exact MH (gE (srv_nice h _ (MW ht).1)) (by omega)
 | false=>
  have e:Ng s.ths n=dT:=by
   unfold Ng;unfold dR at ht;rw[List.any_eq_false]at ht;rw[List.find?_eq_none.2 ht];rfl
  rw[e];exact Ph
open Classical in
theorem O0(A)(l:List cm)(S0 B)(hA:A.heap.size<=B)(hB:B < S0):Jf A l S0 9 #[.pointer (some ⟨B,0,none⟩)] (fun k W=>∃ b:Int,Pn W B b/\b<=(oQ l k).ver):=by
 refine⟨fun k W W' h hb=>?_,fun k W W' S v h hf hS hv=>?_,fun k q W S v was hq hk hI hL hS hT=>?_⟩
 ·obtain⟨b,h1,h2⟩:=h;exact⟨b,h1.bel hb,h2⟩
 ·obtain⟨b,h1,h2⟩:=h;exact⟨b,(hf.block B (MF.1 h1).1 (by omega) (fun e=>by have:=hv _ e;omega)).trans h1,h2⟩
 have VD:=Pt (a:=q) (Nc l k);have VU:=PA (a:=q) (Nc l k);have e1:=uD hq;rw[<-e1]at VD VU;obtain⟨r,hr⟩:∃ r,(je (oQ l k) q).2=r:=⟨_,rfl⟩
 rw[hr];have GD:=aa (Nc l k);have GD':=aa (Nc l (k+1));obtain⟨s,hs⟩:∃ s,oQ l k=s:=⟨_,rfl⟩
 rw[hs]at VD VU hT GD hI;obtain⟨s',hs'⟩:∃ s',oQ l (k+1)=s':=⟨_,rfl⟩
 rw[hs']at VD VU hL GD' ⊢;have HSB:Ll (A.heap.size<=B/\B < S):=aa ⟨hA,by omega⟩;clear hr hs hs' e1 hq hk hA hB hS;obtain⟨b0,hb0,hb1⟩:=hI;obtain⟨W1,hW1⟩:∃ W1,W1=(W.alloc (.cells (Lf q) 28)).alloc (.cells #[.int .i64 r.code,.int .i64 r.n,.string ⟨r.body.toArray⟩] 31):=⟨_,rfl⟩
 have Y1:Ll (La W W1):=aa (by rw[hW1];exact ab (ae _ _) (ae _ _));have HW1:=aa hW1;have L1:=aa (hL.more Y1.o);have T1:=aa (hT.bel Y1.o);have X1:=aa (hb0.bel Y1.o);have TH1:=aa (fl L1.o);have HVD:=aa VD;have HVB:Ll (b0<=s.ver/\s.ver<=s'.ver):=aa ⟨hb1,VU⟩;clear hW1 hL hT VD VU hb0 hb1;have u0_:=X1.o.c;go_enter func9,ntmps9;go_upto_region 1 with fail
 rw[<-HW1.o];go_upto_region 3 with (go_at_call 10;refine TH1.o.mono ?_;rintro e w3 ⟨rfl,p1,p2,p3⟩;have N3:=aa p1.ths;have L3:=aa p2;have B3:=aa p3;clear p1 p2 p3)
 have I3:Ll (Pc A S B v s s' was (.slice (some ⟨W1.heap.size,0,none⟩) s'.ths.length s'.ths.length) w3 b0):=aa (by
  have hS9:=L1.o.srv.blk.lt;refine⟨L3.o,T1.o.bel B3.o,?_,X1.o.bel B3.o⟩;refine N3.o.weak fun j hj=>?_;rcases hj with hj | hj
  ·omega
  ·have:=Option.some.inj (show some W1.heap.size=some j from hj);omega)
 clear T1 TH1 N3 L3 X1;obtain⟨nva,hnva⟩:∃ x:Option Addr,x=some ⟨W1.heap.size,0,none⟩:=⟨_,rfl⟩
 rw[<-hnva]at I3 ⊢;clear hnva;have l8:=GD'.o.len;go_loopg [21] s'.ths.length (fun gk i wr=>∃ k:Nat,k<=s'.ths.length/\gk=s'.ths.length - k/\i=.int .i64 k/\∃ b:Int,Ll (Pc A S B v s s' was (.slice nva s'.ths.length s'.ths.length) wr b/\b<=s'.ver))
 case atStart=>exact⟨0,Nat.zero_le _,rfl,rfl,b0,aa ⟨I3.o,Int.le_trans HVB.o.1 HVB.o.2⟩⟩
 case round=>
  obtain⟨k,hk,hgk,rfl,b,IVR⟩:=hrel;have GK:=aa hgk;clear hgk I3;by_cases hlt:k < s'.ths.length
  ·obtain⟨g1,o1,rfl,j1,j2,j3,xa,xb,xc,xd,xoa,xoc,hx,kx⟩:=IVR.o.1.now.at hlt;have w2:(k:Int) < (s'.ths.length:Int):=by omega
   have w3:(0:Int)<=(k:Int):=by omega
   have FT:=aa (HVD.o s'.ths[k] (List.getElem_mem hlt));have TV:=aa (GD'.o.ths s'.ths[k] (List.getElem_mem hlt)).ver;have KX:=aa kx;obtain⟨t,ho⟩:∃ t,s'.ths[k]=t:=⟨_,rfl⟩
   rw[ho]at hx FT KX TV;clear ho kx;obtain⟨x0,x1,x2,x3,x4,x5,x6,x7,x8,x9,x10,x11,x12,x13,x14⟩:=hx;obtain⟨W2,hW2⟩:∃ W,W=wr.alloc (.cells (Ld t xa xc xb xd xoa xoc) 41):=⟨_,rfl⟩
   have A2:Ll (La wr W2):=aa (by rw[hW2];exact ae _ _);have T2:Ll (fN W2 wr.heap.size t xa xb xc xd xoa xoc):=aa (by rw[hW2];exact MN _ _);have HW2:=aa hW2;clear hW2;go_upto_region 5 with fail
   rw[<-HW2.o];obtain⟨x0,x1,x2,x3,x4,x5,x6,x7,x8,x9,x10,x11,x12,x13,x14⟩:=T2.o.c;have FD:=aa (tfind_at W2 _ s.ths was t.name (IVR.o.1.was.bel A2.o));have OCN:=aa (Pw GD.o t.name);have OG:Ll (dR s.ths t.name=true->0 < (Ng s.ths t.name).gen/\(Ng s.ths t.name).gen<=300):=fun h9=>by
    have h8:=GD.o.ths _ (MW h9).1;have:=h8.gen;have:=h8.ver;have:=GD.o.ver;have:=GD.o.acts;omega
   go_upto_region 6 with (go_at_call 11;refine FD.o.mono ?_;rintro e w5 ⟨a,b5,c,d,oa,oc,rfl,p1,p2⟩;have B5:=aa p1;have OK5:=aa p2;clear p1 p2)
   obtain⟨th,hth⟩:∃ th,dR s.ths t.name=th:=⟨_,rfl⟩
   obtain⟨o,ho⟩:∃ o,Ng s.ths t.name=o:=⟨_,rfl⟩
   rw[hth,ho]at FT OG;rw[ho]at OCN OK5;rw[hth,ho];clear hth ho;obtain⟨W5,hW5⟩:∃ W,W=w5.alloc (.cells (Ld o a c b5 d oa oc) 41):=⟨_,rfl⟩
   have A5:Ll (La w5 W5):=aa (by rw[hW5];exact ae _ _);have T5:Ll (fN W5 w5.heap.size o a b5 c d oa oc):=aa (by rw[hW5];exact MN _ _);rw[<-hW5];clear hW5;have B25:=aa (ab B5.o A5.o);have BX:=aa (ab A2.o B25.o);have T25:=aa (T2.o.bel B25.o);obtain⟨bv,hbv⟩:∃ bv,decide (o.value=t.value)=bv:=⟨_,rfl⟩
   obtain⟨bow,hbo⟩:∃ bow,decide (o.owners=t.owners)=bow:=⟨_,rfl⟩
   have SM:Ll (∀ p:mq W5,Calls prog 12 #[.agg (KV o.value a c b5 d),.agg (KV t.value xa xc xb xd)] p.W fun e w''=>e=.returned (.bool bv)/\∃ q:mq W5,w''=q.W):=fun p=>Calls.belW ((same_run p.W _ _ o.value t.value _ _ ((OK5.o.bel A5.o).bel p.h).val (KX.o.bel (ab BX.o p.h)).val OCN.o).mono fun e w9 h9=>by
    obtain⟨r9,rfl,hr9,hb9⟩:=h9;refine⟨?_,hb9⟩;have:r9=bv:=by
     rw[<-hbv];by_cases hh:o.value=t.value
     ·rw[hr9.2 hh,decide_eq_true hh]
     ·rw[decide_eq_false hh,Bool.eq_false_iff];exact fun h8=>hh (hr9.1 h8)
    rw[this])
   have SO:Ll (∀ p:mq W5,Calls prog 13 #[.slice oa o.owners.length oc,.slice xoa t.owners.length xoc] p.W fun e w''=>e=.returned (.bool bow)/\∃ q:mq W5,w''=q.W):=fun p=>Calls.belW ((O8 p.W _ _ o.owners t.owners _ _ ((OK5.o.bel A5.o).bel p.h).own (KX.o.bel (ab BX.o p.h)).own).mono fun e w9 h9=>by
    obtain⟨rfl,n9,rfl⟩:=h9;exact⟨by rw[<-hbo],aC _ _⟩)
   have HBV:Ll (bv=true↔o.value=t.value):=aa (by rw[<-hbv,decide_eq_true_iff]);have HBO:Ll (bow=true↔o.owners=t.owners):=aa (by rw[<-hbo,decide_eq_true_iff]);clear hbv hbo;obtain⟨z0,z1,z2,z3,z4,z5,z6,z7,z8,z9,z10,z11,z12,z13,z14⟩:=T5.o.c;obtain⟨x0,x1,x2,x3,x4,x5,x6,x7,x8,x9,x10,x11,x12,x13,x14⟩:=T25.o.c;have s1:=mY z1;have s2:=mY z2;have s3:=mY z3;have s4:=mY z4;have s5:=mY z5;have s6:=mY z6;have r1:=mY x1;have r2:=mY x2;have r3:=mY x3;have r4:=mY x4;have r5:=mY x5;have r6:=mY x6;have hmix:prog.follows .mixedOrders=true:=by kernel_rfl
   have hne:Nonempty (mq W5):=⟨⟨W5,MK _ _⟩⟩
   refine dE (by assumption) (by kernel_rfl) ?_;repeat(first | go_big_quiet_step (first | (go_at_call 12;exact SM.o _) | (go_at_call 13;exact SO.o _)) | quiet_step (first | (go_at_call 12;exact SM.o _) | (go_at_call 13;exact SO.o _)))
   refine wpQuiet_nil ?_;intro _ hw';obtain⟨pq,hw''⟩:=hw';subst hw'';clear s1 s2 s3 s4 s5 s6 r1 r2 r3 r4 r5 r6 SM SO hne hmix;obtain⟨W6,hW6⟩:∃ W,pq.W=W:=⟨_,rfl⟩
   have B6:Ll (La W5 W6):=aa (by rw[<-hW6];exact pq.h);rw[hW6];clear hW6 pq;have I6:=aa (IVR.o.1.more (ab BX.o B6.o));obtain⟨z0,z1,z2,z3,z4,z5,z6,z7,z8,-⟩:=(T5.o.bel B6.o).c;obtain⟨x0,x1,x2,x3,x4,x5,x6,x7,x8,-⟩:=(T25.o.bel B6.o).c;by_cases hsame:th=true/\bv=true/\bow=true
   ·obtain⟨rfl,rfl,rfl⟩:=hsame;obtain⟨k1,k2⟩:=FT.o.1 ⟨rfl,HBV.o.1 rfl,HBO.o.1 rfl⟩;rw[k1]at x7;rw[k2]at x8;clear k1 k2;go_wp2
    go_roundg (s'.ths.length - (k+1))
    case measure=>rw[GK.o];omega
    case rel=>exact⟨k+1,hlt,rfl,by go_num,b,aa ⟨I6.o,IVR.o.2⟩⟩
   obtain⟨n1,n2,n3⟩:=FT.o.2 (fun h9=>hsame ⟨h9.1,HBV.o.2 h9.2.1,HBO.o.2 h9.2.2⟩);have m1:¬t.ver<=b0:=by have:=HVB.o.1;omega
   have u0_:=I6.o.box.c;have HMX:Ll (max b t.ver<=s'.ver):=aa (by
    have:=TV.o;have:=IVR.o.2;omega)
   have P6:=aa (I6.o.put HSB.o.1 HSB.o.2 (max b t.ver));go_upto_region 7 with fail
   go_cut [48] (fun cv wc=>cv=.bool false/\wc=W6)
   case first=>
    clear n1 n2 n3;cases th with
    | false=>
     go_wp2
     go_meet
     case rel=>exact⟨rfl,rfl⟩
    | true=>
     cases bv with
     | false=>
      go_wp2
      go_meet
      case rel=>exact⟨rfl,rfl⟩
     | true=>
      cases bow with
      | false=>
       go_wp2
       go_meet
       case rel=>exact⟨rfl,rfl⟩
      | true=>exact absurd ⟨rfl,rfl,rfl⟩ hsame
   case rest=>
    obtain⟨rfl,hwc⟩:=hcut;have hwd:=hwc.symm;subst hwd;go_upto_region 10 with fail
    go_cut [95] (fun cv wc=>cv=.bool false/\wc=W6)
    case first=>
     cases th with
     | false=>
      have m3:(t.gen == 1)=true:=by rw[n3 rfl];rfl
      have m4:(t.gen != 1)=false:=by rw[n3 rfl];rfl
      clear n1 n2 n3 hsame;go_wp2
      go_meet
      case rel=>exact⟨rfl,rfl⟩
     | true=>
      have og:=OG.o rfl;have wg:IntKind.i64.wrap (o.gen+1)=o.gen+1:=by rw[IntKind.wrap_i64];omega
      by_cases g1:t.gen=o.gen+1
      ·have m3:(t.gen == o.gen+1)=true:=by simp[g1]
       have m4:(t.gen != o.gen+1)=false:=by simp[g1]
       have nb:bv=false\/bv=true/\bow=false:=by
        cases bv with
        | false=>exact .inl rfl
        | true=>cases bow with
         | false=>exact .inr ⟨rfl,rfl⟩
         | true=>exact absurd ⟨rfl,rfl,rfl⟩ hsame
       clear n1 n2 n3 hsame g1 og;rcases nb with rfl | ⟨rfl,rfl⟩
       all_goals
        go_wp2
        go_meet
        case rel=>exact⟨rfl,rfl⟩
      ·have g2:o.value=t.value/\t.gen=o.gen:=by
        rcases n2 rfl with h9 | h9
        ·exact absurd h9 g1
        ·exact h9
       have m3:(t.gen == o.gen+1)=false:=by rw[MO];exact g1
       have m4:(t.gen != o.gen+1)=true:=by simpa using g1
       have m5:(t.gen == o.gen)=true:=by simp[g2.2]
       have hv1:bv=true:=HBV.o.2 g2.1;subst hv1;have hv2:bow=false:=by
        cases bow with
        | false=>rfl
        | true=>exact absurd ⟨rfl,rfl,rfl⟩ hsame
       subst hv2;clear n1 n2 n3 hsame g1 g2 og;go_wp2
       go_meet
       case rel=>exact⟨rfl,rfl⟩
    case rest=>
     obtain⟨rfl,rfl⟩:=hcut;clear n1 n2 n3 hsame;go_wp2
     go_roundg (s'.ths.length - (k+1))
     case measure=>rw[GK.o];omega
     case rel=>exact⟨k+1,hlt,rfl,by go_num,max b t.ver,aa ⟨P6.o,HMX.o⟩⟩
  ·have d9:¬(k:Int) < (s'.ths.length:Int):=by omega
   go_wp2
   go_ret;exact⟨rfl,IVR.o.1.live,b,IVR.o.1.box,IVR.o.2⟩
theorem OS:∀ args w,(callFunc 9 args).run prog w=.ok (.enter 9 args) w:=enters_of func9 (by kernel_rfl) rfl
theorem topVersions_at(w)(l:List cm)(v)(hl:fc w l v)(h1:cn w)(h2:bj w)(h3:di w):Calls prog 3 #[v] w fun e w'=>e=.returned (.bool true)/\La w w':=by
 obtain⟨W1,hW1⟩:∃ W,W=w.alloc (.cells #[.int .i64 0] 3):=⟨_,rfl⟩
 have Y1:Ll (La w W1):=aa (by rw[hW1];exact ae _ _);have X1:Pn W1 w.heap.size 0:=by rw[hW1];exact MN _ _
 have HW1:=aa hW1;have PL:=aa (Ip w W1 l v _ _ _ OS Y1.o hl h1 h2 h3 ⟨0,X1,by unfold oQ J4;simp[vm]⟩ (O0 w l _ w.heap.size (MG _) (MF.1 X1).1));clear hl h1 h2 h3 hW1 X1;go_enter func3,ntmps3;go_upto_region 2 with fail
 rw[<-HW1.o];go_wp2_with (go_at_call 8;refine PL.o.mono ?_;rintro e w2 ⟨S,v2,rfl,p1,p2,-⟩;have B2:=aa p1.bel;clear p1 p2)
 go_ret;exact⟨rfl,B2.o⟩
end Go.Proofs.YtfpcghnhjlnnoaaGreatDoor
namespace Go.Proofs.YtfpcghnhjlnnoaaGreatDoor.topVersions
open Go.ChangeShapes Go.WideShapes Go.ChangeAt Go.RowKit
open Go.ChangeMaps (open_string shut_string)
theorem mf(H:Type)(enc:TypeId × Value->H)(W:World)(base:Nat)(args:Array Value)(ds gs:List (DataW H))(before:List MemPlace)(hval:∀ (j:Nat) t v,Tryz.f3.params[j]?=some t->args[j]?=some v->Value.okWide Tryz.prog W .any base t v)(hW:DataW.Whole enc Tryz.prog Tryz.f3.params.toList Rows.topVersionsSpec.vars false W args.toList ds gs before)(hZ:(DataW.weightsEach Tryz.prog (Tryz.f3.params.toList++(OpenSpec.ofChange Rows.topVersionsSpec).bare.plain.varTypes Tryz.prog) (ds++gs)).all (·<=reachBytes)=true)(hL:laidMet Tryz.prog lS W)(hS:W.ShapedOpen Tryz.prog):Calls Tryz.prog 3 args W fun e W'=>∃ v,e=.returned v/\Rows.topVersionsSpec.post enc Tryz.prog Tryz.f3 false true false false W args v W':=by
 have hW':=hW;obtain⟨p,q,hA0,hV,rfl,hfz,hnd⟩:=hW;have hA:DataW.TrodAll enc Tryz.prog W 0 (fun _=>true) true Tryz.f3.params.toList args.toList ds p:=hA0;rw[Tryz.params3]at hA hval;obtain⟨v0,vs0,d0,ds0,p0,q0,hargs0,rfl,rfl,h0,r0⟩:=trodAll_cons hA;obtain⟨rfl,rfl,rfl⟩:=trodAll_nil r0;have hargs:args=#[v0]:=by
  obtain⟨l⟩:=args;exact congrArg Array.mk hargs0
 subst hargs;obtain⟨rfl,rfl⟩:=trodVars_none hV;have k0:Value.okWide Tryz.prog W .any base 22 v0:=hval 0 _ _ (by simp) (by simp);obtain⟨os0,hv0⟩:=arg_acts k0 h0;clear hA0;simp only[List.append_nil]at hW';have walk:=topVersions_at W os0 v0 hv0 (glob_top hL) (zS hS) (glob_topw hL);refine walk.mono fun e W' ⟨he,hg⟩=>?_;subst he;have ef:Rows.topVersionsSpec.fn H ([d0]++[])={ results:=[.lit (.bool true)],args:=[d0] }:=rfl;refine⟨_,rfl,_,_,_,[],(p0++[]),[],hW',?_,?_,?_,hg.frame _,fun h=>by cases h⟩
 ·rw[ef];exact trodAll_mk1 (shut_bool Tryz.underlying4 _)
 ·rw[ef,Tryz.params3];exact trodAll_cons_mk (Below.trod oI pr Al h0 hg (lK h0)) (trodAll_mk0)
 ·rw[ef];rfl
theorem sd(os:Os){H:Type}(enc:TypeId × Value->H):∃ places,DataW.whole enc Tryz.prog ((kr os).forCall (fun _ _=>0) ⟨#[],#[.slice none 0 0],[]⟩).memory Tryz.f3.params.toList Rows.topVersionsSpec.vars false #[Value.slice none 0 0].toList 8=some ([.nil],[],places):=
 ⟨[],by kernel_rfl⟩
theorem xX(os:Os)(started:os.Started)(H:Type)(enc:TypeId × Value->H)(F:Stop.Interp):ReturnsInHanded {} Tryz.checked os 3 .any ((OpenSpec.ofChange Rows.topVersionsSpec).preRow enc Tryz.prog Tryz.f3 Rows.topVersionsRow.domain false Rows.topVersionsRow.laid) (((OpenSpec.ofChange Rows.topVersionsSpec).at F).post enc Tryz.prog Tryz.f3 false true false false):=by
 obtain⟨places,hx⟩:=sd os enc;refine returnsInHanded_of_row (C:=Tryz.checked) (s:=OpenSpec.ofChange Rows.topVersionsSpec) own started (by kernel_rfl) Tryz.func3
  (witness_row_at (enc:=enc) (C:=Tryz.checked) false (kr os) #[.slice none 0 0] rfl (by kernel_rfl) (by kernel_rfl) (by kernel_rfl)
   (OpenSpec.preRow_of_cond 8 hx (by kernel_rfl) (fun k hk=>by cases hk) (by kernel_rfl) (Af os _))) ?_
 intro W base args ds gs before hval hW _ _ hZ hL hS _;exact mf H enc W base args ds gs before hval hW hZ hL hS
theorem Oz:(Rows.topVersionsRow.inPlace == Tryz.prog.inPlace 3)=true:=by kernel_rfl
theorem OA:(Rows.topVersionsRow.unfollowed == Tryz.prog.unfollowed 3)=true:=by kernel_rfl
theorem OH:(Rows.topVersionsRow.recurses == Tryz.prog.recurses 3)=true:=by kernel_rfl
theorem OF:(Rows.topVersionsRow.named == Tryz.prog.varsNamed 3)=true:=by kernel_rfl
theorem Oy:(Rows.topVersionsRow.plainKeys == Tryz.prog.plainKeys)=true:=by kernel_rfl
theorem OC:(Rows.topVersionsRow.lifted == Tryz.prog.liftsFinal)=true:=by kernel_rfl
theorem Ox:joinedFacts Tryz.prog 3 Tryz.f3 (OpenSpec.ofChange Rows.topVersionsSpec).bare Rows.topVersionsRow=true:=
 Oq (Oq (Oq (Oq (Oq (Oq (Oq (Oq (Oq (Oq (Oq (Oq (Oq (Oq (Oq (Oq (Oq (Oq (Oq (Oq (Oq (Oq (Oq (Oq (Oq (Oq (Oq (Oq (Oq (Oq (Oq (by kernel_rfl) Ov) Ow) (by kernel_rfl)) (by kernel_rfl)) (by kernel_rfl)) (by kernel_rfl)) (by kernel_rfl)) (by kernel_rfl)) Oz) OA) OH) OF) (by kernel_rfl)) (by kernel_rfl)) (by kernel_rfl)) (by kernel_rfl)) (by kernel_rfl)) (by kernel_rfl)) (by kernel_rfl)) (by kernel_rfl)) (by kernel_rfl)) Oy) (by kernel_rfl)) Ot) Ou) OC) (by kernel_rfl)) (by kernel_rfl)) (by kernel_rfl)) (by kernel_rfl)) (by kernel_rfl)
theorem iZ:Rows.TopVersionsSaid:=
 OpenClaim.holds_of_cond 3 Tryz.f3 rfl rfl rfl rfl rfl rfl rfl ⟨rfl,rfl,rfl,rfl,rfl⟩ rfl rfl rfl rfl rfl (by kernel_rfl) Tryz.func3 Ox
  (of_decide_eq_true (by kernel_rfl)) (by unfold Func.isWrapper;first | (rw[if_pos (by decide +kernel)];kernel_rfl) | (rw[if_neg (by decide +kernel)];exact⟨rfl,rfl⟩))
  (fun os started H enc _ F=>by rw[OpenClaim.pre_eq_preRow];exact xX os started H enc F)
theorem nD(f:FuncId)(fn:Func)(hf:Tryz.pinned.checked.prog.funcNamed "stairwell/stairwelltop.TopVersions"=some f)(hfn:Tryz.pinned.checked.prog.funcs[f]?=some fn):true=Tryz.pinned.checked.prog.looks []/\∀ (j:Nat) t,fn.params[j]?=some t->Tryz.pinned.checked.prog.wantsStandIn t=false:=by
 obtain rfl:f=3:=Option.some.inj ((show Tryz.prog.funcNamed "stairwell/stairwelltop.TopVersions"=some 3 by kernel_rfl).symm.trans hf) |>.symm
 obtain rfl:fn=Tryz.f3:=(Option.some.inj (Tryz.func3.symm.trans hfn)).symm;refine⟨by kernel_rfl,fun j t ht=>?_⟩;rw[Tryz.params3]at ht;have hm:=Array.mem_of_getElem? ht;simp only[Array.mem_def,List.mem_cons,List.not_mem_nil,or_false]at hm;subst hm;exact(show Tryz.prog.wantsStandIn 22=false by kernel_rfl)
theorem card:Rows.TopVersionsCardSaid:=
 Claim7.holds_tied_plain_at .later [] _ _ _ _ iZ (fun _ h=>by cases h) (by kernel_rfl) (fun _ h=>by cases h) topVersions_row_tie rfl ⟨rfl,rfl⟩ (by kernel_rfl) rfl nD (by kernel_rfl)
end Go.Proofs.YtfpcghnhjlnnoaaGreatDoor.topVersions
