/- Whatever it is handed, TopOthers answers true and leaves all as it was. Its conditions: a text or a list takes at most 2^47 - 4096 bytes; the listed package-level variables hold what the program's text lays (the card ties them, over a pruned copy of the project). -/
import Derived.Test.YtfpcghnhjlnnoaaGreatDoorG21
set_option maxRecDepth 100000
set_option maxHeartbeats 40000000
set_option linter.unusedSimpArgs false
set_option linter.unusedVariables false
namespace Go.Proofs.YtfpcghnhjlnnoaaGreatDoor
open Go.RowKit
open _root_.Go.Proofs.Tryz
variable {w wr:World}
variable {v:Value}
variable {k:Nat}
theorem gY(h:∃ n,wr=w.drewN n){a}(hc:w.cell? a=some v):wr.cell? a=some v:=by
 obtain⟨n,rfl⟩:=h;exact hc
theorem DF(h:∃ n,wr=w.drewN n):∃ n,wr.drew=w.drewN n:=by
 obtain⟨n,rfl⟩:=h;exact⟨n+1,rfl⟩
theorem vD(h:∃ n,wr=w.drewN n)(m):∃ n,wr.drewN m=w.drewN n:=by
 obtain⟨n,rfl⟩:=h;exact⟨n+m,by simp[World.drewN,Nat.add_assoc]⟩
theorem pE(h:∃ n,wr=w.drewN n):La w wr:=by
 obtain⟨n,rfl⟩:=h;exact aC _ _
theorem zg{α:Type}{xs ys:List α}(h:xs.take k=ys.take k)(hx:k < xs.length)(hy:k < ys.length)(he:xs[k]=ys[k]):xs.take (k+1)=ys.take (k+1):=by
 rw[List.take_succ_eq_append_getElem hx,List.take_succ_eq_append_getElem hy,h,he]
theorem topTexts_at(w:LC)(ok ok' xs ys v u)(h:ao w ok xs v)(h':ao w ok' ys u):Calls prog 25 #[v,u] w fun e w'=>e=.returned (.bool (decide (xs=ys)))/\∃ n,w'=w.drewN n:=by
 have H:=aa h;have H':=aa h';obtain⟨a,c,rfl⟩:=h.form;obtain⟨a',c',rfl⟩:=h'.form;have ll:=h.1;have ll':=h'.1;unfold maxLen at ll ll';clear h h';by_cases hl:xs.length=ys.length
 ·have q0:((xs.length:Int) != (ys.length:Int))=false:=by simp[hl]
  have q00:((xs.length:Int) == (ys.length:Int))=true:=by simp[hl]
  have HLN:=aa hl;rw[<-hl];clear hl;go_enter func25,ntmps25;go_wp2
  go_loopg [13] xs.length (fun gk i wr=>∃ k:Nat,k<=xs.length/\gk=xs.length - k/\i=.int .i64 k/\Ll (xs.take k=ys.take k)/\Ll (∃ n,wr=w.drewN n))
  case atStart=>exact⟨0,Nat.zero_le _,rfl,rfl,rfl,aa ⟨0,rfl⟩⟩
  case round=>
   obtain⟨k,hk,hgk,rfl,AL,BL⟩:=hrel;have GK:=aa hgk;clear hgk;by_cases hlt:k < xs.length
   ·have hlt':k < ys.length:=HLN.o ▸ hlt;obtain⟨b,off,rfl,hc1,hc2,hcell0⟩:=gQ H.o hlt;obtain⟨b',off',rfl,hc1',hc2',hcell0'⟩:=gQ H'.o hlt';unfold maxLen at hc2 hc2';have w2:(k:Int) < (xs.length:Int):=by omega
    have w3:(0:Int)<=(k:Int):=by omega
    have TK:Ll (xs[k]=ys[k]->xs.take (k+1)=ys.take (k+1)):=aa (zg AL.o hlt hlt');have NE:Ll (xs[k]≠ys[k]->decide (xs=ys)=false):=aa (fun h9=>decide_eq_false (fun e=>h9 (by subst e;rfl)));have d0:=gY BL.o hcell0;have d1:=gY BL.o hcell0';have BD:Ll (∃ n,wr.drew=w.drewN n):=aa (DF BL.o);clear hcell0 hcell0';by_cases he:xs[k]=ys[k]
    ·have TK2:=aa (TK.o he);rw[<-he]at d1;clear he;go_wp2
     go_region
     go_wp2
     go_roundg (xs.length - (k+1))
     case measure=>rw[GK.o];omega
     case rel=>exact⟨k+1,hlt,rfl,by go_num,TK2,BD⟩
    ·have R:=aa (NE.o he);have e9:(xs[k] == ys[k])=false:=by rw[MO];exact he
     obtain⟨x,hx⟩:∃ x,xs[k]=x:=⟨_,rfl⟩
     obtain⟨y,hy⟩:∃ y,ys[k]=y:=⟨_,rfl⟩
     rw[hx]at d0 he e9;rw[hy]at d1 he e9;clear hx hy TK NE;go_wp2
     go_region
     go_wp2
     go_ret;exact⟨by rw[R.o];rfl,BD.o⟩
   ·have d9:¬(k:Int) < (xs.length:Int):=by omega
    have R:Ll (decide (xs=ys)=true):=aa (decide_eq_true (by
     have:=AL.o;rwa [MD (by omega),MD (by have:=HLN.o;omega)]at this))
    go_wp2
    go_ret;exact⟨by rw[R.o];rfl,BL.o⟩
 ·have q0:((xs.length:Int) != (ys.length:Int))=true:=by simp;omega
  have q00:((xs.length:Int) == (ys.length:Int))=false:=by rw[MO];omega
  have R:Ll (decide (xs=ys)=false):=aa (decide_eq_false (fun e=>hl (by rw[e])));go_enter func25,ntmps25;go_wp2
  go_ret;exact⟨by rw[R.o];rfl,0,rfl⟩
theorem ub(w ok ok' xs v u)(h:aB w ok xs v)(h':aB w ok' xs u):Calls prog 13 #[v,u] w fun e w'=>e=.returned (.bool true)/\∃ n,w'=w.drewN n:=by
 have H:=aa h;have H':=aa h';obtain⟨a,c,rfl⟩:=h.form;obtain⟨a',c',rfl⟩:=h'.form;have ll:=h.1;unfold maxLen at ll;clear h h';go_enter func13,ntmps13;go_wp2
 go_loopg [13] xs.length (fun gk i wr=>∃ k:Nat,k<=xs.length/\gk=xs.length - k/\i=.int .i64 k/\Ll (∃ n,wr=w.drewN n))
 case atStart=>exact⟨0,Nat.zero_le _,rfl,rfl,aa ⟨0,rfl⟩⟩
 case round=>
  obtain⟨k,hk,hgk,rfl,BL⟩:=hrel;have GK:=aa hgk;clear hgk;by_cases hlt:k < xs.length
  ·obtain⟨b1,o1,pa,pc,rfl,j1,j2,k1,k2,k3,-⟩:=H.o.at hlt;obtain⟨b2,o2,qa,qc,rfl,i1,i2,l1,l2,l3,-⟩:=H'.o.at hlt;have w2:(k:Int) < (xs.length:Int):=by omega
   have w3:(0:Int)<=(k:Int):=by omega
   have d0:=gY BL.o k1;have d1:=gY BL.o k2;have d2:=gY BL.o l1;have d3:=gY BL.o l2;have TX:Ll (∀ W,(∃ n,W=wr.drewN n)->Calls prog 25 #[.slice pa xs[k].paths.length pc,.slice qa xs[k].paths.length qc] W fun e w'=>e=.returned (.bool true)/\∃ n,w'=wr.drewN n):=aa (fun W hW=>by
    have b9:=ab (pE BL.o) (pE hW);refine(topTexts_at W ok ok' _ _ _ _ (k3.bel b9) (l3.bel b9)).mono ?_;rintro e w' ⟨rfl,n,rfl⟩;exact⟨by rw[decide_eq_true rfl],vD hW n⟩)
   clear k1 k2 k3 l1 l2 l3;obtain⟨x,hx⟩:∃ x,xs[k]=x:=⟨_,rfl⟩
   rw[hx]at d0 d1 d2 d3 TX;clear hx;have e8:(x.name == x.name)=true:=by simp
   go_upto_region 6 with fail
   go_quiet ((go_at_call 25;exact TX.o _ ⟨_,rfl⟩))
   have B6:=aa (vD BL.o nq);go_wp2
   go_roundg (xs.length - (k+1))
   case measure=>rw[GK.o];omega
   case rel=>exact⟨k+1,hlt,rfl,by go_num,B6⟩
  ·have d9:¬(k:Int) < (xs.length:Int):=by omega
   go_wp2
   go_ret;exact⟨rfl,BL.o⟩
theorem tP(w:LC)(ok ok' t a b c d oa oc a' b' c' d' oa' oc')(h:cQ w ok t a b c d oa oc)(h':cQ w ok' t a' b' c' d' oa' oc')(hn:dz t.value):Calls prog 17 #[.agg (Ld t a c b d oa oc),.agg (Ld t a' c' b' d' oa' oc')] w fun e w'=>e=.returned (.bool true)/\La w w':=by
 obtain⟨W2,hW2⟩:∃ W,W=(w.alloc (.cells (Ld t a c b d oa oc) 41)).alloc (.cells (Ld t a' c' b' d' oa' oc') 41):=⟨_,rfl⟩
 have Y2:Ll (La w W2):=aa (by rw[hW2];exact ab (ae _ _) (ae _ _));have X1:fN W2 w.heap.size t a b c d oa oc:=by rw[hW2];exact fb _ _ _
 have X2:fN W2 (w.heap.size+1) t a' b' c' d' oa' oc':=by rw[hW2];exact et _ _ _
 have HX1:=aa X1;have HX2:=aa X2;have HW2:=aa hW2;have SM:=aa (same_run W2 ok ok' t.value t.value _ _ (h.val.bel Y2.o) (h'.val.bel Y2.o) (MH (gE hn) (by omega)));have SO:Ll (∀ W,La W2 W->Calls prog 13 #[.slice oa t.owners.length oc,.slice oa' t.owners.length oc'] W fun e w'=>e=.returned (.bool true)/\La W w'):=aa (fun W hW=>(ub W ok ok' _ _ _ (h.own.bel (ab Y2.o hW)) (h'.own.bel (ab Y2.o hW))).mono fun e w' hh=>⟨hh.1,pE hh.2⟩);have x0_:=X1.c;have y0_:=X2.c;clear hW2 h h' hn X1 X2;go_enter func17,ntmps17;go_upto_region 1 with fail
 rw[<-HW2.o];go_wp2_with (first
  |(go_at_call 12;refine SM.o.mono ?_;rintro e w5 ⟨r5,rfl,h5,hb5⟩;obtain rfl:r5=true:=h5.2 rfl;have B5:=aa hb5;clear h5 hb5;have x0_:=(HX1.o.bel B5.o).c;have y0_:=(HX2.o.bel B5.o).c)
  |(go_at_call 13;refine Lk (SO.o _ B5.o) fun w6 hb6=>?_;have B6:=aa (ab Y2.o (ab B5.o hb6));clear hb6))
 go_ret;exact⟨rfl,B6.o⟩
variable {w':World}
variable {B S:Nat}
theorem srv_nice{s:Nu}(h:dP s):∀ t∈s.ths,dz t.value:=fun t ht=>dQ (lq (h.ths t ht).rd)
def Ng (l:List Th) (n:Lz):Th:=(l.find? fun t=>t.name == n).getD dT
theorem MW{l n}(h:dR l n=true):Ng l n∈l/\(Ng l n).name=n:=by
 unfold dR at h;unfold Ng;cases e:l.find? fun t=>t.name == n with
 | none=>rw[List.find?_eq_none]at e;rw[List.any_eq_true]at h;obtain⟨x,h1,h2⟩:=h;exact absurd h2 (e x h1)
 | some t=>exact⟨List.mem_of_find?_eq_some e,by simpa using List.find?_some e⟩
theorem M6{l n}(h:∀ x∈l,x.name≠n):Ng l n=dT/\dR l n=false:=by
 unfold Ng dR;rw[List.find?_eq_none.2 (by intro x hx;simpa using h x hx)];exact⟨rfl,by rw[List.any_eq_false];intro x hx;simpa using h x hx⟩
theorem Na{l n}(hk:k < l.length)(h:∀ x∈l.take k,x.name≠n)(he:l[k].name=n):Ng l n=l[k]/\dR l n=true:=by
 unfold Ng dR;have e:l=l.take k++l[k] :: l.drop (k+1):=by rw[<-ME hk,List.take_append_drop]
 have e2:l.find? (fun t=>t.name == n)=some l[k]:=by
  have e3:∀ x,l[k]=x->(l.take k++x :: l.drop (k+1)).find? (fun t=>t.name == n)=some x:=fun x hx=>by
   rw[List.find?_append,List.find?_eq_none.2 (by intro x hx;simpa using h x hx),List.find?_cons_of_pos (by rw[<-hx];simpa using he)];rfl
  have e4:=e3 _ rfl;rwa [<-e]at e4
 exact⟨by rw[e2];rfl,by rw[List.any_eq_true];exact⟨l[k],List.getElem_mem hk,by simpa using he⟩⟩
theorem MP:∀ {l:List Th},bD (l.map Th.name)->∀ {x y:Th},x∈l->y∈l->x.name=y.name->x=y
 | [],_,_,_,h,_,_=>by cases h
 | z :: l,hr,x,y,hx,hy,e=>by
  have h0:∀ y∈l,Op.bytesLess z.name y.name=true:=fun y hy=>(List.pairwise_cons.1 hr).1 y.name (List.mem_map.2 ⟨y,hy,rfl⟩);rcases List.mem_cons.1 hx with h1 | h1 <;> rcases List.mem_cons.1 hy with h2 | h2
  ·rw[h1,h2]
  ·have:=h0 y h2;rw[<-h1,e,cd]at this;cases this
  ·have:=h0 x h1;rw[<-h2,<-e,cd]at this;cases this
  ·exact MP (List.pairwise_cons.1 hr).2 h1 h2 e
theorem Nd{l o}(h:o∈l):dR l o.name=true:=by
 unfold dR;rw[List.any_eq_true];exact⟨o,h,by simp⟩
theorem Nt{l o}(hr:bD (l.map Th.name))(h:o∈l):Ng l o.name=o:=by
 obtain⟨m1,m2⟩:=MW (Nd h);exact MP hr m1 h m2
theorem Nj(time ver t)(a:cm):(al time ver t a).1.name=t.name:=by
 unfold al;split
 ·rfl
 ·split <;> rfl
theorem Nc(l:List cm):∀ k,dP (oQ l k)
 | 0=>by unfold oQ J4;simpa using AW
 | k+1=>by
  by_cases h:k < l.length
  ·rw[uD (Mw h)];exact Ib (Nc l k)
  ·have e:oQ l (k+1)=oQ l k:=by unfold oQ;rw[MD (by omega),MD (by omega)]
   rw[e];exact Nc l k
def M8 (w:LC) (ok:Nat->Prop) (l:List Th) (n:Lz) (e:Ending) (w':LC):Prop:=∃ (a b:Option Addr) (c d:Nat) (oa:Option Addr) (oc:Nat),e=.returned (.tuple #[.agg #[.string ⟨(Ng l n).name.toArray⟩,.int .i64 (Ng l n).value.kind,.int .i64 (Ng l n).value.n,.string ⟨(Ng l n).value.s.toArray⟩,.slice a (Ng l n).value.keys.length c,.slice b (Ng l n).value.l.length d,.slice oa (Ng l n).owners.length oc,.int .i64 (Ng l n).ver,.int .i64 (Ng l n).gen,.string ⟨(Ng l n).st.a.toArray⟩,.string ⟨(Ng l n).st.c.toArray⟩,.int .i64 (Ng l n).st.ph,.int .i64 (Ng l n).st.st,.int .i64 (Ng l n).st.we,.int .i64 (Ng l n).st.si],.bool (dR l n)])/\La w w'/\cQ w' ok (Ng l n) a b c d oa oc
theorem tfind_at(w ok l v n)(h:cO w ok l v):Calls prog 11 #[v,.string ⟨n.toArray⟩] w fun e w'=>M8 w ok l n e w':=by
 have H:=aa h;obtain⟨va,vc,rfl⟩:=h.form;have ll:=h.1;obtain⟨W1,hW1⟩:∃ W,W=w.alloc (.cells Le 41):=⟨_,rfl⟩
 have Y1:Ll (La w W1):=aa (by rw[hW1];exact ae _ _);have X1:Ll (fN W1 w.heap.size dT none none 0 0 none 0):=aa (by rw[hW1];exact MN _ _);have HW1:=aa hW1;clear h hW1;go_enter func11,ntmps11;go_upto_region 1 with fail
 rw[<-HW1.o];go_upto_region 2 with fail
 go_loopg [10] l.length (fun gk i wr=>∃ k:Nat,k<=l.length/\gk=l.length - k/\i=.int .i64 k/\Ll (La W1 wr)/\Ll (∀ x∈l.take k,x.name≠n))
 case atStart=>exact⟨0,Nat.zero_le _,rfl,rfl,aa (MK _ _),aa (by intro x hx;simp at hx)⟩
 case round=>
  obtain⟨k,hk,hgk,rfl,BL,NO⟩:=hrel;have GK:=aa hgk;clear hgk;have X9:=aa (X1.o.bel BL.o);by_cases hlt:k < l.length
  ·obtain⟨g1,o1,rfl,j1,j2,j3,xa,xb,xc,xd,xoa,xoc,hx,kx⟩:=(H.o.low.bel (ab Y1.o BL.o)).at hlt;have KX:=aa kx;have w2:(k:Int) < (l.length:Int):=by omega
   have w3:(0:Int)<=(k:Int):=by omega
   have AT:=aa (Na hlt NO.o);have NX:Ll (l[k].name≠n->∀ x∈l.take (k+1),x.name≠n):=aa (by
    intro h9 x hx;rw[List.take_succ_eq_append_getElem hlt,List.mem_append]at hx;rcases hx with hx | hx
    ·exact NO.o x hx
    ·rw[List.mem_singleton.1 hx];exact h9)
   obtain⟨t,ht⟩:∃ t,l[k]=t:=⟨_,rfl⟩
   rw[ht]at hx KX AT NX;clear ht kx;obtain⟨x0,x1,x2,x3,x4,x5,x6,x7,x8,x9,x10,x11,x12,x13,x14⟩:=hx;obtain⟨W2,hW2⟩:∃ W,W=wr.alloc (.cells (Ld t xa xc xb xd xoa xoc) 41):=⟨_,rfl⟩
   have A2:Ll (La wr W2):=aa (by rw[hW2];exact ae _ _);have T2:Ll (fN W2 wr.heap.size t xa xb xc xd xoa xoc):=aa (by rw[hW2];exact MN _ _);have HW2:=aa hW2;clear hW2;go_upto_region 4 with fail
   rw[<-HW2.o];obtain⟨x0,x1,x2,x3,x4,x5,x6,x7,x8,x9,x10,x11,x12,x13,x14⟩:=T2.o.c;by_cases he:t.name=n
   ·have e0:(t.name == n)=true:=by simpa using he
    have R:=aa (AT.o he);clear he;have n0_:=(X9.o.bel A2.o).c;obtain⟨m0,m1,m2,m3,m4,m5,m6,m7,m8,m9,m10,m11,m12,m13,m14⟩:=(X9.o.bel A2.o).f;have P9:=aa ((X9.o.bel A2.o).put15 t xa xb xc xd xoa xoc);have G9:=aa (mz (r:=none) (aq (ab (ab Y1.o BL.o) A2.o)) (MG _) t xa xb xc xd xoa xoc);have z0_:=P9.o.c;simp only[jE]at z0_;go_wp2
    refine MM (v:=.tuple #[.agg (Ld t xa xc xb xd xoa xoc),.bool true]) ?_ rfl ?_
    ·simp[results,results11,go_sem,z0_]
    ·refine⟨xa,xb,xc,xd,xoa,xoc,by rw[R.o.1,R.o.2],bS G9.o,?_⟩;rw[R.o.1];exact(KX.o.gr (am (aq A2.o) (g15 _ w.heap.size t xa xb xc xd xoa xoc)) (by intro k9 h9 e9;cases e9;exact absurd h9.2 (Nat.lt_irrefl _))).weak fun k9 h9=>h9.1
   ·have e0:(t.name == n)=false:=by rw[MO];exact he
    have N9:=aa (NX.o he);clear he;go_wp2
    go_roundg (l.length - (k+1))
    case measure=>rw[GK.o];omega
    case rel=>exact⟨k+1,hlt,rfl,by go_num,aa (ab BL.o A2.o),N9⟩
  ·have d9:¬(k:Int) < (l.length:Int):=by omega
   have R:=aa (M6 (fun x hx=>NO.o x (by rw[MD (by omega)];exact hx)));have n0_:=X9.o.c;obtain⟨m0,m1,m2,m3,m4,m5,m6,m7,m8,m9,m10,m11,m12,m13,m14⟩:=X9.o.f;have P9:=aa (X9.o.put15 dT none none 0 0 none 0);have G9:=aa (mz (r:=none) (aq (ab Y1.o BL.o)) (MG _) dT none none 0 0 none 0);have z0_:=P9.o.c;simp only[jE,dT,aM,List.length_nil]at z0_;go_wp2
   refine MM (v:=.tuple #[.agg Le,.bool false]) ?_ rfl ?_
   ·simp[results,results11,go_sem,z0_]
   ·refine⟨none,none,0,0,none,0,by rw[R.o.1,R.o.2];rfl,bS G9.o,?_⟩;rw[R.o.1];exact⟨by simp[dT],fG _ _,⟨by simp[dT],.inl ⟨rfl,_,rfl⟩⟩⟩
variable {i:Nat}
theorem Nq{l:List Th}{t x o:Th}(hi:l[i]?=some t)(ho:o∈l)(hn:o≠t):o∈l.set i x:=by
 obtain⟨j,hj⟩:=List.mem_iff_getElem?.1 ho;refine List.mem_iff_getElem?.2 ⟨j,?_⟩;rw[List.getElem?_set];split
 ·rename_i e;subst e;rw[hi]at hj;exact absurd (Option.some.inj hj).symm hn
 ·exact hj
def Nn (s:Nu) (a:cm) (p:Nu × uf):Prop:=(∀ o∈s.ths,o.name≠a.name->o∈p.1.ths)/\(∀ o∈s.ths,o.name=a.name->dR p.1.ths a.name=true\/a.kind=6/\p.2.code=0)/\p.1.ths.length<=s.ths.length+1
theorem Nb{s:Nu}{a:cm}{p:Nu × uf}(h:p.1.ths=s.ths):Nn s a p:=by
 unfold Nn;rw[h];exact⟨fun o ho _=>ho,fun o ho e=>.inl (by rw[<-e];exact Nd ho),by omega⟩
theorem Nm{s:Nu}{a:cm}(h:dP s)(hk:a.kind≠8):Nn s a (je s a):=by
 unfold je;split
 ·exact Nb rfl
 simp only;split
 ·exact Nb rfl
 try rw[if_neg hk]
 split
 ·exact Nb rfl
 generalize hs:({ s with acts:=s.acts+1 }:Nu)=s';have e1:s'.ths=s.ths:=by rw[<-hs]
 have hr:bD (s'.ths.map Th.name):=by rw[e1];exact h.rise
 by_cases hb:cj s'.ths.length a.kind (dR s'.ths a.name)=0
 ·cases ht:dR s'.ths a.name with
  | false=>
   rw[nQ hb ht];unfold iF;split
   ·exact Nb e1
   ·refine⟨fun o ho _=>?_,fun o ho e=>?_,?_⟩
    ·rw[<-e1,<-List.take_append_drop (ci s'.ths a.name) s'.ths,List.mem_append]at ho;simp only[List.mem_append,List.mem_cons];rcases ho with ho | ho
     ·exact .inl ho
     ·exact .inr (.inr ho)
    ·rw[<-e1]at ho;have:=Nd ho;rw[e,ht]at this;cases this
    ·rw[<-e1];have:=sI s'.ths a.name;simp only[Mx,MC,My,MB];omega
  | true=>
   obtain⟨t,h1,h2⟩:=nR _ _ hr ht;have S:∀ (x:Th) (r:uf) (v:Int),x.name=t.name->Nn s a ({ s' with ths:=s'.ths.set (ci s'.ths a.name) x,ver:=v },r):=by
    intro x r v hx;refine⟨fun o ho hn=>?_,fun o ho e=>.inl ?_,?_⟩
    ·rw[<-e1]at ho;exact Nq h1 ho (by intro e9;exact hn (by rw[e9,h2]))
    ·have h9:=Nd (List.mem_set (Mz.1 h1).1 x);rwa [hx,h2]at h9
    ·rw[<-e1];simp
   rw[fk hb ht h1];split
   ·rename_i h6;refine⟨fun o ho hn=>?_,fun o ho e=>.inr ⟨h6,rfl⟩,?_⟩
    ·rw[<-e1]at ho;obtain⟨j,hj⟩:=List.mem_iff_getElem?.1 ho;refine List.mem_eraseIdx_iff_getElem?.2 ⟨j,?_,hj⟩;intro e9;rw[e9,h1]at hj;exact hn (by rw[<-Option.some.inj hj,h2])
    ·rw[<-e1];exact MH (List.length_eraseIdx_le _ _) (Nat.le_succ _)
   split
   ·unfold iG;split
    ·exact Nb e1
    ·exact S _ _ s'.ver rfl
   split
   ·exact Nb e1
   ·unfold fF;split
    ·exact Nb e1
    split
    ·exact Nb e1
    ·exact S _ _ _ (Nj _ _ _ _)
 ·rw[C8 rfl hb];exact Nb e1
theorem Nk(A)(l:List cm)(S0):Jf A l S0 16 #[] (fun _ _=>True):=by
 refine⟨fun _ _ _ _ _=>trivial,fun _ _ _ _ _ _ _ _ _=>trivial,fun k q W S v was hq hk _ hL _ hT=>?_⟩;have OD:q.kind≠8->Nn (oQ l k) q (je (oQ l k) q):=Nm (Nc l k);have e1:=uD hq;obtain⟨r,hr⟩:∃ r,(je (oQ l k) q).2=r:=⟨_,rfl⟩
 rw[Nn,<-e1]at OD;rw[hr]at OD ⊢;have NC:=aa (srv_nice (Nc l k));have L8:=(Nc l k).len;obtain⟨xs,hxs⟩:∃ xs,(oQ l k).ths=xs:=⟨_,rfl⟩
 rw[hxs]at OD NC hT L8;have HRS:=aa (Nc l (k+1)).rise;obtain⟨s',hs'⟩:∃ s',oQ l (k+1)=s':=⟨_,rfl⟩
 rw[hs']at OD hL HRS ⊢;clear hr hxs hs' e1 hq hk;obtain⟨W1,hW1⟩:∃ W1,W1=(W.alloc (.cells (Lf q) 28)).alloc (.cells #[.int .i64 r.code,.int .i64 r.n,.string ⟨r.body.toArray⟩] 31):=⟨_,rfl⟩
 have Y1:Ll (La W W1):=aa (by rw[hW1];exact ab (ae _ _) (ae _ _));have AB:Ll (jC W1 W.heap.size q):=aa (by rw[hW1];exact fb _ _ _);have RB:Ll (dK W1 (W.heap.size+1) r.code r.n r.body):=aa (by rw[hW1];exact et _ _ _);have HW1:=aa hW1;have L1:=aa (hL.more Y1.o);have T1:=aa (hT.bel Y1.o);have TH1:=aa (fl L1.o);have HOD:=aa OD;obtain⟨va,vc,rfl⟩:=hT.form;clear hW1 hL hT OD;go_enter func16,ntmps16;go_upto_region 1 with fail
 rw[<-HW1.o];have q0_:=AB.o.c;by_cases c8:q.kind=8
 ·have d8:(q.kind == 8)=true:=by simp[c8]
  clear c8;go_wp2
  go_ret;first | exact⟨rfl,L1.o⟩ | exact⟨rfl,L1.o,trivial⟩
 have d8:(q.kind == 8)=false:=by rw[MO];exact c8
 have OT:=aa (HOD.o c8);clear c8 HOD;go_upto_region 4 with (go_at_call 10;refine TH1.o.mono ?_;rintro e w3 ⟨rfl,p1,p2,p3⟩;have N3:=aa p1.ths;have L3:=aa p2;have B3:=aa p3;clear p1 p2 p3)
 obtain⟨nv,hnv⟩:∃ nv:Value,nv=.slice (some ⟨W1.heap.size,0,none⟩) s'.ths.length s'.ths.length:=⟨_,rfl⟩
 rw[<-hnv]at N3;have HNV:=aa hnv;have T3:=aa (T1.o.bel B3.o);have AB3:=aa (AB.o.bel B3.o);have RB3:=aa (RB.o.bel B3.o);clear T1 AB RB TH1 hnv;go_upto_region 5 with fail
 go_loopg [21] xs.length (fun gk i wr=>∃ k:Nat,k<=xs.length/\gk=xs.length - k/\i=.int .i64 k/\Ll (La w3 wr))
 case atStart=>exact⟨0,Nat.zero_le _,rfl,rfl,aa (MK _ _)⟩
 case round=>
  obtain⟨k,hk,hgk,rfl,BL⟩:=hrel;have GK:=aa hgk;clear hgk;by_cases hlt:k < xs.length
  ·obtain⟨g1,o1,rfl,j1,j2,j3,xa,xb,xc,xd,xoa,xoc,hx,kx⟩:=(T3.o.bel BL.o).at hlt;have w2:(k:Int) < (xs.length:Int):=by omega
   have w3:(0:Int)<=(k:Int):=by omega
   have NT:=aa (NC.o xs[k] (List.getElem_mem hlt));have OM:=aa (OT.o.1 xs[k] (List.getElem_mem hlt));have OE:=aa (OT.o.2.1 xs[k] (List.getElem_mem hlt));obtain⟨o,ho⟩:∃ o,xs[k]=o:=⟨_,rfl⟩
   rw[ho]at hx kx NT OM OE;clear ho;have KX:=aa kx;clear kx;obtain⟨x0,x1,x2,x3,x4,x5,x6,x7,x8,x9,x10,x11,x12,x13,x14⟩:=hx;obtain⟨W2,hW2⟩:∃ W,W=wr.alloc (.cells (Ld o xa xc xb xd xoa xoc) 41):=⟨_,rfl⟩
   have A2:Ll (La wr W2):=aa (by rw[hW2];exact ae _ _);have T2:Ll (fN W2 wr.heap.size o xa xb xc xd xoa xoc):=aa (by rw[hW2];exact MN _ _);have HW2:=aa hW2;clear hW2;go_upto_region 7 with fail
   rw[<-HW2.o];obtain⟨x0,x1,x2,x3,x4,x5,x6,x7,x8,x9,x10,x11,x12,x13,x14⟩:=T2.o.c;have FD:=tfind_at W2 _ s'.ths nv o.name (N3.o.bel (ab BL.o A2.o));rw[HNV.o]at FD;have HFD:=aa FD;clear FD;go_upto_region 8 with (go_at_call 11;refine HFD.o.mono ?_;rintro e w5 ⟨a,b,c,d,oa,oc,rfl,p1,p2⟩;have B5:=aa p1;have TK:=aa p2;clear p1 p2)
   by_cases hn:o.name=q.name
   ·have e9:(o.name != q.name)=false:=by simp[hn]
    have e8:(o.name == q.name)=true:=by simp[hn]
    have OE2:=aa (OE.o hn);rw[show dR s'.ths o.name=dR s'.ths q.name by rw[hn]];obtain⟨t,ht⟩:∃ t,Ng s'.ths o.name=t:=⟨_,rfl⟩
    rw[ht];clear ht hn;obtain⟨W5,hW5⟩:∃ W,W=w5.alloc (.cells (Ld t a c b d oa oc) 41):=⟨_,rfl⟩
    have A5:Ll (La w5 W5):=aa (by rw[hW5];exact ae _ _);rw[<-hW5];clear hW5;have B25:=aa (ab B5.o A5.o);obtain⟨x0,x1,x2,x3,x4,x5,x6,x7,x8,x9,x10,x11,x12,x13,x14⟩:=(T2.o.bel B25.o).c;have q0_:=(AB3.o.bel (ab BL.o (ab A2.o B25.o))).c;have y0_:=(RB3.o.bel (ab BL.o (ab A2.o B25.o))).c;cases hth:dR s'.ths q.name with
    | true=>
     clear OE2 hth;go_wp2
     go_roundg (xs.length - (k+1))
     case measure=>rw[GK.o];omega
     case rel=>exact⟨k+1,hlt,rfl,by go_num,aa (ab BL.o (ab A2.o B25.o))⟩
    | false=>
     obtain⟨k6,k0⟩:q.kind=6/\r.code=0:=by
      rcases OE2.o with h9 | h9
      ·rw[hth]at h9;cases h9
      ·exact h9
     have f1:(q.kind != 6)=false:=by simp[k6]
     have f2:(r.code != 0)=false:=by simp[k0]
     have f3:(q.kind == 6)=true:=by simp[k6]
     have f4:(r.code == 0)=true:=by simp[k0]
     clear OE2 hth k6 k0;go_wp2
     go_roundg (xs.length - (k+1))
     case measure=>rw[GK.o];omega
     case rel=>exact⟨k+1,hlt,rfl,by go_num,aa (ab BL.o (ab A2.o B25.o))⟩
   ·have e9:(o.name != q.name)=true:=by simpa using hn
    have e8:(o.name == q.name)=false:=by rw[MO];exact hn
    have hm:=OM.o hn;rw[Nt HRS.o hm]at TK ⊢;rw[Nd hm];clear hm hn;obtain⟨W5,hW5⟩:∃ W,W=w5.alloc (.cells (Ld o a c b d oa oc) 41):=⟨_,rfl⟩
    have A5:Ll (La w5 W5):=aa (by rw[hW5];exact ae _ _);have T5:Ll (fN W5 w5.heap.size o a b c d oa oc):=aa (by rw[hW5];exact MN _ _);rw[<-hW5];clear hW5;have B25:=aa (ab B5.o A5.o);obtain⟨x0,x1,x2,x3,x4,x5,x6,x7,x8,x9,x10,x11,x12,x13,x14⟩:=(T2.o.bel B25.o).c;have z0_:=T5.o.c;have q0_:=(AB3.o.bel (ab BL.o (ab A2.o B25.o))).c;have ST:=aa (tP W5 _ _ o xa xb xc xd xoa xoc a b c d oa oc (KX.o.bel (ab A2.o B25.o)) (TK.o.bel A5.o) NT.o);go_wp2_with (go_at_call 17;refine ST.o.mono ?_;rintro e w6 ⟨rfl,hb⟩;have B6:=aa (ab BL.o (ab A2.o (ab B25.o hb)));clear hb)
    go_roundg (xs.length - (k+1))
    case measure=>rw[GK.o];omega
    case rel=>exact⟨k+1,hlt,rfl,by go_num,B6⟩
  ·have d9:¬(k:Int) < (xs.length:Int):=by omega
   have LT:=OT.o.2.2;have f1:(s'.ths.length:Int)<=(xs.length:Int)+1:=by omega
   have f2:IntKind.i64.wrap ((xs.length:Int)+1)=(xs.length:Int)+1:=by rw[IntKind.wrap_i64];omega
   have L9:=aa (L3.o.more BL.o);clear LT;go_wp2
   go_ret;first | exact⟨rfl,L9.o⟩ | exact⟨rfl,L9.o,trivial⟩ | exact⟨by simp[f1],L9.o⟩
theorem Ni:∀ args w,(callFunc 16 args).run prog w=.ok (.enter 16 args) w:=enters_of func16 (by kernel_rfl) rfl
theorem topOthers_at(w)(l:List cm)(v)(hl:fc w l v)(h1:cn w)(h2:bj w)(h3:di w):Calls prog 5 #[v] w fun e w'=>e=.returned (.bool true)/\La w w':=by
 have PL:=aa (Ip w w l v _ _ _ Ni (MK _ _) hl h1 h2 h3 trivial (Nk w l _));clear hl h1 h2 h3;go_enter func5,ntmps5;go_wp2_with (go_at_call 8;refine PL.o.mono ?_;rintro e w2 ⟨S,v2,rfl,p1,p2,-⟩;have B2:=aa p1.bel;clear p1 p2)
 go_ret;exact⟨rfl,B2.o⟩
end Go.Proofs.YtfpcghnhjlnnoaaGreatDoor
namespace Go.Proofs.YtfpcghnhjlnnoaaGreatDoor.topOthers
open Go.ChangeShapes Go.WideShapes Go.ChangeAt Go.RowKit
open Go.ChangeMaps (open_string shut_string)
theorem mf(H:Type)(enc:TypeId × Value->H)(W:World)(base:Nat)(args:Array Value)(ds gs:List (DataW H))(before:List MemPlace)(hval:∀ (j:Nat) t v,Tryz.f5.params[j]?=some t->args[j]?=some v->Value.okWide Tryz.prog W .any base t v)(hW:DataW.Whole enc Tryz.prog Tryz.f5.params.toList Rows.topOthersSpec.vars false W args.toList ds gs before)(hZ:(DataW.weightsEach Tryz.prog (Tryz.f5.params.toList++(OpenSpec.ofChange Rows.topOthersSpec).bare.plain.varTypes Tryz.prog) (ds++gs)).all (·<=reachBytes)=true)(hL:laidMet Tryz.prog lS W)(hS:W.ShapedOpen Tryz.prog):Calls Tryz.prog 5 args W fun e W'=>∃ v,e=.returned v/\Rows.topOthersSpec.post enc Tryz.prog Tryz.f5 false true false false W args v W':=by
 have hW':=hW;obtain⟨p,q,hA0,hV,rfl,hfz,hnd⟩:=hW;have hA:DataW.TrodAll enc Tryz.prog W 0 (fun _=>true) true Tryz.f5.params.toList args.toList ds p:=hA0;rw[Tryz.params5]at hA hval;obtain⟨v0,vs0,d0,ds0,p0,q0,hargs0,rfl,rfl,h0,r0⟩:=trodAll_cons hA;obtain⟨rfl,rfl,rfl⟩:=trodAll_nil r0;have hargs:args=#[v0]:=by
  obtain⟨l⟩:=args;exact congrArg Array.mk hargs0
 subst hargs;obtain⟨rfl,rfl⟩:=trodVars_none hV;have k0:Value.okWide Tryz.prog W .any base 22 v0:=hval 0 _ _ (by simp) (by simp);obtain⟨os0,hv0⟩:=arg_acts k0 h0;clear hA0;simp only[List.append_nil]at hW';have walk:=topOthers_at W os0 v0 hv0 (glob_top hL) (zS hS) (glob_topw hL);refine walk.mono fun e W' ⟨he,hg⟩=>?_;subst he;have ef:Rows.topOthersSpec.fn H ([d0]++[])={ results:=[.lit (.bool true)],args:=[d0] }:=rfl;refine⟨_,rfl,_,_,_,[],(p0++[]),[],hW',?_,?_,?_,hg.frame _,fun h=>by cases h⟩
 ·rw[ef];exact trodAll_mk1 (shut_bool Tryz.underlying4 _)
 ·rw[ef,Tryz.params5];exact trodAll_cons_mk (Below.trod oI pr Al h0 hg (lK h0)) (trodAll_mk0)
 ·rw[ef];rfl
theorem sd(os:Os){H:Type}(enc:TypeId × Value->H):∃ places,DataW.whole enc Tryz.prog ((kr os).forCall (fun _ _=>0) ⟨#[],#[.slice none 0 0],[]⟩).memory Tryz.f5.params.toList Rows.topOthersSpec.vars false #[Value.slice none 0 0].toList 8=some ([.nil],[],places):=
 ⟨[],by kernel_rfl⟩
theorem xX(os:Os)(started:os.Started)(H:Type)(enc:TypeId × Value->H)(F:Stop.Interp):ReturnsInHanded {} Tryz.checked os 5 .any ((OpenSpec.ofChange Rows.topOthersSpec).preRow enc Tryz.prog Tryz.f5 Rows.topOthersRow.domain false Rows.topOthersRow.laid) (((OpenSpec.ofChange Rows.topOthersSpec).at F).post enc Tryz.prog Tryz.f5 false true false false):=by
 obtain⟨places,hx⟩:=sd os enc;refine returnsInHanded_of_row (C:=Tryz.checked) (s:=OpenSpec.ofChange Rows.topOthersSpec) own started (by kernel_rfl) Tryz.func5
  (witness_row_at (enc:=enc) (C:=Tryz.checked) false (kr os) #[.slice none 0 0] rfl (by kernel_rfl) (by kernel_rfl) (by kernel_rfl)
   (OpenSpec.preRow_of_cond 8 hx (by kernel_rfl) (fun k hk=>by cases hk) (by kernel_rfl) (Af os _))) ?_
 intro W base args ds gs before hval hW _ _ hZ hL hS _;exact mf H enc W base args ds gs before hval hW hZ hL hS
theorem Oz:(Rows.topOthersRow.inPlace == Tryz.prog.inPlace 5)=true:=by kernel_rfl
theorem OA:(Rows.topOthersRow.unfollowed == Tryz.prog.unfollowed 5)=true:=by kernel_rfl
theorem OH:(Rows.topOthersRow.recurses == Tryz.prog.recurses 5)=true:=by kernel_rfl
theorem OF:(Rows.topOthersRow.named == Tryz.prog.varsNamed 5)=true:=by kernel_rfl
theorem Oy:(Rows.topOthersRow.plainKeys == Tryz.prog.plainKeys)=true:=by kernel_rfl
theorem OC:(Rows.topOthersRow.lifted == Tryz.prog.liftsFinal)=true:=by kernel_rfl
theorem Ox:joinedFacts Tryz.prog 5 Tryz.f5 (OpenSpec.ofChange Rows.topOthersSpec).bare Rows.topOthersRow=true:=
 Oq (Oq (Oq (Oq (Oq (Oq (Oq (Oq (Oq (Oq (Oq (Oq (Oq (Oq (Oq (Oq (Oq (Oq (Oq (Oq (Oq (Oq (Oq (Oq (Oq (Oq (Oq (Oq (Oq (Oq (Oq (by kernel_rfl) Ov) Ow) (by kernel_rfl)) (by kernel_rfl)) (by kernel_rfl)) (by kernel_rfl)) (by kernel_rfl)) (by kernel_rfl)) Oz) OA) OH) OF) (by kernel_rfl)) (by kernel_rfl)) (by kernel_rfl)) (by kernel_rfl)) (by kernel_rfl)) (by kernel_rfl)) (by kernel_rfl)) (by kernel_rfl)) (by kernel_rfl)) Oy) (by kernel_rfl)) Ot) Ou) OC) (by kernel_rfl)) (by kernel_rfl)) (by kernel_rfl)) (by kernel_rfl)) (by kernel_rfl)
theorem iZ:Rows.TopOthersSaid:=
 OpenClaim.holds_of_cond 5 Tryz.f5 rfl rfl rfl rfl rfl rfl rfl ⟨rfl,rfl,rfl,rfl,rfl⟩ rfl rfl rfl rfl rfl (by kernel_rfl) Tryz.func5 Ox
  (of_decide_eq_true (by kernel_rfl)) (by unfold Func.isWrapper;first | (rw[if_pos (by decide +kernel)];kernel_rfl) | (rw[if_neg (by decide +kernel)];exact⟨rfl,rfl⟩))
  (fun os started H enc _ F=>by rw[OpenClaim.pre_eq_preRow];exact xX os started H enc F)
theorem nD(f:FuncId)(fn:Func)(hf:Tryz.pinned.checked.prog.funcNamed "stairwell/stairwelltop.TopOthers"=some f)(hfn:Tryz.pinned.checked.prog.funcs[f]?=some fn):true=Tryz.pinned.checked.prog.looks []/\∀ (j:Nat) t,fn.params[j]?=some t->Tryz.pinned.checked.prog.wantsStandIn t=false:=by
 obtain rfl:f=5:=Option.some.inj ((show Tryz.prog.funcNamed "stairwell/stairwelltop.TopOthers"=some 5 by kernel_rfl).symm.trans hf) |>.symm
 obtain rfl:fn=Tryz.f5:=(Option.some.inj (Tryz.func5.symm.trans hfn)).symm;refine⟨by kernel_rfl,fun j t ht=>?_⟩;rw[Tryz.params5]at ht;have hm:=Array.mem_of_getElem? ht;simp only[Array.mem_def,List.mem_cons,List.not_mem_nil,or_false]at hm;subst hm;exact(show Tryz.prog.wantsStandIn 22=false by kernel_rfl)
theorem card:Rows.TopOthersCardSaid:=
 Claim7.holds_tied_plain_at .later [] _ _ _ _ iZ (fun _ h=>by cases h) (by kernel_rfl) (fun _ h=>by cases h) topOthers_row_tie rfl ⟨rfl,rfl⟩ (by kernel_rfl) rfl nD (by kernel_rfl)
end Go.Proofs.YtfpcghnhjlnnoaaGreatDoor.topOthers
