/- Whatever it is handed, TopOld answers true and leaves all as it was. Its conditions: a text or a list takes at most 2^47 - 4096 bytes; the listed package-level variables hold what the program's text lays (the card ties them, over a pruned copy of the project). -/
import Derived.Test.YtfpcghnhjlnnoaaGreatDoorG21
set_option maxRecDepth 100000
set_option maxHeartbeats 40000000
set_option linter.unusedSimpArgs false
set_option linter.unusedVariables false
namespace Go.Proofs.YtfpcghnhjlnnoaaGreatDoor
open Go.RowKit
open _root_.Go.Proofs.Tryz
variable {w wr:World}
variable {v:Value}
variable {k:Nat}
theorem gY(h:∃ n,wr=w.drewN n){a}(hc:w.cell? a=some v):wr.cell? a=some v:=by
 obtain⟨n,rfl⟩:=h;exact hc
theorem DF(h:∃ n,wr=w.drewN n):∃ n,wr.drew=w.drewN n:=by
 obtain⟨n,rfl⟩:=h;exact⟨n+1,rfl⟩
theorem vD(h:∃ n,wr=w.drewN n)(m):∃ n,wr.drewN m=w.drewN n:=by
 obtain⟨n,rfl⟩:=h;exact⟨n+m,by simp[World.drewN,Nat.add_assoc]⟩
theorem pE(h:∃ n,wr=w.drewN n):La w wr:=by
 obtain⟨n,rfl⟩:=h;exact aC _ _
theorem zg{α:Type}{xs ys:List α}(h:xs.take k=ys.take k)(hx:k < xs.length)(hy:k < ys.length)(he:xs[k]=ys[k]):xs.take (k+1)=ys.take (k+1):=by
 rw[List.take_succ_eq_append_getElem hx,List.take_succ_eq_append_getElem hy,h,he]
theorem topTexts_at(w:LC)(ok ok' xs ys v u)(h:ao w ok xs v)(h':ao w ok' ys u):Calls prog 25 #[v,u] w fun e w'=>e=.returned (.bool (decide (xs=ys)))/\∃ n,w'=w.drewN n:=by
 have H:=aa h;have H':=aa h';obtain⟨a,c,rfl⟩:=h.form;obtain⟨a',c',rfl⟩:=h'.form;have ll:=h.1;have ll':=h'.1;unfold maxLen at ll ll';clear h h';by_cases hl:xs.length=ys.length
 ·have q0:((xs.length:Int) != (ys.length:Int))=false:=by simp[hl]
  have q00:((xs.length:Int) == (ys.length:Int))=true:=by simp[hl]
  have HLN:=aa hl;rw[<-hl];clear hl;go_enter func25,ntmps25;go_wp2
  go_loopg [13] xs.length (fun gk i wr=>∃ k:Nat,k<=xs.length/\gk=xs.length - k/\i=.int .i64 k/\Ll (xs.take k=ys.take k)/\Ll (∃ n,wr=w.drewN n))
  case atStart=>exact⟨0,Nat.zero_le _,rfl,rfl,rfl,aa ⟨0,rfl⟩⟩
  case round=>
   obtain⟨k,hk,hgk,rfl,AL,BL⟩:=hrel;have GK:=aa hgk;clear hgk;by_cases hlt:k < xs.length
   ·have hlt':k < ys.length:=HLN.o ▸ hlt;obtain⟨b,off,rfl,hc1,hc2,hcell0⟩:=gQ H.o hlt;obtain⟨b',off',rfl,hc1',hc2',hcell0'⟩:=gQ H'.o hlt';unfold maxLen at hc2 hc2';have w2:(k:Int) < (xs.length:Int):=by omega
    have w3:(0:Int)<=(k:Int):=by omega
    have TK:Ll (xs[k]=ys[k]->xs.take (k+1)=ys.take (k+1)):=aa (zg AL.o hlt hlt');have NE:Ll (xs[k]≠ys[k]->decide (xs=ys)=false):=aa (fun h9=>decide_eq_false (fun e=>h9 (by subst e;rfl)));have d0:=gY BL.o hcell0;have d1:=gY BL.o hcell0';have BD:Ll (∃ n,wr.drew=w.drewN n):=aa (DF BL.o);clear hcell0 hcell0';by_cases he:xs[k]=ys[k]
    ·have TK2:=aa (TK.o he);rw[<-he]at d1;clear he;go_wp2
     go_region
     go_wp2
     go_roundg (xs.length - (k+1))
     case measure=>rw[GK.o];omega
     case rel=>exact⟨k+1,hlt,rfl,by go_num,TK2,BD⟩
    ·have R:=aa (NE.o he);have e9:(xs[k] == ys[k])=false:=by rw[MO];exact he
     obtain⟨x,hx⟩:∃ x,xs[k]=x:=⟨_,rfl⟩
     obtain⟨y,hy⟩:∃ y,ys[k]=y:=⟨_,rfl⟩
     rw[hx]at d0 he e9;rw[hy]at d1 he e9;clear hx hy TK NE;go_wp2
     go_region
     go_wp2
     go_ret;exact⟨by rw[R.o];rfl,BD.o⟩
   ·have d9:¬(k:Int) < (xs.length:Int):=by omega
    have R:Ll (decide (xs=ys)=true):=aa (decide_eq_true (by
     have:=AL.o;rwa [MD (by omega),MD (by have:=HLN.o;omega)]at this))
    go_wp2
    go_ret;exact⟨by rw[R.o];rfl,BL.o⟩
 ·have q0:((xs.length:Int) != (ys.length:Int))=true:=by simp;omega
  have q00:((xs.length:Int) == (ys.length:Int))=false:=by rw[MO];omega
  have R:Ll (decide (xs=ys)=false):=aa (decide_eq_false (fun e=>hl (by rw[e])));go_enter func25,ntmps25;go_wp2
  go_ret;exact⟨by rw[R.o];rfl,0,rfl⟩
theorem ub(w ok ok' xs v u)(h:aB w ok xs v)(h':aB w ok' xs u):Calls prog 13 #[v,u] w fun e w'=>e=.returned (.bool true)/\∃ n,w'=w.drewN n:=by
 have H:=aa h;have H':=aa h';obtain⟨a,c,rfl⟩:=h.form;obtain⟨a',c',rfl⟩:=h'.form;have ll:=h.1;unfold maxLen at ll;clear h h';go_enter func13,ntmps13;go_wp2
 go_loopg [13] xs.length (fun gk i wr=>∃ k:Nat,k<=xs.length/\gk=xs.length - k/\i=.int .i64 k/\Ll (∃ n,wr=w.drewN n))
 case atStart=>exact⟨0,Nat.zero_le _,rfl,rfl,aa ⟨0,rfl⟩⟩
 case round=>
  obtain⟨k,hk,hgk,rfl,BL⟩:=hrel;have GK:=aa hgk;clear hgk;by_cases hlt:k < xs.length
  ·obtain⟨b1,o1,pa,pc,rfl,j1,j2,k1,k2,k3,-⟩:=H.o.at hlt;obtain⟨b2,o2,qa,qc,rfl,i1,i2,l1,l2,l3,-⟩:=H'.o.at hlt;have w2:(k:Int) < (xs.length:Int):=by omega
   have w3:(0:Int)<=(k:Int):=by omega
   have d0:=gY BL.o k1;have d1:=gY BL.o k2;have d2:=gY BL.o l1;have d3:=gY BL.o l2;have TX:Ll (∀ W,(∃ n,W=wr.drewN n)->Calls prog 25 #[.slice pa xs[k].paths.length pc,.slice qa xs[k].paths.length qc] W fun e w'=>e=.returned (.bool true)/\∃ n,w'=wr.drewN n):=aa (fun W hW=>by
    have b9:=ab (pE BL.o) (pE hW);refine(topTexts_at W ok ok' _ _ _ _ (k3.bel b9) (l3.bel b9)).mono ?_;rintro e w' ⟨rfl,n,rfl⟩;exact⟨by rw[decide_eq_true rfl],vD hW n⟩)
   clear k1 k2 k3 l1 l2 l3;obtain⟨x,hx⟩:∃ x,xs[k]=x:=⟨_,rfl⟩
   rw[hx]at d0 d1 d2 d3 TX;clear hx;have e8:(x.name == x.name)=true:=by simp
   go_upto_region 6 with fail
   go_quiet ((go_at_call 25;exact TX.o _ ⟨_,rfl⟩))
   have B6:=aa (vD BL.o nq);go_wp2
   go_roundg (xs.length - (k+1))
   case measure=>rw[GK.o];omega
   case rel=>exact⟨k+1,hlt,rfl,by go_num,B6⟩
  ·have d9:¬(k:Int) < (xs.length:Int):=by omega
   go_wp2
   go_ret;exact⟨rfl,BL.o⟩
theorem tP(w:LC)(ok ok' t a b c d oa oc a' b' c' d' oa' oc')(h:cQ w ok t a b c d oa oc)(h':cQ w ok' t a' b' c' d' oa' oc')(hn:dz t.value):Calls prog 17 #[.agg (Ld t a c b d oa oc),.agg (Ld t a' c' b' d' oa' oc')] w fun e w'=>e=.returned (.bool true)/\La w w':=by
 obtain⟨W2,hW2⟩:∃ W,W=(w.alloc (.cells (Ld t a c b d oa oc) 41)).alloc (.cells (Ld t a' c' b' d' oa' oc') 41):=⟨_,rfl⟩
 have Y2:Ll (La w W2):=aa (by rw[hW2];exact ab (ae _ _) (ae _ _));have X1:fN W2 w.heap.size t a b c d oa oc:=by rw[hW2];exact fb _ _ _
 have X2:fN W2 (w.heap.size+1) t a' b' c' d' oa' oc':=by rw[hW2];exact et _ _ _
 have HX1:=aa X1;have HX2:=aa X2;have HW2:=aa hW2;have SM:=aa (same_run W2 ok ok' t.value t.value _ _ (h.val.bel Y2.o) (h'.val.bel Y2.o) (MH (gE hn) (by omega)));have SO:Ll (∀ W,La W2 W->Calls prog 13 #[.slice oa t.owners.length oc,.slice oa' t.owners.length oc'] W fun e w'=>e=.returned (.bool true)/\La W w'):=aa (fun W hW=>(ub W ok ok' _ _ _ (h.own.bel (ab Y2.o hW)) (h'.own.bel (ab Y2.o hW))).mono fun e w' hh=>⟨hh.1,pE hh.2⟩);have x0_:=X1.c;have y0_:=X2.c;clear hW2 h h' hn X1 X2;go_enter func17,ntmps17;go_upto_region 1 with fail
 rw[<-HW2.o];go_wp2_with (first
  |(go_at_call 12;refine SM.o.mono ?_;rintro e w5 ⟨r5,rfl,h5,hb5⟩;obtain rfl:r5=true:=h5.2 rfl;have B5:=aa hb5;clear h5 hb5;have x0_:=(HX1.o.bel B5.o).c;have y0_:=(HX2.o.bel B5.o).c)
  |(go_at_call 13;refine Lk (SO.o _ B5.o) fun w6 hb6=>?_;have B6:=aa (ab Y2.o (ab B5.o hb6));clear hb6))
 go_ret;exact⟨rfl,B6.o⟩
theorem sameThings_eq(w:LC)(ok ok' xs v u)(h:cO w ok xs v)(h':cO w ok' xs u)(hn:∀ t∈xs,dz t.value):Calls prog 15 #[v,u] w fun e w'=>e=.returned (.bool true)/\La w w':=by
 have H:=aa h;have H':=aa h';have HN:=aa hn;obtain⟨a,c,rfl⟩:=h.form;obtain⟨a',c',rfl⟩:=h'.form;have ll:=h.1;clear h h' hn;go_enter func15,ntmps15;go_wp2
 go_loopg [13] xs.length (fun gk i wr=>∃ k:Nat,k<=xs.length/\gk=xs.length - k/\i=.int .i64 k/\Ll (La w wr))
 case atStart=>exact⟨0,Nat.zero_le _,rfl,rfl,MK _ _⟩
 case round=>
  obtain⟨k,hk,hgk,rfl,BL⟩:=hrel;have GK:=aa hgk;clear hgk;by_cases hlt:k < xs.length
  ·obtain⟨g1,o1,rfl,j1,j2,j3,xa,xb,xc,xd,xoa,xoc,hx,kx⟩:=(H.o.bel BL.o).at hlt;obtain⟨g2,o2,rfl,i1,i2,i3,ya,yb,yc,yd,yoa,yoc,hy,ky⟩:=(H'.o.bel BL.o).at hlt;have NT:=aa (HN.o xs[k] (List.getElem_mem hlt));have w2:(k:Int) < (xs.length:Int):=by omega
   have w3:(0:Int)<=(k:Int):=by omega
   obtain⟨t,ht⟩:∃ t,xs[k]=t:=⟨_,rfl⟩
   rw[ht]at hx hy kx ky NT;clear ht;obtain⟨x0,x1,x2,x3,x4,x5,x6,x7,x8,x9,x10,x11,x12,x13,x14⟩:=hx;obtain⟨y0,y1,y2,y3,y4,y5,y6,y7,y8,y9,y10,y11,y12,y13,y14⟩:=hy;have BD:Ll (La wr wr.drew):=aa (aC wr 1);have ST:=aa (tP wr.drew _ _ t xa xb xc xd xoa xoc ya yb yc yd yoa yoc (kx.bel BD.o) (ky.bel BD.o) NT.o);clear kx ky;go_upto_region 6 with fail
   go_region_with (go_at_call 17;refine ST.o.mono ?_;rintro e w6 ⟨rfl,hb⟩;have B6:=aa (ab BL.o (ab BD.o hb));clear hb)
   all_goals
    go_wp2
    go_roundg (xs.length - (k+1))
    case measure=>rw[GK.o];omega
    case rel=>exact⟨k+1,hlt,rfl,by go_num,B6⟩
  ·have d9:¬(k:Int) < (xs.length:Int):=by omega
   go_wp2
   go_ret;exact⟨rfl,BL.o⟩
def Ek (s:Nu) (p:Nu × uf):Prop:=p.2.code=0\/p.2.n=0/\p.2.body=[]/\p.1.ths=s.ths/\p.1.time=s.time
theorem dS(s s':Nu)(e)(h1:s'.ths=s.ths)(h2:s'.time=s.time):Ek s (s',bz e):=.inr ⟨rfl,rfl,h1,h2⟩
theorem vK{s s0:Nu}{a:cm}(h1:s.ths=s0.ths)(h2:s.time=s0.time):Ek s0 (dD s a):=by
 unfold dD;simp only;split
 ·exact dS _ _ _ h1 h2
 ·split
  ·split
   ·split
    ·exact dS _ _ _ h1 h2
    ·exact .inl rfl
   ·split
    ·exact .inl rfl
    ·split
     ·split
      ·exact dS _ _ _ h1 h2
      ·exact .inl rfl
     ·split
      ·split
       ·exact dS _ _ _ h1 h2
       ·exact .inl rfl
      ·split
       ·exact dS _ _ _ h1 h2
       ·split
        ·exact dS _ _ _ h1 h2
        ·exact .inl rfl
  ·split
   ·exact dS _ _ _ h1 h2
   ·exact .inl rfl
theorem still_do(s:Nu)(a:cm):Ek s (je s a):=by
 unfold je;split
 ·exact dS _ _ _ rfl rfl
 ·simp only;split
  ·exact dS _ _ _ rfl rfl
  ·split
   ·unfold iz;split
    ·exact dS _ _ _ rfl rfl
    ·exact .inl rfl
   ·split
    ·exact dS _ _ _ rfl rfl
    ·exact vK rfl rfl
theorem yK(s:Nu)(a:cm):(dD s a).1.acts=s.acts:=by
 unfold dD;simp only;split
 ·rfl
 ·split
  ·split
   ·split <;> rfl
   ·split
    ·rfl
    ·split
     ·split <;> rfl
     ·split
      ·rfl
      ·split
       ·rfl
       ·split <;> rfl
  ·split <;> rfl
theorem Hv{s:Nu}{a:cm}(h:s.acts≠300):(je s a).1.acts=s.acts+1:=by
 unfold je;rw[if_neg h];simp only;split
 ·rfl
 ·split
  ·unfold iz;split <;> rfl
  ·split
   ·rfl
   ·exact yK _ _
theorem stK_acts(l:List cm):∀ k,k<=100->k<=l.length->(oQ l k).acts=k
 | 0,_,_=>rfl
 | k+1,h,hk=>by
  have ih:=stK_acts l k (by omega) (by omega);rw[uD (Mw (show k < l.length by omega)),Hv (by rw[ih];omega),ih];rfl
variable {w':World}
variable {B S:Nat}
theorem srv_nice{s:Nu}(h:dP s):∀ t∈s.ths,dz t.value:=fun t ht=>dQ (lq (h.ths t ht).rd)
def Ng (l:List Th) (n:Lz):Th:=(l.find? fun t=>t.name == n).getD dT
theorem MW{l n}(h:dR l n=true):Ng l n∈l/\(Ng l n).name=n:=by
 unfold dR at h;unfold Ng;cases e:l.find? fun t=>t.name == n with
 | none=>rw[List.find?_eq_none]at e;rw[List.any_eq_true]at h;obtain⟨x,h1,h2⟩:=h;exact absurd h2 (e x h1)
 | some t=>exact⟨List.mem_of_find?_eq_some e,by simpa using List.find?_some e⟩
theorem M6{l n}(h:∀ x∈l,x.name≠n):Ng l n=dT/\dR l n=false:=by
 unfold Ng dR;rw[List.find?_eq_none.2 (by intro x hx;simpa using h x hx)];exact⟨rfl,by rw[List.any_eq_false];intro x hx;simpa using h x hx⟩
theorem Na{l n}(hk:k < l.length)(h:∀ x∈l.take k,x.name≠n)(he:l[k].name=n):Ng l n=l[k]/\dR l n=true:=by
 unfold Ng dR;have e:l=l.take k++l[k] :: l.drop (k+1):=by rw[<-ME hk,List.take_append_drop]
 have e2:l.find? (fun t=>t.name == n)=some l[k]:=by
  have e3:∀ x,l[k]=x->(l.take k++x :: l.drop (k+1)).find? (fun t=>t.name == n)=some x:=fun x hx=>by
   rw[List.find?_append,List.find?_eq_none.2 (by intro x hx;simpa using h x hx),List.find?_cons_of_pos (by rw[<-hx];simpa using he)];rfl
  have e4:=e3 _ rfl;rwa [<-e]at e4
 exact⟨by rw[e2];rfl,by rw[List.any_eq_true];exact⟨l[k],List.getElem_mem hk,by simpa using he⟩⟩
theorem MP:∀ {l:List Th},bD (l.map Th.name)->∀ {x y:Th},x∈l->y∈l->x.name=y.name->x=y
 | [],_,_,_,h,_,_=>by cases h
 | z :: l,hr,x,y,hx,hy,e=>by
  have h0:∀ y∈l,Op.bytesLess z.name y.name=true:=fun y hy=>(List.pairwise_cons.1 hr).1 y.name (List.mem_map.2 ⟨y,hy,rfl⟩);rcases List.mem_cons.1 hx with h1 | h1 <;> rcases List.mem_cons.1 hy with h2 | h2
  ·rw[h1,h2]
  ·have:=h0 y h2;rw[<-h1,e,cd]at this;cases this
  ·have:=h0 x h1;rw[<-h2,<-e,cd]at this;cases this
  ·exact MP (List.pairwise_cons.1 hr).2 h1 h2 e
theorem MY{l n t}(hr:bD (l.map Th.name))(h:dR l n=true)(hp:l[ci l n]?=some t):Ng l n=t:=by
 obtain⟨m1,m2⟩:=MW h;obtain⟨t',h1,h2⟩:=nR l n hr h;rw[hp]at h1;cases h1;exact MP hr m1 (List.mem_of_getElem? hp) (m2.trans h2.symm)
theorem Nc(l:List cm):∀ k,dP (oQ l k)
 | 0=>by unfold oQ J4;simpa using AW
 | k+1=>by
  by_cases h:k < l.length
  ·rw[uD (Mw h)];exact Ib (Nc l k)
  ·have e:oQ l (k+1)=oQ l k:=by unfold oQ;rw[MD (by omega),MD (by omega)]
   rw[e];exact Nc l k
theorem Ns{l:List cm}{q:cm}(h:l[k]?=some q)(hk:k < 100):(oQ l k).acts≠300:=by
 rw[stK_acts l k (by omega) (by have:=(Mz.1 h).1;omega)];omega
def M8 (w:LC) (ok:Nat->Prop) (l:List Th) (n:Lz) (e:Ending) (w':LC):Prop:=∃ (a b:Option Addr) (c d:Nat) (oa:Option Addr) (oc:Nat),e=.returned (.tuple #[.agg #[.string ⟨(Ng l n).name.toArray⟩,.int .i64 (Ng l n).value.kind,.int .i64 (Ng l n).value.n,.string ⟨(Ng l n).value.s.toArray⟩,.slice a (Ng l n).value.keys.length c,.slice b (Ng l n).value.l.length d,.slice oa (Ng l n).owners.length oc,.int .i64 (Ng l n).ver,.int .i64 (Ng l n).gen,.string ⟨(Ng l n).st.a.toArray⟩,.string ⟨(Ng l n).st.c.toArray⟩,.int .i64 (Ng l n).st.ph,.int .i64 (Ng l n).st.st,.int .i64 (Ng l n).st.we,.int .i64 (Ng l n).st.si],.bool (dR l n)])/\La w w'/\cQ w' ok (Ng l n) a b c d oa oc
theorem tfind_at(w ok l v n)(h:cO w ok l v):Calls prog 11 #[v,.string ⟨n.toArray⟩] w fun e w'=>M8 w ok l n e w':=by
 have H:=aa h;obtain⟨va,vc,rfl⟩:=h.form;have ll:=h.1;obtain⟨W1,hW1⟩:∃ W,W=w.alloc (.cells Le 41):=⟨_,rfl⟩
 have Y1:Ll (La w W1):=aa (by rw[hW1];exact ae _ _);have X1:Ll (fN W1 w.heap.size dT none none 0 0 none 0):=aa (by rw[hW1];exact MN _ _);have HW1:=aa hW1;clear h hW1;go_enter func11,ntmps11;go_upto_region 1 with fail
 rw[<-HW1.o];go_upto_region 2 with fail
 go_loopg [10] l.length (fun gk i wr=>∃ k:Nat,k<=l.length/\gk=l.length - k/\i=.int .i64 k/\Ll (La W1 wr)/\Ll (∀ x∈l.take k,x.name≠n))
 case atStart=>exact⟨0,Nat.zero_le _,rfl,rfl,aa (MK _ _),aa (by intro x hx;simp at hx)⟩
 case round=>
  obtain⟨k,hk,hgk,rfl,BL,NO⟩:=hrel;have GK:=aa hgk;clear hgk;have X9:=aa (X1.o.bel BL.o);by_cases hlt:k < l.length
  ·obtain⟨g1,o1,rfl,j1,j2,j3,xa,xb,xc,xd,xoa,xoc,hx,kx⟩:=(H.o.low.bel (ab Y1.o BL.o)).at hlt;have KX:=aa kx;have w2:(k:Int) < (l.length:Int):=by omega
   have w3:(0:Int)<=(k:Int):=by omega
   have AT:=aa (Na hlt NO.o);have NX:Ll (l[k].name≠n->∀ x∈l.take (k+1),x.name≠n):=aa (by
    intro h9 x hx;rw[List.take_succ_eq_append_getElem hlt,List.mem_append]at hx;rcases hx with hx | hx
    ·exact NO.o x hx
    ·rw[List.mem_singleton.1 hx];exact h9)
   obtain⟨t,ht⟩:∃ t,l[k]=t:=⟨_,rfl⟩
   rw[ht]at hx KX AT NX;clear ht kx;obtain⟨x0,x1,x2,x3,x4,x5,x6,x7,x8,x9,x10,x11,x12,x13,x14⟩:=hx;obtain⟨W2,hW2⟩:∃ W,W=wr.alloc (.cells (Ld t xa xc xb xd xoa xoc) 41):=⟨_,rfl⟩
   have A2:Ll (La wr W2):=aa (by rw[hW2];exact ae _ _);have T2:Ll (fN W2 wr.heap.size t xa xb xc xd xoa xoc):=aa (by rw[hW2];exact MN _ _);have HW2:=aa hW2;clear hW2;go_upto_region 4 with fail
   rw[<-HW2.o];obtain⟨x0,x1,x2,x3,x4,x5,x6,x7,x8,x9,x10,x11,x12,x13,x14⟩:=T2.o.c;by_cases he:t.name=n
   ·have e0:(t.name == n)=true:=by simpa using he
    have R:=aa (AT.o he);clear he;have n0_:=(X9.o.bel A2.o).c;obtain⟨m0,m1,m2,m3,m4,m5,m6,m7,m8,m9,m10,m11,m12,m13,m14⟩:=(X9.o.bel A2.o).f;have P9:=aa ((X9.o.bel A2.o).put15 t xa xb xc xd xoa xoc);have G9:=aa (mz (r:=none) (aq (ab (ab Y1.o BL.o) A2.o)) (MG _) t xa xb xc xd xoa xoc);have z0_:=P9.o.c;simp only[jE]at z0_;go_wp2
    refine MM (v:=.tuple #[.agg (Ld t xa xc xb xd xoa xoc),.bool true]) ?_ rfl ?_
    ·simp[results,results11,go_sem,z0_]
    ·refine⟨xa,xb,xc,xd,xoa,xoc,by rw[R.o.1,R.o.2],bS G9.o,?_⟩;rw[R.o.1];exact(KX.o.gr (am (aq A2.o) (g15 _ w.heap.size t xa xb xc xd xoa xoc)) (by intro k9 h9 e9;cases e9;exact absurd h9.2 (Nat.lt_irrefl _))).weak fun k9 h9=>h9.1
   ·have e0:(t.name == n)=false:=by rw[MO];exact he
    have N9:=aa (NX.o he);clear he;go_wp2
    go_roundg (l.length - (k+1))
    case measure=>rw[GK.o];omega
    case rel=>exact⟨k+1,hlt,rfl,by go_num,aa (ab BL.o A2.o),N9⟩
  ·have d9:¬(k:Int) < (l.length:Int):=by omega
   have R:=aa (M6 (fun x hx=>NO.o x (by rw[MD (by omega)];exact hx)));have n0_:=X9.o.c;obtain⟨m0,m1,m2,m3,m4,m5,m6,m7,m8,m9,m10,m11,m12,m13,m14⟩:=X9.o.f;have P9:=aa (X9.o.put15 dT none none 0 0 none 0);have G9:=aa (mz (r:=none) (aq (ab Y1.o BL.o)) (MG _) dT none none 0 0 none 0);have z0_:=P9.o.c;simp only[jE,dT,aM,List.length_nil]at z0_;go_wp2
   refine MM (v:=.tuple #[.agg Le,.bool false]) ?_ rfl ?_
   ·simp[results,results11,go_sem,z0_]
   ·refine⟨none,none,0,0,none,0,by rw[R.o.1,R.o.2];rfl,bS G9.o,?_⟩;rw[R.o.1];exact⟨by simp[dT],fG _ _,⟨by simp[dT],.inl ⟨rfl,_,rfl⟩⟩⟩
theorem MR(p):(ax p).2≠7:=by
 unfold ax;split
 ·simp
 ·split <;> simp
theorem MU(p v):(fP (ax p) v).2≠7:=by
 unfold fP;split
 ·exact MR p
 ·split
  ·simp
  ·split <;> simp
theorem Nf(how:V->Lz->Option V)(p v):(aX how (ax p) v).2≠7:=by
 unfold aX;split
 ·exact MR p
 ·split
  ·simp
  ·split
   ·simp
   ·split <;> simp
theorem wh(how:V->V->Lz->Option V)(p v x):(ep how p (ax p) v x).2≠7:=by
 unfold ep;split
 ·simp
 ·split
  ·simp
  ·exact Nf _ _ _
theorem M2(t)(o:jf):(Ce t o).2≠7:=by
 unfold Ce;split
 ·exact wh _ _ _ _
 split
 ·exact Nf _ _ _
 split
 ·exact wh _ _ _ _
 split
 ·unfold eO;split
  ·exact MU _ _
  ·split
   ·simp
   ·split
    ·simp
    ·split
     ·exact Nf _ _ _
     ·split
      ·exact wh _ _ _ _
      ·simp
 split
 ·unfold gS;split
  ·exact MU _ _
  ·exact wh _ _ _ _
 split
 ·simp only[j8];split
  ·exact MU _ _
  ·split <;> simp
 ·simp
theorem MX:∀ (os:List jf) (t:V),(lF Ce os t).2≠7
 | [],_=>by simp[lF]
 | o :: os,t=>by
  unfold lF;split
  ·exact M2 t o
  ·exact MX os _
theorem MV(t)(a:cm):(aJ t a).2.2≠7:=by
 unfold aJ;split
 ·unfold cW;split
  ·simp
  ·split <;> simp
 split
 ·simp only[eC];split
  ·split
   ·simp
   ·split <;> simp
  ·simp
 split
 ·simp only[bW];split
  ·unfold ge;split
   ·simp
   ·split <;> simp
  split
  ·split
   ·simp only[cU];split
    ·simp
    ·split
     ·simp
     ·split <;> simp
   ·unfold qU;split
    ·simp
    ·split
     ·exact MX _ _
     ·simp
  ·simp
 ·simp
theorem Nh(time ver t)(a:cm):(al time ver t a).2.2≠7:=by
 unfold al;split
 ·exact MV t a
 ·split
  ·simp only[cI];split <;> simp
  ·simp
theorem MZ(g x s n o):(ij g x s n o).2≠7:=by
 unfold ij;split
 ·simp
 split
 ·simp
 split
 ·simp
 split <;> simp
def M9 (l:List Th) (a:cm):Bool:=decide (2<=a.kind/\a.kind<=4/\dR l a.name=true/\a.version≠0/\a.version≠(Ng l a.name).ver)
theorem old_do{s:Nu}{a:cm}(h:dP s)(ha:s.acts≠300):((je s a).2.code=7↔M9 s.ths a=true):=by
 unfold M9;rw[decide_eq_true_iff];unfold je;rw[if_neg ha];simp only;split
 ·simp only[bz];omega
 split
 ·rename_i h1;have:∀ s9:Nu,(iz s9 a.n).2.code≠7:=by intro s9;unfold iz;split <;> simp[bz]
  exact⟨fun h9=>absurd h9 (this _),by omega⟩
 split
 ·rename_i hn;constructor
  ·intro h9;simp[bz]at h9
  ·rintro⟨-,-,h1,-,-⟩;obtain⟨m1,m2⟩:=MW h1;have:=(h.ths _ m1).name;rw[m2,hn]at this;cases this
 ·rename_i hk8 hk hn;generalize hs:({ s with acts:=s.acts+1 }:Nu)=s';have e1:s'.ths=s.ths:=by rw[<-hs]
  rw[<-e1];have hr:bD (s'.ths.map Th.name):=by rw[e1];exact h.rise
  by_cases hb:cj s'.ths.length a.kind (dR s'.ths a.name)=0
  ·cases ht:dR s'.ths a.name with
   | false=>
    rw[nQ hb ht];unfold iF;have:=Nh s'.time s'.ver (eT a.name) a;split
    ·simp[bz,this]
    ·simp
   | true=>
    obtain⟨t,h1,h2⟩:=nR _ _ hr ht;rw[fk hb ht h1,MY hr ht h1];have k1:a.kind≠1:=by
     intro e;rw[e,ht]at hb;simp[cj]at hb
    split
    ·rename_i h6;simp[oA];omega
    split
    ·rename_i h7;have h9:=MZ (bE t.value).1 (bE t.value).2 t.st s'.time a.order;unfold iG dA;split
     ·exact⟨fun h8=>absurd h8 h9,by omega⟩
     ·exact⟨fun h8=>by simp at h8,by omega⟩
    split
    ·rename_i h6 h7 h9;have h8:(pj t).code≠7:=by
      have h5:(eP 12 t.value).2≠7:=by
       unfold eP;split
       ·split <;> simp
       ·simp
      unfold pj;split
      ·exact h5
      ·simp
     exact⟨fun h7=>absurd h7 h8,by omega⟩
    ·unfold fF;split
     ·rename_i h5;simp only[bz,true_iff];exact⟨by omega,by omega,trivial,h5.2.1,h5.2.2⟩
     ·rename_i h5;have h9:=Nh s'.time s'.ver t a;have n:¬(2<=a.kind/\a.kind<=4/\True/\a.version≠0/\a.version≠t.ver):=fun h8=>h5 ⟨by omega,h8.2.2.2.1,h8.2.2.2.2⟩;split
      ·simp only[bz];exact⟨fun h8=>absurd h8 h9,fun h8=>absurd (by simpa using h8) n⟩
      ·simp only;exact⟨fun h8=>absurd h8 (by decide),fun h8=>absurd (by simpa using h8) n⟩
  ·rw[C8 rfl hb];simp only[bz];constructor
   ·intro h9;exfalso;unfold cj at h9;simp only at h9;split at h9
    ·cases h9
    ·split at h9
     ·cases h9
     ·split at h9 <;> cases h9
   ·rintro⟨k1,k2,k3,-,-⟩;exfalso;apply hb;unfold cj;simp only[k3];rw[if_neg (by omega),if_neg (by omega),if_neg (by simp)]
theorem Np(A)(l:List cm)(S0):Jf A l S0 14 #[] (fun _ _=>True):=by
 refine⟨fun _ _ _ _ _=>trivial,fun _ _ _ _ _ _ _ _ _=>trivial,fun k q W S v was hq hk _ hL _ hT=>?_⟩;have OD:=old_do (a:=q) (Nc l k) (Ns hq hk);have ST:=still_do (oQ l k) q;have e1:=uD hq;obtain⟨r,hr⟩:∃ r,(je (oQ l k) q).2=r:=⟨_,rfl⟩
 rw[Ek,<-e1]at ST;rw[hr]at OD ST ⊢;have NC:=aa (srv_nice (Nc l k));obtain⟨xs,hxs⟩:∃ xs,(oQ l k).ths=xs:=⟨_,rfl⟩
 rw[hxs]at OD ST NC hT;obtain⟨s',hs'⟩:∃ s',oQ l (k+1)=s':=⟨_,rfl⟩
 rw[hs']at ST hL ⊢;clear hr hxs hs' e1 hq hk;obtain⟨W1,hW1⟩:∃ W1,W1=(W.alloc (.cells (Lf q) 28)).alloc (.cells #[.int .i64 r.code,.int .i64 r.n,.string ⟨r.body.toArray⟩] 31):=⟨_,rfl⟩
 have Y1:Ll (La W W1):=aa (by rw[hW1];exact ab (ae _ _) (ae _ _));have AB:Ll (jC W1 W.heap.size q):=aa (by rw[hW1];exact fb _ _ _);have RB:Ll (dK W1 (W.heap.size+1) r.code r.n r.body):=aa (by rw[hW1];exact et _ _ _);have HW1:=aa hW1;have FD:=aa (tfind_at W1 _ xs was q.name (hT.bel Y1.o));have L1:=aa (hL.more Y1.o);have T1:=aa (hT.bel Y1.o);have HOD:=aa OD;have HST:=aa ST;clear hW1 hL hT OD ST;have q0_:=AB.o.c;go_enter func14,ntmps14;go_upto_region 1 with fail
 rw[<-HW1.o];go_upto_region 2 with (go_at_call 11;refine FD.o.mono ?_;rintro e w2 ⟨a,b,c,d,oa,oc,rfl,p1,-⟩;have B2:=aa p1;clear p1)
 unfold M9 at HOD;obtain⟨th,hth⟩:∃ th,dR xs q.name=th:=⟨_,rfl⟩
 obtain⟨t,ht⟩:∃ t,Ng xs q.name=t:=⟨_,rfl⟩
 rw[hth,ht]at HOD ⊢;clear hth ht;obtain⟨W2,hW2⟩:∃ W,W=w2.alloc (.cells (Ld t a c b d oa oc) 41):=⟨_,rfl⟩
 have A2:Ll (La w2 W2):=aa (by rw[hW2];exact ae _ _);have TB:Ll (fN W2 w2.heap.size t a b c d oa oc):=aa (by rw[hW2];exact MN _ _);rw[<-hW2];clear hW2;have B3:=aa (ab B2.o A2.o);have L3:=aa (L1.o.more B3.o);have T3:=aa (T1.o.bel B3.o);have TH3:=aa (fl L3.o);have q0_:=(AB.o.bel B3.o).c;have y0_:=(RB.o.bel B3.o).c;have z0_:=TB.o.c;by_cases hold:decide (2<=q.kind/\q.kind<=4/\th=true/\q.version≠0/\q.version≠t.ver)=true
 ·have hc:=HOD.o.2 hold;rw[decide_eq_true_iff]at hold;obtain⟨c1,c2,rfl,c4,c5⟩:=hold;have d1:¬q.kind < 2:=by omega
  have d2:¬4 < q.kind:=by omega
  have d4:(q.version == 0)=false:=by rw[MO];exact c4
  have d5:(q.version == t.ver)=false:=by rw[MO];exact c5
  have e7:(r.code == 7)=true:=by simp[hc]
  have hths:s'.ths=xs:=by
   rcases HST.o with h9 | h9
   ·rw[hc]at h9;cases h9
   ·exact h9.2.2.1
  rw[hths]at TH3;clear hths hc c1 c2 c4 c5 HOD HST;go_wp2_with (first
   |(go_at_call 10;refine TH3.o.mono ?_;rintro e w7 ⟨rfl,p1,p2,p3⟩;have L7:=aa p2;have SM:=aa (sameThings_eq w7 _ _ xs _ _ (T3.o.bel p3) p1.ths NC.o);clear p1 p2 p3)
   |(go_at_call 15;refine SM.o.mono ?_;rintro e w8 ⟨rfl,p1⟩;have L8:=aa (L7.o.more p1);clear p1))
  go_ret;exact⟨rfl,L8.o,trivial⟩
 ·have hc:r.code≠7:=fun e=>hold (HOD.o.1 e);rw[decide_eq_true_iff]at hold;have e7:(r.code == 7)=false:=by rw[MO];exact hc
  have e8:(r.code != 7)=true:=by simpa using hc
  have HH:=aa hold;clear hc hold HOD HST;by_cases c1:q.kind < 2
  ·go_wp2
   go_ret;first | exact⟨rfl,L3.o⟩ | exact⟨rfl,L3.o,trivial⟩
  by_cases c2:4 < q.kind
  ·go_wp2
   go_ret;first | exact⟨rfl,L3.o⟩ | exact⟨rfl,L3.o,trivial⟩
  cases th with
  | false=>
   go_wp2
   go_ret;first | exact⟨rfl,L3.o⟩ | exact⟨rfl,L3.o,trivial⟩
  | true=>
   by_cases c4:q.version=0
   ·have d4:(q.version == 0)=true:=by simp[c4]
    clear c4;go_wp2
    go_ret;first | exact⟨rfl,L3.o⟩ | exact⟨rfl,L3.o,trivial⟩
   ·have c5:q.version=t.ver:=Classical.byContradiction fun h9=>HH.o ⟨by omega,by omega,rfl,c4,h9⟩;have d4:(q.version == 0)=false:=by rw[MO];exact c4
    have d5:(q.version == t.ver)=true:=by simp[c5]
    clear c4 c5;go_wp2
    go_ret;first | exact⟨rfl,L3.o⟩ | exact⟨rfl,L3.o,trivial⟩
theorem Nl:∀ args w,(callFunc 14 args).run prog w=.ok (.enter 14 args) w:=enters_of func14 (by kernel_rfl) rfl
theorem topOld_at(w)(l:List cm)(v)(hl:fc w l v)(h1:cn w)(h2:bj w)(h3:di w):Calls prog 4 #[v] w fun e w'=>e=.returned (.bool true)/\La w w':=by
 have PL:=aa (Ip w w l v _ _ _ Nl (MK _ _) hl h1 h2 h3 trivial (Np w l _));clear hl h1 h2 h3;go_enter func4,ntmps4;go_wp2_with (go_at_call 8;refine PL.o.mono ?_;rintro e w2 ⟨S,v2,rfl,p1,p2,-⟩;have B2:=aa p1.bel;clear p1 p2)
 go_ret;exact⟨rfl,B2.o⟩
end Go.Proofs.YtfpcghnhjlnnoaaGreatDoor
namespace Go.Proofs.YtfpcghnhjlnnoaaGreatDoor.topOld
open Go.ChangeShapes Go.WideShapes Go.ChangeAt Go.RowKit
open Go.ChangeMaps (open_string shut_string)
theorem mf(H:Type)(enc:TypeId × Value->H)(W:World)(base:Nat)(args:Array Value)(ds gs:List (DataW H))(before:List MemPlace)(hval:∀ (j:Nat) t v,Tryz.f4.params[j]?=some t->args[j]?=some v->Value.okWide Tryz.prog W .any base t v)(hW:DataW.Whole enc Tryz.prog Tryz.f4.params.toList Rows.topOldSpec.vars false W args.toList ds gs before)(hZ:(DataW.weightsEach Tryz.prog (Tryz.f4.params.toList++(OpenSpec.ofChange Rows.topOldSpec).bare.plain.varTypes Tryz.prog) (ds++gs)).all (·<=reachBytes)=true)(hL:laidMet Tryz.prog lS W)(hS:W.ShapedOpen Tryz.prog):Calls Tryz.prog 4 args W fun e W'=>∃ v,e=.returned v/\Rows.topOldSpec.post enc Tryz.prog Tryz.f4 false true false false W args v W':=by
 have hW':=hW;obtain⟨p,q,hA0,hV,rfl,hfz,hnd⟩:=hW;have hA:DataW.TrodAll enc Tryz.prog W 0 (fun _=>true) true Tryz.f4.params.toList args.toList ds p:=hA0;rw[Tryz.params4]at hA hval;obtain⟨v0,vs0,d0,ds0,p0,q0,hargs0,rfl,rfl,h0,r0⟩:=trodAll_cons hA;obtain⟨rfl,rfl,rfl⟩:=trodAll_nil r0;have hargs:args=#[v0]:=by
  obtain⟨l⟩:=args;exact congrArg Array.mk hargs0
 subst hargs;obtain⟨rfl,rfl⟩:=trodVars_none hV;have k0:Value.okWide Tryz.prog W .any base 22 v0:=hval 0 _ _ (by simp) (by simp);obtain⟨os0,hv0⟩:=arg_acts k0 h0;clear hA0;simp only[List.append_nil]at hW';have walk:=topOld_at W os0 v0 hv0 (glob_top hL) (zS hS) (glob_topw hL);refine walk.mono fun e W' ⟨he,hg⟩=>?_;subst he;have ef:Rows.topOldSpec.fn H ([d0]++[])={ results:=[.lit (.bool true)],args:=[d0] }:=rfl;refine⟨_,rfl,_,_,_,[],(p0++[]),[],hW',?_,?_,?_,hg.frame _,fun h=>by cases h⟩
 ·rw[ef];exact trodAll_mk1 (shut_bool Tryz.underlying4 _)
 ·rw[ef,Tryz.params4];exact trodAll_cons_mk (Below.trod oI pr Al h0 hg (lK h0)) (trodAll_mk0)
 ·rw[ef];rfl
theorem sd(os:Os){H:Type}(enc:TypeId × Value->H):∃ places,DataW.whole enc Tryz.prog ((kr os).forCall (fun _ _=>0) ⟨#[],#[.slice none 0 0],[]⟩).memory Tryz.f4.params.toList Rows.topOldSpec.vars false #[Value.slice none 0 0].toList 8=some ([.nil],[],places):=
 ⟨[],by kernel_rfl⟩
theorem xX(os:Os)(started:os.Started)(H:Type)(enc:TypeId × Value->H)(F:Stop.Interp):ReturnsInHanded {} Tryz.checked os 4 .any ((OpenSpec.ofChange Rows.topOldSpec).preRow enc Tryz.prog Tryz.f4 Rows.topOldRow.domain false Rows.topOldRow.laid) (((OpenSpec.ofChange Rows.topOldSpec).at F).post enc Tryz.prog Tryz.f4 false true false false):=by
 obtain⟨places,hx⟩:=sd os enc;refine returnsInHanded_of_row (C:=Tryz.checked) (s:=OpenSpec.ofChange Rows.topOldSpec) own started (by kernel_rfl) Tryz.func4
  (witness_row_at (enc:=enc) (C:=Tryz.checked) false (kr os) #[.slice none 0 0] rfl (by kernel_rfl) (by kernel_rfl) (by kernel_rfl)
   (OpenSpec.preRow_of_cond 8 hx (by kernel_rfl) (fun k hk=>by cases hk) (by kernel_rfl) (Af os _))) ?_
 intro W base args ds gs before hval hW _ _ hZ hL hS _;exact mf H enc W base args ds gs before hval hW hZ hL hS
theorem Oz:(Rows.topOldRow.inPlace == Tryz.prog.inPlace 4)=true:=by kernel_rfl
theorem OA:(Rows.topOldRow.unfollowed == Tryz.prog.unfollowed 4)=true:=by kernel_rfl
theorem OH:(Rows.topOldRow.recurses == Tryz.prog.recurses 4)=true:=by kernel_rfl
theorem OF:(Rows.topOldRow.named == Tryz.prog.varsNamed 4)=true:=by kernel_rfl
theorem Oy:(Rows.topOldRow.plainKeys == Tryz.prog.plainKeys)=true:=by kernel_rfl
theorem OC:(Rows.topOldRow.lifted == Tryz.prog.liftsFinal)=true:=by kernel_rfl
theorem Ox:joinedFacts Tryz.prog 4 Tryz.f4 (OpenSpec.ofChange Rows.topOldSpec).bare Rows.topOldRow=true:=
 Oq (Oq (Oq (Oq (Oq (Oq (Oq (Oq (Oq (Oq (Oq (Oq (Oq (Oq (Oq (Oq (Oq (Oq (Oq (Oq (Oq (Oq (Oq (Oq (Oq (Oq (Oq (Oq (Oq (Oq (Oq (by kernel_rfl) Ov) Ow) (by kernel_rfl)) (by kernel_rfl)) (by kernel_rfl)) (by kernel_rfl)) (by kernel_rfl)) (by kernel_rfl)) Oz) OA) OH) OF) (by kernel_rfl)) (by kernel_rfl)) (by kernel_rfl)) (by kernel_rfl)) (by kernel_rfl)) (by kernel_rfl)) (by kernel_rfl)) (by kernel_rfl)) (by kernel_rfl)) Oy) (by kernel_rfl)) Ot) Ou) OC) (by kernel_rfl)) (by kernel_rfl)) (by kernel_rfl)) (by kernel_rfl)) (by kernel_rfl)
theorem iZ:Rows.TopOldSaid:=
 OpenClaim.holds_of_cond 4 Tryz.f4 rfl rfl rfl rfl rfl rfl rfl ⟨rfl,rfl,rfl,rfl,rfl⟩ rfl rfl rfl rfl rfl (by kernel_rfl) Tryz.func4 Ox
  (of_decide_eq_true (by kernel_rfl)) (by unfold Func.isWrapper;first | (rw[if_pos (by decide +kernel)];kernel_rfl) | (rw[if_neg (by decide +kernel)];exact⟨rfl,rfl⟩))
  (fun os started H enc _ F=>by rw[OpenClaim.pre_eq_preRow];exact xX os started H enc F)
theorem nD(f:FuncId)(fn:Func)(hf:Tryz.pinned.checked.prog.funcNamed "stairwell/stairwelltop.TopOld"=some f)(hfn:Tryz.pinned.checked.prog.funcs[f]?=some fn):true=Tryz.pinned.checked.prog.looks []/\∀ (j:Nat) t,fn.params[j]?=some t->Tryz.pinned.checked.prog.wantsStandIn t=false:=by
 obtain rfl:f=4:=Option.some.inj ((show Tryz.prog.funcNamed "stairwell/stairwelltop.TopOld"=some 4 by kernel_rfl).symm.trans hf) |>.symm
 obtain rfl:fn=Tryz.f4:=(Option.some.inj (Tryz.func4.symm.trans hfn)).symm;refine⟨by kernel_rfl,fun j t ht=>?_⟩;rw[Tryz.params4]at ht;have hm:=Array.mem_of_getElem? ht;simp only[Array.mem_def,List.mem_cons,List.not_mem_nil,or_false]at hm;subst hm;exact(show Tryz.prog.wantsStandIn 22=false by kernel_rfl)
theorem card:Rows.TopOldCardSaid:=
 Claim7.holds_tied_plain_at .later [] _ _ _ _ iZ (fun _ h=>by cases h) (by kernel_rfl) (fun _ h=>by cases h) topOld_row_tie rfl ⟨rfl,rfl⟩ (by kernel_rfl) rfl nD (by kernel_rfl)
end Go.Proofs.YtfpcghnhjlnnoaaGreatDoor.topOld
