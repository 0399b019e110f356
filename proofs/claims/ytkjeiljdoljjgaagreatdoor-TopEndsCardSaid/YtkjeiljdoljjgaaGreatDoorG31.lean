import Derived.Test.YtkjeiljdoljjgaaGreatDoorG28
import Derived.Test.YtkjeiljdoljjgaaGreatDoorG29
set_option maxRecDepth 100000
set_option maxHeartbeats 40000000
set_option linter.unusedSimpArgs false
set_option linter.unusedVariables false
namespace Go.Proofs.YtkjeiljdoljjgaaGreatDoor
open Go.RowKit
open _root_.Go.Proofs.Tryz
variable {w wr:World}
variable {ok:Nat->Prop}
variable {v:Value}
variable {g k:Nat}
theorem Jt(w:LC)(v n cells)(h:du w 2 v n cells):Calls prog 27 #[v] w fun e w'=>∃ v',e=.returned v'/\w'.ownsRow w.heap.size 68 2 v' n cells/\La w w':=by
 obtain⟨i0,hi,hz0,hz1,hz2⟩:=info_parts ua;obtain⟨g1,g2,g3,g4⟩:=h;rcases g4 with⟨rfl,rfl⟩ | ⟨ad,cc,rfl,Mb⟩
 ·have hc0:cells=[]:=List.eq_nil_of_length_eq_zero (by rw[g1]);subst hc0;have hnil:∀ W:LC,(binOp .eql 36 (.slice none 0 0) (.slice none 0 0)).run prog W=.ok (.bool true) W:=fun W=>Lib.run_eql_slice_nil W _ _ _ _ _ _ _ underlying36;go_enter func27,ntmps27;go_wp2
  go_ret;exact⟨_,rfl,World.ownsRow_nil _ _ _ _,MK _ _⟩
 ·have O:Ll ((w.alloc (.cells #[] 68)).ownsRow w.heap.size 68 2 (.slice (some ⟨w.heap.size,0,none⟩) 0 0) 0 []):=World.ownsRow_made w #[] 0 (MG _) (by simp) (by simp);have C:Ll (cells.length=n * 2/\(∀ u∈cells,u.oneCell'=true)/\∀ j u,cells[j]?=some u->(w.alloc (.cells #[] 68)).cell? (ad.add j)=some u):=⟨g1,g3,fun j u hj=>ah (ae _ _) (Mb j u hj)⟩
  have hnil:∀ W:LC,(binOp .eql 36 (.slice (some ad) n cc) (.slice none 0 0)).run prog W=.ok (.bool false) W:=fun W=>Lib.run_eql_slice_nil W _ _ _ _ _ _ _ underlying36;clear g1 g3 Mb;go_enter func27,ntmps27;go_wp2_with (at_builtin;go_must (refine wpList_append_own _ rfl _ _ 36 rfl w.heap.size 68 i0 _ 2 40 underlying36 hi hz0 hz1 hz2 rfl (by decide) (.slice (some ⟨w.heap.size,0,none⟩) 0 0) 0 [] rfl O.o ad n cc cells rfl C.o.1 C.o.2.2 C.o.2.1 (by unfold maxLen;omega) (by omega) (by simp) ?_);intro v2 w2 ho2 hg2 _;refine Ll.o ?_)
  refine aa ?_;have D:Ll (w2.ownsRow w.heap.size 68 2 v2 n cells/\La w w2):=by
   rw[Nat.zero_add,List.nil_append]at ho2;exact⟨ho2,(ae w _).grown hg2 (by simp) (fun k hk=>(O.o.lt k hk).1)⟩
  clear ho2 hg2;go_wp2_with fail
  go_ret;exact⟨v2,rfl,D.o.1,D.o.2⟩
theorem BP{xs}(h:ao w ok xs v):∀ x∈xs,x.length<=maxLen:=by
 intro x hx;obtain⟨j,hj,rfl⟩:=List.getElem_of_mem hx;rcases h.2 with⟨rfl,-⟩ | ⟨b,off,c,-,-,-,h3⟩
 ·simp at hj
 ·exact(h3 j _ (Mw hj)).1
theorem pG:∀ (os:List aL) (vs:List Value) (i:Nat) (u:Value),(ba os vs).set (i * 2+1) u=ba os (vs.set i u)
 | [],_,i,u=>by simp[ba]
 | _ :: _,[],i,u=>by simp[ba]
 | o :: os,v :: vs,0,u=>by simp[ba]
 | o :: os,v :: vs,i+1,u=>by
  rw[show (i+1) * 2+1=(i * 2+1)+1+1 by omega];show _ :: _ :: (ba os vs).set (i * 2+1) u=_;rw[pG os vs i u];rfl
theorem pL{b}:∀ (os:List aL) (off:Nat),(∀ (i:Nat) (x:aL),os[i]?=some x->∃ u,(∃ a c,u=.slice a x.paths.length c)/\w.cell? ⟨b,off+i * 2,none⟩=some (aR x.name)/\w.cell? ⟨b,off+i * 2+1,none⟩=some u/\ao w ok x.paths u) ->
 ∃ pvs:List Value,pvs.length=os.length/\(∀ (j:Nat) (u:Value),(ba os pvs)[j]?=some u->w.cell? ⟨b,off+j,none⟩=some u/\u.oneCell'=true)/\∀ (j:Nat) (o:aL) (u:Value),os[j]?=some o->pvs[j]?=some u->(∃ a c,u=.slice a o.paths.length c)/\ao w ok o.paths u
 | [],off,_=>⟨[],rfl,fun j u hj=>by simp[ba]at hj,fun j o u hj=>by simp at hj⟩
 | o :: os,off,h=>by
  obtain⟨u,h1,h2,h3,h4⟩:=h 0 o rfl;obtain⟨pvs,k1,k2,k3⟩:=pL os (off+2) fun i x hx=>by
   obtain⟨u,q1,q2,q3,q4⟩:=h (i+1) x (by simpa using hx);refine⟨u,q1,?_,?_,q4⟩
   ·rw[show off+2+i * 2=off+(i+1) * 2 by omega];exact q2
   ·rw[show off+2+i * 2+1=off+(i+1) * 2+1 by omega];exact q3
  refine⟨u :: pvs,by simp[k1],fun j x hj=>?_,fun j x y hx hy=>?_⟩
  ·match j with
   | 0=>cases hj;exact⟨h2,rfl⟩
   | 1=>cases hj;obtain⟨a,c,rfl⟩:=h1;exact⟨h3,rfl⟩
   | j+2=>
    have:=k2 j x hj;rwa [show off+2+j=off+(j+2) by omega]at this
  ·match j with
   | 0=>cases hx;cases hy;exact⟨h1,h4⟩
   | j+1=>exact k3 j x y (by simpa using hx) (by simpa using hy)
theorem Hi{os}(h:aB w ok os v)(hl:os.length<=1000000):∃ pvs:List Value,pvs.length=os.length/\du w 2 v os.length (ba os pvs)/\(∀ (j:Nat) (o:aL) (u:Value),os[j]?=some o->pvs[j]?=some u->(∃ a c,u=.slice a o.paths.length c)/\ao w ok o.paths u)/\∀ o∈os,o.name.length<=maxLen:=by
 rcases h.2 with⟨rfl,a,rfl⟩ | ⟨b,off,c,rfl,h1,h2,h3⟩
 ·exact⟨[],rfl,mi w 2 a,fun j o u hj=>by simp at hj,fun o ho=>by cases ho⟩
 ·obtain⟨pvs,k1,k2,k3⟩:=pL (w:=w) (ok:=ok) (b:=b) os off fun i x hx=>by
   obtain⟨a,n,c',q1,q2,q3,q4,q5⟩:=h3 i x hx;obtain⟨a',c'',e'⟩:=q5.form;exact⟨_,⟨a',c'',e'⟩,q3,q4,q5⟩
  refine⟨pvs,k1,⟨fS os pvs k1.symm,hl,fun u hu=>?_,.inr ⟨⟨b,off,none⟩,c,rfl,fun j u hj=>by rw[Addr.add_lit];exact(k2 j u hj).1⟩⟩,k3,fun o ho=>?_⟩
  ·obtain⟨j,hj,e⟩:=List.getElem_of_mem hu;exact(k2 j u (by rw[Mw hj,e])).2
  ·obtain⟨j,hj,rfl⟩:=List.getElem_of_mem ho;obtain⟨a,n,c',q1,-⟩:=h3 j _ (Mw hj);exact q1
structure CU (w:LC) (t:Th) (a2 b2:Option Addr) (c2 d2:Nat) (va:Option Addr) (vc:Nat) (pv0:List Value) (k:Nat) (wr:LC):Prop where
 box:fN wr w.heap.size t a2 b2 c2 d2 va vc
 res:fN wr (w.heap.size+1) dT none none 0 0 none 0
 bel:La w wr
 val:In wr (fun k=>w.heap.size+2<=k/\some k≠(Value.slice va t.owners.length vc).ownBlock) t.value (.agg (KV t.value a2 c2 b2 d2))
 row:∃ pvs:List Value,pvs.length=t.owners.length/\wr.ownsRow (w.heap.size+2) 68 2 (.slice va t.owners.length vc) t.owners.length (ba t.owners pvs)/\∀ (j:Nat) (o:aL) (u:Value),t.owners[j]?=some o->pvs[j]?=some u->(k<=j->pv0[j]?=some u)/\(j < k->(∃ a c,u=.slice a o.paths.length c)/\ao wr (fun k=>w.heap.size+2<=k/\some k≠(Value.slice va t.owners.length vc).ownBlock) o.paths u)
theorem CU.bel'{wr':LC}{t a2 b2 c2 d2 va vc pv0}(h:CU w t a2 b2 c2 d2 va vc pv0 k wr)(hb:La wr wr'):CU w t a2 b2 c2 d2 va vc pv0 k wr':=by
 obtain⟨pvs,h1,h2,h3⟩:=h.row;exact⟨h.box.bel hb,h.res.bel hb,ab h.bel hb,h.val.bel hb,pvs,h1,fD h2 hb,fun j o u hj hu=>⟨(h3 j o u hj hu).1,fun hk=>⟨((h3 j o u hj hu).2 hk).1,((h3 j o u hj hu).2 hk).2.bel hb⟩⟩⟩
theorem CU.at{t a2 b2 c2 d2 va vc pv0 o}(h:CU w t a2 b2 c2 d2 va vc pv0 k wr)(ho:t.owners[k]?=some o):∃ g u,va=some ⟨g,0,none⟩/\w.heap.size+2<=g/\g < wr.heap.size/\vc<=9223372036854775807/\t.owners.length<=vc/\pv0[k]?=some u/\wr.cell? ⟨g,k * 2,none⟩=some (.string ⟨o.name.toArray⟩)/\wr.cell? ⟨g,k * 2+1,none⟩=some u/\wr.frozen? ⟨g,k * 2+1,none⟩=false:=by
 obtain⟨pvs,h1,h2,h3⟩:=h.row;have hk:=(Mz.1 ho).1;have hu:pvs[k]?=some (pvs[k]'(by omega)):=Mw (by omega);rcases h2.2 with⟨e,h0⟩ | ⟨g,cap,cur,e,g1,g2,g3,g4,g5,g6⟩
 ·omega
 ·simp only[Value.slice.injEq]at e;obtain⟨rfl,-,rfl⟩:=e;obtain⟨e1,e2⟩:=kN t.owners pvs k o _ ho hu;unfold maxLen at g4;exact⟨g,_,rfl,g1,(MF.1 g2).1,g4,g3,(h3 k o _ ho hu).1 (MG _),(dJ h2 (by omega) e1).1,(dJ h2 (by omega) e2).1,(dJ h2 (by omega) e2).2⟩
theorem CU.step{t a2 b2 c2 d2 vc pv0 o pa pc}(h:CU w t a2 b2 c2 d2 (some ⟨g,0,none⟩) vc pv0 k wr)(ho:t.owners[k]?=some o)(hs:ao wr (fun k=>w.heap.size+2<=k/\k≠g) o.paths (.slice pa o.paths.length pc)):CU w t a2 b2 c2 d2 (some ⟨g,0,none⟩) vc pv0 (k+1) (wr.setCell ⟨g,k * 2+1,none⟩ (.slice pa o.paths.length pc)):=by
 obtain⟨g',u,e,hg,-⟩:=h.at ho;cases e;obtain⟨pvs,h1,h2,h3⟩:=h.row;have hk:=(Mz.1 ho).1;have G:wr.grownBy (wr.setCell ⟨g,k * 2+1,none⟩ (.slice pa o.paths.length pc)) (some g):=ap (az _ _) _ _;have hne:∀ k,(w.heap.size+2<=k/\some k≠(Value.slice (some (⟨g,0,none⟩:Addr)) t.owners.length vc).ownBlock)->some k≠some g:=fun k hk e=>hk.2 e;refine⟨h.box.gr G (by intro e;have:=Option.some.inj e;omega),h.res.gr G (by intro e;have:=Option.some.inj e;omega),aQ h.bel (by omega) _ _,h.val.grownR G hne,pvs.set k (.slice pa o.paths.length pc),by simpa using h1,?_,fun j x u hj hu=>?_⟩
 ·have:=jQ h2 (by omega) (k * 2+1) (.slice pa o.paths.length pc);rwa [pG]at this
 ·rw[List.getElem?_set]at hu;split at hu
  ·rename_i hjk;subst hjk;try rw[if_pos (by omega)]at hu
   cases hu;rw[ho]at hj;cases hj;exact⟨fun h9=>by omega,fun _=>⟨⟨_,_,rfl⟩,hs.imp fun a x q1 q2=>eJ G hne a x ⟨q1.1,fun e=>q1.2 (Option.some.inj e)⟩ q2⟩⟩
  ·rename_i hjk;exact⟨fun h9=>(h3 j x u hj hu).1 (by omega),fun h9=>⟨((h3 j x u hj hu).2 (by omega)).1,((h3 j x u hj hu).2 (by omega)).2.imp (eJ G hne)⟩⟩
theorem Fs(w:LC)(ok t a b c d oa oc)(h:cQ w ok t a b c d oa oc)(hn:dz t.value)(hl:t.owners.length<=1000)(hp:fT t.owners):Calls prog 19 #[.agg (Ld t a c b d oa oc)] w fun e w'=>∃ a9 b9 c9 d9 oa9 oc9,e=.returned (.agg (Ld t a9 c9 b9 d9 oa9 oc9))/\cQ w' (fun k=>w.heap.size<=k) t a9 b9 c9 d9 oa9 oc9/\La w w':=by
 obtain⟨W2,hW2⟩:∃ W,W=(w.alloc (.cells (Ld t a c b d oa oc) 40)).alloc (.cells Le 40):=⟨_,rfl⟩
 have Y2:Ll (La w W2):=aa (by rw[hW2];exact ab (ae _ _) (ae _ _));have X1:Ll (fN W2 w.heap.size t a b c d oa oc):=aa (by rw[hW2];exact fb _ _ _);have X2:Ll (fN W2 (w.heap.size+1) dT none none 0 0 none 0):=aa (by rw[hW2];exact et _ _ _);have SZ2:Ll (w.heap.size+2<=W2.heap.size):=aa (by have:=X2.o.lt;omega);have HW2:=aa hW2;have TV:Ll (Calls prog 26 #[.agg (KV t.value a c b d)] W2 fun e w'=>∃ (a2 b2:Option Addr) (c2 d2:Nat),e=.returned (.agg (KV t.value a2 c2 b2 d2))/\La W2 w'/\In w' (fun k=>W2.heap.size<=k) t.value (.agg (KV t.value a2 c2 b2 d2))):=aa ((IB W2 ok t.value _ (h.val.bel Y2.o) hn).mono fun e w' hh=>by
  obtain⟨r,rfl,hb,hi⟩:=hh;obtain⟨a2,b2,c2,d2,rfl⟩:=hi.form;exact⟨a2,b2,c2,d2,rfl,hb,hi⟩)
 obtain⟨pv0,p1,p2,p3,p4⟩:=Hi h.own (by omega);have PV:=aa p1;have SL:=aa p2;have PS:=aa p3;have PN:=aa p4;have HP:=aa hp;have TNL:=aa h.name;have HL:=aa hl;clear hW2 h hn hp hl p1 p2 p3 p4;have t0_:=X1.o.c;obtain⟨f0,f1,f2,f3,f4,f5,f6,f7,f8,f9,f10,f11,f12,f13,f14⟩:=X1.o.f;go_enter func19,ntmps19;go_upto_region 1 with fail
 rw[<-HW2.o];go_upto_region 2 with (go_at_call 26;refine TV.o.mono ?_;rintro e w3 ⟨a2,b2,c2,d2,rfl,hb,hi⟩;have B3:=aa hb;have I3:=aa hi;clear hb hi f0 f1 f2 f3 f4 f5 f6 f7 f8 f9 f10 f11 f12 f13 f14;have t0_:=(X1.o.bel B3.o).c;obtain⟨f0,f1,f2,f3,f4,f5,f6,f7,f8,f9,f10,f11,f12,f13,f14⟩:=(X1.o.bel B3.o).f)
 clear f0 f1 f2 f3 f4 f5 f6 f7 f8 f9 f10 f11 f12 f13 f14;obtain⟨W4,hW4⟩:∃ W,W=(((((w3.setCell ⟨w.heap.size,1,none⟩ (.int .i64 t.value.kind)).setCell ⟨w.heap.size,2,none⟩ (.int .i64 t.value.n)).setCell ⟨w.heap.size,3,none⟩ (.string ⟨t.value.s.toArray⟩)).setCell ⟨w.heap.size,4,none⟩ (.slice a2 t.value.keys.length c2)).setCell ⟨w.heap.size,5,none⟩ (.slice b2 t.value.l.length d2)):=⟨_,rfl⟩
 have X4:Ll (fN W4 w.heap.size t a2 b2 c2 d2 oa oc/\fN W4 (w.heap.size+1) dT none none 0 0 none 0/\La w W4/\In W4 (fun k=>W2.heap.size<=k) t.value (.agg (KV t.value a2 c2 b2 d2))/\W2.heap.size<=W4.heap.size):=aa (by
  have G:w3.grownBy (((((w3.setCell ⟨w.heap.size,1,none⟩ (.int .i64 t.value.kind)).setCell ⟨w.heap.size,2,none⟩ (.int .i64 t.value.n)).setCell ⟨w.heap.size,3,none⟩ (.string ⟨t.value.s.toArray⟩)).setCell ⟨w.heap.size,4,none⟩ (.slice a2 t.value.keys.length c2)).setCell ⟨w.heap.size,5,none⟩ (.slice b2 t.value.l.length d2)) (some w.heap.size):=ap (ap (ap (ap (ap (az _ _) _ _) _ _) _ _) _ _) _ _;rw[hW4];refine⟨ak (ak (ak (ak (ak (X1.o.bel B3.o) 1 _) 2 _) 3 _) 4 _) 5 _,(X2.o.bel B3.o).gr G (by intro e;have:=Option.some.inj e;omega),aQ (aQ (aQ (aQ (aQ (ab Y2.o B3.o) (MG _) _ _) (MG _) _ _) (MG _) _ _) (MG _) _ _) (MG _) _ _,I3.o.grownR G (fun k hk e=>by have:=Option.some.inj e;have:=SZ2.o;omega),MH B3.o.size G.size⟩)
 rw[<-hW4];clear hW4 I3 B3;have CLO:Ll (Calls prog 27 #[.slice oa t.owners.length oc] W4 fun e w'=>∃ va vc,e=.returned (.slice va t.owners.length vc)/\w'.ownsRow W4.heap.size 68 2 (.slice va t.owners.length vc) t.owners.length (ba t.owners pv0)/\La W4 w'):=aa ((Jt W4 _ _ _ (SL.o.bel X4.o.2.2.1)).mono fun e w' hh=>by
  obtain⟨v',rfl,ho,hb⟩:=hh;obtain⟨a,c,rfl,-⟩:=ej ho;exact⟨a,c,rfl,ho,hb⟩)
 have t0_:=X4.o.1.c;obtain⟨f0,f1,f2,f3,f4,f5,f6,f7,f8,f9,f10,f11,f12,f13,f14⟩:=X4.o.1.f;go_upto_region 3 with (go_at_call 27;refine CLO.o.mono ?_;rintro e w5 ⟨va,vc,rfl,ho,hb⟩;have B5:=aa hb;have O5:=aa ho;clear hb ho f0 f1 f2 f3 f4 f5 f6 f7 f8 f9 f10 f11 f12 f13 f14;have t0_:=(X4.o.1.bel B5.o).c;obtain⟨f0,f1,f2,f3,f4,f5,f6,f7,f8,f9,f10,f11,f12,f13,f14⟩:=(X4.o.1.bel B5.o).f)
 clear f0 f1 f2 f3 f4 f5 f6 f7 f8 f9 f10 f11 f12 f13 f14;obtain⟨W6,hW6⟩:∃ W,W=w5.setCell ⟨w.heap.size,6,none⟩ (.slice va t.owners.length vc):=⟨_,rfl⟩
 have I6:Ll (CU w t a2 b2 c2 d2 va vc pv0 0 W6):=aa (by
  have G:w5.grownBy (w5.setCell ⟨w.heap.size,6,none⟩ (.slice va t.owners.length vc)) (some w.heap.size):=ap (az _ _) _ _;have h1:=SZ2.o;have h2:=X4.o.2.2.2.2;rw[hW6];refine⟨ak (X4.o.1.bel B5.o) 6 _,(X4.o.2.1.bel B5.o).gr G (by intro e;have:=Option.some.inj e;omega),aQ (ab X4.o.2.2.1 B5.o) (MG _) _ _,?_,pv0,PV.o,cV (O5.o.kept G ?_) (by omega),fun j o u hj hu=>⟨fun _=>hu,fun h9=>by omega⟩⟩
  ·have h3:=(X4.o.2.2.2.1.low.bel B5.o)
   refine(h3.weak fun k hk=>⟨by have:=hk.1;omega,fun e=>?_⟩).grownR G (fun k hk e=>by have:=Option.some.inj e;have:=hk.1;omega);have:=(O5.o.lt k e.symm).1;have:=hk.2;omega
  ·cases hv:(Value.slice va t.owners.length vc).ownBlock with
   | none=>exact .inl rfl
   | some k=>
    refine .inr fun e=>?_;have:=(O5.o.lt k hv).1;have:=Option.some.inj e;omega)
 rw[<-hW6];clear hW6 O5 B5 X4;have t0_:=I6.o.box.c;go_wp2_with fail
 go_loopg [16] t.owners.length (fun gk iv wr=>∃ k:Nat,k<=t.owners.length/\gk=t.owners.length - k/\iv=.int .i64 k/\Ll (CU w t a2 b2 c2 d2 va vc pv0 k wr))
 case atStart=>exact⟨0,Nat.zero_le _,rfl,rfl,I6⟩
 case round=>
  obtain⟨k,hk,hgk,rfl,IK⟩:=hrel;have GK:=aa hgk;clear hgk I6;obtain⟨wo,hwo⟩:∃ wo,wo=wr:=⟨wr,rfl⟩
  subst hwo;by_cases hlt:k < t.owners.length
  ·obtain⟨o,ho⟩:∃ o,t.owners[k]?=some o:=⟨_,Mw hlt⟩
   have HO:=aa ho;obtain⟨g,u,rfl,hgB,hgl,hc9,hlc,hu0,c0,c1,-⟩:=IK.o.at ho;obtain⟨⟨pa,pc,rfl⟩,hst⟩:=PS.o k o u ho hu0;have ST9:=aa hst;have GL:Ll (w.heap.size+2<=g/\g < wo.heap.size):=aa ⟨hgB,hgl⟩;have PL:Ll (o.paths.length<=200):=aa (HP.o o (List.mem_of_getElem? ho));have w2:(k:Int) < (t.owners.length:Int):=by omega
   have w3:(0:Int)<=(k:Int):=by omega
   obtain⟨W6,hW6⟩:∃ W,W=wo.alloc (.cells #[.string ⟨o.name.toArray⟩,.slice pa o.paths.length pc] 68):=⟨_,rfl⟩
   have A6:Ll (La wo W6):=aa (by rw[hW6];exact ae _ _);have OX:Ll (W6.heap[wo.heap.size]?=some (.cells #[.string ⟨o.name.toArray⟩,.slice pa o.paths.length pc] 68)):=aa (by rw[hW6];exact MN _ _);have HW6:=aa hW6;have I6:=aa (IK.o.bel' A6.o);have TB6:=aa I6.o.box;have CLN:Ll (∀ W,La W6 W->Calls prog 28 #[.slice pa o.paths.length pc] W fun e w'=>∃ pa2 pc2,e=.returned (.slice pa2 o.paths.length pc2)/\ao w' (fun k=>w.heap.size+2<=k/\k≠g) o.paths (.slice pa2 o.paths.length pc2)/\La W w'):=aa (fun W hb=>by
    have b9:=ab (ab IK.o.bel A6.o) hb;refine(pB W _ _ _ (sY (ST9.o.bel b9) (by have:=PL.o;omega))).mono ?_;rintro e w' ⟨v',rfl,hw,hb2⟩;obtain⟨a,c,rfl,-⟩:=ej hw;refine⟨a,c,rfl,kf rfl hw (BP ST9.o) (fun k hk=>?_) ST9.o.1,hb2⟩;have h1:=GL.o;have h2:=A6.o.size;have h3:=hb.size;exact⟨by omega,by omega⟩)
   clear hW6 ho hst hu0 hgB hgl;go_upto_region 6 with fail
   rw[<-HW6.o];clear c0 c1;refine aD (fun wS=>La W6 wS) [8] (by kernel_rfl) (aC _ 1) (fun LI=>?_);refine WT.out ?_;iterate 5
    first
     | refine tk (i:=0) (v:=?_) [1,6,7,8] rfl rfl (by decide +kernel) rfl (fun _ _ _ h=>h) LI ?_ ?_
     | refine tk (i:=1) (v:=?_) [6,7,8] rfl rfl (by decide +kernel) rfl (fun _ _ _ h=>h) LI ?_ ?_
     | refine tk (i:=2) (v:=?_) [6,7,8] rfl rfl (by decide +kernel) rfl (fun _ _ _ h=>h) LI ?_ ?_
     | refine tk (i:=3) (v:=?_) [4,5,6,7,8] rfl rfl (by decide +kernel) rfl (fun _ _ _ h=>h) LI ?_ ?_
     | refine tk (i:=4) (v:=?_) [5,6,7,8] rfl rfl (by decide +kernel) rfl (fun _ _ _ h=>h) LI ?_ ?_
    rotate_left
    ·intro wS LN;obtain⟨b0,b1⟩:=rl (bR LN OX.o);have t0_:=(TB6.o.bel LN).c;go_simp;all_goals with_reducible rfl
    simp only[av,List.set]
   repeat' (first
    | exact nl
    |(refine ip (i:=5) (o:=_) rfl (fun K hK=>?_) ?_
      go_simp;refine(CLN.o _ LI).mono ?_;rintro e w5q ⟨pa2,pc2,rfl,h5,hb5⟩;refine hK.out _ _ (ab LI hb5) (fun LJ=>?_);have B6:=aa LJ;have P6:=aa h5;clear h5 hb5;clear hK K;replace LI:=LJ;clear LJ;try simp only[Act.put,Mt,Mu,Mv])
    |(refine jZ (i:=8) (o:=_) (by decide +kernel) rfl (fun K hK=>?_)
      obtain⟨g9,u9,e9,-,-,-,-,-,-,nx,mx⟩:=CU.at (I6.o.bel' B6.o) HO.o;cases e9;go_simp;refine hK.out _ _ ?_;clear hK K;try simp only[Act.put,Mt,Mu,Mv])
    |(first
       | refine tk (i:=6) (v:=?_) [7,8] rfl rfl (by decide +kernel) rfl (fun _ _ _ h=>h) (by exact LI) ?_ ?_
       | refine tk (i:=7) (v:=?_) [8] rfl rfl (by decide +kernel) rfl (fun _ _ _ h=>h) (by exact LI) ?_ ?_
      rotate_left
      ·intro wS LN;go_simp;all_goals with_reducible rfl
      simp only[av,List.set])
    | refine gc [5] (by decide +kernel) ?_
    | fail)
   all_goals
    refine dn (by kernel_rfl) ?_;obtain⟨W9,hW9⟩:∃ W,W=w5q.setCell ⟨g,k * 2+1,none⟩ (.slice pa2 o.paths.length pc2):=⟨_,rfl⟩
    have I9:Ll (CU w t a2 b2 c2 d2 (some ⟨g,0,none⟩) vc pv0 (k+1) W9):=aa (by rw[hW9];exact CU.step (I6.o.bel' B6.o) HO.o P6.o);rw[<-hW9];clear hW9;go_wp2_with fail
    go_roundg (t.owners.length - (k+1))
    case measure=>rw[GK.o];omega
    case rel=>exact⟨k+1,hlt,rfl,by go_num,I9⟩
  ·have d9:¬(k:Int) < (t.owners.length:Int):=by omega
   have Mc:k=t.owners.length:=by omega
   have OK9:Ll (cQ wo (fun k=>w.heap.size+2<=k) t a2 b2 c2 d2 va vc):=aa ⟨TNL.o,IK.o.val.weak fun k hk=>hk.1,fA.owns (by
    obtain⟨pvs,h1,h2,h3⟩:=IK.o.row;exact⟨pvs,h1.symm,h2,fun j o u hj hu=>(h3 j o u hj hu).2 (by have:=(Mz.1 hj).1;omega)⟩) PN.o⟩
   clear Mc;have t0_:=IK.o.box.c;have n0_:=IK.o.res.c;obtain⟨m0,m1,m2,m3,m4,m5,m6,m7,m8,m9,m10,m11,m12,m13,m14⟩:=IK.o.res.f;have P9:=aa (IK.o.res.put15 t a2 b2 c2 d2 va vc);have B9:=aa (bS (mz (aq (r:=none) IK.o.bel) (Nat.le_succ w.heap.size) t a2 b2 c2 d2 va vc));have O9:Ll (cQ (jE wo (w.heap.size+1) t a2 b2 c2 d2 va vc) (fun k=>w.heap.size<=k) t a2 b2 c2 d2 va vc):=aa ((OK9.o.gr (g15 wo (w.heap.size+1) t a2 b2 c2 d2 va vc) (fun k hk e=>by have:=Option.some.inj e;omega)).weak fun k hk=>by omega);go_wp2_with fail
   have z0_:=P9.o.c;refine MM (v:=.agg (Ld t a2 c2 b2 d2 va vc)) ?_ rfl ?_
   ·simp only[jE]at z0_;simp[results,results19,go_sem,z0_]
   ·exact⟨_,_,_,_,_,_,rfl,O9.o,B9.o⟩
variable {c S d:Nat}
theorem Cj(n):(madeCells rn.toArray (n * 15)).toList=(List.replicate n rn).flatten:=by
 have h15:∀ c∈List.replicate n rn,c.length=15:=fun c hc=>by rw[List.eq_of_mem_replicate hc];rfl
 apply List.ext_getElem?;intro j;by_cases hj:j < n * 15
 ·have hd:j / 15 < n:=by omega
  have hm:j % 15 < 15:=Nat.mod_lt _ (by omega);have e:=oN (List.replicate n rn) (j / 15) (j % 15) rn h15 (by rw[List.getElem?_replicate,if_pos hd]) hm;rw[show j / 15 * 15+j % 15=j by omega]at e;rw[e];have hz:rn.length=15:=rfl;simp only[madeCells,Array.toList_map,Array.toList_range,List.getElem?_map,List.getElem?_range hj,Option.map_some,List.size_toArray,hz];rw[getElem!_pos rn.toArray (j % 15) (by simp only[List.size_toArray,hz];exact hm),Mw (by rw[hz];exact hm)];rfl
 ·rw[List.getElem?_eq_none (by simp[madeCells];omega),List.getElem?_eq_none (by rw[fY _ h15];simp;omega)]
theorem Eb(w:LC)(ok n)(hn:n<=1000):dm (w.alloc (.cells (madeCells Le (n * 15)) 40)) w.heap.size ok (List.replicate n dT) (.slice (some ⟨w.heap.size,0,none⟩) n n):=by
 refine⟨List.replicate n rn,by simp,⟨?_,.inr ⟨w.heap.size,n,_,by rw[List.length_replicate],MG _,MN _ _,by simp,by unfold maxLen;omega,by simp[madeCells],?_⟩⟩,fun i t cs ht hc=>?_⟩
 ·rw[fY _ (fun c hc=>by rw[List.eq_of_mem_replicate hc];rfl)];simp
 ·have:=Cj n;simp only[rn]at this ⊢;rw[this,MD (by rw[fY _ (fun c hc=>by rw[List.eq_of_mem_replicate hc];rfl)];simp)]
 ·have e1:=List.eq_of_mem_replicate (List.mem_of_getElem? ht);have e2:=List.eq_of_mem_replicate (List.mem_of_getElem? hc);subst e1;subst e2;exact⟨none,none,0,0,none,0,rfl,by simp[dT],fG _ _,⟨by simp[dT,maxLen],.inl ⟨rfl,none,rfl⟩⟩⟩
theorem uG{l:List Th}{t:Th}(h:l[k]?=some t):(l.take k++List.replicate (l.length - k) dT)[k]?=some dT/\(l.take k++List.replicate (l.length - k) dT).set k t=l.take (k+1)++List.replicate (l.length - (k+1)) dT/\(l.take k++List.replicate (l.length - k) dT).length=l.length:=by
 obtain⟨hk,e⟩:=Mz.1 h;have e1:(l.take k).length=k:=by rw[MC];omega
 obtain⟨m,hm⟩:∃ m,l.length - k=m+1:=⟨l.length - k - 1,by omega⟩
 refine⟨?_,?_,?_⟩
 ·rw[List.getElem?_append_right (by omega),e1,Nat.sub_self,hm,List.replicate_succ];rfl
 ·rw[List.set_append_right _ _ (by omega),e1,Nat.sub_self,hm,List.replicate_succ,Mu,List.take_succ_eq_append_getElem hk,e,List.append_assoc,show l.length - (k+1)=m by omega];rfl
 ·simp only[Mx,List.length_replicate,e1];omega
structure sZ (w:LC) (ok:Nat->Prop) (S:Nat) (v:Value) (st:ex) (k:Nat) (wr:LC):Prop where
 srv:bo wr ok S v st
 row:dm wr w.heap.size (fun j=>w.heap.size < j) (st.ths.take k++List.replicate (st.ths.length - k) dT) (.slice (some ⟨w.heap.size,0,none⟩) st.ths.length st.ths.length)
 bel:La w wr
 big:w.heap.size < wr.heap.size
theorem sZ.bel'{wr'}{st:ex}(h:sZ w ok S v st k wr)(hb:La wr wr'):sZ w ok S v st k wr':=⟨h.srv.bel hb,h.row.bel hb,ab h.bel hb,MI h.big hb.size⟩
theorem sZ.step{st:ex}{t:Th}{a b:Option Addr}{oa:Option Addr}{oc:Nat}(h:sZ w (Lj ok w) S v st k wr)(hS:S < w.heap.size)(hv:∀ k,v.ownBlock=some k->k < w.heap.size)(ht:st.ths[k]?=some t)(hk:cQ wr (fun j=>w.heap.size < j) t a b c d oa oc):sZ w (Lj ok w) S v st (k+1) (wr.setCells w.heap.size (k * 15) (cu t a b c d oa oc)):=by
 obtain⟨h1,h2,h3⟩:=uG ht;have G:=jz w.heap.size (cu t a b c d oa oc) (k * 15) wr;have h4:dm wr w.heap.size (fun j=>w.heap.size < j) (st.ths.take k++List.replicate (st.ths.length - k) dT) (.slice (some ⟨w.heap.size,0,none⟩) (st.ths.take k++List.replicate (st.ths.length - k) dT).length st.ths.length):=by rw[h3];exact h.row
 have h5:=h4.put (fun hk=>Nat.lt_irrefl _ hk) h1 hk;rw[h2,h3]at h5;exact⟨h.srv.new (a:=w) G hS hv (MG _),h5,⟨G.os.trans h.bel.os,G.tape.trans h.bel.tape,G.output.trans h.bel.output,MH h.bel.size G.size,fun j hj=>(G.block j (MI hj h.bel.size) (by intro e;have:=Option.some.inj e;omega)).trans (h.bel.block j hj)⟩,MI h.big G.size⟩
theorem Bl(w:LC)(ok S v)(st:ex)(h:bo w ok S v st)(hg:dP st):Calls prog 11 #[.pointer (some ⟨S,0,none⟩)] w fun e w'=>e=.returned (.slice (some ⟨w.heap.size,0,none⟩) st.ths.length st.ths.length)/\dm w' w.heap.size (fun j=>w.heap.size < j) st.ths (.slice (some ⟨w.heap.size,0,none⟩) st.ths.length st.ths.length)/\La w w':=by
 have HNE:=aa (fun g (hg:v.ownBlock=some g)=>h.ne hg);have HV0:=aa (fun k (hk:v.ownBlock=some k)=>(HNE.o k hk).2);have SLT:Ll (S < w.heap.size):=aa h.blk.lt;have GOOD:=aa hg;have S0:=aa h.low;obtain⟨va,vc,hform⟩:=h.row.form;obtain⟨i0,hi0,hz0,hz1,hz2⟩:=info_parts qF;have l8:=hg.len;have hmk:(Instr.makeSlice 26 (.int .i64 (st.ths.length:Int)) (.int .i64 (st.ths.length:Int))).run prog w=.ok (.slice (some ⟨w.heap.size,0,none⟩) st.ths.length st.ths.length) (w.alloc (.cells (madeCells Le (st.ths.length * 15)) 40)):=by
  have k:=run_make (P:=prog) w 26 40 i0 _ underlying26 hi0 hz0 .i64 .i64 (st.ths.length:Int) (st.ths.length:Int) (by omega) (Int.le_refl _) (by rw[hz2];omega) (by omega);rw[hz1]at k;simpa [Value.cells] using k
 obtain⟨W1,hW1⟩:∃ W,W=w.alloc (.cells (madeCells Le (st.ths.length * 15)) 40):=⟨_,rfl⟩
 have Y1:La w W1:=by rw[hW1];exact ae _ _
 have I1:Ll (sZ w (Lj ok w) S v st 0 W1):=aa ⟨S0.o.bel Y1,by
  rw[hW1];have:=Eb w (fun j=>w.heap.size < j) st.ths.length (by omega);simpa using this,Y1,by rw[hW1];simp⟩
 rw[<-hW1]at hmk;clear hi0 hz0 hz1 hz2 hW1 Y1 hg;subst hform;have s0_:=h.blk.c;have r0_:=I1.o.srv.blk.c;clear h;go_enter func11,ntmps11;go_wp2_with fail
 clear hmk;go_loopg [19] st.ths.length (fun gk iv wr=>∃ k:Nat,k<=st.ths.length/\gk=st.ths.length - k/\iv=.int .i64 k/\Ll (sZ w (Lj ok w) S (.slice va st.ths.length vc) st k wr))
 case atStart=>exact⟨0,Nat.zero_le _,rfl,rfl,I1⟩
 case round=>
  obtain⟨k,hk,hgk,rfl,IK⟩:=hrel;have GK:=aa hgk;clear hgk I1;obtain⟨wo,hwo⟩:∃ wo,wo=wr:=⟨wr,rfl⟩
  subst hwo;by_cases hlt:k < st.ths.length
  ·obtain⟨t,ht⟩:∃ t,st.ths[k]?=some t:=⟨_,Mw hlt⟩
   have HT:=aa ht;have GT:=aa (GOOD.o.ths t (List.mem_of_getElem? ht));obtain⟨g,cap,e9,hgB,hgl,hlc,hc9,hf,Mb,a,b,c,d,oa,oc,hcl,hkk⟩:=IK.o.srv.row.at ht;obtain⟨rfl,rfl⟩:va=some ⟨g,0,none⟩/\cap=vc:=by simp only[Value.slice.injEq]at e9;exact⟨e9.1,e9.2.2.symm⟩
   have w2:(k:Int) < (st.ths.length:Int):=by omega
   have w3:(0:Int)<=(k:Int):=by omega
   have t0:wo.cell? ⟨g,k * 15,none⟩=some (.string ⟨t.name.toArray⟩):=hcl 0 _ rfl;have t1:wo.cell? ⟨g,k * 15+1,none⟩=some (.int .i64 t.value.kind):=hcl 1 _ rfl;have t2:wo.cell? ⟨g,k * 15+2,none⟩=some (.int .i64 t.value.n):=hcl 2 _ rfl;have t3:wo.cell? ⟨g,k * 15+3,none⟩=some (.string ⟨t.value.s.toArray⟩):=hcl 3 _ rfl;have t4:wo.cell? ⟨g,k * 15+4,none⟩=some (.slice a t.value.keys.length c):=hcl 4 _ rfl;have t5:wo.cell? ⟨g,k * 15+5,none⟩=some (.slice b t.value.l.length d):=hcl 5 _ rfl;have t6:wo.cell? ⟨g,k * 15+6,none⟩=some (.slice oa t.owners.length oc):=hcl 6 _ rfl;have t7:wo.cell? ⟨g,k * 15+7,none⟩=some (.int .i64 t.ver):=hcl 7 _ rfl;have t8:wo.cell? ⟨g,k * 15+8,none⟩=some (.int .i64 t.gen):=hcl 8 _ rfl;have t9:wo.cell? ⟨g,k * 15+9,none⟩=some (.string ⟨t.st.a.toArray⟩):=hcl 9 _ rfl;have t10:wo.cell? ⟨g,k * 15+10,none⟩=some (.string ⟨t.st.c.toArray⟩):=hcl 10 _ rfl;have t11:wo.cell? ⟨g,k * 15+11,none⟩=some (.int .i64 t.st.ph):=hcl 11 _ rfl;have t12:wo.cell? ⟨g,k * 15+12,none⟩=some (.int .i64 t.st.st):=hcl 12 _ rfl;have t13:wo.cell? ⟨g,k * 15+13,none⟩=some (.int .i64 t.st.we):=hcl 13 _ rfl;have t14:wo.cell? ⟨g,k * 15+14,none⟩=some (.int .i64 t.st.si):=hcl 14 _ rfl;obtain⟨W5,hW5⟩:∃ W,W=wo.alloc (.cells (Ld t a c b d oa oc) 40):=⟨_,rfl⟩
   have A5:Ll (La wo W5):=aa (by rw[hW5];exact ae _ _);have XB:Ll (fN W5 wo.heap.size t a b c d oa oc):=aa (by rw[hW5];exact MN _ _);have HW5:=aa hW5;have I5:=aa (IK.o.bel' A5.o);have TW:=aa (Fs W5 _ t a b c d oa oc (hkk.bel A5.o) (dQ (lq GT.o.rd)) (by have:=(gz GT.o.own).1;omega) GT.o.lim);clear hW5 ht hkk hcl hf Mb hgB hgl e9;go_upto_region 7 with fail
   rw[<-HW5.o];obtain⟨t0,t1,t2,t3,t4,t5,t6,t7,t8,t9,t10,t11,t12,t13,t14⟩:=XB.o.c;go_upto_region 8 with (go_at_call 19;refine TW.o.mono ?_;rintro e w7 ⟨a9,b9,c9,d9,oa9,oc9,rfl,h1,hb⟩;have K7:=aa h1;have I7:=aa (I5.o.bel' hb);clear h1 hb;obtain⟨g4,cap4,e4,-,-,-,-,hf4,-,a4,b4,c4,d4,oa4,oc4,hcl4,-⟩:=I7.o.row.at (uG HT.o).1;obtain rfl:w.heap.size=g4:=(by simp only[Value.slice.injEq,Option.some.injEq,Addr.mk.injEq]at e4;exact e4.1.1);have n0:=hcl4 0 _ rfl;have m0:=hf4 (k * 15+0);have n1:=hcl4 1 _ rfl;have m1:=hf4 (k * 15+1);have n2:=hcl4 2 _ rfl;have m2:=hf4 (k * 15+2);have n3:=hcl4 3 _ rfl;have m3:=hf4 (k * 15+3);have n4:=hcl4 4 _ rfl;have m4:=hf4 (k * 15+4);have n5:=hcl4 5 _ rfl;have m5:=hf4 (k * 15+5);have n6:=hcl4 6 _ rfl;have m6:=hf4 (k * 15+6);have n7:=hcl4 7 _ rfl;have m7:=hf4 (k * 15+7);have n8:=hcl4 8 _ rfl;have m8:=hf4 (k * 15+8);have n9:=hcl4 9 _ rfl;have m9:=hf4 (k * 15+9);have n10:=hcl4 10 _ rfl;have m10:=hf4 (k * 15+10);have n11:=hcl4 11 _ rfl;have m11:=hf4 (k * 15+11);have n12:=hcl4 12 _ rfl;have m12:=hf4 (k * 15+12);have n13:=hcl4 13 _ rfl;have m13:=hf4 (k * 15+13);have n14:=hcl4 14 _ rfl;have m14:=hf4 (k * 15+14);clear hf4 hcl4 e4;simp only[Nat.add_zero]at n0 m0)
   obtain⟨W9,hW9⟩:∃ W,W=(((((((((((((((w7.setCell ⟨w.heap.size,k * 15,none⟩ (.string ⟨t.name.toArray⟩)).setCell ⟨w.heap.size,k * 15+1,none⟩ (.int .i64 t.value.kind)).setCell ⟨w.heap.size,k * 15+2,none⟩ (.int .i64 t.value.n)).setCell ⟨w.heap.size,k * 15+3,none⟩ (.string ⟨t.value.s.toArray⟩)).setCell ⟨w.heap.size,k * 15+4,none⟩ (.slice a9 t.value.keys.length c9)).setCell ⟨w.heap.size,k * 15+5,none⟩ (.slice b9 t.value.l.length d9)).setCell ⟨w.heap.size,k * 15+6,none⟩ (.slice oa9 t.owners.length oc9)).setCell ⟨w.heap.size,k * 15+7,none⟩ (.int .i64 t.ver)).setCell ⟨w.heap.size,k * 15+8,none⟩ (.int .i64 t.gen)).setCell ⟨w.heap.size,k * 15+9,none⟩ (.string ⟨t.st.a.toArray⟩)).setCell ⟨w.heap.size,k * 15+10,none⟩ (.string ⟨t.st.c.toArray⟩)).setCell ⟨w.heap.size,k * 15+11,none⟩ (.int .i64 t.st.ph)).setCell ⟨w.heap.size,k * 15+12,none⟩ (.int .i64 t.st.st)).setCell ⟨w.heap.size,k * 15+13,none⟩ (.int .i64 t.st.we)).setCell ⟨w.heap.size,k * 15+14,none⟩ (.int .i64 t.st.si)):=⟨_,rfl⟩
   have I9:Ll (sZ w (Lj ok w) S (.slice (some ⟨g,0,none⟩) st.ths.length cap) st (k+1) W9):=aa (by rw[hW9];exact I7.o.step SLT.o HV0.o HT.o (K7.o.weak fun j hj=>by have:=I5.o.big;omega));rw[<-hW9];clear hW9;go_wp2_with fail
   go_roundg (st.ths.length - (k+1))
   case measure=>rw[GK.o];omega
   case rel=>exact⟨k+1,hlt,rfl,by go_num,I9⟩
  ·have d9:¬(k:Int) < (st.ths.length:Int):=by omega
   have Mc:k=st.ths.length:=by omega
   have R9:Ll (dm wo w.heap.size (fun j=>w.heap.size < j) st.ths (.slice (some ⟨w.heap.size,0,none⟩) st.ths.length st.ths.length)):=aa (by
    have:=IK.o.row;rwa [Mc,List.take_length,Nat.sub_self,List.replicate_zero,List.append_nil]at this)
   clear Mc;go_wp2_with fail
   go_ret;exact⟨rfl,R9.o,IK.o.bel⟩
theorem Ae(w ok S v)(st:ex)(h:bo w ok S v st):Calls prog 13 #[.pointer (some ⟨S,0,none⟩)] w fun e w'=>e=.returned (.int .i64 st.time)/\w'=w:=by
 have s0_:=h.blk.c;clear h;go_enter func13,ntmps13;go_wp2_with fail
 go_ret;exact⟨rfl,rfl⟩
end Go.Proofs.YtkjeiljdoljjgaaGreatDoor
