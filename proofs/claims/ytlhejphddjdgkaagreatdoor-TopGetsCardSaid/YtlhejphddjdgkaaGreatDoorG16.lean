import Derived.Test.YtlhejphddjdgkaaGreatDoorG14
set_option maxRecDepth 100000
set_option maxHeartbeats 40000000
set_option linter.unusedSimpArgs false
set_option linter.unusedVariables false
namespace Go.Proofs.YtlhejphddjdgkaaGreatDoor
open Go.RowKit
open _root_.Go.Proofs.Tryz
variable {w:World}
variable {ok:Nat->Prop}
variable {k c:Nat}
def lF (f:V->jf->V × Int):List jf->V->V × Int
 | [],t=>(t,0)
 | o :: os,t=>if (f t o).2≠0 then (t,(f t o).2) else lF f os (f t o).1
def qU (f:V->jf->V × Int) (os:List jf) (t:V):V × Int:=
 if 20 < os.length then (t,2) else if (lF f os t).2≠0 then (t,(lF f os t).2) else ((lF f os t).1,0)
def qb (f:V->jf->V × Int):List jf->V->Prop
 | [],_=>True
 | o :: os,t=>kZ (f t o) o t/\((f t o).2=0->qb f os (f t o).1)
def Jr (w:LC) (ok:Nat->Prop) (f:V->jf->V × Int) (os:List jf) (t:V) (a1 a2:Option Addr) (c1 c2 k:Nat) (wr:LC):Prop:=
 ∃ (y:V) (a5 a6:Option Addr) (c5 c6:Nat),lF f os t=lF f (os.drop k) y/\qb f (os.drop k) y/\KY wr w.heap.size t a1 c1 a2 c2/\Lc wr (w.heap.size+1)/\KY wr (w.heap.size+2) y a5 c5 a6 c6/\La w wr/\In wr (bg ok w.heap.size (w.heap.size+3)) y (.agg (KV y a5 c5 a6 c6))
theorem eX.item{os:List jf}{a m}(h:eX w ok os (.slice a m c))(hk:k < os.length):∃ (b off:Nat) (a7 a8:Option Addr) (c7 c8:Nat),a=some ⟨b,off,none⟩/\os.length<=c/\c<=9223372036854775807 /\
 w.cell? ⟨b,off+k * 8,none⟩=some (.int .i64 os[k].kind)/\w.cell? ⟨b,off+k * 8+1,none⟩=some (.string ⟨os[k].path.toArray⟩)/\w.cell? ⟨b,off+k * 8+2,none⟩=some (.string ⟨os[k].frm.toArray⟩)/\w.cell? ⟨b,off+k * 8+3,none⟩=some (.int .i64 os[k].value.kind) /\
 w.cell? ⟨b,off+k * 8+4,none⟩=some (.int .i64 os[k].value.n)/\w.cell? ⟨b,off+k * 8+5,none⟩=some (.string ⟨os[k].value.s.toArray⟩)/\w.cell? ⟨b,off+k * 8+6,none⟩=some (.slice a7 os[k].value.keys.length c7)/\w.cell? ⟨b,off+k * 8+7,none⟩=some (.slice a8 os[k].value.l.length c8)/\od w ok os[k] (.agg #[.int .i64 os[k].kind,.string ⟨os[k].path.toArray⟩,.string ⟨os[k].frm.toArray⟩,.int .i64 os[k].value.kind,.int .i64 os[k].value.n,.string ⟨os[k].value.s.toArray⟩,.slice a7 os[k].value.keys.length c7,.slice a8 os[k].value.l.length c8]):=by
 rcases h.2 with⟨e,_⟩ | ⟨b,off,c',e,h1,h2,Mb⟩
 ·rw[e]at hk;simp at hk
 ·simp only[Value.slice.injEq]at e;obtain⟨rfl,-,rfl⟩:=e;obtain⟨v0,v1,v2,v3,v4,v5,v6,v7,-,g0,g1,g2,g3,g4,g5,g6,g7,g8⟩:=Mb k os[k] (Mw hk);have g9:=g8;obtain⟨o1,o2,o3,a7,a8,c7,c8,e,-⟩:=g8;simp only[Value.agg.injEq,Array.mk.injEq,List.cons.injEq,and_true]at e;obtain⟨rfl,rfl,rfl,rfl,rfl,rfl,rfl,rfl⟩:=e;exact⟨b,off,a7,a8,c7,c8,rfl,h1,h2,g0,g1,g2,g3,g4,g5,g6,g7,g9⟩
theorem JF(f:V->jf->V × Int)(w:LC)(ok t)(os:List jf)(v ov)(h:In w ok t v)(ho:eX w ok os ov)(hM:bj w)(hok:os.length<=20->qb f os t):Calls prog 114 #[v,ov] w fun e w'=>∃ r,e=.returned (.tuple #[r,.int .i64 (qU f os t).2])/\La w w'/\In w' (bQ ok w.heap.size) (qU f os t).1 r:=by
 have H:=aa h.low;have HMM:=aa hM;have HOS:=aa ho;have olen:=ho.1;obtain⟨l1,l2,l3⟩:=h.lens;obtain⟨a1,a2,c1,c2,rfl⟩:=h.form;obtain⟨oa,oc,rfl⟩:=ho.form;clear h hM ho;by_cases h20:20 < os.length
 ·have e0:(20:Int) < (os.length:Int):=by omega
  have HA:Ll (qU f os t=(t,2)):=aa (by unfold qU;rw[if_pos h20]);have HB:Ll (La w ((w.alloc (.cells (KV t a1 c1 a2 c2) 32)).alloc (.cells (KV t a1 c1 a2 c2) 32))):=ab (ae _ _) (ae _ _);have K:=aa ((H.o.bel HB.o).weak (oH));clear h20 hok;go_enter func114,ntmps114;go_wp2_with fail
  refine MM (v:=.tuple #[.agg (KV t a1 c1 a2 c2),.int .i64 2]) ?_ rfl ?_
  ·simp[results,results114,go_sem]
  ·refine⟨_,by rw[HA.o],HB.o,?_⟩;rw[HA.o];exact K.o
 ·have e0:¬((20:Int) < (os.length:Int)):=by omega
  have HR:Ll (qU f os t=if (lF f os t).2≠0 then (t,(lF f os t).2) else ((lF f os t).1,0)):=aa (by unfold qU;rw[if_neg h20]);have B3:Ll (∀ o1 o2 o3,La w (((w.alloc o1).alloc o2).alloc o3)):=fun o1 o2 o3=>ab (ab (ae _ _) (ae _ _)) (ae _ _);have S0:Ll (∀ W:LC,W=((w.alloc (.cells (KV t a1 c1 a2 c2) 32)).alloc (.cells Lb 32)).alloc (.cells (KV t a1 c1 a2 c2) 32)->Jr w ok f os t a1 a2 c1 c2 0 W):=by
   rintro W rfl;exact⟨t,a1,a2,c1,c2,rfl,hok (by omega),lI w _ _ _,mE w _ _ _,jI w _ _ _,B3.o _ _ _,(H.o.bel (B3.o _ _ _)).weak aO⟩
  clear hok h20;go_enter func114,ntmps114;go_wp2_with fail
  go_loopg [18] os.length (fun gk i wr=>∃ k:Nat,k<=os.length/\gk=os.length - k/\i=.int .i64 k/\Jr w ok f os t a1 a2 c1 c2 k wr)
  case atStart=>exact⟨0,Nat.zero_le _,rfl,rfl,S0.o _ rfl⟩
  case round=>
   obtain⟨k,hk,hgk,rfl,y,a5,a6,c5,c6,i1,i2,i3,i4,i5,i6,i7⟩:=hrel;have GK:=aa hgk;have I:Ll (lF f os t=lF f (os.drop k) y/\qb f (os.drop k) y/\KY wr w.heap.size t a1 c1 a2 c2/\Lc wr (w.heap.size+1)/\KY wr (w.heap.size+2) y a5 c5 a6 c6/\La w wr/\In wr (bg ok w.heap.size (w.heap.size+3)) y (.agg (KV y a5 c5 a6 c6))):=⟨i1,i2,i3,i4,i5,i6,i7⟩
   have hwsz:=i5.lt;clear hgk i1 i2 i3 i4 i5 i6 i7;by_cases hlt:k < os.length
   ·obtain⟨b,off,a7,a8,c7,c8,rfl,hc1,hc2,g0,g1,g2,g3,g4,g5,g6,g7,g8⟩:=HOS.o.item hlt;have OK:=aa (g8.low);replace g0:=ah I.o.2.2.2.2.2.1 g0;replace g1:=ah I.o.2.2.2.2.2.1 g1;replace g2:=ah I.o.2.2.2.2.2.1 g2;replace g3:=ah I.o.2.2.2.2.2.1 g3;replace g4:=ah I.o.2.2.2.2.2.1 g4;replace g5:=ah I.o.2.2.2.2.2.1 g5;replace g6:=ah I.o.2.2.2.2.2.1 g6;replace g7:=ah I.o.2.2.2.2.2.1 g7;have RS:Ll (lF f (os.drop k) y=if (f y os[k]).2≠0 then (y,(f y os[k]).2) else lF f (os.drop (k+1)) (f y os[k]).1):=aa (by rw[ME hlt,lF]);have AO:Ll (kZ (f y os[k]) os[k] y/\((f y os[k]).2=0->qb f (os.drop (k+1)) (f y os[k]).1)):=aa (by have:=I.o.2.1;rw[ME hlt,qb]at this;exact this);have hb8:=ae wr (.cells #[.int .i64 os[k].kind,.string ⟨os[k].path.toArray⟩,.string ⟨os[k].frm.toArray⟩,.int .i64 os[k].value.kind,.int .i64 os[k].value.n,.string ⟨os[k].value.s.toArray⟩,.slice a7 os[k].value.keys.length c7,.slice a8 os[k].value.l.length c8] 186);obtain⟨p0,p1,p2,p3,p4,-⟩:=(af hb8 I.o.2.2.2.2.1).c;clear g8;go_wp2_with fail
    refine(AO.o.1 _ (bg ok w.heap.size (w.heap.size+3)) _ _ (by exact I.o.2.2.2.2.2.2.bel (ae _ _)) (by exact(OK.o.bel (ab I.o.2.2.2.2.2.1 (ae _ _))).weak aO) (by exact HMM.o.bel (ab I.o.2.2.2.2.2.1 (ae _ _)))).mono ?_;rintro e w2 ⟨r,rfl,hb2,hr⟩;obtain⟨q,hq⟩:∃ q,f y os[k]=q:=⟨_,rfl⟩
    rw[hq]at hr AO RS ⊢;obtain⟨z,ze⟩:=q;simp only at hr AO RS ⊢;obtain⟨a3,a4,c3,c4,rfl⟩:=hr.form;have LW:=ab (ab hb8 hb2) (ae w2 (.cells (KV z a3 c3 a4 c4) 32));have hr':In (w2.alloc (.cells (KV z a3 c3 a4 c4) 32)) (bg ok w.heap.size (w.heap.size+3)) z (.agg (KV z a3 c3 a4 c4)):=(hr.bel (ae _ _)).weak (fun j hj=>by
     rcases hj with hj | hj
     ·exact hj
     ·have:=hb8.size;exact .inr (by omega))
    have K:Ll (KY (w2.alloc (.cells (KV z a3 c3 a4 c4) 32)) w.heap.size t a1 c1 a2 c2/\Lc (w2.alloc (.cells (KV z a3 c3 a4 c4) 32)) (w.heap.size+1)/\KY (w2.alloc (.cells (KV z a3 c3 a4 c4) 32)) (w.heap.size+2) y a5 c5 a6 c6/\La w (w2.alloc (.cells (KV z a3 c3 a4 c4) 32))/\In (w2.alloc (.cells (KV z a3 c3 a4 c4) 32)) (bg ok w.heap.size (w.heap.size+3)) z (.agg (KV z a3 c3 a4 c4))/\KY (w2.alloc (.cells (KV z a3 c3 a4 c4) 32)) w2.heap.size z a3 c3 a4 c4):=⟨af LW I.o.2.2.1,af LW I.o.2.2.2.1,af LW I.o.2.2.2.2.1,ab I.o.2.2.2.2.2.1 LW,hr',MN w2 _⟩
    clear hq hr hr' hb2 LW hb8 g0 g1 g2 g3 g4 g5 g6 g7;by_cases hze:ze=0
    ·subst hze;have FIN:Ll (Jr w ok f os t a1 a2 c1 c2 (k+1) (LG (w2.alloc (.cells (KV z a3 c3 a4 c4) 32)) (w.heap.size+2) z a3 c3 a4 c4)):=by
      have g1:=aI (w2.alloc (.cells (KV z a3 c3 a4 c4) 32)) (w.heap.size+2) (.int .i64 z.kind) (.int .i64 z.n) (.string ⟨z.s.toArray⟩) (.slice a3 z.keys.length c3) (.slice a4 z.l.length c4);refine⟨z,a3,a4,c3,c4,?_,AO.o.2 rfl,K.o.1.grown g1 (by simp),K.o.2.1.grown g1 (by simp),K.o.2.2.1.set _ _ _ _ _,aP K.o.2.2.2.1 (by omega) _ _ _ _ _,K.o.2.2.2.2.1.box (by omega) (by omega) _ _ _ _ _⟩;rw[I.o.1,RS.o];simp
     obtain⟨p0,p1,p2,p3,p4,p5,p6,p7,p8,p9⟩:=K.o.2.2.1.c;have q0_:=K.o.2.2.2.2.2.c;clear K;go_wp2_with fail
     go_roundg (os.length - (k+1))
     case measure=>rw[GK.o];omega
     case rel=>exact⟨k+1,hlt,rfl,by go_num,FIN.o⟩
    ·have e1:(ze != 0)=true:=by rw[bne_iff_ne];exact hze
     have e2:(ze == 0)=false:=by rw[MO];exact hze
     have HZE:=aa hze;clear hze;obtain⟨p0,p1,p2,p3,p4,-⟩:=(K.o.1).c;have x0_:=(K.o.2.1).c;have Z:Ll (_/\_):=aN (C:=((w2.alloc (.cells (KV z a3 c3 a4 c4) 32))).heap.size) (g:=w.heap.size+1) ((H.o.bel K.o.2.2.2.1).weak (aO (C:=((w2.alloc (.cells (KV z a3 c3 a4 c4) 32))).heap.size))) K.o.2.2.2.1 (by omega) (K.o.2.1).lt;have ZB:Ll _:=aa ((K.o.2.1).set (.int .i64 t.kind) (.int .i64 t.n) (.string ⟨t.s.toArray⟩) (.slice a1 t.keys.length c1) (.slice a2 t.l.length c2));have HA:Ll (qU f os t=(t,ze)):=aa (by rw[HR.o,I.o.1,RS.o,if_pos HZE.o];simp only;rw[if_pos HZE.o]);clear K;go_wp2_with fail
     have z0_:=ZB.o.c;refine MM (v:=.tuple #[.agg (KV t a1 c1 a2 c2),.int .i64 ze]) ?_ rfl ?_
     ·simp only[ar]at z0_;simp[results,results114,go_sem,z0_]
     ·refine⟨_,by rw[HA.o],Z.o.1,?_⟩;rw[HA.o];exact Z.o.2
   ·have Mc:k=os.length:=by omega
    subst Mc;have HA:Ll (qU f os t=(y,0)):=aa (by rw[HR.o,I.o.1,List.drop_length];simp[lF]);obtain⟨p0,p1,p2,p3,p4,-⟩:=I.o.2.2.2.2.1.c;have x0_:=I.o.2.2.2.1.c;have Z:Ll (_/\_):=aN (g:=w.heap.size+1) I.o.2.2.2.2.2.2 I.o.2.2.2.2.2.1 (by omega) (by omega);have ZB:Ll _:=aa (LH I.o.2.2.2.1.set y a5 c5 a6 c6);go_wp2_with fail
    have z0_:=ZB.o.c;refine MM (v:=.tuple #[.agg (KV y a5 c5 a6 c6),.int .i64 0]) ?_ rfl ?_
    ·simp only[ar]at z0_;simp[results,results114,go_sem,z0_]
    ·refine⟨_,by rw[HA.o],Z.o.1,?_⟩;rw[HA.o];exact Z.o.2
end Go.Proofs.YtlhejphddjdgkaaGreatDoor
