import Derived.Test.YtkjeiljdoljjgaaGreatDoorG24
import Derived.Test.YtkjeiljdoljjgaaGreatDoorG25
set_option maxRecDepth 100000
set_option maxHeartbeats 40000000
set_option linter.unusedSimpArgs false
set_option linter.unusedVariables false
namespace Go.Proofs.YtkjeiljdoljjgaaGreatDoor
open Go.RowKit
open _root_.Go.Proofs.Tryz
variable {w w' W:World}
variable {ok:Nat->Prop}
variable {v:Value}
variable {t:V}
variable {g B d:Nat}
section
def jC (w:LC) (g:Nat) (q:cm):Prop:=w.heap[g]?=some (.cells (Lf q) 28)
theorem jC.c{q:cm}(h:jC w g q):w.cell? ⟨g,0,none⟩=some (.int .i64 q.kind)/\w.cell? ⟨g,1,none⟩=some (.string ⟨q.name.toArray⟩)/\w.cell? ⟨g,2,none⟩=some (.string ⟨q.who.toArray⟩)/\w.cell? ⟨g,3,none⟩=some (.string ⟨q.body.toArray⟩)/\w.cell? ⟨g,4,none⟩=some (.int .i64 q.version)/\w.cell? ⟨g,5,none⟩=some (.int .i64 q.n)/\w.cell? ⟨g,6,none⟩=some (.int .i64 q.order)/\w.cell? ⟨g,7,none⟩=some (.bool q.force):=by
 unfold jC at h;refine⟨?_,?_,?_,?_,?_,?_,?_,?_⟩ <;> simp[World.cell?,h]
theorem jC.bel{q:cm}(h:jC w g q)(hb:La w w'):jC w' g q:=(hb.block g (MF.1 h).1).trans h
theorem fN.gr{t a b c oa oc r}(h:fN w g t a b c d oa oc)(hg:w.grownBy w' r)(hr:some g≠r):fN w' g t a b c d oa oc:=(hg.block g (MF.1 h).1 hr).trans h
def IP (W:LC) (g:Nat) (wS:LC):Prop:=W.grownBy wS (some g)/\∃ c0 c1 c2 c3 c4,ag wS g c0 c1 c2 c3 c4
theorem IP.put{wS:LC}{c0 c1 c2 c3 c4}(h:IP W g wS)(hb:ag wS g c0 c1 c2 c3 c4)(d0 d1 d2 d3 d4):IP W g (ar wS g d0 d1 d2 d3 d4):=⟨am h.1 (aI wS g _ _ _ _ _),_,_,_,_,_,hb.set _ _ _ _ _⟩
theorem IP.more{wS}(h:IP W g wS)(hb:La wS w'):IP W g w':=by
 obtain⟨h1,c0,c1,c2,c3,c4,h2⟩:=h;exact⟨am h1 (aq hb),c0,c1,c2,c3,c4,af hb h2⟩
theorem IP.bel{wS}(h:IP W g wS)(hb:La w W)(hg:w.heap.size<=g):La w wS:=
 ⟨h.1.os.trans hb.os,h.1.tape.trans hb.tape,h.1.output.trans hb.output,MH hb.size h.1.size,fun k hk=>(h.1.block k (MI hk hb.size) (by intro e;cases e;omega)).trans (hb.block k hk)⟩
theorem In.outN{w1:LC}{C}(h:In w1 (bg ok B C) t v)(hg:B<=g)(hC:g < C)(d0 d1 d2 d3 d4):In (ar w1 g d0 d1 d2 d3 d4) (bQ ok B) t v:=(h.box hg hC _ _ _ _ _).weak fun k hk=>by
 rcases hk with hk | hk
 ·exact .inl hk.1
 ·exact .inr (by omega)
theorem lT{w1:LC}{C l}(h:aB w1 (bg ok B C) l v)(hg:B<=g)(hC:g < C)(d0 d1 d2 d3 d4):aB (ar w1 g d0 d1 d2 d3 d4) (bQ ok B) l v:=(h.grownR (aI w1 g d0 d1 d2 d3 d4) (fun k hk e=>jB hg hC k hk (by cases e;rfl))).weak fun k hk=>by
 rcases hk with hk | hk
 ·exact .inl hk.1
 ·exact .inr (by omega)
theorem hY{C D}(h:C<=D):∀ k,bQ (bg ok B C) D k->bg ok B C k:=fun k hk=>by
 rcases hk with hk | hk
 ·exact hk
 ·exact .inr (MH h hk)
attribute [local go_sem ↓] Go.wp_at_zero Go.wp_at_succ
theorem rN(w:LC)(ok t a b c d oa oc)(q:cm)(ht:cQ w ok t a b c d oa oc)(hG:cn w)(hM:bj w)(hW:di w)(hN:(bA t.owners).length<=4000000)(hP:∀ o∈t.owners,∀ x∈o.paths,x.length<=140737488351232)(hq:q.body.length<=9223372036854775807)(hw:q.who.length<=9223372036854775807):Calls prog 62 #[.agg (Ld t a c b d oa oc),.agg (Lf q)] w fun e w'=>∃ r ro,e=.returned (.tuple #[r,ro,.int .i64 (aJ t q).2.2])/\In w' (bQ ok w.heap.size) (aJ t q).1 r/\aB w' (bQ ok w.heap.size) (aJ t q).2.1 ro/\La w w':=by
 obtain⟨W3,hW3⟩:∃ W,W=((w.alloc (.cells (Ld t a c b d oa oc) 40)).alloc (.cells (Lf q) 28)).alloc (.cells Lb 35):=⟨_,rfl⟩
 have Y3:Ll (La w W3):=aa (by rw[hW3];exact ab (ab (ae _ _) (ae _ _)) (ae _ _));have X1:Ll (fN W3 w.heap.size t a b c d oa oc):=aa (by rw[hW3];exact lI _ _ _ _);have X2:Ll (jC W3 (w.heap.size+1) q):=aa (by rw[hW3];exact mE _ _ _ _);have X3:Ll (Lc W3 (w.heap.size+2)):=aa (by rw[hW3];exact jI _ _ _ _);have HW3:=aa hW3;have HM:=aa hM;have HW:=aa hW;have HN:=aa hN;have HP:=aa hP;have TI:Ll (In w (bg ok w.heap.size (w.heap.size+3)) t.value (.agg (KV t.value a c b d))):=aa (xN ht.val.low);have TO:Ll (aB w (bg ok w.heap.size (w.heap.size+3)) t.owners (.slice oa t.owners.length oc)):=aa (ht.own.low.weak fun k hk=>.inl hk);have PA0:=FJ W3 q.body (by unfold maxLen;omega) (hG.grown (r:=none) (aq Y3.o) (by simp));obtain⟨p,pe,hp⟩:∃ p pe,cW q.body=(p,pe):=⟨_,_,rfl⟩
 have HPA:=aa hp;have PARSE:Ll (Calls prog 80 #[.string ⟨q.body.toArray⟩] W3 fun e w'=>∃ (a1 b1:Option Addr) (c1 d1:Nat),e=.returned (.tuple #[.agg (KV p a1 c1 b1 d1),.int .i64 pe])/\In w' (bg ok w.heap.size (w.heap.size+3)) p (.agg (KV p a1 c1 b1 d1))/\La W3 w'):=aa (PA0.mono fun e w' h=>by
  obtain⟨p',pe',a7,a8,c7,c8,rfl,h1,h2,h3⟩:=h;rw[hp]at h1;simp only[Prod.mk.injEq]at h1;obtain⟨rfl,rfl⟩:=h1;exact⟨a7,a8,c7,c8,rfl,h2.is.weak fun k hk=>.inr (by have:=X3.o.lt;omega),h3⟩)
 have HQW:=aa hw;clear PA0 hp hW3 hM hW hN hP hq hw ht hG;have q0_:=X2.o.c;go_enter func62,ntmps62;go_upto_region 1 with fail
 rw[<-HW3.o];go_upto_region 2 with (go_at_call 80;refine PARSE.o.mono ?_;rintro e w4 ⟨a1,b1,c1,d1,rfl,h1,hb⟩;have B4:=aa hb;have P4:=aa h1;clear h1 hb)
 obtain⟨W5,hW5⟩:∃ W,W=w4.alloc (.cells (KV p a1 c1 b1 d1) 35):=⟨_,rfl⟩
 have A5:Ll (La w4 W5):=aa (by rw[hW5];exact ae _ _);have PB:Ll (KY W5 w4.heap.size p a1 c1 b1 d1):=aa (by rw[hW5];exact MN _ _);rw[<-hW5];clear hW5;have B35:=aa (ab B4.o A5.o);have Y5:=aa (ab Y3.o B35.o);have P5:=aa (P4.o.bel A5.o);have TB5:=aa (X1.o.bel B35.o);have AB5:=aa (X2.o.bel B35.o);have ZB5:=aa (af B35.o X3.o);have S5:Ll (w.heap.size+3<=W5.heap.size):=aa (by have:=ZB5.o.lt;omega);by_cases hpe:pe=0
 rotate_left
 ·have e0:(pe != 0)=true:=by simpa using hpe
  have e1:(pe == 0)=false:=by rw[MO];exact hpe
  have R:Ll (aJ t q=(t.value,t.owners,pe)):=aa (by unfold aJ;rw[HPA.o,if_pos hpe]);clear hpe;go_upto_region 3 with fail
  have t0_:=TB5.o.c;have NB:=aa ZB5.o;have n0_:=NB.o.c;rw[show w.heap.size+2=w.heap.size+1+1 from rfl]at n0_;have ZB:=aa (LH NB.o.set t.value a c b d);have BW:=aa (LH (aP (Y5.o) (show w.heap.size<=w.heap.size+2 by omega)) t.value a c b d);have RI:=aa ((TI.o.bel (Y5.o)).outN (g:=w.heap.size+2) (by omega) (by omega) (.int .i64 t.value.kind) (.int .i64 t.value.n) (.string ⟨t.value.s.toArray⟩) (.slice a t.value.keys.length c) (.slice b t.value.l.length d));have RO:=aa (lT (TO.o.bel (Y5.o)) (g:=w.heap.size+2) (by omega) (by omega) (.int .i64 t.value.kind) (.int .i64 t.value.n) (.string ⟨t.value.s.toArray⟩) (.slice a t.value.keys.length c) (.slice b t.value.l.length d));go_region
  go_wp2_with fail
  have z0_:=ZB.o.c;rw[show w.heap.size+2=w.heap.size+1+1 from rfl]at z0_;refine MM (v:=.tuple #[.agg (KV t.value a c b d),.slice oa t.owners.length oc,.int .i64 pe]) ?_ rfl ?_
  ·simp only[ar]at z0_;simp[results,results62,go_sem,z0_]
  ·rw[R.o];exact⟨_,_,rfl,RI.o.bel (aC _ 1),RO.o.bel (aC _ 1),ab BW.o (aC _ 1)⟩
 subst hpe;by_cases h5:q.kind=5
 ·have e5:(q.kind == 5)=true:=by simp[h5]
  obtain⟨y,yo,yc,ye,hy⟩:∃ y yo yc ye,eC t.value t.owners q.who p q.force=(y,yo,yc,ye):=⟨_,_,_,_,rfl⟩
  have R:Ll (aJ t q=(y,yo,ye)):=aa (by unfold aJ;rw[HPA.o,if_neg (by simp),if_pos h5,hy]);have AP:=Fl W5 (bg ok w.heap.size (w.heap.size+3)) t.value p t.owners q.who q.force _ _ _ (TI.o.bel Y5.o) (TO.o.bel Y5.o) P5.o (HM.o.bel Y5.o) HN.o HP.o HQW.o;rw[hy]at AP;have APC:Ll (Calls prog 81 #[.agg (KV t.value a c b d),.slice oa t.owners.length oc,.string ⟨q.who.toArray⟩,.agg (KV p a1 c1 b1 d1),.bool q.force] W5 fun e w'=>∃ (a2 b2:Option Addr) (c2 d2:Nat) (ma:Option Addr) (mc:Nat) (ca:Option Addr) (cc:Nat),e=.returned (.tuple #[.agg (KV y a2 c2 b2 d2),.slice ma yo.length mc,.slice ca yc.length cc,.int .i64 ye])/\In w' (bg ok w.heap.size (w.heap.size+3)) y (.agg (KV y a2 c2 b2 d2))/\aB w' (bg ok w.heap.size (w.heap.size+3)) yo (.slice ma yo.length mc)/\La W5 w'):=aa (AP.mono fun e w' h=>by
   obtain⟨r,ro,rc,rfl,h1,h2,h3,hb⟩:=h;obtain⟨a2,b2,c2,d2,rfl⟩:=h1.form;obtain⟨ma,mc,rfl⟩:=h2.form;obtain⟨ca,cc,rfl⟩:∃ a c,rc=.slice a yc.length c:=by
    rcases h3.2 with⟨rfl,h9⟩ | ⟨g,cap,cur,rfl,-⟩
    ·rw[h9];exact⟨_,_,rfl⟩
    ·exact⟨_,_,rfl⟩
   exact⟨a2,b2,c2,d2,ma,mc,ca,cc,rfl,h1.weak (hY S5.o),h2.weak (hY S5.o),hb⟩)
  clear AP hy h5;have t0_:=TB5.o.c;have q0_:=AB5.o.c;have p0_:=PB.o.c;go_upto_region 6 with (go_at_call 81;refine APC.o.mono ?_;rintro e w6 ⟨a2,b2,c2,d2,ma,mc,ca,cc,rfl,h1,h2,hb⟩;have B6:=aa hb;have I6:=aa h1;have O6:=aa h2;clear h1 h2 hb)
  obtain⟨W7,hW7⟩:∃ W,W=w6.alloc (.cells (KV y a2 c2 b2 d2) 35):=⟨_,rfl⟩
  have A7:Ll (La w6 W7):=aa (by rw[hW7];exact ae _ _);have RB:Ll (KY W7 w6.heap.size y a2 c2 b2 d2):=aa (by rw[hW7];exact MN _ _);rw[<-hW7];clear hW7;have B57:=aa (ab B6.o A7.o);have NB:=aa (af B57.o ZB5.o);have p0_:=RB.o.c;have n0_:=NB.o.c;have ZB:=aa (LH NB.o.set y a2 c2 b2 d2);have BW:=aa (LH (aP (ab Y5.o B57.o) (show w.heap.size<=w.heap.size+2 by omega)) y a2 c2 b2 d2);have RI:=aa ((I6.o.bel A7.o).outN (g:=w.heap.size+2) (by omega) (by omega) (.int .i64 y.kind) (.int .i64 y.n) (.string ⟨y.s.toArray⟩) (.slice a2 y.keys.length c2) (.slice b2 y.l.length d2));have RO:=aa (lT (O6.o.bel A7.o) (g:=w.heap.size+2) (by omega) (by omega) (.int .i64 y.kind) (.int .i64 y.n) (.string ⟨y.s.toArray⟩) (.slice a2 y.keys.length c2) (.slice b2 y.l.length d2));go_wp2_with fail
  have z0_:=ZB.o.c;rw[show w.heap.size+2=w.heap.size+1+1 from rfl]at z0_;refine MM (v:=.tuple #[.agg (KV y a2 c2 b2 d2),.slice ma yo.length mc,.int .i64 ye]) ?_ rfl ?_
  ·simp only[ar]at z0_;simp[results,results62,go_sem,z0_]
  ·rw[R.o];exact⟨_,_,rfl,RI.o,RO.o,BW.o⟩
 have e5:(q.kind == 5)=false:=by rw[MO];exact h5
 obtain⟨y,ye,hy⟩:∃ y ye,bW t.value q.kind p=(y,ye):=⟨_,_,rfl⟩
 have CH:=zc W5 (bg ok w.heap.size (w.heap.size+3)) t.value p q.kind _ _ (TI.o.bel Y5.o) P5.o (HM.o.bel Y5.o) (HW.o.bel Y5.o);rw[hy]at CH;have CHC:Ll (Calls prog 82 #[.agg (KV t.value a c b d),.int .i64 q.kind,.agg (KV p a1 c1 b1 d1)] W5 fun e w'=>∃ (a2 b2:Option Addr) (c2 d2:Nat),e=.returned (.tuple #[.agg (KV y a2 c2 b2 d2),.int .i64 ye])/\In w' (bg ok w.heap.size (w.heap.size+3)) y (.agg (KV y a2 c2 b2 d2))/\La W5 w'):=aa (CH.mono fun e w' h=>by
  obtain⟨r,rfl,h1,hb⟩:=h;obtain⟨a2,b2,c2,d2,rfl⟩:=h1.form;exact⟨a2,b2,c2,d2,rfl,h1.weak (hY S5.o),hb⟩)
 have HY:=aa hy;have H5:=aa h5;clear CH hy h5;have t0_:=TB5.o.c;have q0_:=AB5.o.c;have p0_:=PB.o.c;go_upto_region 8 with (go_at_call 82;refine CHC.o.mono ?_;rintro e w6 ⟨a2,b2,c2,d2,rfl,h1,hb⟩;have B6:=aa hb;have I6:=aa h1;clear h1 hb)
 obtain⟨W7,hW7⟩:∃ W,W=w6.alloc (.cells (KV y a2 c2 b2 d2) 35):=⟨_,rfl⟩
 have A7:Ll (La w6 W7):=aa (by rw[hW7];exact ae _ _);have RB:Ll (KY W7 w6.heap.size y a2 c2 b2 d2):=aa (by rw[hW7];exact MN _ _);rw[<-hW7];clear hW7;have B57:=aa (ab B6.o A7.o);have Y7:=aa (ab Y5.o B57.o);have TB7:=aa (TB5.o.bel B57.o);have I7:=aa (I6.o.bel A7.o);have S7:Ll (w.heap.size+3<=w6.heap.size):=aa (MH S5.o B6.o.size);by_cases hye:ye=0
 rotate_left
 ·have e0:(ye != 0)=true:=by simpa using hye
  have e1:(ye == 0)=false:=by rw[MO];exact hye
  have R:Ll (aJ t q=(t.value,t.owners,ye)):=aa (by unfold aJ;rw[HPA.o,if_neg (by simp),if_neg H5.o,HY.o,if_pos hye]);clear hye;go_upto_region 9 with fail
  have t0_:=TB7.o.c;have NB:=aa (af B57.o ZB5.o);have n0_:=NB.o.c;rw[show w.heap.size+2=w.heap.size+1+1 from rfl]at n0_;have ZB:=aa (LH NB.o.set t.value a c b d);have BW:=aa (LH (aP (Y7.o) (show w.heap.size<=w.heap.size+2 by omega)) t.value a c b d);have RI:=aa ((TI.o.bel (Y7.o)).outN (g:=w.heap.size+2) (by omega) (by omega) (.int .i64 t.value.kind) (.int .i64 t.value.n) (.string ⟨t.value.s.toArray⟩) (.slice a t.value.keys.length c) (.slice b t.value.l.length d));have RO:=aa (lT (TO.o.bel (Y7.o)) (g:=w.heap.size+2) (by omega) (by omega) (.int .i64 t.value.kind) (.int .i64 t.value.n) (.string ⟨t.value.s.toArray⟩) (.slice a t.value.keys.length c) (.slice b t.value.l.length d));go_region
  go_wp2_with fail
  have z0_:=ZB.o.c;rw[show w.heap.size+2=w.heap.size+1+1 from rfl]at z0_;refine MM (v:=.tuple #[.agg (KV t.value a c b d),.slice oa t.owners.length oc,.int .i64 ye]) ?_ rfl ?_
  ·simp only[ar]at z0_;simp[results,results62,go_sem,z0_]
  ·rw[R.o];exact⟨_,_,rfl,RI.o.bel (aC _ 1),RO.o.bel (aC _ 1),ab BW.o (aC _ 1)⟩
 subst hye;obtain⟨ko,hko⟩:∃ ko,ir y t.owners=ko:=⟨_,rfl⟩
 have R:Ll (aJ t q=(y,ko,0)):=aa (by unfold aJ;rw[HPA.o,if_neg (by simp),if_neg H5.o,HY.o,if_neg (by simp),hko]);have KEEP:Ll (∀ W,La W7 W->Calls prog 83 #[.agg (KV y a2 c2 b2 d2),.slice oa t.owners.length oc] W fun e w'=>∃ ka kc,e=.returned (.slice ka ko.length kc)/\aB w' (fun k=>W.heap.size<=k) ko (.slice ka ko.length kc)/\La W w'):=aa (fun W hW=>by
  have:=Hz W (bg ok w.heap.size (w.heap.size+3)) y t.owners _ _ (I7.o.bel hW) ((TO.o.bel Y7.o).bel hW) (HM.o.bel (ab Y7.o hW)) HN.o HP.o;rw[hko]at this;exact this)
 clear hko;go_upto_region 10 with fail
 refine aD (fun wS=>La W7 wS) [5] (by kernel_rfl) (aC _ 1) (fun LI=>?_);refine WT.out ?_;iterate 4
  first
   | refine tk (i:=0) (v:=?_) [5,6,7] rfl rfl (by decide +kernel) rfl (fun _ _ _ h=>h) LI ?_ ?_
   | refine tk (i:=1) (v:=?_) [4,5,6,7] rfl rfl (by decide +kernel) rfl (fun _ _ _ h=>h) LI ?_ ?_
   | refine tk (i:=2) (v:=?_) [3,4,5,6,7] rfl rfl (by decide +kernel) rfl (fun _ _ _ h=>h) LI ?_ ?_
   | refine tk (i:=3) (v:=?_) [4,5,6,7] rfl rfl (by decide +kernel) rfl (fun _ _ _ h=>h) LI ?_ ?_
  rotate_left
  ·intro wS LN;have t0_:=(TB7.o.bel LN).c;have p0_:=(af LN RB.o).c;go_simp;all_goals with_reducible rfl
  simp only[av,List.set]
 repeat' (first
  | exact nl
  |(refine ip (i:=4) (o:=_) rfl (fun K hK=>?_) ?_
    go_simp;refine(KEEP.o _ LI).mono ?_;rintro e w4q ⟨ka,kc,rfl,h1,hb5⟩;refine hK.out _ _ (ab LI hb5) (fun LJ=>?_);have KO:Ll (aB w4q (bg ok w.heap.size (w.heap.size+3)) ko (.slice ka ko.length kc)):=aa (h1.weak fun k hk=>.inr (MH (MH S7.o (MH A7.o.size LI.size)) hk));clear hb5 h1;clear hK K;replace LI:=LJ;clear LJ;try simp only[Act.put,Mt,Mu,Mv])
  |(refine jZ (i:=5) (o:=_) (by decide +kernel) rfl (fun K hK=>?_)
    have NB:=aa (af LI (af B57.o ZB5.o));have n0_:=NB.o.c;rw[show w.heap.size+2=w.heap.size+1+1 from rfl]at n0_;have ZB:=aa (LH NB.o.set y a2 c2 b2 d2);have BW:=aa (LH (aP (ab Y7.o LI) (show w.heap.size<=w.heap.size+2 by omega)) y a2 c2 b2 d2);have RI:=aa ((I7.o.bel LI).outN (g:=w.heap.size+2) (by omega) (by omega) (.int .i64 y.kind) (.int .i64 y.n) (.string ⟨y.s.toArray⟩) (.slice a2 y.keys.length c2) (.slice b2 y.l.length d2));have RO:=aa (lT KO.o (g:=w.heap.size+2) (by omega) (by omega) (.int .i64 y.kind) (.int .i64 y.n) (.string ⟨y.s.toArray⟩) (.slice a2 y.keys.length c2) (.slice b2 y.l.length d2));go_simp;refine hK.out _ _ ?_;clear hK K;try simp only[Act.put,Mt,Mu,Mv])
  |(refine jZ (i:=6) (o:=_) (by decide +kernel) rfl (fun K hK=>?_)
    go_simp;refine hK.out _ _ ?_;clear hK K;try simp only[Act.put,Mt,Mu,Mv])
  |(refine jZ (i:=7) (o:=_) (by decide +kernel) rfl (fun K hK=>?_)
    go_simp;refine hK.out _ _ ?_;clear hK K;try simp only[Act.put,Mt,Mu,Mv])
  | refine gc [4] (by decide +kernel) ?_
  | fail)
 all_goals
  refine dn (by kernel_rfl) ?_;have z0_:=ZB.o.c;rw[show w.heap.size+2=w.heap.size+1+1 from rfl]at z0_;go_wp2_with fail
  refine MM (v:=.tuple #[.agg (KV y a2 c2 b2 d2),.slice ka ko.length kc,.int .i64 0]) ?_ rfl ?_
  ·simp only[ar]at z0_;simp[results,results62,go_sem,z0_]
  ·rw[R.o];exact⟨_,_,rfl,RI.o,RO.o,BW.o⟩
end
variable {wr:World}
variable {y:V}
variable {c S:Nat}
def dT:Th:=⟨[],aM,[],0,0,⟨[],[],0,0,0,0⟩⟩
def jE (w:LC) (g:Nat) (t:Th) (a b:Option Addr) (c d:Nat) (oa:Option Addr) (oc:Nat):LC:=(((((((((((((((w.setCell ⟨g,0,none⟩ (.string ⟨t.name.toArray⟩)).setCell ⟨g,1,none⟩ (.int .i64 t.value.kind)).setCell ⟨g,2,none⟩ (.int .i64 t.value.n)).setCell ⟨g,3,none⟩ (.string ⟨t.value.s.toArray⟩)).setCell ⟨g,4,none⟩ (.slice a t.value.keys.length c)).setCell ⟨g,5,none⟩ (.slice b t.value.l.length d)).setCell ⟨g,6,none⟩ (.slice oa t.owners.length oc)).setCell ⟨g,7,none⟩ (.int .i64 t.ver)).setCell ⟨g,8,none⟩ (.int .i64 t.gen)).setCell ⟨g,9,none⟩ (.string ⟨t.st.a.toArray⟩)).setCell ⟨g,10,none⟩ (.string ⟨t.st.c.toArray⟩)).setCell ⟨g,11,none⟩ (.int .i64 t.st.ph)).setCell ⟨g,12,none⟩ (.int .i64 t.st.st)).setCell ⟨g,13,none⟩ (.int .i64 t.st.we)).setCell ⟨g,14,none⟩ (.int .i64 t.st.si))
theorem fN.put15{t0 a0 b0 c0 d0 oa0 oc0}(h:fN w g t0 a0 b0 c0 d0 oa0 oc0)(t a b c d oa oc):fN (jE w g t a b c d oa oc) g t a b c d oa oc:=by
 unfold fN at h ⊢;have h9:=ak (ak (ak (ak (ak (ak (ak (ak (ak (ak (ak (ak (ak (ak (ak (h) 0 (.string ⟨t.name.toArray⟩)) 1 (.int .i64 t.value.kind)) 2 (.int .i64 t.value.n)) 3 (.string ⟨t.value.s.toArray⟩)) 4 (.slice a t.value.keys.length c)) 5 (.slice b t.value.l.length d)) 6 (.slice oa t.owners.length oc)) 7 (.int .i64 t.ver)) 8 (.int .i64 t.gen)) 9 (.string ⟨t.st.a.toArray⟩)) 10 (.string ⟨t.st.c.toArray⟩)) 11 (.int .i64 t.st.ph)) 12 (.int .i64 t.st.st)) 13 (.int .i64 t.st.we)) 14 (.int .i64 t.st.si);unfold jE;rw[h9];simp only[Mt,Mu,Mv]
theorem mz{x:LC}{r}(h:x.grownBy w r)(hg:x.heap.size<=g)(t a b c d oa oc):x.grownBy (jE w g t a b c d oa oc) r:=bi (bi (bi (bi (bi (bi (bi (bi (bi (bi (bi (bi (bi (bi (bi (h) hg _ _) hg _ _) hg _ _) hg _ _) hg _ _) hg _ _) hg _ _) hg _ _) hg _ _) hg _ _) hg _ _) hg _ _) hg _ _) hg _ _) hg _ _
theorem eF.ver1{time ver acts}(h:eF w S v time ver acts)(n):eF (w.setCell ⟨S,2,none⟩ (.int .i64 n)) S v time n acts:=ak h 2 _
theorem eF.gr{time ver acts r}(h:eF w S v time ver acts)(hg:w.grownBy w' r)(hr:some S≠r):eF w' S v time ver acts:=(hg.block S (MF.1 h).1 hr).trans h
theorem fM.gr{i r}(h:fM w g i v)(hg:w.grownBy w' r)(hr:some g≠r):fM w' g i v:=(hg.block g (MF.1 h).1 hr).trans h
theorem lW(w:LC)(g o s):w.grownBy (mV w g o s) (some g):=ap (ap (ap (ap (ap (ap (az _ _) _ _) _ _) _ _) _ _) _ _) _ _
theorem Gx{l}(h:bk w l v)(hk:∀ a x,v.ownBlock=some a.block->w.cell? a=some x->w'.cell? a=some x):bk w' l v:=by
 refine⟨h.1,?_⟩;rcases h.2 with h | ⟨b,off,c,rfl,h1,h2,h3⟩
 ·exact .inl h
 ·exact .inr ⟨b,off,c,rfl,h1,h2,fun i x hx=>⟨hk _ _ rfl (h3 i x hx).1,hk _ _ rfl (h3 i x hx).2⟩⟩
structure kU (w:LC) (ok:Nat->Prop) (S:Nat) (v:Value) (time acts:Int) (y:V) (yo:List aL) (im:Lz) (sps:List dN) (vg pg:Nat) (a2 b2:Option Addr) (c2 d2:Nat) (ma sa:Option Addr) (mc sc:Nat) (t:Th) (a b:Option Addr) (c d:Nat) (oa:Option Addr) (oc:Nat) (ver:Int) (wr:LC):Prop where
 th:fN wr w.heap.size t a b c d oa oc
 res:fN wr (w.heap.size+2) dT none none 0 0 none 0
 val:KY wr vg y a2 c2 b2 d2
 spec:fM wr pg im (.slice sa sps.length sc)
 srv:eF wr S v time ver acts
 gb:w.grownBy wr (some S)
 inY:In wr (bg ok w.heap.size (w.heap.size+3)) y (.agg (KV y a2 c2 b2 d2))
 own:aB wr (bg ok w.heap.size (w.heap.size+3)) yo (.slice ma yo.length mc)
 stp:bk wr sps (.slice sa sps.length sc)
 new:∀ k,(Value.slice sa sps.length sc).ownBlock=some k->w.heap.size+3<=k
 low:S < w.heap.size
 nok:¬ok S
 vg3:w.heap.size+3<=vg
 pg3:w.heap.size+3<=pg
theorem kU.bel{time acts yo im sps vg pg a2 b2 c2 d2 ma sa mc sc t a b oa oc ver}{wr':LC}(h:kU w ok S v time acts y yo im sps vg pg a2 b2 c2 d2 ma sa mc sc t a b c d oa oc ver wr)(hb:La wr wr'):kU w ok S v time acts y yo im sps vg pg a2 b2 c2 d2 ma sa mc sc t a b c d oa oc ver wr':=
 ⟨h.th.bel hb,h.res.bel hb,af hb h.val,h.spec.bel hb,h.srv.bel hb,am h.gb (aq hb),h.inY.bel hb,h.own.bel hb,h.stp.bel hb,h.new,h.low,h.nok,h.vg3,h.pg3⟩
theorem kU.gr{time acts yo im sps vg pg a2 b2 c2 d2 ma sa mc sc t a b oa oc ver}{wr':LC}{r}(h:kU w ok S v time acts y yo im sps vg pg a2 b2 c2 d2 ma sa mc sc t a b c d oa oc ver wr)(hg:wr.grownBy wr' (some r))(hr:r=S\/r=w.heap.size){t' a9 b9 c9 d9 oa9 oc9 ver'}(ht:fN wr' w.heap.size t' a9 b9 c9 d9 oa9 oc9)(hs:eF wr' S v time ver' acts):kU w ok S v time acts y yo im sps vg pg a2 b2 c2 d2 ma sa mc sc t' a9 b9 c9 d9 oa9 oc9 ver' wr':=by
 have h1:=h.low;have h2:=h.vg3;have h3:=h.pg3;have hok:∀ k,bg ok w.heap.size (w.heap.size+3) k->some k≠some r:=by
  intro k hk e;cases e;rcases hk with hk | hk
  ·rcases hr with rfl | rfl
   ·exact h.nok hk.1
   ·exact Nat.lt_irrefl _ hk.2
  ·omega
 refine⟨ht,h.res.gr hg (fun e=>by cases e;omega),h.val.grown hg (fun e=>by cases e;omega),h.spec.gr hg (fun e=>by cases e;omega),hs,?_,h.inY.grownR hg hok,h.own.grownR hg hok,?_,h.new,h.low,h.nok,h.vg3,h.pg3⟩
 ·exact⟨hg.os.trans h.gb.os,hg.tape.trans h.gb.tape,hg.output.trans h.gb.output,MH h.gb.size hg.size,fun k hk hr'=>(hg.block k (MI hk h.gb.size) (fun e=>by
   cases e;rcases hr with rfl | rfl
   ·exact hr' rfl
   ·omega)).trans (h.gb.block k hk hr')⟩
 ·refine Gx h.stp fun a x e hx=>?_;have h4:=h.new _ e;rw[<-hx];have h5:a.block < wr.heap.size:=World.block_lt_of_cell? wr a hx;have h6:=hg.block a.block h5 (fun e=>by cases e;omega);simp only[World.cell?,h6]
theorem kU.verS{time acts yo im sps vg pg a2 b2 c2 d2 ma sa mc sc t a b oa oc ver}(h:kU w ok S v time acts y yo im sps vg pg a2 b2 c2 d2 ma sa mc sc t a b c d oa oc ver wr)(n):kU w ok S v time acts y yo im sps vg pg a2 b2 c2 d2 ma sa mc sc t a b c d oa oc n (wr.setCell ⟨S,2,none⟩ (.int .i64 n)):=
 h.gr (r:=S) (ap (az _ _) _ _) (.inl rfl) (h.th.gr (ap (az _ _) _ _) (fun e=>by cases e;exact Nat.lt_irrefl _ h.low)) (h.srv.ver1 n)
theorem kU.verT{time acts yo im sps vg pg a2 b2 c2 d2 ma sa mc sc t a b oa oc ver}(h:kU w ok S v time acts y yo im sps vg pg a2 b2 c2 d2 ma sa mc sc t a b c d oa oc ver wr)(n):kU w ok S v time acts y yo im sps vg pg a2 b2 c2 d2 ma sa mc sc { t with ver:=n } a b c d oa oc ver (wr.setCell ⟨w.heap.size,7,none⟩ (.int .i64 n)):=
 h.gr (r:=w.heap.size) (ap (az _ _) _ _) (.inr rfl) (h.th.ver n) (h.srv.gr (ap (az _ _) _ _) (fun e=>by cases e;exact Nat.lt_irrefl _ h.low))
theorem kU.genT{time acts yo im sps vg pg a2 b2 c2 d2 ma sa mc sc t a b oa oc ver}(h:kU w ok S v time acts y yo im sps vg pg a2 b2 c2 d2 ma sa mc sc t a b c d oa oc ver wr)(n):kU w ok S v time acts y yo im sps vg pg a2 b2 c2 d2 ma sa mc sc { t with gen:=n } a b c d oa oc ver (wr.setCell ⟨w.heap.size,8,none⟩ (.int .i64 n)):=
 h.gr (r:=w.heap.size) (ap (az _ _) _ _) (.inr rfl) (h.th.gen n) (h.srv.gr (ap (az _ _) _ _) (fun e=>by cases e;exact Nat.lt_irrefl _ h.low))
theorem kU.staT{time acts yo im sps vg pg a2 b2 c2 d2 ma sa mc sc t a b oa oc ver}(h:kU w ok S v time acts y yo im sps vg pg a2 b2 c2 d2 ma sa mc sc t a b c d oa oc ver wr)(s):kU w ok S v time acts y yo im sps vg pg a2 b2 c2 d2 ma sa mc sc { t with st:=s } a b c d oa oc ver (mV wr w.heap.size 9 s):=
 h.gr (r:=w.heap.size) (lW _ _ _ _) (.inr rfl) (h.th.sta s) (h.srv.gr (lW _ _ _ _) (fun e=>by cases e;exact Nat.lt_irrefl _ h.low))
end Go.Proofs.YtkjeiljdoljjgaaGreatDoor
