import Derived.Test.YtkjeiljdoljjgaaGreatDoorG27
set_option maxRecDepth 100000
set_option maxHeartbeats 40000000
set_option linter.unusedSimpArgs false
set_option linter.unusedVariables false
namespace Go.Proofs.YtkjeiljdoljjgaaGreatDoor
open Go.RowKit
open _root_.Go.Proofs.Tryz
variable {w wr:World}
variable {ok:Nat->Prop}
variable {v:Value}
variable {y:V}
variable {g B c S d:Nat}
section
theorem g15(w:LC)(g t a b c d oa oc):w.grownBy (jE w g t a b c d oa oc) (some g):=ap (ap (ap (ap (ap (ap (ap (ap (ap (ap (ap (ap (ap (ap (ap (az _ _) _ _) _ _) _ _) _ _) _ _) _ _) _ _) _ _) _ _) _ _) _ _) _ _) _ _) _ _) _ _
theorem kU.putV{time acts yo im sps vg pg a2 b2 c2 d2 ma sa mc sc t a b oa oc ver}(h:kU w ok S v time acts y yo im sps vg pg a2 b2 c2 d2 ma sa mc sc t a b c d oa oc ver wr)(a9 b9 c9 d9 oa9 oc9):kU w ok S v time acts y yo im sps vg pg a2 b2 c2 d2 ma sa mc sc { t with value:=y,owners:=yo } a9 b9 c9 d9 oa9 oc9 ver ((((((wr.setCell ⟨w.heap.size,1,none⟩ (.int .i64 y.kind)).setCell ⟨w.heap.size,2,none⟩ (.int .i64 y.n)).setCell ⟨w.heap.size,3,none⟩ (.string ⟨y.s.toArray⟩)).setCell ⟨w.heap.size,4,none⟩ (.slice a9 y.keys.length c9)).setCell ⟨w.heap.size,5,none⟩ (.slice b9 y.l.length d9)).setCell ⟨w.heap.size,6,none⟩ (.slice oa9 yo.length oc9)):=by
 have g:wr.grownBy ((((((wr.setCell ⟨w.heap.size,1,none⟩ (.int .i64 y.kind)).setCell ⟨w.heap.size,2,none⟩ (.int .i64 y.n)).setCell ⟨w.heap.size,3,none⟩ (.string ⟨y.s.toArray⟩)).setCell ⟨w.heap.size,4,none⟩ (.slice a9 y.keys.length c9)).setCell ⟨w.heap.size,5,none⟩ (.slice b9 y.l.length d9)).setCell ⟨w.heap.size,6,none⟩ (.slice oa9 yo.length oc9)) (some w.heap.size):=ap (ap (ap (ap (ap (ap (az _ _) _ _) _ _) _ _) _ _) _ _) _ _;exact h.gr g (.inr rfl) (h.th.putV y yo a9 b9 c9 d9 oa9 oc9) (h.srv.gr g (fun e=>by cases e;exact Nat.lt_irrefl _ h.low))
theorem cQ.out15{w1:LC}{C x a b oa oc}(h:cQ w1 (bg ok B C) x a b c d oa oc)(hg:B<=g)(hC:g < C)(t a9 b9 c9 d9 oa9 oc9):cQ (jE w1 g t a9 b9 c9 d9 oa9 oc9) (bQ ok B) x a b c d oa oc:=by
 have hk:∀ k,bg ok B C k->some k≠some g:=fun k hk e=>jB hg hC k hk (by cases e;rfl);have h2:∀ k,bg ok B C k->bQ ok B k:=fun k hk=>by
  rcases hk with hk | hk
  ·exact .inl hk.1
  ·exact .inr (by omega)
 exact⟨h.name,(h.val.grownR (g15 w1 g t a9 b9 c9 d9 oa9 oc9) hk).weak h2,(h.own.grownR (g15 w1 g t a9 b9 c9 d9 oa9 oc9) hk).weak h2⟩
theorem kU.ok15{time acts:Int}{yo:List aL}{im:Lz}{sps:List dN}{vg pg:Nat}{a2 b2}{c2 d2:Nat}{ma sa}{mc sc:Nat}{t:Th}{a b oa}{oc:Nat}{ver:Int}{tE t0:Th}{s:dI}(h:kU w ok S v time acts y yo im sps vg pg a2 b2 c2 d2 ma sa mc sc t a b c d oa oc ver wr)(ht:t={ tE with st:=s })(he:tE.name=t0.name/\tE.value=y/\tE.owners=yo)(hn:t0.name.length<=9223372036854775807):cQ (jE wr (w.heap.size+2) t a2 b2 c2 d2 ma mc) (bQ ok w.heap.size) t a2 b2 c2 d2 ma mc:=by
 obtain⟨e1,e2,e3⟩:=he;have f1:t.name=t0.name:=by rw[ht];exact e1
 have f2:t.value=y:=by rw[ht];exact e2
 have f3:t.owners=yo:=by rw[ht];exact e3
 refine cQ.out15 (C:=w.heap.size+3) ⟨by rw[f1];exact hn,by rw[f2];exact h.inY,by rw[f3];exact h.own⟩ (by omega) (by omega) t _ _ _ _ _ _
theorem Kb{time ver t yo im sps fs ns fe ne}(hr:bE y=(im,sps))(h0:t.gen=0)(hf:fV im sps=(fs,fe))(hn:ij im sps fs time 0=(ns,ne)):((jw time ver t y yo).1,(jw time ver t y yo).2,(0:Int))=((⟨t.name,y,yo,ver+1,t.gen+1,ns⟩:Th),ver+1,0):=by
 simp only[jw,hr,h0,true_or,if_true,hf,hn]
theorem JZ{time ver t yo im sps ns ne}(hr:bE y=(im,sps))(h0:¬t.gen=0)(hy:¬y=t.value)(hn:ij im sps t.st time 0=(ns,ne)):((jw time ver t y yo).1,(jw time ver t y yo).2,(0:Int))=((⟨t.name,y,yo,ver+1,t.gen+1,ns⟩:Th),ver+1,0):=by
 have e:(t.gen=0\/y≠t.value)\/yo≠t.owners:=.inl (.inr hy);have e2:t.gen=0\/y≠t.value:=.inr hy;simp only[jw,hr,if_pos e,if_pos e2,if_neg h0,hn]
theorem Kw{time ver t yo im sps ns ne}(hr:bE y=(im,sps))(h0:¬t.gen=0)(hy:y=t.value)(ho:¬yo=t.owners)(hn:ij im sps t.st time 0=(ns,ne)):((jw time ver t y yo).1,(jw time ver t y yo).2,(0:Int))=((⟨t.name,y,yo,ver+1,t.gen,ns⟩:Th),ver+1,0):=by
 have e:(t.gen=0\/y≠t.value)\/yo≠t.owners:=.inr ho;have e2:¬(t.gen=0\/y≠t.value):=by rintro (h | h);exact h0 h;exact h hy
 simp only[jw,hr,if_pos e,if_neg e2,if_neg h0,hn]
theorem Ku{time ver t yo im sps ns ne}(hr:bE y=(im,sps))(h0:¬t.gen=0)(hy:y=t.value)(ho:yo=t.owners)(hn:ij im sps t.st time 0=(ns,ne)):((jw time ver t y yo).1,(jw time ver t y yo).2,(0:Int))=((⟨t.name,y,yo,t.ver,t.gen,ns⟩:Th),ver,0):=by
 have e:¬((t.gen=0\/y≠t.value)\/yo≠t.owners):=by rintro ((h | h) | h);exact h0 h;exact h hy;exact h ho
 have e2:¬(t.gen=0\/y≠t.value):=by rintro (h | h);exact h0 h;exact h hy
 simp only[jw,hr,if_neg e,if_neg e2,if_neg h0,hn]
attribute [local go_sem ↓] Go.wp_at_zero Go.wp_at_succ
open Classical in
theorem CO(w:LC)(ok S v time ver acts t a b c d oa oc)(q:cm)(hs:eF w S v time ver acts)(hS:¬ok S)(hv:0<=ver/\ver<=1000)(hgn:0<=t.gen/\t.gen<=1000)(ht:cQ w ok t a b c d oa oc)(hG:cn w)(hM:bj w)(hW:di w)(hN:(bA t.owners).length<=4000000)(hP:∀ o∈t.owners,∀ x∈o.paths,x.length<=140737488351232)(hq:q.body.length<=9223372036854775807)(hw:q.who.length<=9223372036854775807)(hx:(aJ t q).2.2≠0\/cI (aJ t q).1≠0):Calls prog 47 #[.pointer (some ⟨S,0,none⟩),.agg (Ld t a c b d oa oc),.agg (Lf q)] w fun e w'=>∃ a9 b9 c9 d9 oa9 oc9,e=.returned (.tuple #[.agg #[.string ⟨(al time ver t q).1.name.toArray⟩,.int .i64 (al time ver t q).1.value.kind,.int .i64 (al time ver t q).1.value.n,.string ⟨(al time ver t q).1.value.s.toArray⟩,.slice a9 (al time ver t q).1.value.keys.length c9,.slice b9 (al time ver t q).1.value.l.length d9,.slice oa9 (al time ver t q).1.owners.length oc9,.int .i64 (al time ver t q).1.ver,.int .i64 (al time ver t q).1.gen,.string ⟨(al time ver t q).1.st.a.toArray⟩,.string ⟨(al time ver t q).1.st.c.toArray⟩,.int .i64 (al time ver t q).1.st.ph,.int .i64 (al time ver t q).1.st.st,.int .i64 (al time ver t q).1.st.we,.int .i64 (al time ver t q).1.st.si],.int .i64 (al time ver t q).2.2])/\cQ w' (bQ ok w.heap.size) (al time ver t q).1 a9 b9 c9 d9 oa9 oc9/\eF w' S v time (al time ver t q).2.1 acts/\w.grownBy w' (some S):=by
 obtain⟨W3,hW3⟩:∃ W,W=((w.alloc (.cells (Ld t a c b d oa oc) 40)).alloc (.cells (Lf q) 28)).alloc (.cells Le 40):=⟨_,rfl⟩
 have Y3:Ll (La w W3):=aa (by rw[hW3];exact ab (ab (ae _ _) (ae _ _)) (ae _ _));have Y3g:Ll (w.grownBy W3 (some S)):=aa (aq Y3.o);have X1:Ll (fN W3 w.heap.size t a b c d oa oc):=aa (by rw[hW3];exact lI _ _ _ _);have X2:Ll (jC W3 (w.heap.size+1) q):=aa (by rw[hW3];exact mE _ _ _ _);have X3:Ll (fN W3 (w.heap.size+2) dT none none 0 0 none 0):=aa (by rw[hW3];exact jI _ _ _ _);have HW3:=aa hW3;have SB3:=aa (hs.bel Y3.o);have SLT:Ll (S < w.heap.size):=aa hs.lt;have HS:=aa hS;have HV:=aa hv;have HGN:=aa hgn;have TNL:=aa ht.name;have TK:Ll (cQ W3 (bg ok w.heap.size (w.heap.size+3)) t a b c d oa oc):=aa ((ht.low.weak fun k hk=>.inl hk).bel Y3.o);have S3:Ll (w.heap.size+3<=W3.heap.size):=aa (by have:=X3.o.lt;omega);have WAN0:=rN W3 (bg ok w.heap.size (w.heap.size+3)) t a b c d oa oc q TK.o (hG.grown (r:=none) (aq Y3.o) (by simp)) (hM.bel Y3.o) (hW.bel Y3.o) hN hP hq hw;obtain⟨y,yo,ye,hy⟩:∃ y yo ye,aJ t q=(y,yo,ye):=⟨_,_,_,rfl⟩
 rw[hy]at WAN0 hx;have WAN:Ll (Calls prog 62 #[.agg (Ld t a c b d oa oc),.agg (Lf q)] W3 fun e w'=>∃ (a2 b2:Option Addr) (c2 d2:Nat) (ma:Option Addr) (mc:Nat),e=.returned (.tuple #[.agg (KV y a2 c2 b2 d2),.slice ma yo.length mc,.int .i64 ye])/\In w' (bg ok w.heap.size (w.heap.size+3)) y (.agg (KV y a2 c2 b2 d2))/\aB w' (bg ok w.heap.size (w.heap.size+3)) yo (.slice ma yo.length mc)/\La W3 w'):=aa (WAN0.mono fun e w' h=>by
  obtain⟨r,ro,rfl,h1,h2,h3⟩:=h;obtain⟨a2,b2,c2,d2,rfl⟩:=h1.form;obtain⟨ma,mc,rfl⟩:=h2.form;exact⟨a2,b2,c2,d2,ma,mc,rfl,h1.weak (hY S3.o),h2.weak (hY S3.o),h3⟩)
 have HY:=aa hy;have HX:=aa hx;clear hx;clear WAN0 hy hW3 hs hS hv hgn ht hG hM hW hN hP hq hw;have q0_:=X2.o.c;have t0_:=X1.o.c;go_enter func47,ntmps47;go_upto_region 1 with fail
 rw[<-HW3.o];go_upto_region 2 with (go_at_call 62;refine WAN.o.mono ?_;rintro e w4 ⟨a2,b2,c2,d2,ma,mc,rfl,h1,h2,hb⟩;have B4:=aa hb;have I4:=aa h1;have O4:=aa h2;clear h1 h2 hb)
 obtain⟨W5,hW5⟩:∃ W,W=w4.alloc (.cells (KV y a2 c2 b2 d2) 35):=⟨_,rfl⟩
 have A5:Ll (La w4 W5):=aa (by rw[hW5];exact ae _ _);have PB:Ll (KY W5 w4.heap.size y a2 c2 b2 d2):=aa (by rw[hW5];exact MN _ _);rw[<-hW5];clear hW5;have B35:=aa (ab B4.o A5.o);by_cases hye:ye=0
 rotate_left
 ·have e0:(ye != 0)=true:=by simpa using hye
  have e1:(ye == 0)=false:=by rw[MO];exact hye
  have R:Ll (al time ver t q=(t,ver,ye)):=aa (by unfold al;rw[HY.o,if_pos hye]);clear hye;go_upto_region 3 with fail
  have t0_:=(X1.o.bel B35.o).c;have n0_:=(X3.o.bel B35.o).c;obtain⟨m0,m1,m2,m3,m4,m5,m6,m7,m8,m9,m10,m11,m12,m13,m14⟩:=(X3.o.bel B35.o).f;rw[show w.heap.size+2=w.heap.size+1+1 from rfl]at n0_ m0 m1 m2 m3 m4 m5 m6 m7 m8 m9 m10 m11 m12 m13 m14;have P9:=aa ((X3.o.bel B35.o).put15 t a b c d oa oc);have G9:=aa (mz (r:=some S) (am Y3g.o (aq B35.o)) (show w.heap.size<=w.heap.size+2 by omega) t a b c d oa oc);have S9:=aa ((SB3.o.bel B35.o).gr (g15 _ (w.heap.size+2) t a b c d oa oc) (by intro e;cases e;have:=SLT.o;omega));have O9:=aa (cQ.out15 (TK.o.bel B35.o) (g:=w.heap.size+2) (by omega) (by omega) t a b c d oa oc);have z0_:=P9.o.c;rw[show w.heap.size+2=w.heap.size+1+1 from rfl]at z0_;simp only[jE]at z0_;go_wp2_with fail
  refine MM (v:=.tuple #[.agg (Ld t a c b d oa oc),.int .i64 ye]) ?_ rfl ?_
  ·simp[results,results47,go_sem,z0_]
  ·rw[R.o];exact⟨a,b,c,d,oa,oc,rfl,O9.o,S9.o,G9.o⟩
 subst hye;obtain⟨sp,hsp⟩:∃ sp,bE y=sp:=⟨_,rfl⟩
 obtain⟨se,hse⟩:∃ se,cI y=se:=⟨_,rfl⟩
 have LSP:Ll (sp.1.length<=9223372036854775807):=aa (by rw[<-hsp];exact nz _);have RD:=oY W5 (bg ok w.heap.size (w.heap.size+3)) y _ (I4.o.bel A5.o);rw[hsp,hse]at RD;obtain⟨im,sps⟩:=sp;have READ:=aa RD;have HRG:=aa hsp;have HSE:=aa hse;clear RD hsp hse;have p0_:=PB.o.c;go_upto_region 4 with fail
 go_upto_region 5 with (go_at_call 40;refine READ.o.mono ?_;rintro e w6 ⟨sl,rfl,h1,hb⟩;obtain⟨sa,sc,rfl⟩:=mH h1.1;have B6:=aa hb;have SP6:=aa h1;clear h1 hb)
 obtain⟨W7,hW7⟩:∃ W,W=w6.alloc (.cells #[.string ⟨im.toArray⟩,.slice sa sps.length sc] 83):=⟨_,rfl⟩
 have A7:Ll (La w6 W7):=aa (by rw[hW7];exact ae _ _);have PX:Ll (fM W7 w6.heap.size im (.slice sa sps.length sc)):=aa (by rw[hW7];exact MN _ _);rw[<-hW7];clear hW7;have B57:=aa (ab B6.o A7.o);have B37:=aa (ab B35.o B57.o);by_cases hye:se=0
 rotate_left
 ·have e0:(se != 0)=true:=by simpa using hye
  have e1:(se == 0)=false:=by rw[MO];exact hye
  have R:Ll (al time ver t q=(t,ver,se)):=aa (by unfold al;rw[HY.o,if_neg (by simp),HSE.o,if_pos hye]);clear hye;go_upto_region 6 with fail
  have t0_:=(X1.o.bel B37.o).c;have n0_:=(X3.o.bel B37.o).c;obtain⟨m0,m1,m2,m3,m4,m5,m6,m7,m8,m9,m10,m11,m12,m13,m14⟩:=(X3.o.bel B37.o).f;rw[show w.heap.size+2=w.heap.size+1+1 from rfl]at n0_ m0 m1 m2 m3 m4 m5 m6 m7 m8 m9 m10 m11 m12 m13 m14;have P9:=aa ((X3.o.bel B37.o).put15 t a b c d oa oc);have G9:=aa (mz (r:=some S) (am Y3g.o (aq B37.o)) (show w.heap.size<=w.heap.size+2 by omega) t a b c d oa oc);have S9:=aa ((SB3.o.bel B37.o).gr (g15 _ (w.heap.size+2) t a b c d oa oc) (by intro e;cases e;have:=SLT.o;omega));have O9:=aa (cQ.out15 (TK.o.bel B37.o) (g:=w.heap.size+2) (by omega) (by omega) t a b c d oa oc);have z0_:=P9.o.c;rw[show w.heap.size+2=w.heap.size+1+1 from rfl]at z0_;simp only[jE]at z0_;go_wp2_with fail
  refine MM (v:=.tuple #[.agg (Ld t a c b d oa oc),.int .i64 se]) ?_ rfl ?_
  ·simp[results,results47,go_sem,z0_]
  ·rw[R.o];exact⟨a,b,c,d,oa,oc,rfl,O9.o,S9.o,G9.o⟩
 subst hye;rcases HX.o with hx | hx
 ·exact absurd rfl hx
 ·exact absurd HSE.o hx
open Classical in
theorem Db(w:LC)(ok S v time ver acts t a b c d oa oc)(q:cm)(hs:eF w S v time ver acts)(hS:¬ok S)(hv:0<=ver/\ver<=1000)(hgn:0<=t.gen/\t.gen<=1000)(ht:cQ w ok t a b c d oa oc)(hG:cn w)(hM:bj w)(hW:di w)(hN:(bA t.owners).length<=4000000)(hP:∀ o∈t.owners,∀ x∈o.paths,x.length<=140737488351232)(hq:q.body.length<=9223372036854775807)(hw:q.who.length<=9223372036854775807)(hx:(aJ t q).2.2=0/\cI (aJ t q).1=0):Calls prog 47 #[.pointer (some ⟨S,0,none⟩),.agg (Ld t a c b d oa oc),.agg (Lf q)] w fun e w'=>∃ a9 b9 c9 d9 oa9 oc9,e=.returned (.tuple #[.agg #[.string ⟨(al time ver t q).1.name.toArray⟩,.int .i64 (al time ver t q).1.value.kind,.int .i64 (al time ver t q).1.value.n,.string ⟨(al time ver t q).1.value.s.toArray⟩,.slice a9 (al time ver t q).1.value.keys.length c9,.slice b9 (al time ver t q).1.value.l.length d9,.slice oa9 (al time ver t q).1.owners.length oc9,.int .i64 (al time ver t q).1.ver,.int .i64 (al time ver t q).1.gen,.string ⟨(al time ver t q).1.st.a.toArray⟩,.string ⟨(al time ver t q).1.st.c.toArray⟩,.int .i64 (al time ver t q).1.st.ph,.int .i64 (al time ver t q).1.st.st,.int .i64 (al time ver t q).1.st.we,.int .i64 (al time ver t q).1.st.si],.int .i64 (al time ver t q).2.2])/\cQ w' (bQ ok w.heap.size) (al time ver t q).1 a9 b9 c9 d9 oa9 oc9/\eF w' S v time (al time ver t q).2.1 acts/\w.grownBy w' (some S):=by
 obtain⟨W3,hW3⟩:∃ W,W=((w.alloc (.cells (Ld t a c b d oa oc) 40)).alloc (.cells (Lf q) 28)).alloc (.cells Le 40):=⟨_,rfl⟩
 have Y3:Ll (La w W3):=aa (by rw[hW3];exact ab (ab (ae _ _) (ae _ _)) (ae _ _));have Y3g:Ll (w.grownBy W3 (some S)):=aa (aq Y3.o);have X1:Ll (fN W3 w.heap.size t a b c d oa oc):=aa (by rw[hW3];exact lI _ _ _ _);have X2:Ll (jC W3 (w.heap.size+1) q):=aa (by rw[hW3];exact mE _ _ _ _);have X3:Ll (fN W3 (w.heap.size+2) dT none none 0 0 none 0):=aa (by rw[hW3];exact jI _ _ _ _);have HW3:=aa hW3;have SB3:=aa (hs.bel Y3.o);have SLT:Ll (S < w.heap.size):=aa hs.lt;have HS:=aa hS;have HV:=aa hv;have HGN:=aa hgn;have TNL:=aa ht.name;have TK:Ll (cQ W3 (bg ok w.heap.size (w.heap.size+3)) t a b c d oa oc):=aa ((ht.low.weak fun k hk=>.inl hk).bel Y3.o);have S3:Ll (w.heap.size+3<=W3.heap.size):=aa (by have:=X3.o.lt;omega);have WAN0:=rN W3 (bg ok w.heap.size (w.heap.size+3)) t a b c d oa oc q TK.o (hG.grown (r:=none) (aq Y3.o) (by simp)) (hM.bel Y3.o) (hW.bel Y3.o) hN hP hq hw;obtain⟨y,yo,ye,hy⟩:∃ y yo ye,aJ t q=(y,yo,ye):=⟨_,_,_,rfl⟩
 rw[hy]at WAN0 hx;have WAN:Ll (Calls prog 62 #[.agg (Ld t a c b d oa oc),.agg (Lf q)] W3 fun e w'=>∃ (a2 b2:Option Addr) (c2 d2:Nat) (ma:Option Addr) (mc:Nat),e=.returned (.tuple #[.agg (KV y a2 c2 b2 d2),.slice ma yo.length mc,.int .i64 ye])/\In w' (bg ok w.heap.size (w.heap.size+3)) y (.agg (KV y a2 c2 b2 d2))/\aB w' (bg ok w.heap.size (w.heap.size+3)) yo (.slice ma yo.length mc)/\La W3 w'):=aa (WAN0.mono fun e w' h=>by
  obtain⟨r,ro,rfl,h1,h2,h3⟩:=h;obtain⟨a2,b2,c2,d2,rfl⟩:=h1.form;obtain⟨ma,mc,rfl⟩:=h2.form;exact⟨a2,b2,c2,d2,ma,mc,rfl,h1.weak (hY S3.o),h2.weak (hY S3.o),h3⟩)
 have HY:=aa hy;obtain⟨hx1,hx2⟩:=hx;simp only at hx1 hx2;have HX1:=aa hx1;have HX2:=aa hx2;clear hx1 hx2;clear WAN0 hy hW3 hs hS hv hgn ht hG hM hW hN hP hq hw;obtain⟨q0,q1,q2,q3,q4,q5,q6,q7⟩:=X2.o.c;obtain⟨t0,t1,t2,t3,t4,t5,t6,t7,t8,t9,t10,t11,t12,t13,t14⟩:=X1.o.c;go_enter func47,ntmps47;go_upto_region 1 with fail
 rw[<-HW3.o];go_upto_region 2 with (go_at_call 62;refine WAN.o.mono ?_;rintro e w4 ⟨a2,b2,c2,d2,ma,mc,rfl,h1,h2,hb⟩;have B4:=aa hb;have I4:=aa h1;have O4:=aa h2;clear h1 h2 hb)
 obtain⟨W5,hW5⟩:∃ W,W=w4.alloc (.cells (KV y a2 c2 b2 d2) 35):=⟨_,rfl⟩
 have A5:Ll (La w4 W5):=aa (by rw[hW5];exact ae _ _);have PB:Ll (KY W5 w4.heap.size y a2 c2 b2 d2):=aa (by rw[hW5];exact MN _ _);rw[<-hW5];clear hW5;have B35:=aa (ab B4.o A5.o);obtain rfl:ye=0:=HX1.o;obtain⟨sp,hsp⟩:∃ sp,bE y=sp:=⟨_,rfl⟩
 obtain⟨se,hse⟩:∃ se,cI y=se:=⟨_,rfl⟩
 have LSP:Ll (sp.1.length<=9223372036854775807):=aa (by rw[<-hsp];exact nz _);have RD:=oY W5 (bg ok w.heap.size (w.heap.size+3)) y _ (I4.o.bel A5.o);rw[hsp,hse]at RD;obtain⟨im,sps⟩:=sp;have READ:=aa RD;have HRG:=aa hsp;have HSE:=aa hse;clear RD hsp hse;have p0_:=PB.o.c;go_upto_region 4 with fail
 go_upto_region 5 with (go_at_call 40;refine READ.o.mono ?_;rintro e w6 ⟨sl,rfl,h1,hb⟩;obtain⟨sa,sc,rfl⟩:=mH h1.1;have B6:=aa hb;have SP6:=aa h1;clear h1 hb)
 obtain⟨W7,hW7⟩:∃ W,W=w6.alloc (.cells #[.string ⟨im.toArray⟩,.slice sa sps.length sc] 83):=⟨_,rfl⟩
 have A7:Ll (La w6 W7):=aa (by rw[hW7];exact ae _ _);have PX:Ll (fM W7 w6.heap.size im (.slice sa sps.length sc)):=aa (by rw[hW7];exact MN _ _);rw[<-hW7];clear hW7;have B57:=aa (ab B6.o A7.o);have B37:=aa (ab B35.o B57.o);obtain rfl:se=0:=HSE.o.symm.trans HX2.o;have WF:Ll (al time ver t q=((jw time ver t y yo).1,(jw time ver t y yo).2,0)):=aa (by unfold al;rw[HY.o,if_neg (by simp),HSE.o,if_neg (by simp)]);have hwV:IntKind.i64.wrap (ver+1)=ver+1:=by have:=HV.o;rw[IntKind.wrap_i64];omega
 have WG:Ll (IntKind.i64.wrap (t.gen+1)=t.gen+1):=aa (by have:=HGN.o;rw[IntKind.wrap_i64];omega);have WR:Ll (kU w ok S v time acts y yo im sps w4.heap.size w6.heap.size a2 b2 c2 d2 ma sa mc sc t a b c d oa oc ver W7):=aa ⟨X1.o.bel B37.o,X3.o.bel B37.o,af B57.o PB.o,PX.o,SB3.o.bel B37.o,am Y3g.o (aq B37.o),(I4.o.bel A5.o).bel B57.o,(O4.o.bel A5.o).bel B57.o,SP6.o.1.bel A7.o,fun k hk=>MH (MH S3.o B35.o.size) (SP6.o.2 k hk),SLT.o,HS.o,MH S3.o B4.o.size,MH S3.o (MH B35.o.size B6.o.size)⟩;have CNT:Ll (fa y<=2000000000000):=aa (MH (gE (dQ (lq HSE.o))) (by omega));have SAME:Ll (Calls prog 24 #[.agg (KV y a2 c2 b2 d2),.agg (KV t.value a c b d)] W7 fun e w'=>Je W7 y t.value e w'):=aa (lP W7 (bg ok w.heap.size (w.heap.size+3)) (bg ok w.heap.size (w.heap.size+3)) y t.value _ _ WR.o.inY (TK.o.bel B37.o).val CNT.o);have SOWN:Ll (∀ W,La W7 W->Calls prog 63 #[.slice ma yo.length mc,.slice oa t.owners.length oc] W fun e w'=>e=.returned (.bool (decide (yo=t.owners)))/\La W w'):=aa (fun W hW=>rh W (bg ok w.heap.size (w.heap.size+3)) (bg ok w.heap.size (w.heap.size+3)) yo t.owners _ _ (WR.o.own.bel hW) ((TK.o.bel B37.o).own.bel hW));go_upto_region 7 with fail
 obtain⟨bN,hbN⟩:∃ b,b=decide (t.gen=0):=⟨_,rfl⟩
 obtain⟨bO,hbO⟩:∃ b,b=(bN || decide (¬y=t.value)):=⟨_,rfl⟩
 obtain⟨bV,hbV⟩:∃ b,b=(bO || decide (¬yo=t.owners)):=⟨_,rfl⟩
 have eN:(t.gen == 0)=bN:=by rw[hbN];rfl
 have HBN:=aa hbN;have HBO:=aa hbO;have HBV:=aa hbV;clear hbN hbO hbV;obtain⟨t0,t1,t2,t3,t4,t5,t6,t7,t8,t9,t10,t11,t12,t13,t14⟩:=WR.o.th.c;have p0_:=WR.o.val.c;go_upto_region 8 with fail
 go_cut [13] (fun s13 wc=>s13=.bool bO/\Ll (La W7 wc))
 case first=>
  cases bN with
  | true=>
   obtain rfl:bO=true:=by rw[HBO.o];rfl
   go_wp2_with fail
   go_meet
   case rel=>exact⟨rfl,MK _ _⟩
  | false=>
   go_wp2_with (go_at_call 24;refine SAME.o.mono ?_;rintro e w8 ⟨r8,rfl,h8,hb⟩;have B8:=aa hb;have E8:Ll ((!r8)=bO):=aa (by rw[HBO.o,Bool.false_or];cases r8 with | true=>simp[h8.1 rfl] | false=>simp;exact fun h9=>by simp[h9]at h8);clear h8 hb)
   go_meet
   case rel=>exact⟨by rw[<-E8.o],B8⟩
 case rest=>
 obtain⟨rfl,BB⟩:=hcut;obtain⟨wc0,hwc0⟩:∃ w9,w9=wc:=⟨_,rfl⟩
 rw[<-hwc0]at BB ⊢;clear hwc0;have WR8:=aa (WR.o.bel BB.o);obtain⟨t0,t1,t2,t3,t4,t5,t6,t7,t8,t9,t10,t11,t12,t13,t14⟩:=WR8.o.th.c;go_upto_region 9 with fail
 go_cut [52] (fun s52 wc=>s52=.bool bV/\Ll (La W7 wc))
 case first=>
  cases bO with
  | true=>
   obtain rfl:bV=true:=by rw[HBV.o];rfl
   go_wp2_with fail
   go_meet
   case rel=>exact⟨rfl,BB⟩
  | false=>
   have E9:Ll ((!decide (yo=t.owners))=bV):=aa (by rw[HBV.o,Bool.false_or];by_cases h9:yo=t.owners <;> simp[h9]);go_wp2_with (go_at_call 63;refine Lk (SOWN.o _ BB.o) fun w9 hb=>?_;have B9:=aa (ab BB.o hb);clear hb)
   go_meet
   case rel=>exact⟨by rw[<-E9.o],B9⟩
 case rest=>
 obtain⟨rfl,BC⟩:=hcut;obtain⟨wA,hwA⟩:∃ w9,w9=wc:=⟨_,rfl⟩
 rw[<-hwA]at BC ⊢;clear hwA WR8;have WRA:=aa (WR.o.bel BC.o);obtain⟨tA,htA⟩:∃ t9:Th,t9=(if bV then { t with ver:=ver+1 } else t):=⟨_,rfl⟩
 obtain⟨verB,hverB⟩:∃ v9:Int,v9=(if bV then ver+1 else ver):=⟨_,rfl⟩
 have HTA:=aa htA;have HVB:=aa hverB;clear htA hverB;go_upto_if 52 with fail
 go_cut [] (fun wc=>Ll (kU w ok S v time acts y yo im sps w4.heap.size w6.heap.size a2 b2 c2 d2 ma sa mc sc tA a b c d oa oc verB wc))
 case first=>
  cases bV with
  | true=>
   have s0_:=WRA.o.srv.c;obtain⟨g0,g1,g2,g3⟩:=WRA.o.srv.f;go_upto_region 11 with fail
   clear g0 g1 g2 g3;obtain⟨wB,hwB⟩:∃ W,W=wA.setCell ⟨S,2,none⟩ (.int .i64 (ver+1)):=⟨_,rfl⟩
   have WRB:Ll (kU w ok S v time acts y yo im sps w4.heap.size w6.heap.size a2 b2 c2 d2 ma sa mc sc t a b c d oa oc (ver+1) wB):=aa (by rw[hwB];exact WRA.o.verS _);rw[<-hwB];clear hwB;have s0_:=WRB.o.srv.c;obtain⟨t0,t1,t2,t3,t4,t5,t6,t7,t8,t9,t10,t11,t12,t13,t14⟩:=WRB.o.th.c;obtain⟨f0,f1,f2,f3,f4,f5,f6,f7,f8,f9,f10,f11,f12,f13,f14⟩:=WRB.o.th.f;go_wp2_with fail
   go_meet
   case rel=>exact aa (by rw[HTA.o,HVB.o];exact WRB.o.verT _)
  | false=>
   go_wp2_with fail
   go_meet
   case rel=>exact aa (by rw[HTA.o,HVB.o];exact WRA.o)
 case rest=>
 obtain⟨wB,hwB⟩:∃ w9,w9=wc:=⟨_,rfl⟩
 rw[<-hwB]at hcut ⊢;clear hwB WRA;have WRB:=hcut;clear hcut;obtain⟨tB,htB⟩:∃ t9:Th,t9=(if bO then { tA with gen:=t.gen+1 } else tA):=⟨_,rfl⟩
 have HTB:=aa htB;have HGA:Ll (tA.gen=t.gen):=aa (by rw[HTA.o];cases bV <;> rfl);clear htB;go_upto_if 65 with fail
 go_cut [] (fun wc=>Ll (kU w ok S v time acts y yo im sps w4.heap.size w6.heap.size a2 b2 c2 d2 ma sa mc sc tB a b c d oa oc verB wc))
 case first=>
  cases bO with
  | true=>
   have hwG:IntKind.i64.wrap (tA.gen+1)=t.gen+1:=by rw[HGA.o];exact WG.o
   obtain⟨t0,t1,t2,t3,t4,t5,t6,t7,t8,t9,t10,t11,t12,t13,t14⟩:=WRB.o.th.c;obtain⟨f0,f1,f2,f3,f4,f5,f6,f7,f8,f9,f10,f11,f12,f13,f14⟩:=WRB.o.th.f;go_wp2_with fail
   go_meet
   case rel=>exact aa (by rw[HTB.o];exact WRB.o.genT _)
  | false=>
   go_wp2_with fail
   go_meet
   case rel=>exact aa (by rw[HTB.o];exact WRB.o)
 case rest=>
 obtain⟨wC,hwC⟩:∃ w9,w9=wc:=⟨_,rfl⟩
 rw[<-hwC]at hcut ⊢;clear hwC WRB;have WRC:=hcut;clear hcut;obtain⟨fs,fe,hfs⟩:∃ fs fe,fV im sps=(fs,fe):=⟨_,_,rfl⟩
 have HFS:=aa hfs;clear hfs;obtain⟨tC,htC⟩:∃ t9:Th,t9=(if bN then { tB with st:=fs } else tB):=⟨_,rfl⟩
 have HTC:=aa htC;clear htC;go_upto_if 70 with fail
 go_cut [] (fun wc=>Ll (kU w ok S v time acts y yo im sps w4.heap.size w6.heap.size a2 b2 c2 d2 ma sa mc sc tC a b c d oa oc verB wc))
 case first=>
  cases bN with
  | true=>
   have FI:Ll (Calls prog 64 #[.agg #[.string ⟨im.toArray⟩,.slice sa sps.length sc]] wC fun e w'=>e=.returned (.tuple #[.agg (Li fs),.int .i64 fe])/\La wC w'):=aa (by
    have:=DZ wC im sps (.slice sa sps.length sc) WRC.o.stp LSP.o;rw[HFS.o]at this;exact this)
   obtain⟨u0,u1,-⟩:=WRC.o.spec.c2;obtain⟨t0,t1,t2,t3,t4,t5,t6,t7,t8,t9,t10,t11,t12,t13,t14⟩:=WRC.o.th.c;obtain⟨f0,f1,f2,f3,f4,f5,f6,f7,f8,f9,f10,f11,f12,f13,f14⟩:=WRC.o.th.f;go_wp2_with (go_at_call 64;refine FI.o.mono ?_;rintro e wF ⟨rfl,hb⟩;have WRF:=aa (WRC.o.bel hb);clear hb u0 u1 f0 f1 f2 f3 f4 f5 f6 f7 f8 f9 f10 f11 f12 f13 f14;obtain⟨t0,t1,t2,t3,t4,t5,t6,t7,t8,t9,t10,t11,t12,t13,t14⟩:=WRF.o.th.c;obtain⟨f0,f1,f2,f3,f4,f5,f6,f7,f8,f9,f10,f11,f12,f13,f14⟩:=WRF.o.th.f)
   go_meet
   case rel=>exact aa (by rw[HTC.o];exact WRF.o.staT _)
  | false=>
   go_wp2_with fail
   go_meet
   case rel=>exact aa (by rw[HTC.o];exact WRC.o)
 case rest=>
 obtain⟨wD,hwD⟩:∃ w9,w9=wc:=⟨_,rfl⟩
 rw[<-hwD]at hcut ⊢;clear hwD WRC WR;have WR:=hcut;clear hcut;obtain⟨t0,t1,t2,t3,t4,t5,t6,t7,t8,t9,t10,t11,t12,t13,t14⟩:=WR.o.th.c;obtain⟨f0,f1,f2,f3,f4,f5,f6,f7,f8,f9,f10,f11,f12,f13,f14⟩:=WR.o.th.f;have p0_:=WR.o.val.c;go_upto_region 16 with fail
 go_upto_region 17 with fail
 clear f0 f1 f2 f3 f4 f5 f6 f7 f8 f9 f10 f11 f12 f13 f14;obtain⟨WE,hWE⟩:∃ W,W=((((((wD.setCell ⟨w.heap.size,1,none⟩ (.int .i64 y.kind)).setCell ⟨w.heap.size,2,none⟩ (.int .i64 y.n)).setCell ⟨w.heap.size,3,none⟩ (.string ⟨y.s.toArray⟩)).setCell ⟨w.heap.size,4,none⟩ (.slice a2 y.keys.length c2)).setCell ⟨w.heap.size,5,none⟩ (.slice b2 y.l.length d2)).setCell ⟨w.heap.size,6,none⟩ (.slice ma yo.length mc)):=⟨_,rfl⟩
 obtain⟨tE,htE⟩:∃ t9:Th,t9={ tC with value:=y,owners:=yo }:=⟨_,rfl⟩
 have WR9:Ll (kU w ok S v time acts y yo im sps w4.heap.size w6.heap.size a2 b2 c2 d2 ma sa mc sc tE a2 b2 c2 d2 ma mc verB WE):=aa (by rw[htE,hWE];exact kU.putV WR.o _ _ _ _ _ _);rw[<-hWE];have HtE:=aa htE;clear hWE htE WR;have WR:=WR9;clear WR9;obtain⟨ns,ne,hns⟩:∃ ns ne,ij im sps tE.st time 0=(ns,ne):=⟨_,_,rfl⟩
 have HNS:=aa hns;have NX:Ll (∀ W,kU w ok S v time acts y yo im sps w4.heap.size w6.heap.size a2 b2 c2 d2 ma sa mc sc tE a2 b2 c2 d2 ma mc verB W->Calls prog 41 #[.agg #[.string ⟨im.toArray⟩,.slice sa sps.length sc],.agg (Li tE.st),.int .i64 time,.int .i64 0] W fun e w'=>e=.returned (.tuple #[.agg (Li ns),.int .i64 ne])/\La W w'):=aa (fun W hW=>by
  have:=AK W im sps (.slice sa sps.length sc) tE.st time 0 hW.stp LSP.o;rw[HNS.o]at this;exact this)
 clear hns;have HTE:Ll (tE.name=t.name/\tE.value=y/\tE.owners=yo):=aa (by rw[HtE.o,HTC.o,HTB.o,HTA.o];cases bN <;> cases bO <;> cases bV <;> exact⟨rfl,rfl,rfl⟩);have R:Ll (∀ tF:Th,tF={ tE with st:=ns }->al time ver t q=(tF,verB,0)):=aa (by
  intro tF htF;have h9:=HNS.o;rw[htF,WF.o,HVB.o,HtE.o,HTC.o,HTB.o,HTA.o];rw[HtE.o,HTC.o,HTB.o,HTA.o]at h9;by_cases q1:t.gen=0
  ·obtain rfl:bN=true:=by rw[HBN.o];simpa using q1
   obtain rfl:bO=true:=by rw[HBO.o];rfl
   obtain rfl:bV=true:=by rw[HBV.o];rfl
   exact Kb HRG.o q1 HFS.o h9
  ·obtain rfl:bN=false:=by rw[HBN.o];simpa using q1
   by_cases q2:y=t.value
   ·obtain rfl:bO=false:=by rw[HBO.o];simp[q2]
    by_cases q3:yo=t.owners
    ·obtain rfl:bV=false:=by rw[HBV.o];simp[q3]
     exact Ku HRG.o q1 q2 q3 h9
    ·obtain rfl:bV=true:=by rw[HBV.o];simp[q3]
     exact Kw HRG.o q1 q2 q3 h9
   ·obtain rfl:bO=true:=by rw[HBO.o];simp[q2]
    obtain rfl:bV=true:=by rw[HBV.o];rfl
    exact JZ HRG.o q1 q2 h9)
 refine aD (fun wS=>kU w ok S v time acts y yo im sps w4.heap.size w6.heap.size a2 b2 c2 d2 ma sa mc sc tE a2 b2 c2 d2 ma mc verB wS) [12] (by kernel_rfl) (WR.o.bel (aC _ 1)) (fun LI=>?_);refine WT.out ?_;iterate 7
  first
   | refine tk (i:=0) (v:=?_) [7,8,9,10,11,12] rfl rfl (by decide +kernel) rfl (fun _ _ _ h=>h) LI ?_ ?_
   | refine tk (i:=1) (v:=?_) [2,7,8,9,10,11,12] rfl rfl (by decide +kernel) rfl (fun _ _ _ h=>h) LI ?_ ?_
   | refine tk (i:=2) (v:=?_) [7,8,9,10,11,12] rfl rfl (by decide +kernel) rfl (fun _ _ _ h=>h) LI ?_ ?_
   | refine tk (i:=3) (v:=?_) [4,5,6,7,8,9,10,11,12] rfl rfl (by decide +kernel) rfl (fun _ _ _ h=>h) LI ?_ ?_
   | refine tk (i:=4) (v:=?_) [5,6,7,8,9,10,11,12] rfl rfl (by decide +kernel) rfl (fun _ _ _ h=>h) LI ?_ ?_
   | refine tk (i:=5) (v:=?_) [6,7,8,9,10,11,12] rfl rfl (by decide +kernel) rfl (fun _ _ _ h=>h) LI ?_ ?_
   | refine tk (i:=6) (v:=?_) [7,8,9,10,11,12] rfl rfl (by decide +kernel) rfl (fun _ _ _ h=>h) LI ?_ ?_
  rotate_left
  ·intro wS LN;obtain⟨u0,u1,-⟩:=LN.spec.c2;obtain⟨t0,t1,t2,t3,t4,t5,t6,t7,t8,t9,t10,t11,t12,t13,t14⟩:=LN.th.c;have s0_:=LN.srv.c;go_simp;all_goals with_reducible rfl
  simp only[av,List.set]
 repeat' (first
  | exact nl
  |(refine ip (i:=7) (o:=_) rfl (fun K hK=>?_) ?_
    go_simp;refine Lk (NX.o _ LI) fun w7q hb5=>?_;refine hK.out _ _ (LI.bel hb5) (fun LJ=>?_);clear hb5;clear hK K;replace LI:=LJ;clear LJ;try simp only[Act.put,Mt,Mu,Mv])
  |(refine jZ (i:=12) (o:=_) (by decide +kernel) rfl (fun K hK=>?_)
    obtain⟨t0,t1,t2,t3,t4,t5,t6,t7,t8,t9,t10,t11,t12,t13,t14⟩:=LI.th.c;obtain⟨f0,f1,f2,f3,f4,f5,f6,f7,f8,f9,f10,f11,f12,f13,f14⟩:=LI.th.f;have WR8:=aa (LI.staT ns);go_simp;refine hK.out _ _ ?_;clear hK K;try simp only[Act.put,Mt,Mu,Mv])
  |(first
     | refine tk (i:=8) (v:=?_) [9,10,11,12] rfl rfl (by decide +kernel) rfl (fun _ _ _ h=>h) (by exact LI) ?_ ?_
     | refine tk (i:=9) (v:=?_) [11,12] rfl rfl (by decide +kernel) rfl (fun _ _ _ h=>h) (by exact LI) ?_ ?_
    rotate_left
    ·intro wS LN;go_simp;all_goals with_reducible rfl
    simp only[av,List.set])
  |(refine JY (i:=10) (d:=91) (v:=?_) rfl rfl (by decide +kernel) rfl (fun _ _ _ h=>h) (by exact LI) ?_ ?_
    rotate_left
    ·intro wS;go_simp;all_goals with_reducible rfl
    simp only[av,List.set])
  |(refine tk (i:=11) (d:=92) (v:=?_) [12] rfl rfl (by decide +kernel) rfl (fun _ _ _ h=>h) (by exact LI) ?_ ?_
    rotate_left
    ·intro wS LN;go_simp;all_goals with_reducible rfl
    simp only[av,List.set])
  | refine gc [7] (by decide +kernel) ?_
  | fail)
 all_goals
  refine dn (by kernel_rfl) ?_;obtain⟨tF,htF⟩:∃ t9:Th,t9={ tE with st:=ns }:=⟨_,rfl⟩
  rw[<-htF]at WR8;have HtF:=aa htF;clear htF;obtain⟨t0,t1,t2,t3,t4,t5,t6,t7,t8,t9,t10,t11,t12,t13,t14⟩:=WR8.o.th.c;obtain⟨n0,n1,n2,n3,n4,n5,n6,n7,n8,n9,n10,n11,n12,n13,n14⟩:=WR8.o.res.c;obtain⟨m0,m1,m2,m3,m4,m5,m6,m7,m8,m9,m10,m11,m12,m13,m14⟩:=WR8.o.res.f;rw[show w.heap.size+2=w.heap.size+1+1 from rfl]at n0 n1 n2 n3 n4 n5 n6 n7 n8 n9 n10 n11 n12 n13 n14 m0 m1 m2 m3 m4 m5 m6 m7 m8 m9 m10 m11 m12 m13 m14;have P9:=aa (WR8.o.res.put15 tF a2 b2 c2 d2 ma mc);have G9:=aa (mz WR8.o.gb (show w.heap.size<=w.heap.size+2 by omega) tF a2 b2 c2 d2 ma mc);have S9:=aa (WR8.o.srv.gr (g15 _ (w.heap.size+2) tF a2 b2 c2 d2 ma mc) (by intro e;cases e;have:=WR8.o.low;omega));have O9:=aa (kU.ok15 WR8.o HtF.o HTE.o TNL.o);obtain⟨z0,z1,z2,z3,z4,z5,z6,z7,z8,z9,z10,z11,z12,z13,z14⟩:=P9.o.c;rw[show w.heap.size+2=w.heap.size+1+1 from rfl]at z0 z1 z2 z3 z4 z5 z6 z7 z8 z9 z10 z11 z12 z13 z14;simp only[jE,mV]at t0 t1 t2 t3 t4 t5 t6 t7 t8 t9 t10 t11 t12 t13 t14 n0 n1 n2 n3 n4 n5 n6 n7 n8 n9 n10 n11 n12 n13 n14 m0 m1 m2 m3 m4 m5 m6 m7 m8 m9 m10 m11 m12 m13 m14 z0 z1 z2 z3 z4 z5 z6 z7 z8 z9 z10 z11 z12 z13 z14;go_wp2_with fail
  refine MM (v:=.tuple #[.agg (Ld tF a2 c2 b2 d2 ma mc),.int .i64 0]) ?_ rfl ?_
  ·simp[results,results47,go_sem,z0,z1,z2,z3,z4,z5,z6,z7,z8,z9,z10,z11,z12,z13,z14]
  ·rw[R.o _ HtF.o];exact⟨a2,b2,c2,d2,ma,mc,rfl,O9.o,S9.o,G9.o⟩
theorem pI(w:LC)(ok S v time ver acts t a b c d oa oc)(q:cm)(hs:eF w S v time ver acts)(hS:¬ok S)(hv:0<=ver/\ver<=1000)(hgn:0<=t.gen/\t.gen<=1000)(ht:cQ w ok t a b c d oa oc)(hG:cn w)(hM:bj w)(hW:di w)(hN:(bA t.owners).length<=4000000)(hP:∀ o∈t.owners,∀ x∈o.paths,x.length<=140737488351232)(hq:q.body.length<=9223372036854775807)(hw:q.who.length<=9223372036854775807):Calls prog 47 #[.pointer (some ⟨S,0,none⟩),.agg (Ld t a c b d oa oc),.agg (Lf q)] w fun e w'=>∃ a9 b9 c9 d9 oa9 oc9,e=.returned (.tuple #[.agg #[.string ⟨(al time ver t q).1.name.toArray⟩,.int .i64 (al time ver t q).1.value.kind,.int .i64 (al time ver t q).1.value.n,.string ⟨(al time ver t q).1.value.s.toArray⟩,.slice a9 (al time ver t q).1.value.keys.length c9,.slice b9 (al time ver t q).1.value.l.length d9,.slice oa9 (al time ver t q).1.owners.length oc9,.int .i64 (al time ver t q).1.ver,.int .i64 (al time ver t q).1.gen,.string ⟨(al time ver t q).1.st.a.toArray⟩,.string ⟨(al time ver t q).1.st.c.toArray⟩,.int .i64 (al time ver t q).1.st.ph,.int .i64 (al time ver t q).1.st.st,.int .i64 (al time ver t q).1.st.we,.int .i64 (al time ver t q).1.st.si],.int .i64 (al time ver t q).2.2])/\cQ w' (bQ ok w.heap.size) (al time ver t q).1 a9 b9 c9 d9 oa9 oc9/\eF w' S v time (al time ver t q).2.1 acts/\w.grownBy w' (some S):=by
 by_cases h1:(aJ t q).2.2=0/\cI (aJ t q).1=0
 ·exact Db w ok S v time ver acts t a b c d oa oc q hs hS hv hgn ht hG hM hW hN hP hq hw h1
 ·refine CO w ok S v time ver acts t a b c d oa oc q hs hS hv hgn ht hG hM hW hN hP hq hw ?_;by_cases h2:(aJ t q).2.2=0
  ·exact .inr fun h3=>h1 ⟨h2,h3⟩
  ·exact .inl h2
end
end Go.Proofs.YtkjeiljdoljjgaaGreatDoor
