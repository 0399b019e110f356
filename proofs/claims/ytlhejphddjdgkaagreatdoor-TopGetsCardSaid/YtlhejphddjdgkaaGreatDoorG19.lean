import Derived.Test.YtlhejphddjdgkaaGreatDoorG18
set_option maxRecDepth 100000
set_option maxHeartbeats 40000000
set_option linter.unusedSimpArgs false
set_option linter.unusedVariables false
namespace Go.Proofs.YtlhejphddjdgkaaGreatDoor
open Go.RowKit
open _root_.Go.Proofs.Tryz
variable {w wr:World}
variable {ok:Nat->Prop}
variable {v:Value}
variable {y:V}
variable {g B c S d:Nat}
section
theorem g15(w:LC)(g t a b c d oa oc):w.grownBy (jE w g t a b c d oa oc) (some g):=ap (ap (ap (ap (ap (ap (ap (ap (ap (ap (ap (ap (ap (ap (ap (az _ _) _ _) _ _) _ _) _ _) _ _) _ _) _ _) _ _) _ _) _ _) _ _) _ _) _ _) _ _) _ _
theorem kU.putV{time acts yo im sps vg pg a2 b2 c2 d2 ma sa mc sc t a b oa oc ver}(h:kU w ok S v time acts y yo im sps vg pg a2 b2 c2 d2 ma sa mc sc t a b c d oa oc ver wr)(a9 b9 c9 d9 oa9 oc9):kU w ok S v time acts y yo im sps vg pg a2 b2 c2 d2 ma sa mc sc { t with value:=y,owners:=yo } a9 b9 c9 d9 oa9 oc9 ver ((((((wr.setCell ⟨w.heap.size,1,none⟩ (.int .i64 y.kind)).setCell ⟨w.heap.size,2,none⟩ (.int .i64 y.n)).setCell ⟨w.heap.size,3,none⟩ (.string ⟨y.s.toArray⟩)).setCell ⟨w.heap.size,4,none⟩ (.slice a9 y.keys.length c9)).setCell ⟨w.heap.size,5,none⟩ (.slice b9 y.l.length d9)).setCell ⟨w.heap.size,6,none⟩ (.slice oa9 yo.length oc9)):=by
 have g:wr.grownBy ((((((wr.setCell ⟨w.heap.size,1,none⟩ (.int .i64 y.kind)).setCell ⟨w.heap.size,2,none⟩ (.int .i64 y.n)).setCell ⟨w.heap.size,3,none⟩ (.string ⟨y.s.toArray⟩)).setCell ⟨w.heap.size,4,none⟩ (.slice a9 y.keys.length c9)).setCell ⟨w.heap.size,5,none⟩ (.slice b9 y.l.length d9)).setCell ⟨w.heap.size,6,none⟩ (.slice oa9 yo.length oc9)) (some w.heap.size):=ap (ap (ap (ap (ap (ap (az _ _) _ _) _ _) _ _) _ _) _ _) _ _;exact h.gr g (.inr rfl) (h.th.putV y yo a9 b9 c9 d9 oa9 oc9) (h.srv.gr g (fun e=>by cases e;exact Nat.lt_irrefl _ h.low))
theorem cQ.out15{w1:LC}{C x a b oa oc}(h:cQ w1 (bg ok B C) x a b c d oa oc)(hg:B<=g)(hC:g < C)(t a9 b9 c9 d9 oa9 oc9):cQ (jE w1 g t a9 b9 c9 d9 oa9 oc9) (bQ ok B) x a b c d oa oc:=by
 have hk:∀ k,bg ok B C k->some k≠some g:=fun k hk e=>jB hg hC k hk (by cases e;rfl);have h2:∀ k,bg ok B C k->bQ ok B k:=fun k hk=>by
  rcases hk with hk | hk
  ·exact .inl hk.1
  ·exact .inr (by omega)
 exact⟨h.name,(h.val.grownR (g15 w1 g t a9 b9 c9 d9 oa9 oc9) hk).weak h2,(h.own.grownR (g15 w1 g t a9 b9 c9 d9 oa9 oc9) hk).weak h2⟩
theorem kU.ok15{time acts:Int}{yo:List aL}{im:Lz}{sps:List dN}{vg pg:Nat}{a2 b2}{c2 d2:Nat}{ma sa}{mc sc:Nat}{t:Th}{a b oa}{oc:Nat}{ver:Int}{tE t0:Th}{s:dI}(h:kU w ok S v time acts y yo im sps vg pg a2 b2 c2 d2 ma sa mc sc t a b c d oa oc ver wr)(ht:t={ tE with st:=s })(he:tE.name=t0.name/\tE.value=y/\tE.owners=yo)(hn:t0.name.length<=9223372036854775807):cQ (jE wr (w.heap.size+2) t a2 b2 c2 d2 ma mc) (bQ ok w.heap.size) t a2 b2 c2 d2 ma mc:=by
 obtain⟨e1,e2,e3⟩:=he;have f1:t.name=t0.name:=by rw[ht];exact e1
 have f2:t.value=y:=by rw[ht];exact e2
 have f3:t.owners=yo:=by rw[ht];exact e3
 refine cQ.out15 (C:=w.heap.size+3) ⟨by rw[f1];exact hn,by rw[f2];exact h.inY,by rw[f3];exact h.own⟩ (by omega) (by omega) t _ _ _ _ _ _
theorem Kb{time ver t yo im sps fs ns fe ne}(hr:bE y=(im,sps))(h0:t.gen=0)(hf:fV im sps=(fs,fe))(hn:ij im sps fs time 0=(ns,ne)):((jw time ver t y yo).1,(jw time ver t y yo).2,(0:Int))=((⟨t.name,y,yo,ver+1,t.gen+1,ns⟩:Th),ver+1,0):=by
 simp only[jw,hr,h0,true_or,if_true,hf,hn]
theorem JZ{time ver t yo im sps ns ne}(hr:bE y=(im,sps))(h0:¬t.gen=0)(hy:¬y=t.value)(hn:ij im sps t.st time 0=(ns,ne)):((jw time ver t y yo).1,(jw time ver t y yo).2,(0:Int))=((⟨t.name,y,yo,ver+1,t.gen+1,ns⟩:Th),ver+1,0):=by
 have e:(t.gen=0\/y≠t.value)\/yo≠t.owners:=.inl (.inr hy);have e2:t.gen=0\/y≠t.value:=.inr hy;simp only[jw,hr,if_pos e,if_pos e2,if_neg h0,hn]
theorem Kw{time ver t yo im sps ns ne}(hr:bE y=(im,sps))(h0:¬t.gen=0)(hy:y=t.value)(ho:¬yo=t.owners)(hn:ij im sps t.st time 0=(ns,ne)):((jw time ver t y yo).1,(jw time ver t y yo).2,(0:Int))=((⟨t.name,y,yo,ver+1,t.gen,ns⟩:Th),ver+1,0):=by
 have e:(t.gen=0\/y≠t.value)\/yo≠t.owners:=.inr ho;have e2:¬(t.gen=0\/y≠t.value):=by rintro (h | h);exact h0 h;exact h hy
 simp only[jw,hr,if_pos e,if_neg e2,if_neg h0,hn]
theorem Ku{time ver t yo im sps ns ne}(hr:bE y=(im,sps))(h0:¬t.gen=0)(hy:y=t.value)(ho:yo=t.owners)(hn:ij im sps t.st time 0=(ns,ne)):((jw time ver t y yo).1,(jw time ver t y yo).2,(0:Int))=((⟨t.name,y,yo,t.ver,t.gen,ns⟩:Th),ver,0):=by
 have e:¬((t.gen=0\/y≠t.value)\/yo≠t.owners):=by rintro ((h | h) | h);exact h0 h;exact h hy;exact h ho
 have e2:¬(t.gen=0\/y≠t.value):=by rintro (h | h);exact h0 h;exact h hy
 simp only[jw,hr,if_neg e,if_neg e2,if_neg h0,hn]
attribute [local go_sem ↓] Go.wp_at_zero Go.wp_at_succ
open Classical in
theorem CO(w:LC)(ok S v time ver acts t a b c d oa oc)(q:cm)(hs:eF w S v time ver acts)(hS:¬ok S)(hv:0<=ver/\ver<=1000)(hgn:0<=t.gen/\t.gen<=1000)(ht:cQ w ok t a b c d oa oc)(hG:cn w)(hM:bj w)(hW:di w)(hN:(bA t.owners).length<=4000000)(hP:∀ o∈t.owners,∀ x∈o.paths,x.length<=140737488351232)(hq:q.body.length<=9223372036854775807)(hw:q.who.length<=9223372036854775807)(hx:(aJ t q).2.2≠0\/cI (aJ t q).1≠0):Calls prog 47 #[.pointer (some ⟨S,0,none⟩),.agg (Ld t a c b d oa oc),.agg (Lf q)] w fun e w'=>∃ a9 b9 c9 d9 oa9 oc9,e=.returned (.tuple #[.agg #[.string ⟨(al time ver t q).1.name.toArray⟩,.int .i64 (al time ver t q).1.value.kind,.int .i64 (al time ver t q).1.value.n,.string ⟨(al time ver t q).1.value.s.toArray⟩,.slice a9 (al time ver t q).1.value.keys.length c9,.slice b9 (al time ver t q).1.value.l.length d9,.slice oa9 (al time ver t q).1.owners.length oc9,.int .i64 (al time ver t q).1.ver,.int .i64 (al time ver t q).1.gen,.string ⟨(al time ver t q).1.st.a.toArray⟩,.string ⟨(al time ver t q).1.st.c.toArray⟩,.int .i64 (al time ver t q).1.st.ph,.int .i64 (al time ver t q).1.st.st,.int .i64 (al time ver t q).1.st.we,.int .i64 (al time ver t q).1.st.si],.int .i64 (al time ver t q).2.2])/\cQ w' (bQ ok w.heap.size) (al time ver t q).1 a9 b9 c9 d9 oa9 oc9/\eF w' S v time (al time ver t q).2.1 acts/\w.grownBy w' (some S):=by
 obtain⟨W3,hW3⟩:∃ W,W=((w.alloc (.cells (Ld t a c b d oa oc) 37)).alloc (.cells (Lf q) 45)).alloc (.cells Le 37):=⟨_,rfl⟩
 have Y3:Ll (La w W3):=aa (by rw[hW3];exact ab (ab (ae _ _) (ae _ _)) (ae _ _));have Y3g:Ll (w.grownBy W3 (some S)):=aa (aq Y3.o);have X1:Ll (fN W3 w.heap.size t a b c d oa oc):=aa (by rw[hW3];exact lI _ _ _ _);have X2:Ll (jC W3 (w.heap.size+1) q):=aa (by rw[hW3];exact mE _ _ _ _);have X3:Ll (fN W3 (w.heap.size+2) dT none none 0 0 none 0):=aa (by rw[hW3];exact jI _ _ _ _);have HW3:=aa hW3;have SB3:=aa (hs.bel Y3.o);have SLT:Ll (S < w.heap.size):=aa hs.lt;have HS:=aa hS;have HV:=aa hv;have HGN:=aa hgn;have TNL:=aa ht.name;have TK:Ll (cQ W3 (bg ok w.heap.size (w.heap.size+3)) t a b c d oa oc):=aa ((ht.low.weak fun k hk=>.inl hk).bel Y3.o);have S3:Ll (w.heap.size+3<=W3.heap.size):=aa (by have:=X3.o.lt;omega);have WAN0:=rN W3 (bg ok w.heap.size (w.heap.size+3)) t a b c d oa oc q TK.o (hG.grown (r:=none) (aq Y3.o) (by simp)) (hM.bel Y3.o) (hW.bel Y3.o) hN hP hq hw;obtain⟨y,yo,ye,hy⟩:∃ y yo ye,aJ t q=(y,yo,ye):=⟨_,_,_,rfl⟩
 rw[hy]at WAN0 hx;have WAN:Ll (Calls prog 65 #[.agg (Ld t a c b d oa oc),.agg (Lf q)] W3 fun e w'=>∃ (a2 b2:Option Addr) (c2 d2:Nat) (ma:Option Addr) (mc:Nat),e=.returned (.tuple #[.agg (KV y a2 c2 b2 d2),.slice ma yo.length mc,.int .i64 ye])/\In w' (bg ok w.heap.size (w.heap.size+3)) y (.agg (KV y a2 c2 b2 d2))/\aB w' (bg ok w.heap.size (w.heap.size+3)) yo (.slice ma yo.length mc)/\La W3 w'):=aa (WAN0.mono fun e w' h=>by
  obtain⟨r,ro,rfl,h1,h2,h3⟩:=h;obtain⟨a2,b2,c2,d2,rfl⟩:=h1.form;obtain⟨ma,mc,rfl⟩:=h2.form;exact⟨a2,b2,c2,d2,ma,mc,rfl,h1.weak (No S3.o),h2.weak (No S3.o),h3⟩)
 have HY:=aa hy;have HX:=aa hx;clear hx;clear WAN0 hy hW3 hs hS hv hgn ht hG hM hW hN hP hq hw;have q0_:=X2.o.c;have t0_:=X1.o.c;go_enter func47,ntmps47;go_upto_region 1 with fail
 rw[<-HW3.o];go_upto_region 2 with (go_at_call 65;refine WAN.o.mono ?_;rintro e w4 ⟨a2,b2,c2,d2,ma,mc,rfl,h1,h2,hb⟩;have B4:=aa hb;have I4:=aa h1;have O4:=aa h2;clear h1 h2 hb)
 obtain⟨W5,hW5⟩:∃ W,W=w4.alloc (.cells (KV y a2 c2 b2 d2) 32):=⟨_,rfl⟩
 have A5:Ll (La w4 W5):=aa (by rw[hW5];exact ae _ _);have PB:Ll (KY W5 w4.heap.size y a2 c2 b2 d2):=aa (by rw[hW5];exact MN _ _);rw[<-hW5];clear hW5;have B35:=aa (ab B4.o A5.o);by_cases hye:ye=0
 rotate_left
 ·have e0:(ye != 0)=true:=by simpa using hye
  have e1:(ye == 0)=false:=by rw[MO];exact hye
  have R:Ll (al time ver t q=(t,ver,ye)):=aa (by unfold al;rw[HY.o,if_pos hye]);clear hye;go_upto_region 3 with fail
  have t0_:=(X1.o.bel B35.o).c;have n0_:=(X3.o.bel B35.o).c;obtain⟨m0,m1,m2,m3,m4,m5,m6,m7,m8,m9,m10,m11,m12,m13,m14⟩:=(X3.o.bel B35.o).f;rw[show w.heap.size+2=w.heap.size+1+1 from rfl]at n0_ m0 m1 m2 m3 m4 m5 m6 m7 m8 m9 m10 m11 m12 m13 m14;have P9:=aa ((X3.o.bel B35.o).put15 t a b c d oa oc);have G9:=aa (mz (r:=some S) (am Y3g.o (aq B35.o)) (show w.heap.size<=w.heap.size+2 by omega) t a b c d oa oc);have S9:=aa ((SB3.o.bel B35.o).gr (g15 _ (w.heap.size+2) t a b c d oa oc) (by intro e;cases e;have:=SLT.o;omega));have O9:=aa (cQ.out15 (TK.o.bel B35.o) (g:=w.heap.size+2) (by omega) (by omega) t a b c d oa oc);have z0_:=P9.o.c;rw[show w.heap.size+2=w.heap.size+1+1 from rfl]at z0_;simp only[jE]at z0_;go_wp2
  refine MM (v:=.tuple #[.agg (Ld t a c b d oa oc),.int .i64 ye]) ?_ rfl ?_
  ·simp[results,results47,go_sem,z0_]
  ·rw[R.o];exact⟨a,b,c,d,oa,oc,rfl,O9.o,S9.o,G9.o⟩
 subst hye;obtain⟨sp,hsp⟩:∃ sp,bE y=sp:=⟨_,rfl⟩
 obtain⟨se,hse⟩:∃ se,cI y=se:=⟨_,rfl⟩
 have LSP:Ll (sp.1.length<=9223372036854775807):=aa (by rw[<-hsp];exact nz _);have RD:=oY W5 (bg ok w.heap.size (w.heap.size+3)) y _ (I4.o.bel A5.o);rw[hsp,hse]at RD;obtain⟨im,sps⟩:=sp;have READ:=aa RD;have HRG:=aa hsp;have HSE:=aa hse;clear RD hsp hse;have p0_:=PB.o.c;go_upto_region 4 with fail
 go_upto_region 5 with (go_at_call 41;refine READ.o.mono ?_;rintro e w6 ⟨sl,rfl,h1,hb⟩;obtain⟨sa,sc,rfl⟩:=mH h1.1;have B6:=aa hb;have SP6:=aa h1;clear h1 hb)
 obtain⟨W7,hW7⟩:∃ W,W=w6.alloc (.cells #[.string ⟨im.toArray⟩,.slice sa sps.length sc] 85):=⟨_,rfl⟩
 have A7:Ll (La w6 W7):=aa (by rw[hW7];exact ae _ _);have PX:Ll (fM W7 w6.heap.size im (.slice sa sps.length sc)):=aa (by rw[hW7];exact MN _ _);rw[<-hW7];clear hW7;have B57:=aa (ab B6.o A7.o);have B37:=aa (ab B35.o B57.o);by_cases hye:se=0
 rotate_left
 ·have e0:(se != 0)=true:=by simpa using hye
  have e1:(se == 0)=false:=by rw[MO];exact hye
  have R:Ll (al time ver t q=(t,ver,se)):=aa (by unfold al;rw[HY.o,if_neg (by simp),HSE.o,if_pos hye]);clear hye;go_upto_region 6 with fail
  have t0_:=(X1.o.bel B37.o).c;have n0_:=(X3.o.bel B37.o).c;obtain⟨m0,m1,m2,m3,m4,m5,m6,m7,m8,m9,m10,m11,m12,m13,m14⟩:=(X3.o.bel B37.o).f;rw[show w.heap.size+2=w.heap.size+1+1 from rfl]at n0_ m0 m1 m2 m3 m4 m5 m6 m7 m8 m9 m10 m11 m12 m13 m14;have P9:=aa ((X3.o.bel B37.o).put15 t a b c d oa oc);have G9:=aa (mz (r:=some S) (am Y3g.o (aq B37.o)) (show w.heap.size<=w.heap.size+2 by omega) t a b c d oa oc);have S9:=aa ((SB3.o.bel B37.o).gr (g15 _ (w.heap.size+2) t a b c d oa oc) (by intro e;cases e;have:=SLT.o;omega));have O9:=aa (cQ.out15 (TK.o.bel B37.o) (g:=w.heap.size+2) (by omega) (by omega) t a b c d oa oc);have z0_:=P9.o.c;rw[show w.heap.size+2=w.heap.size+1+1 from rfl]at z0_;simp only[jE]at z0_;go_wp2
  refine MM (v:=.tuple #[.agg (Ld t a c b d oa oc),.int .i64 se]) ?_ rfl ?_
  ·simp[results,results47,go_sem,z0_]
  ·rw[R.o];exact⟨a,b,c,d,oa,oc,rfl,O9.o,S9.o,G9.o⟩
 subst hye;rcases HX.o with hx | hx
 ·exact absurd rfl hx
 ·exact absurd HSE.o hx
open Classical in
theorem Db(w:LC)(ok S v time ver acts t a b c d oa oc)(q:cm)(hs:eF w S v time ver acts)(hS:¬ok S)(hv:0<=ver/\ver<=1000)(hgn:0<=t.gen/\t.gen<=1000)(ht:cQ w ok t a b c d oa oc)(hG:cn w)(hM:bj w)(hW:di w)(hN:(bA t.owners).length<=4000000)(hP:∀ o∈t.owners,∀ x∈o.paths,x.length<=140737488351232)(hq:q.body.length<=9223372036854775807)(hw:q.who.length<=9223372036854775807)(hx:(aJ t q).2.2=0/\cI (aJ t q).1=0):Calls prog 47 #[.pointer (some ⟨S,0,none⟩),.agg (Ld t a c b d oa oc),.agg (Lf q)] w fun e w'=>∃ a9 b9 c9 d9 oa9 oc9,e=.returned (.tuple #[.agg #[.string ⟨(al time ver t q).1.name.toArray⟩,.int .i64 (al time ver t q).1.value.kind,.int .i64 (al time ver t q).1.value.n,.string ⟨(al time ver t q).1.value.s.toArray⟩,.slice a9 (al time ver t q).1.value.keys.length c9,.slice b9 (al time ver t q).1.value.l.length d9,.slice oa9 (al time ver t q).1.owners.length oc9,.int .i64 (al time ver t q).1.ver,.int .i64 (al time ver t q).1.gen,.string ⟨(al time ver t q).1.st.a.toArray⟩,.string ⟨(al time ver t q).1.st.c.toArray⟩,.int .i64 (al time ver t q).1.st.ph,.int .i64 (al time ver t q).1.st.st,.int .i64 (al time ver t q).1.st.we,.int .i64 (al time ver t q).1.st.si],.int .i64 (al time ver t q).2.2])/\cQ w' (bQ ok w.heap.size) (al time ver t q).1 a9 b9 c9 d9 oa9 oc9/\eF w' S v time (al time ver t q).2.1 acts/\w.grownBy w' (some S):=by
 obtain⟨W3,hW3⟩:∃ W,W=((w.alloc (.cells (Ld t a c b d oa oc) 37)).alloc (.cells (Lf q) 45)).alloc (.cells Le 37):=⟨_,rfl⟩
 have Y3:Ll (La w W3):=aa (by rw[hW3];exact ab (ab (ae _ _) (ae _ _)) (ae _ _));have Y3g:Ll (w.grownBy W3 (some S)):=aa (aq Y3.o);have X1:Ll (fN W3 w.heap.size t a b c d oa oc):=aa (by rw[hW3];exact lI _ _ _ _);have X2:Ll (jC W3 (w.heap.size+1) q):=aa (by rw[hW3];exact mE _ _ _ _);have X3:Ll (fN W3 (w.heap.size+2) dT none none 0 0 none 0):=aa (by rw[hW3];exact jI _ _ _ _);have HW3:=aa hW3;have SB3:=aa (hs.bel Y3.o);have SLT:Ll (S < w.heap.size):=aa hs.lt;have HS:=aa hS;have HV:=aa hv;have HGN:=aa hgn;have TNL:=aa ht.name;have TK:Ll (cQ W3 (bg ok w.heap.size (w.heap.size+3)) t a b c d oa oc):=aa ((ht.low.weak fun k hk=>.inl hk).bel Y3.o);have S3:Ll (w.heap.size+3<=W3.heap.size):=aa (by have:=X3.o.lt;omega);have WAN0:=rN W3 (bg ok w.heap.size (w.heap.size+3)) t a b c d oa oc q TK.o (hG.grown (r:=none) (aq Y3.o) (by simp)) (hM.bel Y3.o) (hW.bel Y3.o) hN hP hq hw;obtain⟨y,yo,ye,hy⟩:∃ y yo ye,aJ t q=(y,yo,ye):=⟨_,_,_,rfl⟩
 rw[hy]at WAN0 hx;have WAN:Ll (Calls prog 65 #[.agg (Ld t a c b d oa oc),.agg (Lf q)] W3 fun e w'=>∃ (a2 b2:Option Addr) (c2 d2:Nat) (ma:Option Addr) (mc:Nat),e=.returned (.tuple #[.agg (KV y a2 c2 b2 d2),.slice ma yo.length mc,.int .i64 ye])/\In w' (bg ok w.heap.size (w.heap.size+3)) y (.agg (KV y a2 c2 b2 d2))/\aB w' (bg ok w.heap.size (w.heap.size+3)) yo (.slice ma yo.length mc)/\La W3 w'):=aa (WAN0.mono fun e w' h=>by
  obtain⟨r,ro,rfl,h1,h2,h3⟩:=h;obtain⟨a2,b2,c2,d2,rfl⟩:=h1.form;obtain⟨ma,mc,rfl⟩:=h2.form;exact⟨a2,b2,c2,d2,ma,mc,rfl,h1.weak (No S3.o),h2.weak (No S3.o),h3⟩)
 have HY:=aa hy;obtain⟨hx1,hx2⟩:=hx;simp only at hx1 hx2;have HX1:=aa hx1;have HX2:=aa hx2;clear hx1 hx2;clear WAN0 hy hW3 hs hS hv hgn ht hG hM hW hN hP hq hw;obtain⟨q0,q1,q2,q3,q4,q5,q6,q7⟩:=X2.o.c;obtain⟨t0,t1,t2,t3,t4,t5,t6,t7,t8,t9,t10,t11,t12,t13,t14⟩:=X1.o.c;go_enter func47,ntmps47;go_upto_region 1 with fail
 rw[<-HW3.o];go_upto_region 2 with (go_at_call 65;refine WAN.o.mono ?_;rintro e w4 ⟨a2,b2,c2,d2,ma,mc,rfl,h1,h2,hb⟩;have B4:=aa hb;have I4:=aa h1;have O4:=aa h2;clear h1 h2 hb)
 obtain⟨W5,hW5⟩:∃ W,W=w4.alloc (.cells (KV y a2 c2 b2 d2) 32):=⟨_,rfl⟩
 have A5:Ll (La w4 W5):=aa (by rw[hW5];exact ae _ _);have PB:Ll (KY W5 w4.heap.size y a2 c2 b2 d2):=aa (by rw[hW5];exact MN _ _);rw[<-hW5];clear hW5;have B35:=aa (ab B4.o A5.o);obtain rfl:ye=0:=HX1.o;obtain⟨sp,hsp⟩:∃ sp,bE y=sp:=⟨_,rfl⟩
 obtain⟨se,hse⟩:∃ se,cI y=se:=⟨_,rfl⟩
 have LSP:Ll (sp.1.length<=9223372036854775807):=aa (by rw[<-hsp];exact nz _);have RD:=oY W5 (bg ok w.heap.size (w.heap.size+3)) y _ (I4.o.bel A5.o);rw[hsp,hse]at RD;obtain⟨im,sps⟩:=sp;have READ:=aa RD;have HRG:=aa hsp;have HSE:=aa hse;clear RD hsp hse;have p0_:=PB.o.c;go_upto_region 4 with fail
 go_upto_region 5 with (go_at_call 41;refine READ.o.mono ?_;rintro e w6 ⟨sl,rfl,h1,hb⟩;obtain⟨sa,sc,rfl⟩:=mH h1.1;have B6:=aa hb;have SP6:=aa h1;clear h1 hb)
 obtain⟨W7,hW7⟩:∃ W,W=w6.alloc (.cells #[.string ⟨im.toArray⟩,.slice sa sps.length sc] 85):=⟨_,rfl⟩
 have A7:Ll (La w6 W7):=aa (by rw[hW7];exact ae _ _);have PX:Ll (fM W7 w6.heap.size im (.slice sa sps.length sc)):=aa (by rw[hW7];exact MN _ _);rw[<-hW7];clear hW7;have B57:=aa (ab B6.o A7.o);have B37:=aa (ab B35.o B57.o);obtain rfl:se=0:=HSE.o.symm.trans HX2.o;have WF:Ll (al time ver t q=((jw time ver t y yo).1,(jw time ver t y yo).2,0)):=aa (by unfold al;rw[HY.o,if_neg (by simp),HSE.o,if_neg (by simp)]);have hwV:IntKind.i64.wrap (ver+1)=ver+1:=by have:=HV.o;rw[IntKind.wrap_i64];omega
 have WG:Ll (IntKind.i64.wrap (t.gen+1)=t.gen+1):=aa (by have:=HGN.o;rw[IntKind.wrap_i64];omega);have WR:Ll (kU w ok S v time acts y yo im sps w4.heap.size w6.heap.size a2 b2 c2 d2 ma sa mc sc t a b c d oa oc ver W7):=aa ⟨X1.o.bel B37.o,X3.o.bel B37.o,af B57.o PB.o,PX.o,SB3.o.bel B37.o,am Y3g.o (aq B37.o),(I4.o.bel A5.o).bel B57.o,(O4.o.bel A5.o).bel B57.o,SP6.o.1.bel A7.o,fun k hk=>MH (MH S3.o B35.o.size) (SP6.o.2 k hk),SLT.o,HS.o,MH S3.o B4.o.size,MH S3.o (MH B35.o.size B6.o.size)⟩;have CNT:Ll (fa y<=2000000000000):=aa (MH (gE (dQ (lq HSE.o))) (by omega));have SAME:Ll (Calls prog 32 #[.agg (KV y a2 c2 b2 d2),.agg (KV t.value a c b d)] W7 fun e w'=>Je W7 y t.value e w'):=aa (lP W7 (bg ok w.heap.size (w.heap.size+3)) (bg ok w.heap.size (w.heap.size+3)) y t.value _ _ WR.o.inY (TK.o.bel B37.o).val CNT.o);have SOWN:Ll (∀ W,La W7 W->Calls prog 66 #[.slice ma yo.length mc,.slice oa t.owners.length oc] W fun e w'=>e=.returned (.bool (decide (yo=t.owners)))/\La W w'):=aa (fun W hW=>rh W (bg ok w.heap.size (w.heap.size+3)) (bg ok w.heap.size (w.heap.size+3)) yo t.owners _ _ (WR.o.own.bel hW) ((TK.o.bel B37.o).own.bel hW));go_upto_region 7 with fail
 obtain⟨bN,hbN⟩:∃ b,b=decide (t.gen=0):=⟨_,rfl⟩
 obtain⟨bO,hbO⟩:∃ b,b=(bN || decide (¬y=t.value)):=⟨_,rfl⟩
 obtain⟨bV,hbV⟩:∃ b,b=(bO || decide (¬yo=t.owners)):=⟨_,rfl⟩
 have eN:(t.gen == 0)=bN:=by rw[hbN];rfl
 have HBN:=aa hbN;have HBO:=aa hbO;have HBV:=aa hbV;clear hbN hbO hbV;obtain⟨t0,t1,t2,t3,t4,t5,t6,t7,t8,t9,t10,t11,t12,t13,t14⟩:=WR.o.th.c;have p0_:=WR.o.val.c;go_upto_region 8 with fail
 go_cut [13] (fun s13 wc=>s13=.bool bO/\Ll (La W7 wc))
 case first=>
  cases bN with
  | true=>
   obtain rfl:bO=true:=by rw[HBO.o];rfl
   go_wp2
   go_meet
   case rel=>exact⟨rfl,MK _ _⟩
  | false=>
   go_wp2_with (go_at_call 32;refine SAME.o.mono ?_;rintro e w8 ⟨r8,rfl,h8,hb⟩;have B8:=aa hb;have E8:Ll ((!r8)=bO):=aa (by rw[HBO.o,Bool.false_or];cases r8 with | true=>simp[h8.1 rfl] | false=>simp;exact fun h9=>by simp[h9]at h8);clear h8 hb)
   go_meet
   case rel=>exact⟨by rw[<-E8.o],B8⟩
 case rest=>
 obtain⟨rfl,BB⟩:=hcut;obtain⟨wc0,hwc0⟩:∃ w9,w9=wc:=⟨_,rfl⟩
 rw[<-hwc0]at BB ⊢;clear hwc0;have WR8:=aa (WR.o.bel BB.o);obtain⟨t0,t1,t2,t3,t4,t5,t6,t7,t8,t9,t10,t11,t12,t13,t14⟩:=WR8.o.th.c;go_upto_region 9 with fail
 go_cut [52] (fun s52 wc=>s52=.bool bV/\Ll (La W7 wc))
 case first=>
  cases bO with
  | true=>
   obtain rfl:bV=true:=by rw[HBV.o];rfl
   go_wp2
   go_meet
   case rel=>exact⟨rfl,BB⟩
  | false=>
   have E9:Ll ((!decide (yo=t.owners))=bV):=aa (by rw[HBV.o,Bool.false_or];by_cases h9:yo=t.owners <;> simp[h9]);go_wp2_with (go_at_call 66;refine Lk (SOWN.o _ BB.o) fun w9 hb=>?_;have B9:=aa (ab BB.o hb);clear hb)
   go_meet
   case rel=>exact⟨by rw[<-E9.o],B9⟩
 case rest=>
 obtain⟨rfl,BC⟩:=hcut;obtain⟨wA,hwA⟩:∃ w9,w9=wc:=⟨_,rfl⟩
 rw[<-hwA]at BC ⊢;clear hwA WR8;have WRA:=aa (WR.o.bel BC.o);obtain⟨tA,htA⟩:∃ t9:Th,t9=(if bV then { t with ver:=ver+1 } else t):=⟨_,rfl⟩
 obtain⟨verB,hverB⟩:∃ v9:Int,v9=(if bV then ver+1 else ver):=⟨_,rfl⟩
 have HTA:=aa htA;have HVB:=aa hverB;clear htA hverB;go_upto_if 52 with fail
 go_cut [] (fun wc=>Ll (kU w ok S v time acts y yo im sps w4.heap.size w6.heap.size a2 b2 c2 d2 ma sa mc sc tA a b c d oa oc verB wc))
 case first=>
  cases bV with
  | true=>
   have s0_:=WRA.o.srv.c;obtain⟨g0,g1,g2,g3⟩:=WRA.o.srv.f;go_upto_region 11 with fail
   clear g0 g1 g2 g3;obtain⟨wB,hwB⟩:∃ W,W=wA.setCell ⟨S,2,none⟩ (.int .i64 (ver+1)):=⟨_,rfl⟩
   have WRB:Ll (kU w ok S v time acts y yo im sps w4.heap.size w6.heap.size a2 b2 c2 d2 ma sa mc sc t a b c d oa oc (ver+1) wB):=aa (by rw[hwB];exact WRA.o.verS _);rw[<-hwB];clear hwB;have s0_:=WRB.o.srv.c;obtain⟨t0,t1,t2,t3,t4,t5,t6,t7,t8,t9,t10,t11,t12,t13,t14⟩:=WRB.o.th.c;obtain⟨f0,f1,f2,f3,f4,f5,f6,f7,f8,f9,f10,f11,f12,f13,f14⟩:=WRB.o.th.f;go_wp2
   go_meet
   case rel=>exact aa (by rw[HTA.o,HVB.o];exact WRB.o.verT _)
  | false=>
   go_wp2
   go_meet
   case rel=>exact aa (by rw[HTA.o,HVB.o];exact WRA.o)
 case rest=>
 obtain⟨wB,hwB⟩:∃ w9,w9=wc:=⟨_,rfl⟩
 rw[<-hwB]at hcut ⊢;clear hwB WRA;have WRB:=hcut;clear hcut;obtain⟨tB,htB⟩:∃ t9:Th,t9=(if bO then { tA with gen:=t.gen+1 } else tA):=⟨_,rfl⟩
 have HTB:=aa htB;have HGA:Ll (tA.gen=t.gen):=aa (by rw[HTA.o];cases bV <;> rfl);clear htB;go_upto_if 65 with fail
 go_cut [] (fun wc=>Ll (kU w ok S v time acts y yo im sps w4.heap.size w6.heap.size a2 b2 c2 d2 ma sa mc sc tB a b c d oa oc verB wc))
 case first=>
  cases bO with
  | true=>
   have hwG:IntKind.i64.wrap (tA.gen+1)=t.gen+1:=by rw[HGA.o];exact WG.o
   obtain⟨t0,t1,t2,t3,t4,t5,t6,t7,t8,t9,t10,t11,t12,t13,t14⟩:=WRB.o.th.c;obtain⟨f0,f1,f2,f3,f4,f5,f6,f7,f8,f9,f10,f11,f12,f13,f14⟩:=WRB.o.th.f;go_wp2
   go_meet
   case rel=>exact aa (by rw[HTB.o];exact WRB.o.genT _)
  | false=>
   go_wp2
   go_meet
   case rel=>exact aa (by rw[HTB.o];exact WRB.o)
 case rest=>
 obtain⟨wC,hwC⟩:∃ w9,w9=wc:=⟨_,rfl⟩
 rw[<-hwC]at hcut ⊢;clear hwC WRB;have WRC:=hcut;clear hcut;obtain⟨fs,fe,hfs⟩:∃ fs fe,fV im sps=(fs,fe):=⟨_,_,rfl⟩
 have HFS:=aa hfs;clear hfs;obtain⟨tC,htC⟩:∃ t9:Th,t9=(if bN then { tB with st:=fs } else tB):=⟨_,rfl⟩
 have HTC:=aa htC;clear htC;go_upto_if 70 with fail
 go_cut [] (fun wc=>Ll (kU w ok S v time acts y yo im sps w4.heap.size w6.heap.size a2 b2 c2 d2 ma sa mc sc tC a b c d oa oc verB wc))
 case first=>
  cases bN with
  | true=>
   have FI:Ll (Calls prog 67 #[.agg #[.string ⟨im.toArray⟩,.slice sa sps.length sc]] wC fun e w'=>e=.returned (.tuple #[.agg (Li fs),.int .i64 fe])/\La wC w'):=aa (by
    have:=DZ wC im sps (.slice sa sps.length sc) WRC.o.stp LSP.o;rw[HFS.o]at this;exact this)
   obtain⟨u0,u1,-⟩:=WRC.o.spec.c2;obtain⟨t0,t1,t2,t3,t4,t5,t6,t7,t8,t9,t10,t11,t12,t13,t14⟩:=WRC.o.th.c;obtain⟨f0,f1,f2,f3,f4,f5,f6,f7,f8,f9,f10,f11,f12,f13,f14⟩:=WRC.o.th.f;go_wp2_with (go_at_call 67;refine FI.o.mono ?_;rintro e wF ⟨rfl,hb⟩;have WRF:=aa (WRC.o.bel hb);clear hb u0 u1 f0 f1 f2 f3 f4 f5 f6 f7 f8 f9 f10 f11 f12 f13 f14;obtain⟨t0,t1,t2,t3,t4,t5,t6,t7,t8,t9,t10,t11,t12,t13,t14⟩:=WRF.o.th.c;obtain⟨f0,f1,f2,f3,f4,f5,f6,f7,f8,f9,f10,f11,f12,f13,f14⟩:=WRF.o.th.f)
   go_meet
   case rel=>exact aa (by rw[HTC.o];exact WRF.o.staT _)
  | false=>
   go_wp2
   go_meet
   case rel=>exact aa (by rw[HTC.o];exact WRC.o)
 case rest=>
 obtain⟨wD,hwD⟩:∃ w9,w9=wc:=⟨_,rfl⟩
 rw[<-hwD]at hcut ⊢;clear hwD WRC WR;have WR:=hcut;clear hcut;obtain⟨t0,t1,t2,t3,t4,t5,t6,t7,t8,t9,t10,t11,t12,t13,t14⟩:=WR.o.th.c;obtain⟨f0,f1,f2,f3,f4,f5,f6,f7,f8,f9,f10,f11,f12,f13,f14⟩:=WR.o.th.f;have p0_:=WR.o.val.c;go_upto_region 16 with fail
 go_upto_region 17 with fail
 clear f0 f1 f2 f3 f4 f5 f6 f7 f8 f9 f10 f11 f12 f13 f14;obtain⟨WE,hWE⟩:∃ W,W=((((((wD.setCell ⟨w.heap.size,1,none⟩ (.int .i64 y.kind)).setCell ⟨w.heap.size,2,none⟩ (.int .i64 y.n)).setCell ⟨w.heap.size,3,none⟩ (.string ⟨y.s.toArray⟩)).setCell ⟨w.heap.size,4,none⟩ (.slice a2 y.keys.length c2)).setCell ⟨w.heap.size,5,none⟩ (.slice b2 y.l.length d2)).setCell ⟨w.heap.size,6,none⟩ (.slice ma yo.length mc)):=⟨_,rfl⟩
 obtain⟨tE,htE⟩:∃ t9:Th,t9={ tC with value:=y,owners:=yo }:=⟨_,rfl⟩
 have WR9:Ll (kU w ok S v time acts y yo im sps w4.heap.size w6.heap.size a2 b2 c2 d2 ma sa mc sc tE a2 b2 c2 d2 ma mc verB WE):=aa (by rw[htE,hWE];exact kU.putV WR.o _ _ _ _ _ _);rw[<-hWE];have HtE:=aa htE;clear hWE htE WR;have WR:=WR9;clear WR9;obtain⟨ns,ne,hns⟩:∃ ns ne,ij im sps tE.st time 0=(ns,ne):=⟨_,_,rfl⟩
 have HNS:=aa hns;have NX:Ll (∀ W,kU w ok S v time acts y yo im sps w4.heap.size w6.heap.size a2 b2 c2 d2 ma sa mc sc tE a2 b2 c2 d2 ma mc verB W->Calls prog 42 #[.agg #[.string ⟨im.toArray⟩,.slice sa sps.length sc],.agg (Li tE.st),.int .i64 time,.int .i64 0] W fun e w'=>e=.returned (.tuple #[.agg (Li ns),.int .i64 ne])/\La W w'):=aa (fun W hW=>by
  have:=AK W im sps (.slice sa sps.length sc) tE.st time 0 hW.stp LSP.o;rw[HNS.o]at this;exact this)
 clear hns;have HTE:Ll (tE.name=t.name/\tE.value=y/\tE.owners=yo):=aa (by rw[HtE.o,HTC.o,HTB.o,HTA.o];cases bN <;> cases bO <;> cases bV <;> exact⟨rfl,rfl,rfl⟩);have R:Ll (∀ tF:Th,tF={ tE with st:=ns }->al time ver t q=(tF,verB,0)):=aa (by
  intro tF htF;have h9:=HNS.o;rw[htF,WF.o,HVB.o,HtE.o,HTC.o,HTB.o,HTA.o];rw[HtE.o,HTC.o,HTB.o,HTA.o]at h9;by_cases q1:t.gen=0
  ·obtain rfl:bN=true:=by rw[HBN.o];simpa using q1
   obtain rfl:bO=true:=by rw[HBO.o];rfl
   obtain rfl:bV=true:=by rw[HBV.o];rfl
   exact Kb HRG.o q1 HFS.o h9
  ·obtain rfl:bN=false:=by rw[HBN.o];simpa using q1
   by_cases q2:y=t.value
   ·obtain rfl:bO=false:=by rw[HBO.o];simp[q2]
    by_cases q3:yo=t.owners
    ·obtain rfl:bV=false:=by rw[HBV.o];simp[q3]
     exact Ku HRG.o q1 q2 q3 h9
    ·obtain rfl:bV=true:=by rw[HBV.o];simp[q3]
     exact Kw HRG.o q1 q2 q3 h9
   ·obtain rfl:bO=true:=by rw[HBO.o];simp[q2]
    obtain rfl:bV=true:=by rw[HBV.o];rfl
    exact JZ HRG.o q1 q2 h9)
 refine aD (fun wS=>kU w ok S v time acts y yo im sps w4.heap.size w6.heap.size a2 b2 c2 d2 ma sa mc sc tE a2 b2 c2 d2 ma mc verB wS) [12] (by kernel_rfl) (WR.o.bel (aC _ 1)) (fun LI=>?_);refine WT.out ?_;iterate 7
  first
   | refine OJ 0 ?_ [7,8,9,10,11,12] LI ?_ ?_
   | refine OJ 1 ?_ [2,7,8,9,10,11,12] LI ?_ ?_
   | refine OJ 2 ?_ [7,8,9,10,11,12] LI ?_ ?_
   | refine OJ 3 ?_ [4,5,6,7,8,9,10,11,12] LI ?_ ?_
   | refine OJ 4 ?_ [5,6,7,8,9,10,11,12] LI ?_ ?_
   | refine OJ 5 ?_ [6,7,8,9,10,11,12] LI ?_ ?_
   | refine OJ 6 ?_ [7,8,9,10,11,12] LI ?_ ?_
  rotate_left
  ·intro wS LN;obtain⟨u0,u1,-⟩:=LN.spec.c2;obtain⟨t0,t1,t2,t3,t4,t5,t6,t7,t8,t9,t10,t11,t12,t13,t14⟩:=LN.th.c;have s0_:=LN.srv.c;go_simp;all_goals with_reducible rfl
  simp only[av,List.set]
 repeat' (first
  | exact nl
  |(refine ON 7 (fun K hK=>?_) ?_
    go_simp;refine Lk (NX.o _ LI) fun w7q hb5=>?_;refine hK.out _ _ (LI.bel hb5) (fun LJ=>?_);clear hb5;clear hK K;replace LI:=LJ;clear LJ;try simp only[Act.put,Mt,Mu,Mv])
  |(refine OO 12 (fun K hK=>?_)
    obtain⟨t0,t1,t2,t3,t4,t5,t6,t7,t8,t9,t10,t11,t12,t13,t14⟩:=LI.th.c;obtain⟨f0,f1,f2,f3,f4,f5,f6,f7,f8,f9,f10,f11,f12,f13,f14⟩:=LI.th.f;have WR8:=aa (LI.staT ns);go_simp;refine hK.out _ _ ?_;clear hK K;try simp only[Act.put,Mt,Mu,Mv])
  |(first
     | refine OJ 8 ?_ [9,10,11,12] (by exact LI) ?_ ?_
     | refine OJ 9 ?_ [11,12] (by exact LI) ?_ ?_
    rotate_left
    ·intro wS LN;go_simp;all_goals with_reducible rfl
    simp only[av,List.set])
  |(refine Pm 10 ?_ (by exact LI) ?_ ?_
    rotate_left
    ·intro wS;go_simp;all_goals with_reducible rfl
    simp only[av,List.set])
  |(refine OJ 11 ?_ [12] (by exact LI) ?_ ?_
    rotate_left
    ·intro wS LN;go_simp;all_goals with_reducible rfl
    simp only[av,List.set])
  | refine OL [7] ?_
  | fail)
 all_goals
  refine dn (by kernel_rfl) ?_;obtain⟨tF,htF⟩:∃ t9:Th,t9={ tE with st:=ns }:=⟨_,rfl⟩
  rw[<-htF]at WR8;have HtF:=aa htF;clear htF;obtain⟨t0,t1,t2,t3,t4,t5,t6,t7,t8,t9,t10,t11,t12,t13,t14⟩:=WR8.o.th.c;obtain⟨n0,n1,n2,n3,n4,n5,n6,n7,n8,n9,n10,n11,n12,n13,n14⟩:=WR8.o.res.c;obtain⟨m0,m1,m2,m3,m4,m5,m6,m7,m8,m9,m10,m11,m12,m13,m14⟩:=WR8.o.res.f;rw[show w.heap.size+2=w.heap.size+1+1 from rfl]at n0 n1 n2 n3 n4 n5 n6 n7 n8 n9 n10 n11 n12 n13 n14 m0 m1 m2 m3 m4 m5 m6 m7 m8 m9 m10 m11 m12 m13 m14;have P9:=aa (WR8.o.res.put15 tF a2 b2 c2 d2 ma mc);have G9:=aa (mz WR8.o.gb (show w.heap.size<=w.heap.size+2 by omega) tF a2 b2 c2 d2 ma mc);have S9:=aa (WR8.o.srv.gr (g15 _ (w.heap.size+2) tF a2 b2 c2 d2 ma mc) (by intro e;cases e;have:=WR8.o.low;omega));have O9:=aa (kU.ok15 WR8.o HtF.o HTE.o TNL.o);obtain⟨z0,z1,z2,z3,z4,z5,z6,z7,z8,z9,z10,z11,z12,z13,z14⟩:=P9.o.c;rw[show w.heap.size+2=w.heap.size+1+1 from rfl]at z0 z1 z2 z3 z4 z5 z6 z7 z8 z9 z10 z11 z12 z13 z14;simp only[jE,mV]at t0 t1 t2 t3 t4 t5 t6 t7 t8 t9 t10 t11 t12 t13 t14 n0 n1 n2 n3 n4 n5 n6 n7 n8 n9 n10 n11 n12 n13 n14 m0 m1 m2 m3 m4 m5 m6 m7 m8 m9 m10 m11 m12 m13 m14 z0 z1 z2 z3 z4 z5 z6 z7 z8 z9 z10 z11 z12 z13 z14;go_wp2
  refine MM (v:=.tuple #[.agg (Ld tF a2 c2 b2 d2 ma mc),.int .i64 0]) ?_ rfl ?_
  ·simp[results,results47,go_sem,z0,z1,z2,z3,z4,z5,z6,z7,z8,z9,z10,z11,z12,z13,z14]
  ·rw[R.o _ HtF.o];exact⟨a2,b2,c2,d2,ma,mc,rfl,O9.o,S9.o,G9.o⟩
theorem pI(w:LC)(ok S v time ver acts t a b c d oa oc)(q:cm)(hs:eF w S v time ver acts)(hS:¬ok S)(hv:0<=ver/\ver<=1000)(hgn:0<=t.gen/\t.gen<=1000)(ht:cQ w ok t a b c d oa oc)(hG:cn w)(hM:bj w)(hW:di w)(hN:(bA t.owners).length<=4000000)(hP:∀ o∈t.owners,∀ x∈o.paths,x.length<=140737488351232)(hq:q.body.length<=9223372036854775807)(hw:q.who.length<=9223372036854775807):Calls prog 47 #[.pointer (some ⟨S,0,none⟩),.agg (Ld t a c b d oa oc),.agg (Lf q)] w fun e w'=>∃ a9 b9 c9 d9 oa9 oc9,e=.returned (.tuple #[.agg #[.string ⟨(al time ver t q).1.name.toArray⟩,.int .i64 (al time ver t q).1.value.kind,.int .i64 (al time ver t q).1.value.n,.string ⟨(al time ver t q).1.value.s.toArray⟩,.slice a9 (al time ver t q).1.value.keys.length c9,.slice b9 (al time ver t q).1.value.l.length d9,.slice oa9 (al time ver t q).1.owners.length oc9,.int .i64 (al time ver t q).1.ver,.int .i64 (al time ver t q).1.gen,.string ⟨(al time ver t q).1.st.a.toArray⟩,.string ⟨(al time ver t q).1.st.c.toArray⟩,.int .i64 (al time ver t q).1.st.ph,.int .i64 (al time ver t q).1.st.st,.int .i64 (al time ver t q).1.st.we,.int .i64 (al time ver t q).1.st.si],.int .i64 (al time ver t q).2.2])/\cQ w' (bQ ok w.heap.size) (al time ver t q).1 a9 b9 c9 d9 oa9 oc9/\eF w' S v time (al time ver t q).2.1 acts/\w.grownBy w' (some S):=by
 by_cases h1:(aJ t q).2.2=0/\cI (aJ t q).1=0
 ·exact Db w ok S v time ver acts t a b c d oa oc q hs hS hv hgn ht hG hM hW hN hP hq hw h1
 ·refine CO w ok S v time ver acts t a b c d oa oc q hs hS hv hgn ht hG hM hW hN hP hq hw ?_;by_cases h2:(aJ t q).2.2=0
  ·exact .inr fun h3=>h1 ⟨h2,h3⟩
  ·exact .inl h2
end
variable {k:Nat}
theorem Jt(w:LC)(v n cells)(h:du w 2 v n cells):Calls prog 22 #[v] w fun e w'=>∃ v',e=.returned v'/\w'.ownsRow w.heap.size 65 2 v' n cells/\La w w':=by
 obtain⟨i0,hi,hz0,hz1,hz2⟩:=info_parts Sc;obtain⟨g1,g2,g3,g4⟩:=h;rcases g4 with⟨rfl,rfl⟩ | ⟨ad,cc,rfl,Mb⟩
 ·have hc0:cells=[]:=List.eq_nil_of_length_eq_zero (by rw[g1]);subst hc0;have hnil:∀ W:LC,(binOp .eql 33 (.slice none 0 0) (.slice none 0 0)).run prog W=.ok (.bool true) W:=fun W=>Lib.run_eql_slice_nil W _ _ _ _ _ _ _ underlying33;go_enter func22,ntmps22;go_wp2
  go_ret;exact⟨_,rfl,World.ownsRow_nil _ _ _ _,MK _ _⟩
 ·have O:Ll ((w.alloc (.cells #[] 65)).ownsRow w.heap.size 65 2 (.slice (some ⟨w.heap.size,0,none⟩) 0 0) 0 []):=World.ownsRow_made w #[] 0 (MG _) (by simp) (by simp);have C:Ll (cells.length=n * 2/\(∀ u∈cells,u.oneCell'=true)/\∀ j u,cells[j]?=some u->(w.alloc (.cells #[] 65)).cell? (ad.add j)=some u):=⟨g1,g3,fun j u hj=>ah (ae _ _) (Mb j u hj)⟩
  have hnil:∀ W:LC,(binOp .eql 33 (.slice (some ad) n cc) (.slice none 0 0)).run prog W=.ok (.bool false) W:=fun W=>Lib.run_eql_slice_nil W _ _ _ _ _ _ _ underlying33;clear g1 g3 Mb;go_enter func22,ntmps22;go_wp2_with (at_builtin;go_must (refine wpList_append_own _ rfl _ _ 33 rfl w.heap.size 65 i0 _ 2 40 underlying33 hi hz0 hz1 hz2 rfl (by decide) (.slice (some ⟨w.heap.size,0,none⟩) 0 0) 0 [] rfl O.o ad n cc cells rfl C.o.1 C.o.2.2 C.o.2.1 (by unfold maxLen;omega) (by omega) (by simp) ?_);intro v2 w2 ho2 hg2 _;refine Ll.o ?_)
  refine aa ?_;have D:Ll (w2.ownsRow w.heap.size 65 2 v2 n cells/\La w w2):=by
   rw[Nat.zero_add,List.nil_append]at ho2;exact⟨ho2,(ae w _).grown hg2 (by simp) (fun k hk=>(O.o.lt k hk).1)⟩
  clear ho2 hg2;go_wp2
  go_ret;exact⟨v2,rfl,D.o.1,D.o.2⟩
theorem BP{xs}(h:ao w ok xs v):∀ x∈xs,x.length<=maxLen:=by
 intro x hx;obtain⟨j,hj,rfl⟩:=List.getElem_of_mem hx;rcases h.2 with⟨rfl,-⟩ | ⟨b,off,c,-,-,-,h3⟩
 ·simp at hj
 ·exact(h3 j _ (Mw hj)).1
theorem pG:∀ (os:List aL) (vs:List Value) (i:Nat) (u:Value),(ba os vs).set (i * 2+1) u=ba os (vs.set i u)
 | [],_,i,u=>by simp[ba]
 | _ :: _,[],i,u=>by simp[ba]
 | o :: os,v :: vs,0,u=>by simp[ba]
 | o :: os,v :: vs,i+1,u=>by
  rw[show (i+1) * 2+1=(i * 2+1)+1+1 by omega];show _ :: _ :: (ba os vs).set (i * 2+1) u=_;rw[pG os vs i u];rfl
theorem pL{b}:∀ (os:List aL) (off:Nat),(∀ (i:Nat) (x:aL),os[i]?=some x->∃ u,(∃ a c,u=.slice a x.paths.length c)/\w.cell? ⟨b,off+i * 2,none⟩=some (aR x.name)/\w.cell? ⟨b,off+i * 2+1,none⟩=some u/\ao w ok x.paths u) ->
 ∃ pvs:List Value,pvs.length=os.length/\(∀ (j:Nat) (u:Value),(ba os pvs)[j]?=some u->w.cell? ⟨b,off+j,none⟩=some u/\u.oneCell'=true)/\∀ (j:Nat) (o:aL) (u:Value),os[j]?=some o->pvs[j]?=some u->(∃ a c,u=.slice a o.paths.length c)/\ao w ok o.paths u
 | [],off,_=>⟨[],rfl,fun j u hj=>by simp[ba]at hj,fun j o u hj=>by simp at hj⟩
 | o :: os,off,h=>by
  obtain⟨u,h1,h2,h3,h4⟩:=h 0 o rfl;obtain⟨pvs,k1,k2,k3⟩:=pL os (off+2) fun i x hx=>by
   obtain⟨u,q1,q2,q3,q4⟩:=h (i+1) x (by simpa using hx);refine⟨u,q1,?_,?_,q4⟩
   ·rw[show off+2+i * 2=off+(i+1) * 2 by omega];exact q2
   ·rw[show off+2+i * 2+1=off+(i+1) * 2+1 by omega];exact q3
  refine⟨u :: pvs,by simp[k1],fun j x hj=>?_,fun j x y hx hy=>?_⟩
  ·match j with
   | 0=>cases hj;exact⟨h2,rfl⟩
   | 1=>cases hj;obtain⟨a,c,rfl⟩:=h1;exact⟨h3,rfl⟩
   | j+2=>
    have:=k2 j x hj;rwa [show off+2+j=off+(j+2) by omega]at this
  ·match j with
   | 0=>cases hx;cases hy;exact⟨h1,h4⟩
   | j+1=>exact k3 j x y (by simpa using hx) (by simpa using hy)
theorem Hi{os}(h:aB w ok os v)(hl:os.length<=1000000):∃ pvs:List Value,pvs.length=os.length/\du w 2 v os.length (ba os pvs)/\(∀ (j:Nat) (o:aL) (u:Value),os[j]?=some o->pvs[j]?=some u->(∃ a c,u=.slice a o.paths.length c)/\ao w ok o.paths u)/\∀ o∈os,o.name.length<=maxLen:=by
 rcases h.2 with⟨rfl,a,rfl⟩ | ⟨b,off,c,rfl,h1,h2,h3⟩
 ·exact⟨[],rfl,mi w 2 a,fun j o u hj=>by simp at hj,fun o ho=>by cases ho⟩
 ·obtain⟨pvs,k1,k2,k3⟩:=pL (w:=w) (ok:=ok) (b:=b) os off fun i x hx=>by
   obtain⟨a,n,c',q1,q2,q3,q4,q5⟩:=h3 i x hx;obtain⟨a',c'',e'⟩:=q5.form;exact⟨_,⟨a',c'',e'⟩,q3,q4,q5⟩
  refine⟨pvs,k1,⟨fS os pvs k1.symm,hl,fun u hu=>?_,.inr ⟨⟨b,off,none⟩,c,rfl,fun j u hj=>by rw[Addr.add_lit];exact(k2 j u hj).1⟩⟩,k3,fun o ho=>?_⟩
  ·obtain⟨j,hj,e⟩:=List.getElem_of_mem hu;exact(k2 j u (by rw[Mw hj,e])).2
  ·obtain⟨j,hj,rfl⟩:=List.getElem_of_mem ho;obtain⟨a,n,c',q1,-⟩:=h3 j _ (Mw hj);exact q1
structure CU (w:LC) (t:Th) (a2 b2:Option Addr) (c2 d2:Nat) (va:Option Addr) (vc:Nat) (pv0:List Value) (k:Nat) (wr:LC):Prop where
 box:fN wr w.heap.size t a2 b2 c2 d2 va vc
 res:fN wr (w.heap.size+1) dT none none 0 0 none 0
 bel:La w wr
 val:In wr (fun k=>w.heap.size+2<=k/\some k≠(Value.slice va t.owners.length vc).ownBlock) t.value (.agg (KV t.value a2 c2 b2 d2))
 row:∃ pvs:List Value,pvs.length=t.owners.length/\wr.ownsRow (w.heap.size+2) 65 2 (.slice va t.owners.length vc) t.owners.length (ba t.owners pvs)/\∀ (j:Nat) (o:aL) (u:Value),t.owners[j]?=some o->pvs[j]?=some u->(k<=j->pv0[j]?=some u)/\(j < k->(∃ a c,u=.slice a o.paths.length c)/\ao wr (fun k=>w.heap.size+2<=k/\some k≠(Value.slice va t.owners.length vc).ownBlock) o.paths u)
theorem CU.bel'{wr':LC}{t a2 b2 c2 d2 va vc pv0}(h:CU w t a2 b2 c2 d2 va vc pv0 k wr)(hb:La wr wr'):CU w t a2 b2 c2 d2 va vc pv0 k wr':=by
 obtain⟨pvs,h1,h2,h3⟩:=h.row;exact⟨h.box.bel hb,h.res.bel hb,ab h.bel hb,h.val.bel hb,pvs,h1,fD h2 hb,fun j o u hj hu=>⟨(h3 j o u hj hu).1,fun hk=>⟨((h3 j o u hj hu).2 hk).1,((h3 j o u hj hu).2 hk).2.bel hb⟩⟩⟩
theorem CU.at{t a2 b2 c2 d2 va vc pv0 o}(h:CU w t a2 b2 c2 d2 va vc pv0 k wr)(ho:t.owners[k]?=some o):∃ g u,va=some ⟨g,0,none⟩/\w.heap.size+2<=g/\g < wr.heap.size/\vc<=9223372036854775807/\t.owners.length<=vc/\pv0[k]?=some u/\wr.cell? ⟨g,k * 2,none⟩=some (.string ⟨o.name.toArray⟩)/\wr.cell? ⟨g,k * 2+1,none⟩=some u/\wr.frozen? ⟨g,k * 2+1,none⟩=false:=by
 obtain⟨pvs,h1,h2,h3⟩:=h.row;have hk:=(Mz.1 ho).1;have hu:pvs[k]?=some (pvs[k]'(by omega)):=Mw (by omega);rcases h2.2 with⟨e,h0⟩ | ⟨g,cap,cur,e,g1,g2,g3,g4,g5,g6⟩
 ·omega
 ·simp only[Value.slice.injEq]at e;obtain⟨rfl,-,rfl⟩:=e;obtain⟨e1,e2⟩:=kN t.owners pvs k o _ ho hu;unfold maxLen at g4;exact⟨g,_,rfl,g1,(MF.1 g2).1,g4,g3,(h3 k o _ ho hu).1 (MG _),(dJ h2 (by omega) e1).1,(dJ h2 (by omega) e2).1,(dJ h2 (by omega) e2).2⟩
theorem CU.step{t a2 b2 c2 d2 vc pv0 o pa pc}(h:CU w t a2 b2 c2 d2 (some ⟨g,0,none⟩) vc pv0 k wr)(ho:t.owners[k]?=some o)(hs:ao wr (fun k=>w.heap.size+2<=k/\k≠g) o.paths (.slice pa o.paths.length pc)):CU w t a2 b2 c2 d2 (some ⟨g,0,none⟩) vc pv0 (k+1) (wr.setCell ⟨g,k * 2+1,none⟩ (.slice pa o.paths.length pc)):=by
 obtain⟨g',u,e,hg,-⟩:=h.at ho;cases e;obtain⟨pvs,h1,h2,h3⟩:=h.row;have hk:=(Mz.1 ho).1;have G:wr.grownBy (wr.setCell ⟨g,k * 2+1,none⟩ (.slice pa o.paths.length pc)) (some g):=ap (az _ _) _ _;have hne:∀ k,(w.heap.size+2<=k/\some k≠(Value.slice (some (⟨g,0,none⟩:Addr)) t.owners.length vc).ownBlock)->some k≠some g:=fun k hk e=>hk.2 e;refine⟨h.box.gr G (by intro e;have:=Option.some.inj e;omega),h.res.gr G (by intro e;have:=Option.some.inj e;omega),aQ h.bel (by omega) _ _,h.val.grownR G hne,pvs.set k (.slice pa o.paths.length pc),by simpa using h1,?_,fun j x u hj hu=>?_⟩
 ·have:=jQ h2 (by omega) (k * 2+1) (.slice pa o.paths.length pc);rwa [pG]at this
 ·rw[List.getElem?_set]at hu;split at hu
  ·rename_i hjk;subst hjk;try rw[if_pos (by omega)]at hu
   cases hu;rw[ho]at hj;cases hj;exact⟨fun h9=>by omega,fun _=>⟨⟨_,_,rfl⟩,hs.imp fun a x q1 q2=>eJ G hne a x ⟨q1.1,fun e=>q1.2 (Option.some.inj e)⟩ q2⟩⟩
  ·rename_i hjk;exact⟨fun h9=>(h3 j x u hj hu).1 (by omega),fun h9=>⟨((h3 j x u hj hu).2 (by omega)).1,((h3 j x u hj hu).2 (by omega)).2.imp (eJ G hne)⟩⟩
theorem Fs(w:LC)(ok t a b c d oa oc)(h:cQ w ok t a b c d oa oc)(hn:dz t.value)(hl:t.owners.length<=1000)(hp:fT t.owners):Calls prog 14 #[.agg (Ld t a c b d oa oc)] w fun e w'=>∃ a9 b9 c9 d9 oa9 oc9,e=.returned (.agg (Ld t a9 c9 b9 d9 oa9 oc9))/\cQ w' (fun k=>w.heap.size<=k) t a9 b9 c9 d9 oa9 oc9/\La w w':=by
 obtain⟨W2,hW2⟩:∃ W,W=(w.alloc (.cells (Ld t a c b d oa oc) 37)).alloc (.cells Le 37):=⟨_,rfl⟩
 have Y2:Ll (La w W2):=aa (by rw[hW2];exact ab (ae _ _) (ae _ _));have X1:Ll (fN W2 w.heap.size t a b c d oa oc):=aa (by rw[hW2];exact fb _ _ _);have X2:Ll (fN W2 (w.heap.size+1) dT none none 0 0 none 0):=aa (by rw[hW2];exact et _ _ _);have SZ2:Ll (w.heap.size+2<=W2.heap.size):=aa (by have:=X2.o.lt;omega);have HW2:=aa hW2;have TV:Ll (Calls prog 21 #[.agg (KV t.value a c b d)] W2 fun e w'=>∃ (a2 b2:Option Addr) (c2 d2:Nat),e=.returned (.agg (KV t.value a2 c2 b2 d2))/\La W2 w'/\In w' (fun k=>W2.heap.size<=k) t.value (.agg (KV t.value a2 c2 b2 d2))):=aa ((IB W2 ok t.value _ (h.val.bel Y2.o) hn).mono fun e w' hh=>by
  obtain⟨r,rfl,hb,hi⟩:=hh;obtain⟨a2,b2,c2,d2,rfl⟩:=hi.form;exact⟨a2,b2,c2,d2,rfl,hb,hi⟩)
 obtain⟨pv0,p1,p2,p3,p4⟩:=Hi h.own (by omega);have PV:=aa p1;have SL:=aa p2;have PS:=aa p3;have PN:=aa p4;have HP:=aa hp;have TNL:=aa h.name;have HL:=aa hl;clear hW2 h hn hp hl p1 p2 p3 p4;have t0_:=X1.o.c;obtain⟨f0,f1,f2,f3,f4,f5,f6,f7,f8,f9,f10,f11,f12,f13,f14⟩:=X1.o.f;go_enter func14,ntmps14;go_upto_region 1 with fail
 rw[<-HW2.o];go_upto_region 2 with (go_at_call 21;refine TV.o.mono ?_;rintro e w3 ⟨a2,b2,c2,d2,rfl,hb,hi⟩;have B3:=aa hb;have I3:=aa hi;clear hb hi f0 f1 f2 f3 f4 f5 f6 f7 f8 f9 f10 f11 f12 f13 f14;have t0_:=(X1.o.bel B3.o).c;obtain⟨f0,f1,f2,f3,f4,f5,f6,f7,f8,f9,f10,f11,f12,f13,f14⟩:=(X1.o.bel B3.o).f)
 clear f0 f1 f2 f3 f4 f5 f6 f7 f8 f9 f10 f11 f12 f13 f14;obtain⟨W4,hW4⟩:∃ W,W=(((((w3.setCell ⟨w.heap.size,1,none⟩ (.int .i64 t.value.kind)).setCell ⟨w.heap.size,2,none⟩ (.int .i64 t.value.n)).setCell ⟨w.heap.size,3,none⟩ (.string ⟨t.value.s.toArray⟩)).setCell ⟨w.heap.size,4,none⟩ (.slice a2 t.value.keys.length c2)).setCell ⟨w.heap.size,5,none⟩ (.slice b2 t.value.l.length d2)):=⟨_,rfl⟩
 have X4:Ll (fN W4 w.heap.size t a2 b2 c2 d2 oa oc/\fN W4 (w.heap.size+1) dT none none 0 0 none 0/\La w W4/\In W4 (fun k=>W2.heap.size<=k) t.value (.agg (KV t.value a2 c2 b2 d2))/\W2.heap.size<=W4.heap.size):=aa (by
  have G:w3.grownBy (((((w3.setCell ⟨w.heap.size,1,none⟩ (.int .i64 t.value.kind)).setCell ⟨w.heap.size,2,none⟩ (.int .i64 t.value.n)).setCell ⟨w.heap.size,3,none⟩ (.string ⟨t.value.s.toArray⟩)).setCell ⟨w.heap.size,4,none⟩ (.slice a2 t.value.keys.length c2)).setCell ⟨w.heap.size,5,none⟩ (.slice b2 t.value.l.length d2)) (some w.heap.size):=ap (ap (ap (ap (ap (az _ _) _ _) _ _) _ _) _ _) _ _;rw[hW4];refine⟨ak (ak (ak (ak (ak (X1.o.bel B3.o) 1 _) 2 _) 3 _) 4 _) 5 _,(X2.o.bel B3.o).gr G (by intro e;have:=Option.some.inj e;omega),aQ (aQ (aQ (aQ (aQ (ab Y2.o B3.o) (MG _) _ _) (MG _) _ _) (MG _) _ _) (MG _) _ _) (MG _) _ _,I3.o.grownR G (fun k hk e=>by have:=Option.some.inj e;have:=SZ2.o;omega),MH B3.o.size G.size⟩)
 rw[<-hW4];clear hW4 I3 B3;have CLO:Ll (Calls prog 22 #[.slice oa t.owners.length oc] W4 fun e w'=>∃ va vc,e=.returned (.slice va t.owners.length vc)/\w'.ownsRow W4.heap.size 65 2 (.slice va t.owners.length vc) t.owners.length (ba t.owners pv0)/\La W4 w'):=aa ((Jt W4 _ _ _ (SL.o.bel X4.o.2.2.1)).mono fun e w' hh=>by
  obtain⟨v',rfl,ho,hb⟩:=hh;obtain⟨a,c,rfl,-⟩:=ej ho;exact⟨a,c,rfl,ho,hb⟩)
 have t0_:=X4.o.1.c;obtain⟨f0,f1,f2,f3,f4,f5,f6,f7,f8,f9,f10,f11,f12,f13,f14⟩:=X4.o.1.f;go_upto_region 3 with (go_at_call 22;refine CLO.o.mono ?_;rintro e w5 ⟨va,vc,rfl,ho,hb⟩;have B5:=aa hb;have O5:=aa ho;clear hb ho f0 f1 f2 f3 f4 f5 f6 f7 f8 f9 f10 f11 f12 f13 f14;have t0_:=(X4.o.1.bel B5.o).c;obtain⟨f0,f1,f2,f3,f4,f5,f6,f7,f8,f9,f10,f11,f12,f13,f14⟩:=(X4.o.1.bel B5.o).f)
 clear f0 f1 f2 f3 f4 f5 f6 f7 f8 f9 f10 f11 f12 f13 f14;obtain⟨W6,hW6⟩:∃ W,W=w5.setCell ⟨w.heap.size,6,none⟩ (.slice va t.owners.length vc):=⟨_,rfl⟩
 have I6:Ll (CU w t a2 b2 c2 d2 va vc pv0 0 W6):=aa (by
  have G:w5.grownBy (w5.setCell ⟨w.heap.size,6,none⟩ (.slice va t.owners.length vc)) (some w.heap.size):=ap (az _ _) _ _;have h1:=SZ2.o;have h2:=X4.o.2.2.2.2;rw[hW6];refine⟨ak (X4.o.1.bel B5.o) 6 _,(X4.o.2.1.bel B5.o).gr G (by intro e;have:=Option.some.inj e;omega),aQ (ab X4.o.2.2.1 B5.o) (MG _) _ _,?_,pv0,PV.o,cV (O5.o.kept G ?_) (by omega),fun j o u hj hu=>⟨fun _=>hu,fun h9=>by omega⟩⟩
  ·have h3:=(X4.o.2.2.2.1.low.bel B5.o)
   refine(h3.weak fun k hk=>⟨by have:=hk.1;omega,fun e=>?_⟩).grownR G (fun k hk e=>by have:=Option.some.inj e;have:=hk.1;omega);have:=(O5.o.lt k e.symm).1;have:=hk.2;omega
  ·cases hv:(Value.slice va t.owners.length vc).ownBlock with
   | none=>exact .inl rfl
   | some k=>
    refine .inr fun e=>?_;have:=(O5.o.lt k hv).1;have:=Option.some.inj e;omega)
 rw[<-hW6];clear hW6 O5 B5 X4;have t0_:=I6.o.box.c;go_wp2
 go_loopg [16] t.owners.length (fun gk iv wr=>∃ k:Nat,k<=t.owners.length/\gk=t.owners.length - k/\iv=.int .i64 k/\Ll (CU w t a2 b2 c2 d2 va vc pv0 k wr))
 case atStart=>exact⟨0,Nat.zero_le _,rfl,rfl,I6⟩
 case round=>
  obtain⟨k,hk,hgk,rfl,IK⟩:=hrel;have GK:=aa hgk;clear hgk I6;obtain⟨wo,hwo⟩:∃ wo,wo=wr:=⟨wr,rfl⟩
  subst hwo;by_cases hlt:k < t.owners.length
  ·obtain⟨o,ho⟩:∃ o,t.owners[k]?=some o:=⟨_,Mw hlt⟩
   have HO:=aa ho;obtain⟨g,u,rfl,hgB,hgl,hc9,hlc,hu0,c0,c1,-⟩:=IK.o.at ho;obtain⟨⟨pa,pc,rfl⟩,hst⟩:=PS.o k o u ho hu0;have ST9:=aa hst;have GL:Ll (w.heap.size+2<=g/\g < wo.heap.size):=aa ⟨hgB,hgl⟩;have PL:Ll (o.paths.length<=200):=aa (HP.o o (List.mem_of_getElem? ho));have w2:(k:Int) < (t.owners.length:Int):=by omega
   have w3:(0:Int)<=(k:Int):=by omega
   obtain⟨W6,hW6⟩:∃ W,W=wo.alloc (.cells #[.string ⟨o.name.toArray⟩,.slice pa o.paths.length pc] 65):=⟨_,rfl⟩
   have A6:Ll (La wo W6):=aa (by rw[hW6];exact ae _ _);have OX:Ll (W6.heap[wo.heap.size]?=some (.cells #[.string ⟨o.name.toArray⟩,.slice pa o.paths.length pc] 65)):=aa (by rw[hW6];exact MN _ _);have HW6:=aa hW6;have I6:=aa (IK.o.bel' A6.o);have TB6:=aa I6.o.box;have CLN:Ll (∀ W,La W6 W->Calls prog 23 #[.slice pa o.paths.length pc] W fun e w'=>∃ pa2 pc2,e=.returned (.slice pa2 o.paths.length pc2)/\ao w' (fun k=>w.heap.size+2<=k/\k≠g) o.paths (.slice pa2 o.paths.length pc2)/\La W w'):=aa (fun W hb=>by
    have b9:=ab (ab IK.o.bel A6.o) hb;refine(pB W _ _ _ (sY (ST9.o.bel b9) (by have:=PL.o;omega))).mono ?_;rintro e w' ⟨v',rfl,hw,hb2⟩;obtain⟨a,c,rfl,-⟩:=ej hw;refine⟨a,c,rfl,kf rfl hw (BP ST9.o) (fun k hk=>?_) ST9.o.1,hb2⟩;have h1:=GL.o;have h2:=A6.o.size;have h3:=hb.size;exact⟨by omega,by omega⟩)
   clear hW6 ho hst hu0 hgB hgl;go_upto_region 6 with fail
   rw[<-HW6.o];clear c0 c1;refine aD (fun wS=>La W6 wS) [8] (by kernel_rfl) (aC _ 1) (fun LI=>?_);refine WT.out ?_;iterate 5
    first
     | refine OJ 0 ?_ [1,6,7,8] LI ?_ ?_
     | refine OJ 1 ?_ [6,7,8] LI ?_ ?_
     | refine OJ 2 ?_ [6,7,8] LI ?_ ?_
     | refine OJ 3 ?_ [4,5,6,7,8] LI ?_ ?_
     | refine OJ 4 ?_ [5,6,7,8] LI ?_ ?_
    rotate_left
    ·intro wS LN;obtain⟨b0,b1⟩:=rl (bR LN OX.o);have t0_:=(TB6.o.bel LN).c;go_simp;all_goals with_reducible rfl
    simp only[av,List.set]
   repeat' (first
    | exact nl
    |(refine ON 5 (fun K hK=>?_) ?_
      go_simp;refine(CLN.o _ LI).mono ?_;rintro e w5q ⟨pa2,pc2,rfl,h5,hb5⟩;refine hK.out _ _ (ab LI hb5) (fun LJ=>?_);have B6:=aa LJ;have P6:=aa h5;clear h5 hb5;clear hK K;replace LI:=LJ;clear LJ;try simp only[Act.put,Mt,Mu,Mv])
    |(refine OO 8 (fun K hK=>?_)
      obtain⟨g9,u9,e9,-,-,-,-,-,-,nx,mx⟩:=CU.at (I6.o.bel' B6.o) HO.o;cases e9;go_simp;refine hK.out _ _ ?_;clear hK K;try simp only[Act.put,Mt,Mu,Mv])
    |(first
       | refine OJ 6 ?_ [7,8] (by exact LI) ?_ ?_
       | refine OJ 7 ?_ [8] (by exact LI) ?_ ?_
      rotate_left
      ·intro wS LN;go_simp;all_goals with_reducible rfl
      simp only[av,List.set])
    | refine OL [5] ?_
    | fail)
   all_goals
    refine dn (by kernel_rfl) ?_;obtain⟨W9,hW9⟩:∃ W,W=w5q.setCell ⟨g,k * 2+1,none⟩ (.slice pa2 o.paths.length pc2):=⟨_,rfl⟩
    have I9:Ll (CU w t a2 b2 c2 d2 (some ⟨g,0,none⟩) vc pv0 (k+1) W9):=aa (by rw[hW9];exact CU.step (I6.o.bel' B6.o) HO.o P6.o);rw[<-hW9];clear hW9;go_wp2
    go_roundg (t.owners.length - (k+1))
    case measure=>rw[GK.o];omega
    case rel=>exact⟨k+1,hlt,rfl,by go_num,I9⟩
  ·have d9:¬(k:Int) < (t.owners.length:Int):=by omega
   have Mc:k=t.owners.length:=by omega
   have OK9:Ll (cQ wo (fun k=>w.heap.size+2<=k) t a2 b2 c2 d2 va vc):=aa ⟨TNL.o,IK.o.val.weak fun k hk=>hk.1,fA.owns (by
    obtain⟨pvs,h1,h2,h3⟩:=IK.o.row;exact⟨pvs,h1.symm,h2,fun j o u hj hu=>(h3 j o u hj hu).2 (by have:=(Mz.1 hj).1;omega)⟩) PN.o⟩
   clear Mc;have t0_:=IK.o.box.c;have n0_:=IK.o.res.c;obtain⟨m0,m1,m2,m3,m4,m5,m6,m7,m8,m9,m10,m11,m12,m13,m14⟩:=IK.o.res.f;have P9:=aa (IK.o.res.put15 t a2 b2 c2 d2 va vc);have B9:=aa (bS (mz (aq (r:=none) IK.o.bel) (Nat.le_succ w.heap.size) t a2 b2 c2 d2 va vc));have O9:Ll (cQ (jE wo (w.heap.size+1) t a2 b2 c2 d2 va vc) (fun k=>w.heap.size<=k) t a2 b2 c2 d2 va vc):=aa ((OK9.o.gr (g15 wo (w.heap.size+1) t a2 b2 c2 d2 va vc) (fun k hk e=>by have:=Option.some.inj e;omega)).weak fun k hk=>by omega);go_wp2
   have z0_:=P9.o.c;refine MM (v:=.agg (Ld t a2 c2 b2 d2 va vc)) ?_ rfl ?_
   ·simp only[jE]at z0_;simp[results,results14,go_sem,z0_]
   ·exact⟨_,_,_,_,_,_,rfl,O9.o,B9.o⟩
def iG (s:Nu) (i:Nat) (t:Th) (order:Int):Nu × uf:=if (dA s.time t order).2≠0 then (s,bz (dA s.time t order).2) else ({ s with ths:=s.ths.set i { t with st:=(dA s.time t order).1 } },⟨0,(dA s.time t order).1.ph,[]⟩)
theorem FZ(w:LC)(ok)(S:Nat)(v)(st:Nu)(i:Nat)(order:Int)(t)(h:bo w ok S v st)(ht:st.ths[i]?=some t):Calls prog 28 #[.pointer (some ⟨S,0,none⟩),.int .i64 i,.int .i64 order] w fun e w'=>e=.returned (fX (iG st i t order).2)/\bo w' (Fa ok w.heap.size S v) S v (iG st i t order).1/\kS w w' S v:=by
 obtain⟨W1,hW1⟩:∃ W,W=w.alloc (.cells #[.int .i64 0,.int .i64 0,.string ⟨#[]⟩] 42):=⟨_,rfl⟩
 have Y1:Ll (La w W1):=aa (by rw[hW1];exact ae _ _);have RB:Ll (dK W1 w.heap.size 0 0 []):=aa (by rw[hW1];exact MN _ _);have HW1:=aa hW1;have S1:=aa (h.low.bel Y1.o);have HNE:=aa (fun g (hg:v.ownBlock=some g)=>h.ne hg);have SLT:Ll (S < w.heap.size):=aa h.blk.lt;have hi:=(Mz.1 ht).1;obtain⟨g,cap,rfl,hgB,hgl,hlc,hc9,hf,Mb,a,b,c,d,oa,oc,hcl,hk⟩:=S1.o.row.at ht;have HT:=aa ht;have GL:Ll (S < g/\g < w.heap.size):=aa (HNE.o g rfl);have q1:(0:Int)<=(i:Int):=by omega
 have q2:(i:Int) < (st.ths.length:Int):=by omega
 obtain⟨r,re,hr⟩:∃ r re,dA st.time t order=(r,re):=⟨_,_,rfl⟩
 have NX:=uN W1 _ S _ st.time st.ver st.acts order t a b c d oa oc S1.o.blk hk;rw[hr]at NX;have NEXT:=aa NX;have HR:=aa hr;have CS:=aa Mb;have t0:W1.cell? ⟨g,i * 15,none⟩=some (.string ⟨t.name.toArray⟩):=hcl 0 _ rfl;have t1:W1.cell? ⟨g,i * 15+1,none⟩=some (.int .i64 t.value.kind):=hcl 1 _ rfl;have t2:W1.cell? ⟨g,i * 15+2,none⟩=some (.int .i64 t.value.n):=hcl 2 _ rfl;have t3:W1.cell? ⟨g,i * 15+3,none⟩=some (.string ⟨t.value.s.toArray⟩):=hcl 3 _ rfl;have t4:W1.cell? ⟨g,i * 15+4,none⟩=some (.slice a t.value.keys.length c):=hcl 4 _ rfl;have t5:W1.cell? ⟨g,i * 15+5,none⟩=some (.slice b t.value.l.length d):=hcl 5 _ rfl;have t6:W1.cell? ⟨g,i * 15+6,none⟩=some (.slice oa t.owners.length oc):=hcl 6 _ rfl;have t7:W1.cell? ⟨g,i * 15+7,none⟩=some (.int .i64 t.ver):=hcl 7 _ rfl;have t8:W1.cell? ⟨g,i * 15+8,none⟩=some (.int .i64 t.gen):=hcl 8 _ rfl;have t9:W1.cell? ⟨g,i * 15+9,none⟩=some (.string ⟨t.st.a.toArray⟩):=hcl 9 _ rfl;have t10:W1.cell? ⟨g,i * 15+10,none⟩=some (.string ⟨t.st.c.toArray⟩):=hcl 10 _ rfl;have t11:W1.cell? ⟨g,i * 15+11,none⟩=some (.int .i64 t.st.ph):=hcl 11 _ rfl;have t12:W1.cell? ⟨g,i * 15+12,none⟩=some (.int .i64 t.st.st):=hcl 12 _ rfl;have t13:W1.cell? ⟨g,i * 15+13,none⟩=some (.int .i64 t.st.we):=hcl 13 _ rfl;have t14:W1.cell? ⟨g,i * 15+14,none⟩=some (.int .i64 t.st.si):=hcl 14 _ rfl;clear NX hr hW1 h ht hcl hk hf Mb hgB hgl;have s0_:=S1.o.blk.c;go_enter func28,ntmps28;go_upto_region 1 with fail
 rw[<-HW1.o];go_upto_region 2 with (go_at_call 24;refine NEXT.o.mono ?_;rintro e w3 ⟨rfl,hb⟩;have B3:=aa hb;clear hb)
 clear t0 t1 t2 t3 t4 t5 t6 t7 t8 t9 t10 t11 t12 t13 t14;obtain⟨W4,hW4⟩:∃ W,W=w3.alloc (.cells (Li r) 35):=⟨_,rfl⟩
 have A4:Ll (La w3 W4):=aa (by rw[hW4];exact ae _ _);have XB:Ll (de W4 w3.heap.size r):=aa (by rw[hW4];exact MN _ _);rw[<-hW4];clear hW4;have B14:=aa (ab B3.o A4.o);have S4:=aa (S1.o.bel B14.o);have RB4:=aa (RB.o.bel B14.o);have Y4:=aa (ab Y1.o B14.o);by_cases hre:re=0
 rotate_left
 ·have e0:(re != 0)=true:=by simpa using hre
  have e1:(re == 0)=false:=by rw[MO];exact hre
  have R:Ll (iG st i t order=(st,bz re)):=aa (by unfold iG;rw[HR.o,if_pos hre]);have RF:=aa (dh W4 re);clear hre;go_wp2_with (go_at_call 15;refine RF.o.mono ?_;rintro e w5 ⟨rfl,hb⟩;have B5:=aa hb;clear hb;have n0_:=(RB4.o.bel B5.o).c;have Z9:=aa ((RB4.o.bel B5.o).set (bz re));have BZ:=aa (pJ (ab Y4.o B5.o) (show w.heap.size<=w.heap.size by omega) (bz re)))
  have z0_:=Z9.o.c;have S9:=aa (((S4.o.bel B5.o).new (a:=w) (cE _ _ (bz re)) SLT.o (fun k hk=>(HNE.o k hk).2) (MG _)).o);refine MM (v:=.agg #[.int .i64 re,.int .i64 0,.string ⟨#[]⟩]) ?_ rfl ?_
  ·simp only[fE,bz]at z0_;simp[results,results28,go_sem,z0_]
  ·rw[R.o];exact⟨rfl,S9.o,eE BZ.o⟩
 subst hre;have R:Ll (iG st i t order=({ st with ths:=st.ths.set i { t with st:=r } },⟨0,r.ph,[]⟩)):=aa (by unfold iG;rw[HR.o,if_neg (by simp)]);have IS:Ll (∀ j,j < cap * 15->(W4.cell? ⟨g,j,none⟩).isSome=true):=aa (fun j hj=>by
  obtain⟨u,hu⟩:=Option.isSome_iff_exists.1 (CS.o j hj);rw[ah B14.o hu];rfl)
 have x0_:=XB.o.c;have s0_:=S4.o.blk.c;obtain⟨g4,cap4,e4,-,-,-,-,hf4,-,a4,b4,c4,d4,oa4,oc4,hcl4,-⟩:=S4.o.row.at HT.o;obtain⟨rfl,rfl⟩:g4=g/\cap4=cap:=by simp only[Value.slice.injEq,Option.some.injEq,Addr.mk.injEq]at e4;exact⟨e4.1.1.symm,e4.2.2.symm⟩
 have n9:=hcl4 9 _ rfl;have n10:=hcl4 10 _ rfl;have n11:=hcl4 11 _ rfl;have n12:=hcl4 12 _ rfl;have n13:=hcl4 13 _ rfl;have n14:=hcl4 14 _ rfl;have m9:=hf4 (i * 15+9);have m10:=hf4 (i * 15+10);have m11:=hf4 (i * 15+11);have m12:=hf4 (i * 15+12);have m13:=hf4 (i * 15+13);have m14:=hf4 (i * 15+14);clear hf4 hcl4 e4;go_upto_region 4 with fail
 go_region
 have K9:=aa (S4.o.sta HT.o r);have G9:=aa (lW W4 g4 (i * 15+9) r);have F9:Ll (kS w (mV W4 g4 (i * 15+9) r) S (.slice (some ⟨g4,0,none⟩) st.ths.length cap4)):=aa ((eE Y4.o).gb G9.o (.inr (.inl rfl)));have X9:Ll (de (mV W4 g4 (i * 15+9) r) w3.heap.size r):=aa ((G9.o.block _ XB.o.lt (fun e=>by cases e;have:=GL.o;have:=Y1.o.size;have:=B3.o.size;omega)).trans XB.o);have R9:Ll (dK (mV W4 g4 (i * 15+9) r) w.heap.size 0 0 []):=aa ((G9.o.block _ (MF.1 RB4.o).1 (fun e=>by cases e;have:=GL.o;omega)).trans RB4.o);obtain⟨W9,hW9⟩:∃ W,W=(mV W4 g4 (i * 15+9) r).drew:=⟨_,rfl⟩
 have K10:=aa (K9.o.bel (aC _ 1));have X10:=aa (X9.o.bel (aC _ 1));have R10:=aa (R9.o.bel (aC _ 1));have F10:=aa (F9.o.bel (aC _ 1));change Exit.then _ _ Exit.normal _ (mV W4 g4 (i * 15+9) r).drew;rw[show (mV W4 g4 (i * 15+9) r).drewN 1=W9 from hW9.symm]at K10 X10 R10 F10;rw[<-hW9];clear hW9 K9 X9 R9 F9 G9;have x0_:=X10.o.c;have n0_:=R10.o.c;have Z9:=aa (R10.o.set ⟨0,r.ph,[]⟩);have S9:=aa ((K10.o.new (a:=w) (cE _ _ ⟨0,r.ph,[]⟩) SLT.o (fun k hk=>(HNE.o k hk).2) (MG _)).o);have F11:=aa (F10.o.gb (cE W9 w.heap.size ⟨0,r.ph,[]⟩) (.inr (.inr (MG _))));go_wp2
 have z0_:=Z9.o.c;refine MM (v:=.agg #[.int .i64 0,.int .i64 r.ph,.string ⟨#[]⟩]) ?_ rfl ?_
 ·simp only[fE]at z0_;simp[results,results28,go_sem,z0_]
 ·rw[R.o];exact⟨rfl,S9.o,F11.o⟩
variable {w':World}
theorem Jj(w:LC)(ok):In w ok jM (.agg #[.int .i64 5,.int .i64 0,.string ⟨#[]⟩,.slice none 0 0,.slice none 0 0]):=⟨1,_,_,rfl,by unfold dW;simp[jM],by unfold dW;simp[jM],by simp[jM,maxLen],⟨by simp[jM,maxLen],.inl ⟨rfl,none,rfl⟩⟩,⟨by simp[jM,maxLen],.inl ⟨rfl,none,rfl⟩⟩⟩
theorem nO{time ver t}{a:cm}(h:(al time ver t a).2.2≠0):(al time ver t a).2.1=ver:=by
 unfold al at h ⊢;split
 ·rfl
 ·rename_i h1;rw[if_neg h1]at h;split
  ·rfl
  ·rename_i h2;rw[if_neg h2]at h;exact absurd rfl h
theorem kS.row{a}(k:kS a w S v)(h:w.grownBy w' v.ownBlock):kS a w' S v:=⟨h.os.trans k.os,h.tape.trans k.tape,h.output.trans k.output,MH k.size h.size,fun j hj h1 h2=>(h.block j (MI hj k.size) fun e=>h2 e.symm).trans (k.block j hj h1 h2)⟩
noncomputable def iF (s:Nu) (i:Nat) (a:cm):Nu × uf:=
 if (al s.time s.ver (eT a.name) a).2.2≠0 then (s,bz (al s.time s.ver (eT a.name) a).2.2)
 else ({ s with ths:=s.ths.take i++(al s.time s.ver (eT a.name) a).1 :: s.ths.drop i,ver:=(al s.time s.ver (eT a.name) a).2.1 },⟨0,(al s.time s.ver (eT a.name) a).1.ver,[]⟩)
theorem FN(w ok S v)(st:Nu)(i)(q:cm)(h:bo w ok S v st)(hv:0<=st.ver/\st.ver<=1000)(hi:i<=st.ths.length)(h8:st.ths.length<=8)(hG:cn w)(hM:bj w)(hW:di w)(hn:q.name.length<=9223372036854775807)(hq:q.body.length<=9223372036854775807)(hw:q.who.length<=9223372036854775807):Calls prog 30 #[.pointer (some ⟨S,0,none⟩),.int .i64 i,.agg (Lf q)] w fun e w'=>∃ v',e=.returned (fX (iF st i q).2)/\bo w' (Fa ok w.heap.size S v') S v' (iF st i q).1/\(∀ g,v'.ownBlock=some g->v.ownBlock=some g\/w.heap.size<=g)/\kS w w' S v:=by
 obtain⟨W2,hW2⟩:∃ W,W=(w.alloc (.cells (Lf q) 45)).alloc (.cells #[.int .i64 0,.int .i64 0,.string ⟨#[]⟩] 42):=⟨_,rfl⟩
 have Y2:Ll (La w W2):=aa (by rw[hW2];exact ab (ae _ _) (ae _ _));have AB:Ll (jC W2 w.heap.size q):=aa (by rw[hW2];exact fb _ _ _);have RB:Ll (dK W2 (w.heap.size+1) 0 0 []):=aa (by rw[hW2];exact et _ _ _);have HW2:=aa hW2;have S2:=aa (h.low.bel Y2.o);have NO:=aa h.no;have HNE:=aa (fun g (hg:v.ownBlock=some g)=>h.ne hg);have SLT:Ll (S < w.heap.size):=aa h.blk.lt;obtain⟨x,xv,xe,hx⟩:∃ x xv xe,al st.time st.ver (eT q.name) q=(x,xv,xe):=⟨_,_,_,rfl⟩
 obtain⟨W3,hW3⟩:∃ W,W=W2.alloc (.cells #[.string ⟨q.name.toArray⟩,.int .i64 5,.int .i64 0,.string ⟨#[]⟩,.slice none 0 0,.slice none 0 0,.slice none 0 0,.int .i64 0,.int .i64 0,.string ⟨#[]⟩,.string ⟨#[]⟩,.int .i64 0,.int .i64 0,.int .i64 0,.int .i64 0] 37):=⟨_,rfl⟩
 have A3:Ll (La W2 W3):=aa (by rw[hW3];exact ae _ _);have NB:Ll (fN W3 W2.heap.size (eT q.name) none none 0 0 none 0):=aa (by rw[hW3];exact MN _ _);have HW3:=aa hW3;have Y3:=aa (ab Y2.o A3.o);have S3:=aa (S2.o.bel A3.o);have WR0:=pI W3 (Lj ok w) S v st.time st.ver st.acts (eT q.name) none none 0 0 none 0 q S3.o.blk (fun hk=>(NO.o S hk.1).1 rfl) hv ⟨Int.le_refl _,by show (0:Int)<=1000;decide⟩ ⟨hn,Jj _ _,⟨by simp[eT,maxLen],.inl ⟨rfl,none,rfl⟩⟩⟩ (hG.grown (r:=none) (aq Y3.o) (by simp)) (hM.bel Y3.o) (hW.bel Y3.o) (by simp[eT,bA]) (by intro o ho;cases ho) hq hw;rw[hx]at WR0;have WRIT:=aa WR0;have HX:=aa hx;have H8:=aa h8;have HI:=aa hi;clear WR0 hx hW2 hW3 h hv hi h8 hG hM hW hn hq hw;have q0_:=AB.o.c;go_enter func30,ntmps30;go_upto_region 1 with fail
 rw[<-HW2.o];go_upto_region 2 with fail
 rw[<-HW3.o];have q0_:=(AB.o.bel A3.o).c;obtain⟨t0,t1,t2,t3,t4,t5,t6,t7,t8,t9,t10,t11,t12,t13,t14⟩:=NB.o.c;go_upto_region 3 with (go_at_call 47;refine WRIT.o.mono ?_;rintro e w4 ⟨a9,b9,c9,d9,oa9,oc9,rfl,h1,h2,h3⟩;have K4:=aa h1;have SB4:=aa h2;have G4:=aa h3;clear h1 h2 h3)
 obtain⟨W5,hW5⟩:∃ W,W=w4.alloc (.cells (Ld x a9 c9 b9 d9 oa9 oc9) 37):=⟨_,rfl⟩
 have A5:Ll (La w4 W5):=aa (by rw[hW5];exact ae _ _);have XB:Ll (fN W5 w4.heap.size x a9 b9 c9 d9 oa9 oc9):=aa (by rw[hW5];exact MN _ _);rw[<-hW5];clear hW5;have S5:=aa ((S3.o.grS G4.o SB4.o).bel A5.o);have F5:=aa (((eE (S:=S) (v:=v) Y3.o).gb G4.o (.inl rfl)).bel A5.o);have RB5:Ll (dK W5 (w.heap.size+1) 0 0 []):=aa (dK.bel (MF.1 (RB.o.bel A3.o) |>.1 |> fun hl=>(G4.o.block _ hl (fun e=>by cases e;have:=SLT.o;omega)).trans (RB.o.bel A3.o)) A5.o);by_cases hxe:xe=0
 rotate_left
 ·have e0:(xe != 0)=true:=by simpa using hxe
  have e1:(xe == 0)=false:=by rw[MO];exact hxe
  have R:Ll (iF st i q=(st,bz xe)):=aa (by unfold iF;rw[HX.o,if_pos hxe]);have hxv:xv=st.ver:=by
   have:=nO (time:=st.time) (ver:=st.ver) (t:=eT q.name) (a:=q) (by rw[HX.o];exact hxe);rw[HX.o]at this;exact this
  rw[hxv]at S5;clear hxe hxv;have RF:=aa (dh W5 xe);go_wp2_with (go_at_call 15;refine RF.o.mono ?_;rintro e w5 ⟨rfl,hb⟩;have B5:=aa hb;clear hb;have n0_:=(RB5.o.bel B5.o).c;have Z9:=aa ((RB5.o.bel B5.o).set (bz xe)))
  have z0_:=Z9.o.c;have S9:=aa (((S5.o.bel B5.o).new (a:=w) (cE _ _ (bz xe)) SLT.o (fun k hk=>(HNE.o k hk).2) (Nat.le_succ _)).o);have F9:=aa ((F5.o.bel B5.o).gb (cE w5 (w.heap.size+1) (bz xe)) (.inr (.inr (Nat.le_succ _))));refine MM (v:=.agg #[.int .i64 xe,.int .i64 0,.string ⟨#[]⟩]) ?_ rfl ?_
  ·simp only[fE,bz]at z0_;simp[results,results30,go_sem,z0_]
  ·rw[R.o];first
    | exact⟨rfl,_,S9.o,fun k hk=>.inl hk,F9.o⟩
    | exact⟨_,rfl,S9.o,fun k hk=>.inl hk,F9.o⟩
 subst hxe;have R:Ll (iF st i q=({ st with ths:=st.ths.take i++x :: st.ths.drop i,ver:=xv },⟨0,x.ver,[]⟩)):=aa (by unfold iF;rw[HX.o,if_neg (by simp)]);obtain⟨ra,rc,hform⟩:=S5.o.row.form;have SZ:Ll (w.heap.size+2<=W3.heap.size/\W3.heap.size<=w4.heap.size/\w4.heap.size < W5.heap.size):=aa (by have h1:=NB.o.lt;have h2:=(MF.1 RB.o).1;have h3:=A3.o.size;have h4:=G4.o.size;have h5:=XB.o.lt;omega);have HOK:Ll (∀ k,(bQ (Lj ok w) W3.heap.size k/\k < W5.heap.size)->IT S v k):=aa (by
  rintro k ⟨hk | hk,-⟩
  ·exact NO.o k hk.1
  ·have h1:=SZ.o;have h2:=SLT.o;exact⟨by omega,fun e=>by have:=HNE.o k e;omega⟩)
 have T5:=aa (S5.o.row.weak (ok':=fun k=>bQ (Lj ok w) W3.heap.size k/\k < W5.heap.size) fun k hk=>⟨.inl hk,by have:=SZ.o;have:=hk.2;omega⟩);have K5:Ll (cQ W5 (fun k=>bQ (Lj ok w) W3.heap.size k/\k < W5.heap.size) x a9 b9 c9 d9 oa9 oc9):=aa ((K4.o.low.weak fun k hk=>⟨hk.1,by have:=SZ.o;have:=hk.2;omega⟩).bel A5.o);have INS:Ll (∀ W vb,La W5 W->W5.heap.size<=vb->W.heap[vb]?=some (.cells (Ld x a9 c9 b9 d9 oa9 oc9) 37)->Calls prog 48 #[v,.int .i64 i,.slice (some ⟨vb,0,none⟩) 1 1] W fun e w'=>∃ g cap,e=.returned (.slice (some ⟨g,0,none⟩) (st.ths.length+1) cap)/\dm w' (S+1) (fun k=>bQ (Lj ok w) W3.heap.size k/\k < W5.heap.size) (st.ths.take i++x :: st.ths.drop i) (.slice (some ⟨g,0,none⟩) (st.ths.length+1) cap)/\W5.grownBy w' v.ownBlock/\(v.ownBlock=some g\/W5.heap.size<=g)):=aa (by
  intro W vb hb hvb hW;refine(dm.ins W (S+1) _ st.ths v i vb x a9 b9 c9 d9 oa9 oc9 (T5.o.bel hb) hW (K5.o.bel hb) HI.o (by have:=H8.o;omega) (by have:=SLT.o;have:=SZ.o;have:=hb.size;omega) (fun g hg e=>by have:=HNE.o g hg;have:=SZ.o;omega) (fun k hk=>(HOK.o k hk).2)).mono ?_;rintro e w' ⟨g,cap,rfl,p1,p2,p3⟩;exact⟨g,cap,rfl,p1,am (aq hb) p2,p3.imp id fun h9=>MH hb.size h9⟩)
 have BW:Ll (∀ o,La W5 (W5.drew.alloc o)):=aa (fun o=>ab (aC _ 1) (ae _ _));have NW:Ll (∀ (W:LC) o,(W.alloc o).heap[W.heap.size]?=some o):=aa (fun W o=>MN W o);subst hform;obtain⟨s0,s1,s2,s3⟩:=S5.o.blk.c;obtain⟨t0,t1,t2,t3,t4,t5,t6,t7,t8,t9,t10,t11,t12,t13,t14⟩:=XB.o.c;go_upto_region 5 with fail
 refine aD (fun wS=>W5.grownBy wS (Value.slice ra st.ths.length rc).ownBlock) [11] (by kernel_rfl) (cJ (az _ _) 1) (fun LI=>?_);refine WT.out ?_;iterate 7
  first
   | refine OJ 0 ?_ [9,10,11] LI ?_ ?_
   | refine OJ 1 ?_ [2,3,4,8,9,10,11] LI ?_ ?_
   | refine OJ 2 ?_ [3,4,8,9,10,11] LI ?_ ?_
   | refine OJ 3 ?_ [4,8,9,10,11] LI ?_ ?_
   | refine OJ 4 ?_ [8,9,10,11] LI ?_ ?_
   | refine OJ 5 ?_ [8,9,10,11] LI ?_ ?_
   | refine OJ 6 ?_ [7,8,9,10,11] LI ?_ ?_
  rotate_left
  ·intro wS LN;obtain⟨s0,s1,s2,s3⟩:=(S5.o.blk.gr LN (fun e=>by have:=HNE.o S e.symm;omega)).c;obtain⟨t0,t1,t2,t3,t4,t5,t6,t7,t8,t9,t10,t11,t12,t13,t14⟩:=(XB.o.gr LN (fun e=>by have:=HNE.o w4.heap.size e.symm;have:=SZ.o;omega)).c;go_simp;all_goals with_reducible rfl
  simp only[av,List.set]
 repeat' (first
  | exact nl
  |(refine ON 7 (fun K hK=>?_) ?_
    go_simp;refine hK.out _ _ (bd LI _) (fun LJ=>?_);clear hK K;replace LI:=LJ;clear LJ;try simp only[Act.put,Mt,Mu,Mv])
  |(refine ON 8 (fun K hK=>?_) ?_
    go_simp;refine(INS.o _ _ (BW.o _) (MG _) (NW.o _ _)).mono ?_;rintro e w8q ⟨g,cap,rfl,h1,h2,h3⟩;refine hK.out _ _ (h2) (fun LJ=>?_);have T6:=aa h1;have G6:=aa h2;have N6:=aa h3;clear h1 h2 h3;clear hK K;replace LI:=LJ;clear LJ;try simp only[Act.put,Mt,Mu,Mv])
  |(refine OO 11 (fun K hK=>?_)
    obtain⟨s0,s1,s2,s3⟩:=(S5.o.blk.gr G6.o (fun e=>by have:=HNE.o S e.symm;omega)).c;obtain⟨f0,f1,f2,f3⟩:=(S5.o.blk.gr G6.o (fun e=>by have:=HNE.o S e.symm;omega)).f;go_simp;refine hK.out _ _ ?_;clear hK K;try simp only[Act.put,Mt,Mu,Mv])
  |(first
     | refine OJ 9 ?_ [10,11] (by exact LI) ?_ ?_
     | refine OJ 10 ?_ [11] (by exact LI) ?_ ?_
    rotate_left
    ·intro wS LN;go_simp;all_goals with_reducible rfl
    simp only[av,List.set])
  | refine OL [7] ?_
  | refine OL [8] ?_
  | fail)
 all_goals
  refine dn (by kernel_rfl) ?_;obtain⟨W7,hW7⟩:∃ W,W=w8q.setCell ⟨S,0,none⟩ (.slice (some ⟨g,0,none⟩) (st.ths.length+1) cap):=⟨_,rfl⟩
  have G7:Ll (w8q.grownBy W7 (some S)):=aa (by rw[hW7];exact ap (az _ _) _ _);have SB7:Ll (eF W7 S (.slice (some ⟨g,0,none⟩) (st.ths.length+1) cap) st.time xv st.acts):=aa (by rw[hW7];exact ak (S5.o.blk.gr G6.o (fun e=>by have:=HNE.o S e.symm;omega)) 0 _);rw[<-hW7];clear hW7 f0 f1 f2 f3;have GN:Ll (S < g/\g≠w.heap.size+1/\(∀ k,(bQ (Lj ok w) W3.heap.size k/\k < W5.heap.size)->k≠g)):=aa (by
   have h1:=SZ.o;have h2:=SLT.o;rcases N6.o with h9 | h9
   ·have h3:=HNE.o g h9;exact⟨h3.1,by omega,fun k hk e=>(HOK.o k hk).2 (by rw[e];exact h9)⟩
   ·exact⟨by omega,by omega,fun k hk e=>by have:=hk.2;omega⟩)
  have S7:Ll (bo W7 (fun k=>bQ (Lj ok w) W3.heap.size k/\k < W5.heap.size) S (.slice (some ⟨g,0,none⟩) (st.ths.length+1) cap) { st with ths:=st.ths.take i++x :: st.ths.drop i,ver:=xv }):=aa ⟨SB7.o,T6.o.gr G7.o (fun k hk e=>by cases e;exact(HOK.o S hk).1 rfl) (fun k hk e=>by have h5:some g=some k:=hk;cases e;cases h5;exact Nat.lt_irrefl _ GN.o.1),fun k hk=>⟨(HOK.o k hk).1,fun e=>by have h5:some g=some k:=e;cases h5;exact GN.o.2.2 g hk rfl⟩⟩;have F7:=aa ((F5.o.row G6.o).gb G7.o (.inl rfl));have RB7:Ll (dK W7 (w.heap.size+1) 0 0 []):=aa ((G7.o.block _ (MI (MF.1 RB5.o).1 G6.o.size) (by intro e;cases e;have:=SLT.o;omega)).trans ((G6.o.block _ (MF.1 RB5.o).1 (fun e=>by have:=HNE.o _ e.symm;omega)).trans RB5.o));have XB7:=aa ((XB.o.gr G6.o (fun e=>by have:=HNE.o w4.heap.size e.symm;have:=SZ.o;omega)).gr G7.o (by intro e;cases e;have:=SLT.o;have:=SZ.o;omega));obtain⟨t0,t1,t2,t3,t4,t5,t6,t7,t8,t9,t10,t11,t12,t13,t14⟩:=XB7.o.c;have n0_:=RB7.o.c;have Z9:=aa (RB7.o.set ⟨0,x.ver,[]⟩);have S9:=aa ((S7.o.gr (cE _ (w.heap.size+1) ⟨0,x.ver,[]⟩) (by have:=SLT.o;omega) (fun e=>by have h5:some g=some (w.heap.size+1):=e;cases h5;exact GN.o.2.1 rfl) (by rintro k ⟨hk | hk,-⟩;have:=hk.2;omega;have:=SZ.o;omega)).imp (ok':=Fa ok w.heap.size S (.slice (some ⟨g,0,none⟩) (st.ths.length+1) cap)) (fun k hk=>⟨hk.1.imp (fun h9=>h9.1) (fun h9=>by have:=SZ.o;omega),S7.o.no k hk⟩) fun _ hk=>hk.2);have F9:=aa (F7.o.gb (cE W7 (w.heap.size+1) ⟨0,x.ver,[]⟩) (.inr (.inr (Nat.le_succ _))));go_wp2
  have z0_:=Z9.o.c;refine MM (v:=.agg #[.int .i64 0,.int .i64 x.ver,.string ⟨#[]⟩]) ?_ rfl ?_
  ·simp only[fE]at z0_;simp[results,results30,go_sem,z0_]
  ·rw[R.o];have V9:∀ k,(Value.slice (some ⟨g,0,none⟩) (st.ths.length+1) cap).ownBlock=some k->(Value.slice ra st.ths.length rc).ownBlock=some k\/w.heap.size<=k:=fun k hk=>by
    have h5:some g=some k:=hk;cases h5;exact N6.o.imp id fun h9=>by have:=SZ.o;omega
   first
    | exact⟨rfl,_,S9.o,V9,F9.o⟩
    | exact⟨_,rfl,S9.o,V9,F9.o⟩
def iB (time:Int) (l:List Th) (k:Nat):List Th:=(l.take k).map (fun t=>{ t with st:=(dA time t 0).1 })++l.drop k
theorem rz(time l k):(iB time l k).length=l.length:=by
 simp only[iB,Mx,List.length_map,MC,MB];omega
theorem wR{time l t}(h:l[k]?=some t):(iB time l k)[k]?=some t:=by
 have hk:=(Mz.1 h).1;rw[iB,List.getElem?_append_right (by simp only[List.length_map,MC];omega),List.length_map,MC,Nat.min_eq_left (by omega),Nat.sub_self,List.getElem?_drop];simpa using h
theorem C9{time l t}(h:l[k]?=some t):(iB time l k).set k { t with st:=(dA time t 0).1 }=iB time l (k+1):=by
 obtain⟨hk,e⟩:=Mz.1 h;rw[iB,iB,List.set_append_right _ _ (by simp only[List.length_map,MC];omega),List.length_map,MC,Nat.min_eq_left (by omega),Nat.sub_self,ME hk,Mu,List.take_succ_eq_append_getElem hk,List.map_append,e,List.append_assoc];rfl
structure nE (w:LC) (ok:Nat->Prop) (S:Nat) (v:Value) (st:Nu) (n:Int) (k:Nat) (wr:LC):Prop where
 srv:bo wr (Lj ok w) S v { st with time:=st.time+n,ths:=iB (st.time+n) st.ths k }
 fr:kS w wr S v
 rb:dK wr w.heap.size 0 0 []
theorem nE.bel{wr'}{st:Nu}{n}(h:nE w ok S v st n k wr)(hb:La wr wr'):nE w ok S v st n k wr':=⟨h.srv.bel hb,h.fr.bel hb,h.rb.bel hb⟩
theorem Ct{W5 W7 cap}{st:Nu}{n t r re}(h:nE w ok S (Value.slice (some ⟨g,0,none⟩) st.ths.length cap) st n k W5)(hb:La W5 W7)(ht:st.ths[k]?=some t)(hr:dA (st.time+n) t 0=(r,re))(hS:S < w.heap.size)(hg:S < g/\g < w.heap.size):nE w ok S (Value.slice (some ⟨g,0,none⟩) st.ths.length cap) st n (k+1) (mV W7 g (k * 15+9) r):=by
 have h2:=h.bel hb;have G:=lW W7 g (k * 15+9) r;have s2:=h2.srv;refine⟨⟨s2.blk.gr G (by intro e;have:=Option.some.inj e;omega),?_,s2.no⟩,h2.fr.gb G (.inr (.inl rfl)),(G.block _ (MF.1 h2.rb).1 (by intro e;have:=Option.some.inj e;omega)).trans h2.rb⟩;have h9:dm W7 (S+1) (Lj ok w) (iB (st.time+n) st.ths k) (.slice (some ⟨g,0,none⟩) (iB (st.time+n) st.ths k).length cap):=by rw[rz];exact s2.row
 have h8:=h9.sta (fun hk=>(s2.no g hk).2 rfl) (wR ht) r;rw[rz]at h8;rw[show r=(dA (st.time+n) t 0).1 by rw[hr],C9 ht]at h8;rw[show r=(dA (st.time+n) t 0).1 by rw[hr]];exact h8
theorem GE(w ok S v)(st:Nu)(n)(h:bo w ok S v st)(h8:st.ths.length<=8)(htm:0<=st.time/\st.time<=1099511627776):Calls prog 16 #[.pointer (some ⟨S,0,none⟩),.int .i64 n] w fun e w'=>e=.returned (fX (iz st n).2)/\bo w' (Fa ok w.heap.size S v) S v (iz st n).1/\kS w w' S v:=by
 obtain⟨W1,hW1⟩:∃ W,W=w.alloc (.cells #[.int .i64 0,.int .i64 0,.string ⟨#[]⟩] 42):=⟨_,rfl⟩
 have Y1:Ll (La w W1):=aa (by rw[hW1];exact ae _ _);have RB:Ll (dK W1 w.heap.size 0 0 []):=aa (by rw[hW1];exact MN _ _);have HW1:=aa hW1;have S1:=aa (h.low.bel Y1.o);have F1:=aa (eE (S:=S) (v:=v) Y1.o);have HNE:=aa (fun g (hg:v.ownBlock=some g)=>h.ne hg);have SLT:Ll (S < w.heap.size):=aa h.blk.lt;have hwS:IntKind.i64.wrap (1099511627776 - st.time)=1099511627776 - st.time:=by rw[IntKind.wrap_i64];omega
 have HTM:=aa htm;clear hW1 h htm;have s0_:=S1.o.blk.c;by_cases hn1:n < 1
 ·have R:Ll (iz st n=(st,bz 8)):=aa (by unfold iz;rw[if_pos (.inl hn1)]);go_enter func16,ntmps16;go_upto_region 1 with fail
  rw[<-HW1.o];have RF:=aa (dh W1 8);go_wp2_with (go_at_call 15;refine RF.o.mono ?_;rintro e w5 ⟨rfl,hb⟩;have B5:=aa hb;clear hb;have n0_:=(RB.o.bel B5.o).c;have Z9:=aa ((RB.o.bel B5.o).set (bz 8)))
  have z0_:=Z9.o.c;have S9:=aa (((S1.o.bel B5.o).new (a:=w) (cE _ _ (bz 8)) SLT.o (fun k hk=>(HNE.o k hk).2) (MG _)).o);have F9:=aa ((F1.o.bel B5.o).gb (cE w5 w.heap.size (bz 8)) (.inr (.inr (MG _))));refine MM (v:=.agg #[.int .i64 8,.int .i64 0,.string ⟨#[]⟩]) ?_ rfl ?_
  ·simp only[fE,bz]at z0_;simp[results,results16,go_sem,z0_]
  ·rw[R.o];exact⟨rfl,S9.o,F9.o⟩
 by_cases hn2:1099511627776 - st.time < n
 ·have R:Ll (iz st n=(st,bz 8)):=aa (by unfold iz;rw[if_pos (.inr hn2)]);go_enter func16,ntmps16;go_upto_region 1 with fail
  rw[<-HW1.o];have RF:=aa (dh W1 8);go_wp2_with (go_at_call 15;refine RF.o.mono ?_;rintro e w5 ⟨rfl,hb⟩;have B5:=aa hb;clear hb;have n0_:=(RB.o.bel B5.o).c;have Z9:=aa ((RB.o.bel B5.o).set (bz 8)))
  have z0_:=Z9.o.c;have S9:=aa (((S1.o.bel B5.o).new (a:=w) (cE _ _ (bz 8)) SLT.o (fun k hk=>(HNE.o k hk).2) (MG _)).o);have F9:=aa ((F1.o.bel B5.o).gb (cE w5 w.heap.size (bz 8)) (.inr (.inr (MG _))));refine MM (v:=.agg #[.int .i64 8,.int .i64 0,.string ⟨#[]⟩]) ?_ rfl ?_
  ·simp only[fE,bz]at z0_;simp[results,results16,go_sem,z0_]
  ·rw[R.o];exact⟨rfl,S9.o,F9.o⟩
 have R:Ll (iz st n=({ st with time:=st.time+n,ths:=st.ths.map fun t=>{ t with st:=(dA (st.time+n) t 0).1 } },⟨0,0,[]⟩)):=aa (by unfold iz;rw[if_neg (by rintro (h | h) <;> contradiction)]);have hwT:IntKind.i64.wrap (st.time+n)=st.time+n:=by have:=HTM.o;rw[IntKind.wrap_i64];omega
 obtain⟨g0,g1,g2,g3⟩:=S1.o.blk.f;go_enter func16,ntmps16;go_upto_region 1 with fail
 rw[<-HW1.o];go_upto_region 4 with fail
 clear g0 g1 g2 g3;obtain⟨W3,hW3⟩:∃ W,W=W1.setCell ⟨S,1,none⟩ (.int .i64 (st.time+n)):=⟨_,rfl⟩
 have I3:Ll (nE w ok S v st n 0 W3):=aa (by
  rw[hW3];have G:W1.grownBy (W1.setCell ⟨S,1,none⟩ (.int .i64 (st.time+n))) (some S):=ap (az _ _) _ _;exact⟨S1.o.grS (ver:=st.ver) (acts:=st.acts) G (ak S1.o.blk 1 _),F1.o.gb G (.inl rfl),(G.block _ (MF.1 RB.o).1 (by intro e;have:=Option.some.inj e;have:=SLT.o;omega)).trans RB.o⟩)
 rw[<-hW3];clear hW3 hn1 hn2 hwS hwT;obtain⟨va,vc,hform⟩:=S1.o.row.form;have s0_:=I3.o.srv.blk.c;subst hform;go_wp2
 go_loopg [32] st.ths.length (fun gk iv wr=>∃ k:Nat,k<=st.ths.length/\gk=st.ths.length - k/\iv=.int .i64 k/\Ll (nE w ok S (.slice va st.ths.length vc) st n k wr))
 case atStart=>exact⟨0,Nat.zero_le _,rfl,rfl,I3⟩
 case round=>
  obtain⟨k,hk,hgk,rfl,IK⟩:=hrel;have GK:=aa hgk;clear hgk;obtain⟨wo,hwo⟩:∃ wo,wo=wr:=⟨wr,rfl⟩
  subst hwo;by_cases hlt:k < st.ths.length
  ·obtain⟨t,ht⟩:∃ t,st.ths[k]?=some t:=⟨_,Mw hlt⟩
   have TK:=aa ht;have TKL:Ll ((iB (st.time+n) st.ths k)[k]?=some t):=aa (wR ht);obtain⟨g,cap,e9,hgB,hgl,hlc,hc9,hf,Mb,a,b,c,d,oa,oc,hcl,hkk⟩:=IK.o.srv.row.at TKL.o;obtain⟨rfl,rfl⟩:va=some ⟨g,0,none⟩/\cap=vc:=by simp only[Value.slice.injEq]at e9;exact⟨e9.1,e9.2.2.symm⟩
   have GL:Ll (S < g/\g < w.heap.size):=aa (HNE.o g rfl);have w2:(k:Int) < (st.ths.length:Int):=by omega
   have w3:(0:Int)<=(k:Int):=by omega
   obtain⟨r,re,hr⟩:∃ r re,dA (st.time+n) t 0=(r,re):=⟨_,_,rfl⟩
   have HR:=aa hr;have KK:=aa hkk;have t0:wo.cell? ⟨g,k * 15,none⟩=some (.string ⟨t.name.toArray⟩):=hcl 0 _ rfl;have t1:wo.cell? ⟨g,k * 15+1,none⟩=some (.int .i64 t.value.kind):=hcl 1 _ rfl;have t2:wo.cell? ⟨g,k * 15+2,none⟩=some (.int .i64 t.value.n):=hcl 2 _ rfl;have t3:wo.cell? ⟨g,k * 15+3,none⟩=some (.string ⟨t.value.s.toArray⟩):=hcl 3 _ rfl;have t4:wo.cell? ⟨g,k * 15+4,none⟩=some (.slice a t.value.keys.length c):=hcl 4 _ rfl;have t5:wo.cell? ⟨g,k * 15+5,none⟩=some (.slice b t.value.l.length d):=hcl 5 _ rfl;have t6:wo.cell? ⟨g,k * 15+6,none⟩=some (.slice oa t.owners.length oc):=hcl 6 _ rfl;have t7:wo.cell? ⟨g,k * 15+7,none⟩=some (.int .i64 t.ver):=hcl 7 _ rfl;have t8:wo.cell? ⟨g,k * 15+8,none⟩=some (.int .i64 t.gen):=hcl 8 _ rfl;have t9:wo.cell? ⟨g,k * 15+9,none⟩=some (.string ⟨t.st.a.toArray⟩):=hcl 9 _ rfl;have t10:wo.cell? ⟨g,k * 15+10,none⟩=some (.string ⟨t.st.c.toArray⟩):=hcl 10 _ rfl;have t11:wo.cell? ⟨g,k * 15+11,none⟩=some (.int .i64 t.st.ph):=hcl 11 _ rfl;have t12:wo.cell? ⟨g,k * 15+12,none⟩=some (.int .i64 t.st.st):=hcl 12 _ rfl;have t13:wo.cell? ⟨g,k * 15+13,none⟩=some (.int .i64 t.st.we):=hcl 13 _ rfl;have t14:wo.cell? ⟨g,k * 15+14,none⟩=some (.int .i64 t.st.si):=hcl 14 _ rfl;obtain⟨W5,hW5⟩:∃ W,W=wo.alloc (.cells (Ld t a c b d oa oc) 37):=⟨_,rfl⟩
   have A5:Ll (La wo W5):=aa (by rw[hW5];exact ae _ _);have XB:Ll (fN W5 wo.heap.size t a b c d oa oc):=aa (by rw[hW5];exact MN _ _);have HW5:=aa hW5;have IK5:=aa (IK.o.bel A5.o);have S5:=aa IK5.o.srv;have NX:Ll (∀ W,La W5 W->Calls prog 24 #[.pointer (some ⟨S,0,none⟩),.agg (Ld t a c b d oa oc),.int .i64 0] W fun e w'=>e=.returned (.tuple #[.agg (Li r),.int .i64 re])/\La W w'):=aa (fun W hb=>by
    have:=uN W _ S _ (st.time+n) st.ver st.acts 0 t a b c d oa oc (S5.o.blk.bel hb) ((KK.o.bel A5.o).bel hb);rw[HR.o]at this;exact this)
   clear hW5 ht hr hkk hcl hf Mb hgB hgl e9;go_upto_region 7 with fail
   rw[<-HW5.o];refine aD (fun wS=>La W5 wS) [13] (by kernel_rfl) (aC _ 1) (fun LI=>?_);refine WT.out ?_;iterate 7
    first
     | refine OJ 0 ?_ [1,2,3,11,12,13] LI ?_ ?_
     | refine OJ 1 ?_ [2,3,11,12,13] LI ?_ ?_
     | refine OJ 2 ?_ [3,11,12,13] LI ?_ ?_
     | refine OJ 3 ?_ [11,12,13] LI ?_ ?_
     | refine OJ 4 ?_ [11,12,13] LI ?_ ?_
     | refine OJ 5 ?_ [7,8,9,10,11,12,13] LI ?_ ?_
     | refine OJ 6 ?_ [7,8,9,10,11,12,13] LI ?_ ?_
    rotate_left
    ·intro wS LN;have s0_:=(S5.o.blk.bel LN).c;obtain⟨t0,t1,t2,t3,t4,t5,t6,t7,t8,t9,t10,t11,t12,t13,t14⟩:=(XB.o.bel LN).c;go_simp;all_goals with_reducible rfl
    simp only[av,List.set]
   repeat' (first
    | exact nl
    |(refine ON 7 (fun K hK=>?_) ?_
      go_simp;refine Lk (NX.o _ LI) fun w7q hb5=>?_;refine hK.out _ _ (ab LI hb5) (fun LJ=>?_);have B7:=aa LJ;clear hb5;clear hK K;replace LI:=LJ;clear LJ;try simp only[Act.put,Mt,Mu,Mv])
    |(refine OO 13 (fun K hK=>?_)
      have S7:=aa (S5.o.bel B7.o);obtain⟨g4,cap4,e4,-,-,-,-,hf4,-,a4,b4,c4,d4,oa4,oc4,hcl4,-⟩:=S7.o.row.at TKL.o;obtain⟨rfl,rfl⟩:g4=g/\cap4=cap:=by simp only[Value.slice.injEq,Option.some.injEq,Addr.mk.injEq]at e4;exact⟨e4.1.1.symm,e4.2.2.symm⟩
      have n9:=hcl4 9 _ rfl;have n10:=hcl4 10 _ rfl;have n11:=hcl4 11 _ rfl;have n12:=hcl4 12 _ rfl;have n13:=hcl4 13 _ rfl;have n14:=hcl4 14 _ rfl;have m9:=hf4 (k * 15+9);have m10:=hf4 (k * 15+10);have m11:=hf4 (k * 15+11);have m12:=hf4 (k * 15+12);have m13:=hf4 (k * 15+13);have m14:=hf4 (k * 15+14);clear hf4 hcl4 e4;go_simp;refine hK.out _ _ ?_;clear hK K;try simp only[Act.put,Mt,Mu,Mv])
    |(first
       | refine OJ 8 ?_ [9,10,11,12,13] (by exact LI) ?_ ?_
       | refine OJ 9 ?_ [11,12,13] (by exact LI) ?_ ?_
      rotate_left
      ·intro wS LN;go_simp;all_goals with_reducible rfl
      simp only[av,List.set])
    |(refine Pm 10 ?_ (by exact LI) ?_ ?_
      rotate_left
      ·intro wS;go_simp;all_goals with_reducible rfl
      simp only[av,List.set])
    |(first
       | refine OJ 11 ?_ [12,13] (by exact LI) ?_ ?_
       | refine OJ 12 ?_ [13] (by exact LI) ?_ ?_
      rotate_left
      ·intro wS LN;go_simp;all_goals with_reducible rfl
      simp only[av,List.set])
    | refine OL [7] ?_
    | fail)
   all_goals
    refine dn (by kernel_rfl) ?_;obtain⟨W9,hW9⟩:∃ W,W=((((((w7q.setCell ⟨g4,k * 15+9,none⟩ (.string ⟨r.a.toArray⟩)).setCell ⟨g4,k * 15+9+1,none⟩ (.string ⟨r.c.toArray⟩)).setCell ⟨g4,k * 15+9+2,none⟩ (.int .i64 r.ph)).setCell ⟨g4,k * 15+9+3,none⟩ (.int .i64 r.st)).setCell ⟨g4,k * 15+9+4,none⟩ (.int .i64 r.we)).setCell ⟨g4,k * 15+9+5,none⟩ (.int .i64 r.si)):=⟨_,rfl⟩
    have IK9:Ll (nE w ok S (Value.slice (some ⟨g4,0,none⟩) st.ths.length cap4) st n (k+1) W9):=aa (by rw[hW9];exact Ct IK5.o B7.o TK.o HR.o SLT.o GL.o);rw[<-hW9];clear hW9;go_wp2
    go_roundg (st.ths.length - (k+1))
    case measure=>rw[GK.o];omega
    case rel=>exact⟨k+1,hlt,rfl,by go_num,IK9⟩
  ·have d9:¬(k:Int) < (st.ths.length:Int):=by omega
   have Mc:k=st.ths.length:=by omega
   have TL:Ll (iB (st.time+n) st.ths k=st.ths.map fun t=>{ t with st:=(dA (st.time+n) t 0).1 }):=aa (by rw[Mc,iB,List.take_length,List.drop_length,List.append_nil]);clear Mc;have n0_:=IK.o.rb.c;have Z9:=aa (IK.o.rb.set ⟨0,0,[]⟩);have S9:=aa ((IK.o.srv.new (a:=w) (cE _ _ ⟨0,0,[]⟩) SLT.o (fun k hk=>(HNE.o k hk).2) (MG _)).o);have F9:=aa (IK.o.fr.gb (cE wo w.heap.size ⟨0,0,[]⟩) (.inr (.inr (MG _))));go_wp2
   have z0_:=Z9.o.c;refine MM (v:=.agg #[.int .i64 0,.int .i64 0,.string ⟨#[]⟩]) ?_ rfl ?_
   ·simp only[fE]at z0_;simp[results,results16,go_sem,z0_]
   ·rw[R.o,<-TL.o];exact⟨rfl,S9.o,F9.o⟩
end Go.Proofs.YtlhejphddjdgkaaGreatDoor
