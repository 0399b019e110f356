/- Whatever it is handed, TopMemory answers true and leaves all as it was. Its conditions: a text or a list takes at most 2^47 - 4096 bytes; the listed package-level variables hold what the program's text lays (the card ties them, over a pruned copy of the project). -/
import Derived.Test.YtgolnaencepejaaGreatDoorG10
set_option maxRecDepth 100000
set_option maxHeartbeats 40000000
set_option linter.unusedSimpArgs false
set_option linter.unusedVariables false
namespace Go.Proofs.YtgolnaencepejaaGreatDoor
open Go.RowKit
open _root_.Go.Proofs.Tryz
variable {w wr:World}
variable {ok:Nat->Prop}
variable {v:Value}
variable {y:V}
variable {g B c S d:Nat}
section
theorem g15(w:LC)(g t a b c d oa oc):w.grownBy (jE w g t a b c d oa oc) (some g):=ap (ap (ap (ap (ap (ap (ap (ap (ap (ap (ap (ap (ap (ap (ap (az _ _) _ _) _ _) _ _) _ _) _ _) _ _) _ _) _ _) _ _) _ _) _ _) _ _) _ _) _ _) _ _
theorem kU.putV{time acts yo im sps vg pg a2 b2 c2 d2 ma sa mc sc t a b oa oc ver}(h:kU w ok S v time acts y yo im sps vg pg a2 b2 c2 d2 ma sa mc sc t a b c d oa oc ver wr)(a9 b9 c9 d9 oa9 oc9):kU w ok S v time acts y yo im sps vg pg a2 b2 c2 d2 ma sa mc sc { t with value:=y,owners:=yo } a9 b9 c9 d9 oa9 oc9 ver ((((((wr.setCell ⟨w.heap.size,1,none⟩ (.int .i64 y.kind)).setCell ⟨w.heap.size,2,none⟩ (.int .i64 y.n)).setCell ⟨w.heap.size,3,none⟩ (.string ⟨y.s.toArray⟩)).setCell ⟨w.heap.size,4,none⟩ (.slice a9 y.keys.length c9)).setCell ⟨w.heap.size,5,none⟩ (.slice b9 y.l.length d9)).setCell ⟨w.heap.size,6,none⟩ (.slice oa9 yo.length oc9)):=by
 have g:wr.grownBy ((((((wr.setCell ⟨w.heap.size,1,none⟩ (.int .i64 y.kind)).setCell ⟨w.heap.size,2,none⟩ (.int .i64 y.n)).setCell ⟨w.heap.size,3,none⟩ (.string ⟨y.s.toArray⟩)).setCell ⟨w.heap.size,4,none⟩ (.slice a9 y.keys.length c9)).setCell ⟨w.heap.size,5,none⟩ (.slice b9 y.l.length d9)).setCell ⟨w.heap.size,6,none⟩ (.slice oa9 yo.length oc9)) (some w.heap.size):=ap (ap (ap (ap (ap (ap (az _ _) _ _) _ _) _ _) _ _) _ _) _ _;exact h.gr g (.inr rfl) (h.th.putV y yo a9 b9 c9 d9 oa9 oc9) (h.srv.gr g (fun e=>by cases e;exact Nat.lt_irrefl _ h.low))
theorem cQ.out15{w1:LC}{C x a b oa oc}(h:cQ w1 (bg ok B C) x a b c d oa oc)(hg:B<=g)(hC:g < C)(t a9 b9 c9 d9 oa9 oc9):cQ (jE w1 g t a9 b9 c9 d9 oa9 oc9) (bQ ok B) x a b c d oa oc:=by
 have hk:∀ k,bg ok B C k->some k≠some g:=fun k hk e=>jB hg hC k hk (by cases e;rfl);have h2:∀ k,bg ok B C k->bQ ok B k:=fun k hk=>by
  rcases hk with hk | hk
  ·exact .inl hk.1
  ·exact .inr (by omega)
 exact⟨h.name,(h.val.grownR (g15 w1 g t a9 b9 c9 d9 oa9 oc9) hk).weak h2,(h.own.grownR (g15 w1 g t a9 b9 c9 d9 oa9 oc9) hk).weak h2⟩
theorem kU.ok15{time acts:Int}{yo:List aL}{im:Lz}{sps:List dN}{vg pg:Nat}{a2 b2}{c2 d2:Nat}{ma sa}{mc sc:Nat}{t:Th}{a b oa}{oc:Nat}{ver:Int}{tE t0:Th}{s:dI}(h:kU w ok S v time acts y yo im sps vg pg a2 b2 c2 d2 ma sa mc sc t a b c d oa oc ver wr)(ht:t={ tE with st:=s })(he:tE.name=t0.name/\tE.value=y/\tE.owners=yo)(hn:t0.name.length<=9223372036854775807):cQ (jE wr (w.heap.size+2) t a2 b2 c2 d2 ma mc) (bQ ok w.heap.size) t a2 b2 c2 d2 ma mc:=by
 obtain⟨e1,e2,e3⟩:=he;have f1:t.name=t0.name:=by rw[ht];exact e1
 have f2:t.value=y:=by rw[ht];exact e2
 have f3:t.owners=yo:=by rw[ht];exact e3
 refine cQ.out15 (C:=w.heap.size+3) ⟨by rw[f1];exact hn,by rw[f2];exact h.inY,by rw[f3];exact h.own⟩ (by omega) (by omega) t _ _ _ _ _ _
theorem Kb{time ver t yo im sps fs ns fe ne}(hr:bE y=(im,sps))(h0:t.gen=0)(hf:fV im sps=(fs,fe))(hn:ij im sps fs time 0=(ns,ne)):((jw time ver t y yo).1,(jw time ver t y yo).2,(0:Int))=((⟨t.name,y,yo,ver+1,t.gen+1,ns⟩:Th),ver+1,0):=by
 simp only[jw,hr,h0,true_or,if_true,hf,hn]
theorem JZ{time ver t yo im sps ns ne}(hr:bE y=(im,sps))(h0:¬t.gen=0)(hy:¬y=t.value)(hn:ij im sps t.st time 0=(ns,ne)):((jw time ver t y yo).1,(jw time ver t y yo).2,(0:Int))=((⟨t.name,y,yo,ver+1,t.gen+1,ns⟩:Th),ver+1,0):=by
 have e:(t.gen=0\/y≠t.value)\/yo≠t.owners:=.inl (.inr hy);have e2:t.gen=0\/y≠t.value:=.inr hy;simp only[jw,hr,if_pos e,if_pos e2,if_neg h0,hn]
theorem Kw{time ver t yo im sps ns ne}(hr:bE y=(im,sps))(h0:¬t.gen=0)(hy:y=t.value)(ho:¬yo=t.owners)(hn:ij im sps t.st time 0=(ns,ne)):((jw time ver t y yo).1,(jw time ver t y yo).2,(0:Int))=((⟨t.name,y,yo,ver+1,t.gen,ns⟩:Th),ver+1,0):=by
 have e:(t.gen=0\/y≠t.value)\/yo≠t.owners:=.inr ho;have e2:¬(t.gen=0\/y≠t.value):=by rintro (h | h);exact h0 h;exact h hy
 simp only[jw,hr,if_pos e,if_neg e2,if_neg h0,hn]
theorem Ku{time ver t yo im sps ns ne}(hr:bE y=(im,sps))(h0:¬t.gen=0)(hy:y=t.value)(ho:yo=t.owners)(hn:ij im sps t.st time 0=(ns,ne)):((jw time ver t y yo).1,(jw time ver t y yo).2,(0:Int))=((⟨t.name,y,yo,t.ver,t.gen,ns⟩:Th),ver,0):=by
 have e:¬((t.gen=0\/y≠t.value)\/yo≠t.owners):=by rintro ((h | h) | h);exact h0 h;exact h hy;exact h ho
 have e2:¬(t.gen=0\/y≠t.value):=by rintro (h | h);exact h0 h;exact h hy
 simp only[jw,hr,if_neg e,if_neg e2,if_neg h0,hn]
attribute [local go_sem ↓] Go.wp_at_zero Go.wp_at_succ
open Classical in
theorem CO(w:LC)(ok S v time ver acts t a b c d oa oc)(q:cm)(hs:eF w S v time ver acts)(hS:¬ok S)(hv:0<=ver/\ver<=1000)(hgn:0<=t.gen/\t.gen<=1000)(ht:cQ w ok t a b c d oa oc)(hG:cn w)(hM:bj w)(hW:di w)(hN:(bA t.owners).length<=4000000)(hP:∀ o∈t.owners,∀ x∈o.paths,x.length<=140737488351232)(hq:q.body.length<=9223372036854775807)(hw:q.who.length<=9223372036854775807)(hx:(aJ t q).2.2≠0\/cI (aJ t q).1≠0):Calls prog 38 #[.pointer (some ⟨S,0,none⟩),.agg (Ld t a c b d oa oc),.agg (Lf q)] w fun e w'=>∃ a9 b9 c9 d9 oa9 oc9,e=.returned (.tuple #[.agg #[.string ⟨(al time ver t q).1.name.toArray⟩,.int .i64 (al time ver t q).1.value.kind,.int .i64 (al time ver t q).1.value.n,.string ⟨(al time ver t q).1.value.s.toArray⟩,.slice a9 (al time ver t q).1.value.keys.length c9,.slice b9 (al time ver t q).1.value.l.length d9,.slice oa9 (al time ver t q).1.owners.length oc9,.int .i64 (al time ver t q).1.ver,.int .i64 (al time ver t q).1.gen,.string ⟨(al time ver t q).1.st.a.toArray⟩,.string ⟨(al time ver t q).1.st.c.toArray⟩,.int .i64 (al time ver t q).1.st.ph,.int .i64 (al time ver t q).1.st.st,.int .i64 (al time ver t q).1.st.we,.int .i64 (al time ver t q).1.st.si],.int .i64 (al time ver t q).2.2])/\cQ w' (bQ ok w.heap.size) (al time ver t q).1 a9 b9 c9 d9 oa9 oc9/\eF w' S v time (al time ver t q).2.1 acts/\w.grownBy w' (some S):=by
 obtain⟨W3,hW3⟩:∃ W,W=((w.alloc (.cells (Ld t a c b d oa oc) 44)).alloc (.cells (Lf q) 29)).alloc (.cells Le 44):=⟨_,rfl⟩
 have Y3:Ll (La w W3):=aa (by rw[hW3];exact ab (ab (ae _ _) (ae _ _)) (ae _ _));have Y3g:Ll (w.grownBy W3 (some S)):=aa (aq Y3.o);have X1:Ll (fN W3 w.heap.size t a b c d oa oc):=aa (by rw[hW3];exact lI _ _ _ _);have X2:Ll (jC W3 (w.heap.size+1) q):=aa (by rw[hW3];exact mE _ _ _ _);have X3:Ll (fN W3 (w.heap.size+2) dT none none 0 0 none 0):=aa (by rw[hW3];exact jI _ _ _ _);have HW3:=aa hW3;have SB3:=aa (hs.bel Y3.o);have SLT:Ll (S < w.heap.size):=aa hs.lt;have HS:=aa hS;have HV:=aa hv;have HGN:=aa hgn;have TNL:=aa ht.name;have TK:Ll (cQ W3 (bg ok w.heap.size (w.heap.size+3)) t a b c d oa oc):=aa ((ht.low.weak fun k hk=>.inl hk).bel Y3.o);have S3:Ll (w.heap.size+3<=W3.heap.size):=aa (by have:=X3.o.lt;omega);have WAN0:=rN W3 (bg ok w.heap.size (w.heap.size+3)) t a b c d oa oc q TK.o (hG.grown (r:=none) (aq Y3.o) (by simp)) (hM.bel Y3.o) (hW.bel Y3.o) hN hP hq hw;obtain⟨y,yo,ye,hy⟩:∃ y yo ye,aJ t q=(y,yo,ye):=⟨_,_,_,rfl⟩
 rw[hy]at WAN0 hx;have WAN:Ll (Calls prog 55 #[.agg (Ld t a c b d oa oc),.agg (Lf q)] W3 fun e w'=>∃ (a2 b2:Option Addr) (c2 d2:Nat) (ma:Option Addr) (mc:Nat),e=.returned (.tuple #[.agg (KV y a2 c2 b2 d2),.slice ma yo.length mc,.int .i64 ye])/\In w' (bg ok w.heap.size (w.heap.size+3)) y (.agg (KV y a2 c2 b2 d2))/\aB w' (bg ok w.heap.size (w.heap.size+3)) yo (.slice ma yo.length mc)/\La W3 w'):=aa (WAN0.mono fun e w' h=>by
  obtain⟨r,ro,rfl,h1,h2,h3⟩:=h;obtain⟨a2,b2,c2,d2,rfl⟩:=h1.form;obtain⟨ma,mc,rfl⟩:=h2.form;exact⟨a2,b2,c2,d2,ma,mc,rfl,h1.weak (No S3.o),h2.weak (No S3.o),h3⟩)
 have HY:=aa hy;have HX:=aa hx;clear hx;clear WAN0 hy hW3 hs hS hv hgn ht hG hM hW hN hP hq hw;have q0_:=X2.o.c;have t0_:=X1.o.c;go_enter func38,ntmps38;go_upto_region 1 with fail
 rw[<-HW3.o];go_upto_region 2 with (go_at_call 55;refine WAN.o.mono ?_;rintro e w4 ⟨a2,b2,c2,d2,ma,mc,rfl,h1,h2,hb⟩;have B4:=aa hb;have I4:=aa h1;have O4:=aa h2;clear h1 h2 hb)
 obtain⟨W5,hW5⟩:∃ W,W=w4.alloc (.cells (KV y a2 c2 b2 d2) 39):=⟨_,rfl⟩
 have A5:Ll (La w4 W5):=aa (by rw[hW5];exact ae _ _);have PB:Ll (KY W5 w4.heap.size y a2 c2 b2 d2):=aa (by rw[hW5];exact MN _ _);rw[<-hW5];clear hW5;have B35:=aa (ab B4.o A5.o);by_cases hye:ye=0
 rotate_left
 ·have e0:(ye != 0)=true:=by simpa using hye
  have e1:(ye == 0)=false:=by rw[MO];exact hye
  have R:Ll (al time ver t q=(t,ver,ye)):=aa (by unfold al;rw[HY.o,if_pos hye]);clear hye;go_upto_region 3 with fail
  have t0_:=(X1.o.bel B35.o).c;have n0_:=(X3.o.bel B35.o).c;obtain⟨m0,m1,m2,m3,m4,m5,m6,m7,m8,m9,m10,m11,m12,m13,m14⟩:=(X3.o.bel B35.o).f;rw[show w.heap.size+2=w.heap.size+1+1 from rfl]at n0_ m0 m1 m2 m3 m4 m5 m6 m7 m8 m9 m10 m11 m12 m13 m14;have P9:=aa ((X3.o.bel B35.o).put15 t a b c d oa oc);have G9:=aa (mz (r:=some S) (am Y3g.o (aq B35.o)) (show w.heap.size<=w.heap.size+2 by omega) t a b c d oa oc);have S9:=aa ((SB3.o.bel B35.o).gr (g15 _ (w.heap.size+2) t a b c d oa oc) (by intro e;cases e;have:=SLT.o;omega));have O9:=aa (cQ.out15 (TK.o.bel B35.o) (g:=w.heap.size+2) (by omega) (by omega) t a b c d oa oc);have z0_:=P9.o.c;rw[show w.heap.size+2=w.heap.size+1+1 from rfl]at z0_;simp only[jE]at z0_;go_wp2
  refine MM (v:=.tuple #[.agg (Ld t a c b d oa oc),.int .i64 ye]) ?_ rfl ?_
  ·simp[results,results38,go_sem,z0_]
  ·rw[R.o];exact⟨a,b,c,d,oa,oc,rfl,O9.o,S9.o,G9.o⟩
 subst hye;obtain⟨sp,hsp⟩:∃ sp,bE y=sp:=⟨_,rfl⟩
 obtain⟨se,hse⟩:∃ se,cI y=se:=⟨_,rfl⟩
 have LSP:Ll (sp.1.length<=9223372036854775807):=aa (by rw[<-hsp];exact nz _);have RD:=oY W5 (bg ok w.heap.size (w.heap.size+3)) y _ (I4.o.bel A5.o);rw[hsp,hse]at RD;obtain⟨im,sps⟩:=sp;have READ:=aa RD;have HRG:=aa hsp;have HSE:=aa hse;clear RD hsp hse;have p0_:=PB.o.c;go_upto_region 4 with fail
 go_upto_region 5 with (go_at_call 31;refine READ.o.mono ?_;rintro e w6 ⟨sl,rfl,h1,hb⟩;obtain⟨sa,sc,rfl⟩:=mH h1.1;have B6:=aa hb;have SP6:=aa h1;clear h1 hb)
 obtain⟨W7,hW7⟩:∃ W,W=w6.alloc (.cells #[.string ⟨im.toArray⟩,.slice sa sps.length sc] 73):=⟨_,rfl⟩
 have A7:Ll (La w6 W7):=aa (by rw[hW7];exact ae _ _);have PX:Ll (fM W7 w6.heap.size im (.slice sa sps.length sc)):=aa (by rw[hW7];exact MN _ _);rw[<-hW7];clear hW7;have B57:=aa (ab B6.o A7.o);have B37:=aa (ab B35.o B57.o);by_cases hye:se=0
 rotate_left
 ·have e0:(se != 0)=true:=by simpa using hye
  have e1:(se == 0)=false:=by rw[MO];exact hye
  have R:Ll (al time ver t q=(t,ver,se)):=aa (by unfold al;rw[HY.o,if_neg (by simp),HSE.o,if_pos hye]);clear hye;go_upto_region 6 with fail
  have t0_:=(X1.o.bel B37.o).c;have n0_:=(X3.o.bel B37.o).c;obtain⟨m0,m1,m2,m3,m4,m5,m6,m7,m8,m9,m10,m11,m12,m13,m14⟩:=(X3.o.bel B37.o).f;rw[show w.heap.size+2=w.heap.size+1+1 from rfl]at n0_ m0 m1 m2 m3 m4 m5 m6 m7 m8 m9 m10 m11 m12 m13 m14;have P9:=aa ((X3.o.bel B37.o).put15 t a b c d oa oc);have G9:=aa (mz (r:=some S) (am Y3g.o (aq B37.o)) (show w.heap.size<=w.heap.size+2 by omega) t a b c d oa oc);have S9:=aa ((SB3.o.bel B37.o).gr (g15 _ (w.heap.size+2) t a b c d oa oc) (by intro e;cases e;have:=SLT.o;omega));have O9:=aa (cQ.out15 (TK.o.bel B37.o) (g:=w.heap.size+2) (by omega) (by omega) t a b c d oa oc);have z0_:=P9.o.c;rw[show w.heap.size+2=w.heap.size+1+1 from rfl]at z0_;simp only[jE]at z0_;go_wp2
  refine MM (v:=.tuple #[.agg (Ld t a c b d oa oc),.int .i64 se]) ?_ rfl ?_
  ·simp[results,results38,go_sem,z0_]
  ·rw[R.o];exact⟨a,b,c,d,oa,oc,rfl,O9.o,S9.o,G9.o⟩
 subst hye;rcases HX.o with hx | hx
 ·exact absurd rfl hx
 ·exact absurd HSE.o hx
open Classical in
theorem Db(w:LC)(ok S v time ver acts t a b c d oa oc)(q:cm)(hs:eF w S v time ver acts)(hS:¬ok S)(hv:0<=ver/\ver<=1000)(hgn:0<=t.gen/\t.gen<=1000)(ht:cQ w ok t a b c d oa oc)(hG:cn w)(hM:bj w)(hW:di w)(hN:(bA t.owners).length<=4000000)(hP:∀ o∈t.owners,∀ x∈o.paths,x.length<=140737488351232)(hq:q.body.length<=9223372036854775807)(hw:q.who.length<=9223372036854775807)(hx:(aJ t q).2.2=0/\cI (aJ t q).1=0):Calls prog 38 #[.pointer (some ⟨S,0,none⟩),.agg (Ld t a c b d oa oc),.agg (Lf q)] w fun e w'=>∃ a9 b9 c9 d9 oa9 oc9,e=.returned (.tuple #[.agg #[.string ⟨(al time ver t q).1.name.toArray⟩,.int .i64 (al time ver t q).1.value.kind,.int .i64 (al time ver t q).1.value.n,.string ⟨(al time ver t q).1.value.s.toArray⟩,.slice a9 (al time ver t q).1.value.keys.length c9,.slice b9 (al time ver t q).1.value.l.length d9,.slice oa9 (al time ver t q).1.owners.length oc9,.int .i64 (al time ver t q).1.ver,.int .i64 (al time ver t q).1.gen,.string ⟨(al time ver t q).1.st.a.toArray⟩,.string ⟨(al time ver t q).1.st.c.toArray⟩,.int .i64 (al time ver t q).1.st.ph,.int .i64 (al time ver t q).1.st.st,.int .i64 (al time ver t q).1.st.we,.int .i64 (al time ver t q).1.st.si],.int .i64 (al time ver t q).2.2])/\cQ w' (bQ ok w.heap.size) (al time ver t q).1 a9 b9 c9 d9 oa9 oc9/\eF w' S v time (al time ver t q).2.1 acts/\w.grownBy w' (some S):=by
 obtain⟨W3,hW3⟩:∃ W,W=((w.alloc (.cells (Ld t a c b d oa oc) 44)).alloc (.cells (Lf q) 29)).alloc (.cells Le 44):=⟨_,rfl⟩
 have Y3:Ll (La w W3):=aa (by rw[hW3];exact ab (ab (ae _ _) (ae _ _)) (ae _ _));have Y3g:Ll (w.grownBy W3 (some S)):=aa (aq Y3.o);have X1:Ll (fN W3 w.heap.size t a b c d oa oc):=aa (by rw[hW3];exact lI _ _ _ _);have X2:Ll (jC W3 (w.heap.size+1) q):=aa (by rw[hW3];exact mE _ _ _ _);have X3:Ll (fN W3 (w.heap.size+2) dT none none 0 0 none 0):=aa (by rw[hW3];exact jI _ _ _ _);have HW3:=aa hW3;have SB3:=aa (hs.bel Y3.o);have SLT:Ll (S < w.heap.size):=aa hs.lt;have HS:=aa hS;have HV:=aa hv;have HGN:=aa hgn;have TNL:=aa ht.name;have TK:Ll (cQ W3 (bg ok w.heap.size (w.heap.size+3)) t a b c d oa oc):=aa ((ht.low.weak fun k hk=>.inl hk).bel Y3.o);have S3:Ll (w.heap.size+3<=W3.heap.size):=aa (by have:=X3.o.lt;omega);have WAN0:=rN W3 (bg ok w.heap.size (w.heap.size+3)) t a b c d oa oc q TK.o (hG.grown (r:=none) (aq Y3.o) (by simp)) (hM.bel Y3.o) (hW.bel Y3.o) hN hP hq hw;obtain⟨y,yo,ye,hy⟩:∃ y yo ye,aJ t q=(y,yo,ye):=⟨_,_,_,rfl⟩
 rw[hy]at WAN0 hx;have WAN:Ll (Calls prog 55 #[.agg (Ld t a c b d oa oc),.agg (Lf q)] W3 fun e w'=>∃ (a2 b2:Option Addr) (c2 d2:Nat) (ma:Option Addr) (mc:Nat),e=.returned (.tuple #[.agg (KV y a2 c2 b2 d2),.slice ma yo.length mc,.int .i64 ye])/\In w' (bg ok w.heap.size (w.heap.size+3)) y (.agg (KV y a2 c2 b2 d2))/\aB w' (bg ok w.heap.size (w.heap.size+3)) yo (.slice ma yo.length mc)/\La W3 w'):=aa (WAN0.mono fun e w' h=>by
  obtain⟨r,ro,rfl,h1,h2,h3⟩:=h;obtain⟨a2,b2,c2,d2,rfl⟩:=h1.form;obtain⟨ma,mc,rfl⟩:=h2.form;exact⟨a2,b2,c2,d2,ma,mc,rfl,h1.weak (No S3.o),h2.weak (No S3.o),h3⟩)
 have HY:=aa hy;obtain⟨hx1,hx2⟩:=hx;simp only at hx1 hx2;have HX1:=aa hx1;have HX2:=aa hx2;clear hx1 hx2;clear WAN0 hy hW3 hs hS hv hgn ht hG hM hW hN hP hq hw;obtain⟨q0,q1,q2,q3,q4,q5,q6,q7⟩:=X2.o.c;obtain⟨t0,t1,t2,t3,t4,t5,t6,t7,t8,t9,t10,t11,t12,t13,t14⟩:=X1.o.c;go_enter func38,ntmps38;go_upto_region 1 with fail
 rw[<-HW3.o];go_upto_region 2 with (go_at_call 55;refine WAN.o.mono ?_;rintro e w4 ⟨a2,b2,c2,d2,ma,mc,rfl,h1,h2,hb⟩;have B4:=aa hb;have I4:=aa h1;have O4:=aa h2;clear h1 h2 hb)
 obtain⟨W5,hW5⟩:∃ W,W=w4.alloc (.cells (KV y a2 c2 b2 d2) 39):=⟨_,rfl⟩
 have A5:Ll (La w4 W5):=aa (by rw[hW5];exact ae _ _);have PB:Ll (KY W5 w4.heap.size y a2 c2 b2 d2):=aa (by rw[hW5];exact MN _ _);rw[<-hW5];clear hW5;have B35:=aa (ab B4.o A5.o);obtain rfl:ye=0:=HX1.o;obtain⟨sp,hsp⟩:∃ sp,bE y=sp:=⟨_,rfl⟩
 obtain⟨se,hse⟩:∃ se,cI y=se:=⟨_,rfl⟩
 have LSP:Ll (sp.1.length<=9223372036854775807):=aa (by rw[<-hsp];exact nz _);have RD:=oY W5 (bg ok w.heap.size (w.heap.size+3)) y _ (I4.o.bel A5.o);rw[hsp,hse]at RD;obtain⟨im,sps⟩:=sp;have READ:=aa RD;have HRG:=aa hsp;have HSE:=aa hse;clear RD hsp hse;have p0_:=PB.o.c;go_upto_region 4 with fail
 go_upto_region 5 with (go_at_call 31;refine READ.o.mono ?_;rintro e w6 ⟨sl,rfl,h1,hb⟩;obtain⟨sa,sc,rfl⟩:=mH h1.1;have B6:=aa hb;have SP6:=aa h1;clear h1 hb)
 obtain⟨W7,hW7⟩:∃ W,W=w6.alloc (.cells #[.string ⟨im.toArray⟩,.slice sa sps.length sc] 73):=⟨_,rfl⟩
 have A7:Ll (La w6 W7):=aa (by rw[hW7];exact ae _ _);have PX:Ll (fM W7 w6.heap.size im (.slice sa sps.length sc)):=aa (by rw[hW7];exact MN _ _);rw[<-hW7];clear hW7;have B57:=aa (ab B6.o A7.o);have B37:=aa (ab B35.o B57.o);obtain rfl:se=0:=HSE.o.symm.trans HX2.o;have WF:Ll (al time ver t q=((jw time ver t y yo).1,(jw time ver t y yo).2,0)):=aa (by unfold al;rw[HY.o,if_neg (by simp),HSE.o,if_neg (by simp)]);have hwV:IntKind.i64.wrap (ver+1)=ver+1:=by have:=HV.o;rw[IntKind.wrap_i64];omega
 have WG:Ll (IntKind.i64.wrap (t.gen+1)=t.gen+1):=aa (by have:=HGN.o;rw[IntKind.wrap_i64];omega);have WR:Ll (kU w ok S v time acts y yo im sps w4.heap.size w6.heap.size a2 b2 c2 d2 ma sa mc sc t a b c d oa oc ver W7):=aa ⟨X1.o.bel B37.o,X3.o.bel B37.o,af B57.o PB.o,PX.o,SB3.o.bel B37.o,am Y3g.o (aq B37.o),(I4.o.bel A5.o).bel B57.o,(O4.o.bel A5.o).bel B57.o,SP6.o.1.bel A7.o,fun k hk=>MH (MH S3.o B35.o.size) (SP6.o.2 k hk),SLT.o,HS.o,MH S3.o B4.o.size,MH S3.o (MH B35.o.size B6.o.size)⟩;have CNT:Ll (fa y<=2000000000000):=aa (MH (gE (dQ (lq HSE.o))) (by omega));have SAME:Ll (Calls prog 26 #[.agg (KV y a2 c2 b2 d2),.agg (KV t.value a c b d)] W7 fun e w'=>Je W7 y t.value e w'):=aa (lP W7 (bg ok w.heap.size (w.heap.size+3)) (bg ok w.heap.size (w.heap.size+3)) y t.value _ _ WR.o.inY (TK.o.bel B37.o).val CNT.o);have SOWN:Ll (∀ W,La W7 W->Calls prog 56 #[.slice ma yo.length mc,.slice oa t.owners.length oc] W fun e w'=>e=.returned (.bool (decide (yo=t.owners)))/\La W w'):=aa (fun W hW=>rh W (bg ok w.heap.size (w.heap.size+3)) (bg ok w.heap.size (w.heap.size+3)) yo t.owners _ _ (WR.o.own.bel hW) ((TK.o.bel B37.o).own.bel hW));go_upto_region 7 with fail
 obtain⟨bN,hbN⟩:∃ b,b=decide (t.gen=0):=⟨_,rfl⟩
 obtain⟨bO,hbO⟩:∃ b,b=(bN || decide (¬y=t.value)):=⟨_,rfl⟩
 obtain⟨bV,hbV⟩:∃ b,b=(bO || decide (¬yo=t.owners)):=⟨_,rfl⟩
 have eN:(t.gen == 0)=bN:=by rw[hbN];rfl
 have HBN:=aa hbN;have HBO:=aa hbO;have HBV:=aa hbV;clear hbN hbO hbV;obtain⟨t0,t1,t2,t3,t4,t5,t6,t7,t8,t9,t10,t11,t12,t13,t14⟩:=WR.o.th.c;have p0_:=WR.o.val.c;go_upto_region 8 with fail
 go_cut [13] (fun s13 wc=>s13=.bool bO/\Ll (La W7 wc))
 case first=>
  cases bN with
  | true=>
   obtain rfl:bO=true:=by rw[HBO.o];rfl
   go_wp2
   go_meet
   case rel=>exact⟨rfl,MK _ _⟩
  | false=>
   go_wp2_with (go_at_call 26;refine SAME.o.mono ?_;rintro e w8 ⟨r8,rfl,h8,hb⟩;have B8:=aa hb;have E8:Ll ((!r8)=bO):=aa (by rw[HBO.o,Bool.false_or];cases r8 with | true=>simp[h8.1 rfl] | false=>simp;exact fun h9=>by simp[h9]at h8);clear h8 hb)
   go_meet
   case rel=>exact⟨by rw[<-E8.o],B8⟩
 case rest=>
 obtain⟨rfl,BB⟩:=hcut;obtain⟨wc0,hwc0⟩:∃ w9,w9=wc:=⟨_,rfl⟩
 rw[<-hwc0]at BB ⊢;clear hwc0;have WR8:=aa (WR.o.bel BB.o);obtain⟨t0,t1,t2,t3,t4,t5,t6,t7,t8,t9,t10,t11,t12,t13,t14⟩:=WR8.o.th.c;go_upto_region 9 with fail
 go_cut [52] (fun s52 wc=>s52=.bool bV/\Ll (La W7 wc))
 case first=>
  cases bO with
  | true=>
   obtain rfl:bV=true:=by rw[HBV.o];rfl
   go_wp2
   go_meet
   case rel=>exact⟨rfl,BB⟩
  | false=>
   have E9:Ll ((!decide (yo=t.owners))=bV):=aa (by rw[HBV.o,Bool.false_or];by_cases h9:yo=t.owners <;> simp[h9]);go_wp2_with (go_at_call 56;refine Lk (SOWN.o _ BB.o) fun w9 hb=>?_;have B9:=aa (ab BB.o hb);clear hb)
   go_meet
   case rel=>exact⟨by rw[<-E9.o],B9⟩
 case rest=>
 obtain⟨rfl,BC⟩:=hcut;obtain⟨wA,hwA⟩:∃ w9,w9=wc:=⟨_,rfl⟩
 rw[<-hwA]at BC ⊢;clear hwA WR8;have WRA:=aa (WR.o.bel BC.o);obtain⟨tA,htA⟩:∃ t9:Th,t9=(if bV then { t with ver:=ver+1 } else t):=⟨_,rfl⟩
 obtain⟨verB,hverB⟩:∃ v9:Int,v9=(if bV then ver+1 else ver):=⟨_,rfl⟩
 have HTA:=aa htA;have HVB:=aa hverB;clear htA hverB;go_upto_if 52 with fail
 go_cut [] (fun wc=>Ll (kU w ok S v time acts y yo im sps w4.heap.size w6.heap.size a2 b2 c2 d2 ma sa mc sc tA a b c d oa oc verB wc))
 case first=>
  cases bV with
  | true=>
   have s0_:=WRA.o.srv.c;obtain⟨g0,g1,g2,g3⟩:=WRA.o.srv.f;go_upto_region 11 with fail
   clear g0 g1 g2 g3;obtain⟨wB,hwB⟩:∃ W,W=wA.setCell ⟨S,2,none⟩ (.int .i64 (ver+1)):=⟨_,rfl⟩
   have WRB:Ll (kU w ok S v time acts y yo im sps w4.heap.size w6.heap.size a2 b2 c2 d2 ma sa mc sc t a b c d oa oc (ver+1) wB):=aa (by rw[hwB];exact WRA.o.verS _);rw[<-hwB];clear hwB;have s0_:=WRB.o.srv.c;obtain⟨t0,t1,t2,t3,t4,t5,t6,t7,t8,t9,t10,t11,t12,t13,t14⟩:=WRB.o.th.c;obtain⟨f0,f1,f2,f3,f4,f5,f6,f7,f8,f9,f10,f11,f12,f13,f14⟩:=WRB.o.th.f;go_wp2
   go_meet
   case rel=>exact aa (by rw[HTA.o,HVB.o];exact WRB.o.verT _)
  | false=>
   go_wp2
   go_meet
   case rel=>exact aa (by rw[HTA.o,HVB.o];exact WRA.o)
 case rest=>
 obtain⟨wB,hwB⟩:∃ w9,w9=wc:=⟨_,rfl⟩
 rw[<-hwB]at hcut ⊢;clear hwB WRA;have WRB:=hcut;clear hcut;obtain⟨tB,htB⟩:∃ t9:Th,t9=(if bO then { tA with gen:=t.gen+1 } else tA):=⟨_,rfl⟩
 have HTB:=aa htB;have HGA:Ll (tA.gen=t.gen):=aa (by rw[HTA.o];cases bV <;> rfl);clear htB;go_upto_if 65 with fail
 go_cut [] (fun wc=>Ll (kU w ok S v time acts y yo im sps w4.heap.size w6.heap.size a2 b2 c2 d2 ma sa mc sc tB a b c d oa oc verB wc))
 case first=>
  cases bO with
  | true=>
   have hwG:IntKind.i64.wrap (tA.gen+1)=t.gen+1:=by rw[HGA.o];exact WG.o
   obtain⟨t0,t1,t2,t3,t4,t5,t6,t7,t8,t9,t10,t11,t12,t13,t14⟩:=WRB.o.th.c;obtain⟨f0,f1,f2,f3,f4,f5,f6,f7,f8,f9,f10,f11,f12,f13,f14⟩:=WRB.o.th.f;go_wp2
   go_meet
   case rel=>exact aa (by rw[HTB.o];exact WRB.o.genT _)
  | false=>
   go_wp2
   go_meet
   case rel=>exact aa (by rw[HTB.o];exact WRB.o)
 case rest=>
 obtain⟨wC,hwC⟩:∃ w9,w9=wc:=⟨_,rfl⟩
 rw[<-hwC]at hcut ⊢;clear hwC WRB;have WRC:=hcut;clear hcut;obtain⟨fs,fe,hfs⟩:∃ fs fe,fV im sps=(fs,fe):=⟨_,_,rfl⟩
 have HFS:=aa hfs;clear hfs;obtain⟨tC,htC⟩:∃ t9:Th,t9=(if bN then { tB with st:=fs } else tB):=⟨_,rfl⟩
 have HTC:=aa htC;clear htC;go_upto_if 70 with fail
 go_cut [] (fun wc=>Ll (kU w ok S v time acts y yo im sps w4.heap.size w6.heap.size a2 b2 c2 d2 ma sa mc sc tC a b c d oa oc verB wc))
 case first=>
  cases bN with
  | true=>
   have FI:Ll (Calls prog 57 #[.agg #[.string ⟨im.toArray⟩,.slice sa sps.length sc]] wC fun e w'=>e=.returned (.tuple #[.agg (Li fs),.int .i64 fe])/\La wC w'):=aa (by
    have:=DZ wC im sps (.slice sa sps.length sc) WRC.o.stp LSP.o;rw[HFS.o]at this;exact this)
   obtain⟨u0,u1,-⟩:=WRC.o.spec.c2;obtain⟨t0,t1,t2,t3,t4,t5,t6,t7,t8,t9,t10,t11,t12,t13,t14⟩:=WRC.o.th.c;obtain⟨f0,f1,f2,f3,f4,f5,f6,f7,f8,f9,f10,f11,f12,f13,f14⟩:=WRC.o.th.f;go_wp2_with (go_at_call 57;refine FI.o.mono ?_;rintro e wF ⟨rfl,hb⟩;have WRF:=aa (WRC.o.bel hb);clear hb u0 u1 f0 f1 f2 f3 f4 f5 f6 f7 f8 f9 f10 f11 f12 f13 f14;obtain⟨t0,t1,t2,t3,t4,t5,t6,t7,t8,t9,t10,t11,t12,t13,t14⟩:=WRF.o.th.c;obtain⟨f0,f1,f2,f3,f4,f5,f6,f7,f8,f9,f10,f11,f12,f13,f14⟩:=WRF.o.th.f)
   go_meet
   case rel=>exact aa (by rw[HTC.o];exact WRF.o.staT _)
  | false=>
   go_wp2
   go_meet
   case rel=>exact aa (by rw[HTC.o];exact WRC.o)
 case rest=>
 obtain⟨wD,hwD⟩:∃ w9,w9=wc:=⟨_,rfl⟩
 rw[<-hwD]at hcut ⊢;clear hwD WRC WR;have WR:=hcut;clear hcut;obtain⟨t0,t1,t2,t3,t4,t5,t6,t7,t8,t9,t10,t11,t12,t13,t14⟩:=WR.o.th.c;obtain⟨f0,f1,f2,f3,f4,f5,f6,f7,f8,f9,f10,f11,f12,f13,f14⟩:=WR.o.th.f;have p0_:=WR.o.val.c;go_upto_region 16 with fail
 go_upto_region 17 with fail
 clear f0 f1 f2 f3 f4 f5 f6 f7 f8 f9 f10 f11 f12 f13 f14;obtain⟨WE,hWE⟩:∃ W,W=((((((wD.setCell ⟨w.heap.size,1,none⟩ (.int .i64 y.kind)).setCell ⟨w.heap.size,2,none⟩ (.int .i64 y.n)).setCell ⟨w.heap.size,3,none⟩ (.string ⟨y.s.toArray⟩)).setCell ⟨w.heap.size,4,none⟩ (.slice a2 y.keys.length c2)).setCell ⟨w.heap.size,5,none⟩ (.slice b2 y.l.length d2)).setCell ⟨w.heap.size,6,none⟩ (.slice ma yo.length mc)):=⟨_,rfl⟩
 obtain⟨tE,htE⟩:∃ t9:Th,t9={ tC with value:=y,owners:=yo }:=⟨_,rfl⟩
 have WR9:Ll (kU w ok S v time acts y yo im sps w4.heap.size w6.heap.size a2 b2 c2 d2 ma sa mc sc tE a2 b2 c2 d2 ma mc verB WE):=aa (by rw[htE,hWE];exact kU.putV WR.o _ _ _ _ _ _);rw[<-hWE];have HtE:=aa htE;clear hWE htE WR;have WR:=WR9;clear WR9;obtain⟨ns,ne,hns⟩:∃ ns ne,ij im sps tE.st time 0=(ns,ne):=⟨_,_,rfl⟩
 have HNS:=aa hns;have NX:Ll (∀ W,kU w ok S v time acts y yo im sps w4.heap.size w6.heap.size a2 b2 c2 d2 ma sa mc sc tE a2 b2 c2 d2 ma mc verB W->Calls prog 32 #[.agg #[.string ⟨im.toArray⟩,.slice sa sps.length sc],.agg (Li tE.st),.int .i64 time,.int .i64 0] W fun e w'=>e=.returned (.tuple #[.agg (Li ns),.int .i64 ne])/\La W w'):=aa (fun W hW=>by
  have:=AK W im sps (.slice sa sps.length sc) tE.st time 0 hW.stp LSP.o;rw[HNS.o]at this;exact this)
 clear hns;have HTE:Ll (tE.name=t.name/\tE.value=y/\tE.owners=yo):=aa (by rw[HtE.o,HTC.o,HTB.o,HTA.o];cases bN <;> cases bO <;> cases bV <;> exact⟨rfl,rfl,rfl⟩);have R:Ll (∀ tF:Th,tF={ tE with st:=ns }->al time ver t q=(tF,verB,0)):=aa (by
  intro tF htF;have h9:=HNS.o;rw[htF,WF.o,HVB.o,HtE.o,HTC.o,HTB.o,HTA.o];rw[HtE.o,HTC.o,HTB.o,HTA.o]at h9;by_cases q1:t.gen=0
  ·obtain rfl:bN=true:=by rw[HBN.o];simpa using q1
   obtain rfl:bO=true:=by rw[HBO.o];rfl
   obtain rfl:bV=true:=by rw[HBV.o];rfl
   exact Kb HRG.o q1 HFS.o h9
  ·obtain rfl:bN=false:=by rw[HBN.o];simpa using q1
   by_cases q2:y=t.value
   ·obtain rfl:bO=false:=by rw[HBO.o];simp[q2]
    by_cases q3:yo=t.owners
    ·obtain rfl:bV=false:=by rw[HBV.o];simp[q3]
     exact Ku HRG.o q1 q2 q3 h9
    ·obtain rfl:bV=true:=by rw[HBV.o];simp[q3]
     exact Kw HRG.o q1 q2 q3 h9
   ·obtain rfl:bO=true:=by rw[HBO.o];simp[q2]
    obtain rfl:bV=true:=by rw[HBV.o];rfl
    exact JZ HRG.o q1 q2 h9)
 refine aD (fun wS=>kU w ok S v time acts y yo im sps w4.heap.size w6.heap.size a2 b2 c2 d2 ma sa mc sc tE a2 b2 c2 d2 ma mc verB wS) [12] (by kernel_rfl) (WR.o.bel (aC _ 1)) (fun LI=>?_);refine WT.out ?_;iterate 7
  first
   | refine OJ 0 ?_ [7,8,9,10,11,12] LI ?_ ?_
   | refine OJ 1 ?_ [2,7,8,9,10,11,12] LI ?_ ?_
   | refine OJ 2 ?_ [7,8,9,10,11,12] LI ?_ ?_
   | refine OJ 3 ?_ [4,5,6,7,8,9,10,11,12] LI ?_ ?_
   | refine OJ 4 ?_ [5,6,7,8,9,10,11,12] LI ?_ ?_
   | refine OJ 5 ?_ [6,7,8,9,10,11,12] LI ?_ ?_
   | refine OJ 6 ?_ [7,8,9,10,11,12] LI ?_ ?_
  rotate_left
  ·intro wS LN;obtain⟨u0,u1,-⟩:=LN.spec.c2;obtain⟨t0,t1,t2,t3,t4,t5,t6,t7,t8,t9,t10,t11,t12,t13,t14⟩:=LN.th.c;have s0_:=LN.srv.c;go_simp;all_goals with_reducible rfl
  simp only[av,List.set]
 repeat' (first
  | exact nl
  |(refine ON 7 (fun K hK=>?_) ?_
    go_simp;refine Lk (NX.o _ LI) fun w7q hb5=>?_;refine hK.out _ _ (LI.bel hb5) (fun LJ=>?_);clear hb5;clear hK K;replace LI:=LJ;clear LJ;try simp only[Act.put,Mt,Mu,Mv])
  |(refine OO 12 (fun K hK=>?_)
    obtain⟨t0,t1,t2,t3,t4,t5,t6,t7,t8,t9,t10,t11,t12,t13,t14⟩:=LI.th.c;obtain⟨f0,f1,f2,f3,f4,f5,f6,f7,f8,f9,f10,f11,f12,f13,f14⟩:=LI.th.f;have WR8:=aa (LI.staT ns);go_simp;refine hK.out _ _ ?_;clear hK K;try simp only[Act.put,Mt,Mu,Mv])
  |(first
     | refine OJ 8 ?_ [9,10,11,12] (by exact LI) ?_ ?_
     | refine OJ 9 ?_ [11,12] (by exact LI) ?_ ?_
    rotate_left
    ·intro wS LN;go_simp;all_goals with_reducible rfl
    simp only[av,List.set])
  |(refine Pm 10 ?_ (by exact LI) ?_ ?_
    rotate_left
    ·intro wS;go_simp;all_goals with_reducible rfl
    simp only[av,List.set])
  |(refine OJ 11 ?_ [12] (by exact LI) ?_ ?_
    rotate_left
    ·intro wS LN;go_simp;all_goals with_reducible rfl
    simp only[av,List.set])
  | refine OL [7] ?_
  | fail)
 all_goals
  refine dn (by kernel_rfl) ?_;obtain⟨tF,htF⟩:∃ t9:Th,t9={ tE with st:=ns }:=⟨_,rfl⟩
  rw[<-htF]at WR8;have HtF:=aa htF;clear htF;obtain⟨t0,t1,t2,t3,t4,t5,t6,t7,t8,t9,t10,t11,t12,t13,t14⟩:=WR8.o.th.c;obtain⟨n0,n1,n2,n3,n4,n5,n6,n7,n8,n9,n10,n11,n12,n13,n14⟩:=WR8.o.res.c;obtain⟨m0,m1,m2,m3,m4,m5,m6,m7,m8,m9,m10,m11,m12,m13,m14⟩:=WR8.o.res.f;rw[show w.heap.size+2=w.heap.size+1+1 from rfl]at n0 n1 n2 n3 n4 n5 n6 n7 n8 n9 n10 n11 n12 n13 n14 m0 m1 m2 m3 m4 m5 m6 m7 m8 m9 m10 m11 m12 m13 m14;have P9:=aa (WR8.o.res.put15 tF a2 b2 c2 d2 ma mc);have G9:=aa (mz WR8.o.gb (show w.heap.size<=w.heap.size+2 by omega) tF a2 b2 c2 d2 ma mc);have S9:=aa (WR8.o.srv.gr (g15 _ (w.heap.size+2) tF a2 b2 c2 d2 ma mc) (by intro e;cases e;have:=WR8.o.low;omega));have O9:=aa (kU.ok15 WR8.o HtF.o HTE.o TNL.o);obtain⟨z0,z1,z2,z3,z4,z5,z6,z7,z8,z9,z10,z11,z12,z13,z14⟩:=P9.o.c;rw[show w.heap.size+2=w.heap.size+1+1 from rfl]at z0 z1 z2 z3 z4 z5 z6 z7 z8 z9 z10 z11 z12 z13 z14;simp only[jE,mV]at t0 t1 t2 t3 t4 t5 t6 t7 t8 t9 t10 t11 t12 t13 t14 n0 n1 n2 n3 n4 n5 n6 n7 n8 n9 n10 n11 n12 n13 n14 m0 m1 m2 m3 m4 m5 m6 m7 m8 m9 m10 m11 m12 m13 m14 z0 z1 z2 z3 z4 z5 z6 z7 z8 z9 z10 z11 z12 z13 z14;go_wp2
  refine MM (v:=.tuple #[.agg (Ld tF a2 c2 b2 d2 ma mc),.int .i64 0]) ?_ rfl ?_
  ·simp[results,results38,go_sem,z0,z1,z2,z3,z4,z5,z6,z7,z8,z9,z10,z11,z12,z13,z14]
  ·rw[R.o _ HtF.o];exact⟨a2,b2,c2,d2,ma,mc,rfl,O9.o,S9.o,G9.o⟩
theorem pI(w:LC)(ok S v time ver acts t a b c d oa oc)(q:cm)(hs:eF w S v time ver acts)(hS:¬ok S)(hv:0<=ver/\ver<=1000)(hgn:0<=t.gen/\t.gen<=1000)(ht:cQ w ok t a b c d oa oc)(hG:cn w)(hM:bj w)(hW:di w)(hN:(bA t.owners).length<=4000000)(hP:∀ o∈t.owners,∀ x∈o.paths,x.length<=140737488351232)(hq:q.body.length<=9223372036854775807)(hw:q.who.length<=9223372036854775807):Calls prog 38 #[.pointer (some ⟨S,0,none⟩),.agg (Ld t a c b d oa oc),.agg (Lf q)] w fun e w'=>∃ a9 b9 c9 d9 oa9 oc9,e=.returned (.tuple #[.agg #[.string ⟨(al time ver t q).1.name.toArray⟩,.int .i64 (al time ver t q).1.value.kind,.int .i64 (al time ver t q).1.value.n,.string ⟨(al time ver t q).1.value.s.toArray⟩,.slice a9 (al time ver t q).1.value.keys.length c9,.slice b9 (al time ver t q).1.value.l.length d9,.slice oa9 (al time ver t q).1.owners.length oc9,.int .i64 (al time ver t q).1.ver,.int .i64 (al time ver t q).1.gen,.string ⟨(al time ver t q).1.st.a.toArray⟩,.string ⟨(al time ver t q).1.st.c.toArray⟩,.int .i64 (al time ver t q).1.st.ph,.int .i64 (al time ver t q).1.st.st,.int .i64 (al time ver t q).1.st.we,.int .i64 (al time ver t q).1.st.si],.int .i64 (al time ver t q).2.2])/\cQ w' (bQ ok w.heap.size) (al time ver t q).1 a9 b9 c9 d9 oa9 oc9/\eF w' S v time (al time ver t q).2.1 acts/\w.grownBy w' (some S):=by
 by_cases h1:(aJ t q).2.2=0/\cI (aJ t q).1=0
 ·exact Db w ok S v time ver acts t a b c d oa oc q hs hS hv hgn ht hG hM hW hN hP hq hw h1
 ·refine CO w ok S v time ver acts t a b c d oa oc q hs hS hv hgn ht hG hM hW hN hP hq hw ?_;by_cases h2:(aJ t q).2.2=0
  ·exact .inr fun h3=>h1 ⟨h2,h3⟩
  ·exact .inl h2
end
variable {k:Nat}
theorem Jt(w:LC)(v n cells)(h:du w 2 v n cells):Calls prog 29 #[v] w fun e w'=>∃ v',e=.returned v'/\w'.ownsRow w.heap.size 47 2 v' n cells/\La w w':=by
 obtain⟨i0,hi,hz0,hz1,hz2⟩:=info_parts Sn;obtain⟨g1,g2,g3,g4⟩:=h;rcases g4 with⟨rfl,rfl⟩ | ⟨ad,cc,rfl,Mb⟩
 ·have hc0:cells=[]:=List.eq_nil_of_length_eq_zero (by rw[g1]);subst hc0;have hnil:∀ W:LC,(binOp .eql 40 (.slice none 0 0) (.slice none 0 0)).run prog W=.ok (.bool true) W:=fun W=>Lib.run_eql_slice_nil W _ _ _ _ _ _ _ underlying40;go_enter func29,ntmps29;go_wp2
  go_ret;exact⟨_,rfl,World.ownsRow_nil _ _ _ _,MK _ _⟩
 ·have O:Ll ((w.alloc (.cells #[] 47)).ownsRow w.heap.size 47 2 (.slice (some ⟨w.heap.size,0,none⟩) 0 0) 0 []):=World.ownsRow_made w #[] 0 (MG _) (by simp) (by simp);have C:Ll (cells.length=n * 2/\(∀ u∈cells,u.oneCell'=true)/\∀ j u,cells[j]?=some u->(w.alloc (.cells #[] 47)).cell? (ad.add j)=some u):=⟨g1,g3,fun j u hj=>ah (ae _ _) (Mb j u hj)⟩
  have hnil:∀ W:LC,(binOp .eql 40 (.slice (some ad) n cc) (.slice none 0 0)).run prog W=.ok (.bool false) W:=fun W=>Lib.run_eql_slice_nil W _ _ _ _ _ _ _ underlying40;clear g1 g3 Mb;go_enter func29,ntmps29;go_wp2_with (at_builtin;go_must (refine wpList_append_own _ rfl _ _ 40 rfl w.heap.size 47 i0 _ 2 40 underlying40 hi hz0 hz1 hz2 rfl (by decide) (.slice (some ⟨w.heap.size,0,none⟩) 0 0) 0 [] rfl O.o ad n cc cells rfl C.o.1 C.o.2.2 C.o.2.1 (by unfold maxLen;omega) (by omega) (by simp) ?_);intro v2 w2 ho2 hg2 _;refine Ll.o ?_)
  refine aa ?_;have D:Ll (w2.ownsRow w.heap.size 47 2 v2 n cells/\La w w2):=by
   rw[Nat.zero_add,List.nil_append]at ho2;exact⟨ho2,(ae w _).grown hg2 (by simp) (fun k hk=>(O.o.lt k hk).1)⟩
  clear ho2 hg2;go_wp2
  go_ret;exact⟨v2,rfl,D.o.1,D.o.2⟩
theorem BP{xs}(h:ao w ok xs v):∀ x∈xs,x.length<=maxLen:=by
 intro x hx;obtain⟨j,hj,rfl⟩:=List.getElem_of_mem hx;rcases h.2 with⟨rfl,-⟩ | ⟨b,off,c,-,-,-,h3⟩
 ·simp at hj
 ·exact(h3 j _ (Mw hj)).1
theorem pG:∀ (os:List aL) (vs:List Value) (i:Nat) (u:Value),(ba os vs).set (i * 2+1) u=ba os (vs.set i u)
 | [],_,i,u=>by simp[ba]
 | _ :: _,[],i,u=>by simp[ba]
 | o :: os,v :: vs,0,u=>by simp[ba]
 | o :: os,v :: vs,i+1,u=>by
  rw[show (i+1) * 2+1=(i * 2+1)+1+1 by omega];show _ :: _ :: (ba os vs).set (i * 2+1) u=_;rw[pG os vs i u];rfl
theorem pL{b}:∀ (os:List aL) (off:Nat),(∀ (i:Nat) (x:aL),os[i]?=some x->∃ u,(∃ a c,u=.slice a x.paths.length c)/\w.cell? ⟨b,off+i * 2,none⟩=some (aR x.name)/\w.cell? ⟨b,off+i * 2+1,none⟩=some u/\ao w ok x.paths u) ->
 ∃ pvs:List Value,pvs.length=os.length/\(∀ (j:Nat) (u:Value),(ba os pvs)[j]?=some u->w.cell? ⟨b,off+j,none⟩=some u/\u.oneCell'=true)/\∀ (j:Nat) (o:aL) (u:Value),os[j]?=some o->pvs[j]?=some u->(∃ a c,u=.slice a o.paths.length c)/\ao w ok o.paths u
 | [],off,_=>⟨[],rfl,fun j u hj=>by simp[ba]at hj,fun j o u hj=>by simp at hj⟩
 | o :: os,off,h=>by
  obtain⟨u,h1,h2,h3,h4⟩:=h 0 o rfl;obtain⟨pvs,k1,k2,k3⟩:=pL os (off+2) fun i x hx=>by
   obtain⟨u,q1,q2,q3,q4⟩:=h (i+1) x (by simpa using hx);refine⟨u,q1,?_,?_,q4⟩
   ·rw[show off+2+i * 2=off+(i+1) * 2 by omega];exact q2
   ·rw[show off+2+i * 2+1=off+(i+1) * 2+1 by omega];exact q3
  refine⟨u :: pvs,by simp[k1],fun j x hj=>?_,fun j x y hx hy=>?_⟩
  ·match j with
   | 0=>cases hj;exact⟨h2,rfl⟩
   | 1=>cases hj;obtain⟨a,c,rfl⟩:=h1;exact⟨h3,rfl⟩
   | j+2=>
    have:=k2 j x hj;rwa [show off+2+j=off+(j+2) by omega]at this
  ·match j with
   | 0=>cases hx;cases hy;exact⟨h1,h4⟩
   | j+1=>exact k3 j x y (by simpa using hx) (by simpa using hy)
theorem Hi{os}(h:aB w ok os v)(hl:os.length<=1000000):∃ pvs:List Value,pvs.length=os.length/\du w 2 v os.length (ba os pvs)/\(∀ (j:Nat) (o:aL) (u:Value),os[j]?=some o->pvs[j]?=some u->(∃ a c,u=.slice a o.paths.length c)/\ao w ok o.paths u)/\∀ o∈os,o.name.length<=maxLen:=by
 rcases h.2 with⟨rfl,a,rfl⟩ | ⟨b,off,c,rfl,h1,h2,h3⟩
 ·exact⟨[],rfl,mi w 2 a,fun j o u hj=>by simp at hj,fun o ho=>by cases ho⟩
 ·obtain⟨pvs,k1,k2,k3⟩:=pL (w:=w) (ok:=ok) (b:=b) os off fun i x hx=>by
   obtain⟨a,n,c',q1,q2,q3,q4,q5⟩:=h3 i x hx;obtain⟨a',c'',e'⟩:=q5.form;exact⟨_,⟨a',c'',e'⟩,q3,q4,q5⟩
  refine⟨pvs,k1,⟨fS os pvs k1.symm,hl,fun u hu=>?_,.inr ⟨⟨b,off,none⟩,c,rfl,fun j u hj=>by rw[Addr.add_lit];exact(k2 j u hj).1⟩⟩,k3,fun o ho=>?_⟩
  ·obtain⟨j,hj,e⟩:=List.getElem_of_mem hu;exact(k2 j u (by rw[Mw hj,e])).2
  ·obtain⟨j,hj,rfl⟩:=List.getElem_of_mem ho;obtain⟨a,n,c',q1,-⟩:=h3 j _ (Mw hj);exact q1
structure CU (w:LC) (t:Th) (a2 b2:Option Addr) (c2 d2:Nat) (va:Option Addr) (vc:Nat) (pv0:List Value) (k:Nat) (wr:LC):Prop where
 box:fN wr w.heap.size t a2 b2 c2 d2 va vc
 res:fN wr (w.heap.size+1) dT none none 0 0 none 0
 bel:La w wr
 val:In wr (fun k=>w.heap.size+2<=k/\some k≠(Value.slice va t.owners.length vc).ownBlock) t.value (.agg (KV t.value a2 c2 b2 d2))
 row:∃ pvs:List Value,pvs.length=t.owners.length/\wr.ownsRow (w.heap.size+2) 47 2 (.slice va t.owners.length vc) t.owners.length (ba t.owners pvs)/\∀ (j:Nat) (o:aL) (u:Value),t.owners[j]?=some o->pvs[j]?=some u->(k<=j->pv0[j]?=some u)/\(j < k->(∃ a c,u=.slice a o.paths.length c)/\ao wr (fun k=>w.heap.size+2<=k/\some k≠(Value.slice va t.owners.length vc).ownBlock) o.paths u/\SG wr (fun k=>w.heap.size+2<=k/\some k≠(Value.slice va t.owners.length vc).ownBlock) u)
 shv:∃ D,Sd wr (fun k=>w.heap.size+2<=k/\some k≠(Value.slice va t.owners.length vc).ownBlock) D (.agg (KV t.value a2 c2 b2 d2))
theorem CU.bel'{wr':LC}{t a2 b2 c2 d2 va vc pv0}(h:CU w t a2 b2 c2 d2 va vc pv0 k wr)(hb:La wr wr'):CU w t a2 b2 c2 d2 va vc pv0 k wr':=by
 obtain⟨pvs,h1,h2,h3⟩:=h.row;exact⟨h.box.bel hb,h.res.bel hb,ab h.bel hb,h.val.bel hb,⟨pvs,h1,fD h2 hb,fun j o u hj hu=>⟨(h3 j o u hj hu).1,fun hk=>⟨((h3 j o u hj hu).2 hk).1,((h3 j o u hj hu).2 hk).2.1.bel hb,((h3 j o u hj hu).2 hk).2.2.imp fun g hg hl=>⟨hg,hb.block g hl⟩⟩⟩⟩,by obtain⟨D,hD⟩:=h.shv;exact⟨D,hD.bel hb⟩⟩
theorem CU.at{t a2 b2 c2 d2 va vc pv0 o}(h:CU w t a2 b2 c2 d2 va vc pv0 k wr)(ho:t.owners[k]?=some o):∃ g u,va=some ⟨g,0,none⟩/\w.heap.size+2<=g/\g < wr.heap.size/\vc<=9223372036854775807/\t.owners.length<=vc/\pv0[k]?=some u/\wr.cell? ⟨g,k * 2,none⟩=some (.string ⟨o.name.toArray⟩)/\wr.cell? ⟨g,k * 2+1,none⟩=some u/\wr.frozen? ⟨g,k * 2+1,none⟩=false:=by
 obtain⟨pvs,h1,h2,h3⟩:=h.row;have hk:=(Mz.1 ho).1;have hu:pvs[k]?=some (pvs[k]'(by omega)):=Mw (by omega);rcases h2.2 with⟨e,h0⟩ | ⟨g,cap,cur,e,g1,g2,g3,g4,g5,g6⟩
 ·omega
 ·simp only[Value.slice.injEq]at e;obtain⟨rfl,-,rfl⟩:=e;obtain⟨e1,e2⟩:=kN t.owners pvs k o _ ho hu;unfold maxLen at g4;exact⟨g,_,rfl,g1,(MF.1 g2).1,g4,g3,(h3 k o _ ho hu).1 (MG _),(dJ h2 (by omega) e1).1,(dJ h2 (by omega) e2).1,(dJ h2 (by omega) e2).2⟩
theorem CU.step{t a2 b2 c2 d2 vc pv0 o pa pc}(h:CU w t a2 b2 c2 d2 (some ⟨g,0,none⟩) vc pv0 k wr)(ho:t.owners[k]?=some o)(hs:ao wr (fun k=>w.heap.size+2<=k/\k≠g) o.paths (.slice pa o.paths.length pc))(hp:SG wr (fun k=>w.heap.size+2<=k/\k≠g) (.slice pa o.paths.length pc)):CU w t a2 b2 c2 d2 (some ⟨g,0,none⟩) vc pv0 (k+1) (wr.setCell ⟨g,k * 2+1,none⟩ (.slice pa o.paths.length pc)):=by
 obtain⟨g',u,e,hg,-⟩:=h.at ho;cases e;obtain⟨pvs,h1,h2,h3⟩:=h.row;have hk:=(Mz.1 ho).1;have G:wr.grownBy (wr.setCell ⟨g,k * 2+1,none⟩ (.slice pa o.paths.length pc)) (some g):=ap (az _ _) _ _;have hne:∀ k,(w.heap.size+2<=k/\some k≠(Value.slice (some (⟨g,0,none⟩:Addr)) t.owners.length vc).ownBlock)->some k≠some g:=fun k hk e=>hk.2 e;refine⟨h.box.gr G (by intro e;have:=Option.some.inj e;omega),h.res.gr G (by intro e;have:=Option.some.inj e;omega),aQ h.bel (by omega) _ _,h.val.grownR G hne,⟨pvs.set k (.slice pa o.paths.length pc),by simpa using h1,?_,fun j x u hj hu=>?_⟩,by obtain⟨D,hD⟩:=h.shv;exact⟨D,hD.imp (fun q hq hl=>⟨hq,G.block q hl (hne q hq)⟩) _ _⟩⟩
 ·have:=jQ h2 (by omega) (k * 2+1) (.slice pa o.paths.length pc);rwa [pG]at this
 ·rw[List.getElem?_set]at hu;split at hu
  ·rename_i hjk;subst hjk;try rw[if_pos (by omega)]at hu
   cases hu;rw[ho]at hj;cases hj;exact⟨fun h9=>by omega,fun _=>⟨⟨_,_,rfl⟩,hs.imp fun a x q1 q2=>eJ G hne a x ⟨q1.1,fun e=>q1.2 (Option.some.inj e)⟩ q2,hp.imp fun q hq hl=>⟨⟨hq.1,fun e=>hq.2 (Option.some.inj e)⟩,G.block q hl (fun e=>hq.2 (Option.some.inj e))⟩⟩⟩
  ·rename_i hjk;exact⟨fun h9=>(h3 j x u hj hu).1 (by omega),fun h9=>⟨((h3 j x u hj hu).2 (by omega)).1,((h3 j x u hj hu).2 (by omega)).2.1.imp (eJ G hne),((h3 j x u hj hu).2 (by omega)).2.2.imp fun q hq hl=>⟨hq,G.block q hl (hne q hq)⟩⟩⟩
theorem Fs(w:LC)(ok t a b c d oa oc)(h:cQ w ok t a b c d oa oc)(hn:dz t.value)(hl:t.owners.length<=1000)(hp:fT t.owners):Calls prog 17 #[.agg (Ld t a c b d oa oc)] w fun e w'=>∃ a9 b9 c9 d9 oa9 oc9,e=.returned (.agg (Ld t a9 c9 b9 d9 oa9 oc9))/\cQ w' (fun k=>w.heap.size<=k) t a9 b9 c9 d9 oa9 oc9/\La w w'/\SS w' (fun k=>w.heap.size<=k) t a9 b9 c9 d9 oa9 oc9:=by
 obtain⟨W2,hW2⟩:∃ W,W=(w.alloc (.cells (Ld t a c b d oa oc) 44)).alloc (.cells Le 44):=⟨_,rfl⟩
 have Y2:Ll (La w W2):=aa (by rw[hW2];exact ab (ae _ _) (ae _ _));have X1:Ll (fN W2 w.heap.size t a b c d oa oc):=aa (by rw[hW2];exact fb _ _ _);have X2:Ll (fN W2 (w.heap.size+1) dT none none 0 0 none 0):=aa (by rw[hW2];exact et _ _ _);have SZ2:Ll (w.heap.size+2<=W2.heap.size):=aa (by have:=X2.o.lt;omega);have HW2:=aa hW2;have TV:Ll (Calls prog 28 #[.agg (KV t.value a c b d)] W2 fun e w'=>∃ (a2 b2:Option Addr) (c2 d2:Nat),e=.returned (.agg (KV t.value a2 c2 b2 d2))/\La W2 w'/\In w' (fun k=>W2.heap.size<=k) t.value (.agg (KV t.value a2 c2 b2 d2))/\∃ D,Sd w' (fun k=>W2.heap.size<=k) D (.agg (KV t.value a2 c2 b2 d2))):=aa ((IB W2 ok t.value _ (h.val.bel Y2.o) hn).mono fun e w' hh=>by
  obtain⟨r,rfl,hb,hi,D,hs⟩:=hh;obtain⟨a2,b2,c2,d2,rfl⟩:=hi.form;exact⟨a2,b2,c2,d2,rfl,hb,hi,D,hs⟩)
 obtain⟨pv0,p1,p2,p3,p4⟩:=Hi h.own (by omega);have PV:=aa p1;have SL:=aa p2;have PS:=aa p3;have PN:=aa p4;have HP:=aa hp;have TNL:=aa h.name;have HL:=aa hl;clear hW2 h hn hp hl p1 p2 p3 p4;have t0_:=X1.o.c;obtain⟨f0,f1,f2,f3,f4,f5,f6,f7,f8,f9,f10,f11,f12,f13,f14⟩:=X1.o.f;go_enter func17,ntmps17;go_upto_region 1 with fail
 rw[<-HW2.o];go_upto_region 2 with (go_at_call 28;refine TV.o.mono ?_;rintro e w3 ⟨a2,b2,c2,d2,rfl,hb,hi,hs⟩;have B3:=aa hb;have I3:=aa hi;have V3:=aa hs;clear hb hi hs f0 f1 f2 f3 f4 f5 f6 f7 f8 f9 f10 f11 f12 f13 f14;have t0_:=(X1.o.bel B3.o).c;obtain⟨f0,f1,f2,f3,f4,f5,f6,f7,f8,f9,f10,f11,f12,f13,f14⟩:=(X1.o.bel B3.o).f)
 clear f0 f1 f2 f3 f4 f5 f6 f7 f8 f9 f10 f11 f12 f13 f14;obtain⟨W4,hW4⟩:∃ W,W=(((((w3.setCell ⟨w.heap.size,1,none⟩ (.int .i64 t.value.kind)).setCell ⟨w.heap.size,2,none⟩ (.int .i64 t.value.n)).setCell ⟨w.heap.size,3,none⟩ (.string ⟨t.value.s.toArray⟩)).setCell ⟨w.heap.size,4,none⟩ (.slice a2 t.value.keys.length c2)).setCell ⟨w.heap.size,5,none⟩ (.slice b2 t.value.l.length d2)):=⟨_,rfl⟩
 have X4:Ll (fN W4 w.heap.size t a2 b2 c2 d2 oa oc/\fN W4 (w.heap.size+1) dT none none 0 0 none 0/\La w W4/\In W4 (fun k=>W2.heap.size<=k) t.value (.agg (KV t.value a2 c2 b2 d2))/\W2.heap.size<=W4.heap.size):=aa (by
  have G:w3.grownBy (((((w3.setCell ⟨w.heap.size,1,none⟩ (.int .i64 t.value.kind)).setCell ⟨w.heap.size,2,none⟩ (.int .i64 t.value.n)).setCell ⟨w.heap.size,3,none⟩ (.string ⟨t.value.s.toArray⟩)).setCell ⟨w.heap.size,4,none⟩ (.slice a2 t.value.keys.length c2)).setCell ⟨w.heap.size,5,none⟩ (.slice b2 t.value.l.length d2)) (some w.heap.size):=ap (ap (ap (ap (ap (az _ _) _ _) _ _) _ _) _ _) _ _;rw[hW4];refine⟨ak (ak (ak (ak (ak (X1.o.bel B3.o) 1 _) 2 _) 3 _) 4 _) 5 _,(X2.o.bel B3.o).gr G (by intro e;have:=Option.some.inj e;omega),aQ (aQ (aQ (aQ (aQ (ab Y2.o B3.o) (MG _) _ _) (MG _) _ _) (MG _) _ _) (MG _) _ _) (MG _) _ _,I3.o.grownR G (fun k hk e=>by have:=Option.some.inj e;have:=SZ2.o;omega),MH B3.o.size G.size⟩)
 have V4:Ll (∃ D,Sd W4 (fun k=>W2.heap.size<=k) D (.agg (KV t.value a2 c2 b2 d2))):=aa (by
  have G:w3.grownBy (((((w3.setCell ⟨w.heap.size,1,none⟩ (.int .i64 t.value.kind)).setCell ⟨w.heap.size,2,none⟩ (.int .i64 t.value.n)).setCell ⟨w.heap.size,3,none⟩ (.string ⟨t.value.s.toArray⟩)).setCell ⟨w.heap.size,4,none⟩ (.slice a2 t.value.keys.length c2)).setCell ⟨w.heap.size,5,none⟩ (.slice b2 t.value.l.length d2)) (some w.heap.size):=ap (ap (ap (ap (ap (az _ _) _ _) _ _) _ _) _ _) _ _;obtain⟨D,hD⟩:=V3.o;rw[hW4];exact⟨D,hD.imp (fun q hq hl=>⟨hq,G.block q hl (fun e=>by have:=Option.some.inj e;have:=SZ2.o;omega)⟩) _ _⟩)
 rw[<-hW4];clear hW4 I3 B3 V3;have CLO:Ll (Calls prog 29 #[.slice oa t.owners.length oc] W4 fun e w'=>∃ va vc,e=.returned (.slice va t.owners.length vc)/\w'.ownsRow W4.heap.size 47 2 (.slice va t.owners.length vc) t.owners.length (ba t.owners pv0)/\La W4 w'):=aa ((Jt W4 _ _ _ (SL.o.bel X4.o.2.2.1)).mono fun e w' hh=>by
  obtain⟨v',rfl,ho,hb⟩:=hh;obtain⟨a,c,rfl,-⟩:=ej ho;exact⟨a,c,rfl,ho,hb⟩)
 have t0_:=X4.o.1.c;obtain⟨f0,f1,f2,f3,f4,f5,f6,f7,f8,f9,f10,f11,f12,f13,f14⟩:=X4.o.1.f;go_upto_region 3 with (go_at_call 29;refine CLO.o.mono ?_;rintro e w5 ⟨va,vc,rfl,ho,hb⟩;have B5:=aa hb;have O5:=aa ho;clear hb ho f0 f1 f2 f3 f4 f5 f6 f7 f8 f9 f10 f11 f12 f13 f14;have t0_:=(X4.o.1.bel B5.o).c;obtain⟨f0,f1,f2,f3,f4,f5,f6,f7,f8,f9,f10,f11,f12,f13,f14⟩:=(X4.o.1.bel B5.o).f)
 clear f0 f1 f2 f3 f4 f5 f6 f7 f8 f9 f10 f11 f12 f13 f14;obtain⟨W6,hW6⟩:∃ W,W=w5.setCell ⟨w.heap.size,6,none⟩ (.slice va t.owners.length vc):=⟨_,rfl⟩
 have I6:Ll (CU w t a2 b2 c2 d2 va vc pv0 0 W6):=aa (by
  have G:w5.grownBy (w5.setCell ⟨w.heap.size,6,none⟩ (.slice va t.owners.length vc)) (some w.heap.size):=ap (az _ _) _ _;have h1:=SZ2.o;have h2:=X4.o.2.2.2.2;rw[hW6];refine⟨ak (X4.o.1.bel B5.o) 6 _,(X4.o.2.1.bel B5.o).gr G (by intro e;have:=Option.some.inj e;omega),aQ (ab X4.o.2.2.1 B5.o) (MG _) _ _,?_,⟨pv0,PV.o,cV (O5.o.kept G ?_) (by omega),fun j o u hj hu=>⟨fun _=>hu,fun h9=>by omega⟩⟩,?_⟩
  ·have h3:=(X4.o.2.2.2.1.low.bel B5.o)
   refine(h3.weak fun k hk=>⟨by have:=hk.1;omega,fun e=>?_⟩).grownR G (fun k hk e=>by have:=Option.some.inj e;have:=hk.1;omega);have:=(O5.o.lt k e.symm).1;have:=hk.2;omega
  ·cases hv:(Value.slice va t.owners.length vc).ownBlock with
   | none=>exact .inl rfl
   | some k=>
    refine .inr fun e=>?_;have:=(O5.o.lt k hv).1;have:=Option.some.inj e;omega
  ·obtain⟨D,hD⟩:=V4.o;refine⟨D,(hD.low.bel B5.o).imp (fun q hq hl=>⟨⟨by have:=hq.1;omega,fun e=>?_⟩,G.block q hl (fun e=>by have:=Option.some.inj e;have:=hq.1;omega)⟩) _ _⟩;have:=(O5.o.lt q e.symm).1;have:=hq.2;omega)
 rw[<-hW6];clear hW6 O5 B5 X4 V4;have t0_:=I6.o.box.c;go_wp2
 go_loopg [16] t.owners.length (fun gk iv wr=>∃ k:Nat,k<=t.owners.length/\gk=t.owners.length - k/\iv=.int .i64 k/\Ll (CU w t a2 b2 c2 d2 va vc pv0 k wr))
 case atStart=>exact⟨0,Nat.zero_le _,rfl,rfl,I6⟩
 case round=>
  obtain⟨k,hk,hgk,rfl,IK⟩:=hrel;have GK:=aa hgk;clear hgk I6;obtain⟨wo,hwo⟩:∃ wo,wo=wr:=⟨wr,rfl⟩
  subst hwo;by_cases hlt:k < t.owners.length
  ·obtain⟨o,ho⟩:∃ o,t.owners[k]?=some o:=⟨_,Mw hlt⟩
   have HO:=aa ho;obtain⟨g,u,rfl,hgB,hgl,hc9,hlc,hu0,c0,c1,-⟩:=IK.o.at ho;obtain⟨⟨pa,pc,rfl⟩,hst⟩:=PS.o k o u ho hu0;have ST9:=aa hst;have GL:Ll (w.heap.size+2<=g/\g < wo.heap.size):=aa ⟨hgB,hgl⟩;have PL:Ll (o.paths.length<=200):=aa (HP.o o (List.mem_of_getElem? ho));have w2:(k:Int) < (t.owners.length:Int):=by omega
   have w3:(0:Int)<=(k:Int):=by omega
   obtain⟨W6,hW6⟩:∃ W,W=wo.alloc (.cells #[.string ⟨o.name.toArray⟩,.slice pa o.paths.length pc] 47):=⟨_,rfl⟩
   have A6:Ll (La wo W6):=aa (by rw[hW6];exact ae _ _);have OX:Ll (W6.heap[wo.heap.size]?=some (.cells #[.string ⟨o.name.toArray⟩,.slice pa o.paths.length pc] 47)):=aa (by rw[hW6];exact MN _ _);have HW6:=aa hW6;have I6:=aa (IK.o.bel' A6.o);have TB6:=aa I6.o.box;have CLN:Ll (∀ W,La W6 W->Calls prog 30 #[.slice pa o.paths.length pc] W fun e w'=>∃ pa2 pc2,e=.returned (.slice pa2 o.paths.length pc2)/\ao w' (fun k=>w.heap.size+2<=k/\k≠g) o.paths (.slice pa2 o.paths.length pc2)/\SG w' (fun k=>w.heap.size+2<=k/\k≠g) (.slice pa2 o.paths.length pc2)/\La W w'):=aa (fun W hb=>by
    have b9:=ab (ab IK.o.bel A6.o) hb;refine(pB W _ _ _ (sY (ST9.o.bel b9) (by have:=PL.o;omega))).mono ?_;rintro e w' ⟨v',rfl,hw,hb2⟩;obtain⟨a,c,rfl,-⟩:=ej hw;have h1:=GL.o;have h2:=A6.o.size;have h3:=hb.size;exact⟨a,c,rfl,kf rfl hw (BP ST9.o) (fun k hk=>⟨by omega,by omega⟩) ST9.o.1,SG.of hw (SQ _) fun k hk=>⟨by omega,by omega⟩,hb2⟩)
   clear hW6 ho hst hu0 hgB hgl;go_upto_region 6 with fail
   rw[<-HW6.o];clear c0 c1;refine aD (fun wS=>La W6 wS) [8] (by kernel_rfl) (aC _ 1) (fun LI=>?_);refine WT.out ?_;iterate 5
    first
     | refine OJ 0 ?_ [1,6,7,8] LI ?_ ?_
     | refine OJ 1 ?_ [6,7,8] LI ?_ ?_
     | refine OJ 2 ?_ [6,7,8] LI ?_ ?_
     | refine OJ 3 ?_ [4,5,6,7,8] LI ?_ ?_
     | refine OJ 4 ?_ [5,6,7,8] LI ?_ ?_
    rotate_left
    ·intro wS LN;obtain⟨b0,b1⟩:=rl (bR LN OX.o);have t0_:=(TB6.o.bel LN).c;go_simp;all_goals with_reducible rfl
    simp only[av,List.set]
   repeat' (first
    | exact nl
    |(refine ON 5 (fun K hK=>?_) ?_
      go_simp;refine(CLN.o _ LI).mono ?_;rintro e w5q ⟨pa2,pc2,rfl,h5,h5p,hb5⟩;refine hK.out _ _ (ab LI hb5) (fun LJ=>?_);have B6:=aa LJ;have P6:=aa h5;have Q6:=aa h5p;clear h5 h5p hb5;clear hK K;replace LI:=LJ;clear LJ;try simp only[Act.put,Mt,Mu,Mv])
    |(refine OO 8 (fun K hK=>?_)
      obtain⟨g9,u9,e9,-,-,-,-,-,-,nx,mx⟩:=CU.at (I6.o.bel' B6.o) HO.o;cases e9;go_simp;refine hK.out _ _ ?_;clear hK K;try simp only[Act.put,Mt,Mu,Mv])
    |(first
       | refine OJ 6 ?_ [7,8] (by exact LI) ?_ ?_
       | refine OJ 7 ?_ [8] (by exact LI) ?_ ?_
      rotate_left
      ·intro wS LN;go_simp;all_goals with_reducible rfl
      simp only[av,List.set])
    | refine OL [5] ?_
    | fail)
   all_goals
    refine dn (by kernel_rfl) ?_;obtain⟨W9,hW9⟩:∃ W,W=w5q.setCell ⟨g,k * 2+1,none⟩ (.slice pa2 o.paths.length pc2):=⟨_,rfl⟩
    have I9:Ll (CU w t a2 b2 c2 d2 (some ⟨g,0,none⟩) vc pv0 (k+1) W9):=aa (by rw[hW9];exact CU.step (I6.o.bel' B6.o) HO.o P6.o Q6.o);rw[<-hW9];clear hW9;go_wp2
    go_roundg (t.owners.length - (k+1))
    case measure=>rw[GK.o];omega
    case rel=>exact⟨k+1,hlt,rfl,by go_num,I9⟩
  ·have d9:¬(k:Int) < (t.owners.length:Int):=by omega
   have Mc:k=t.owners.length:=by omega
   have OK9:Ll (cQ wo (fun k=>w.heap.size+2<=k) t a2 b2 c2 d2 va vc):=aa ⟨TNL.o,IK.o.val.weak fun k hk=>hk.1,fA.owns (by
    obtain⟨pvs,h1,h2,h3⟩:=IK.o.row;exact⟨pvs,h1.symm,h2,fun j o u hj hu=>⟨((h3 j o u hj hu).2 (by have:=(Mz.1 hj).1;omega)).1,((h3 j o u hj hu).2 (by have:=(Mz.1 hj).1;omega)).2.1⟩⟩) PN.o⟩
   have SH9:Ll (SS (jE wo (w.heap.size+1) t a2 b2 c2 d2 va vc) (fun k=>w.heap.size<=k) t a2 b2 c2 d2 va vc):=aa (by
    have h9:SS wo (fun k=>w.heap.size+2<=k) t a2 b2 c2 d2 va vc:=⟨by
     obtain⟨D,hD⟩:=IK.o.shv;exact⟨D,hD.imp (fun q hq _=>⟨hq.1,rfl⟩) _ _⟩,by
     obtain⟨pvs,h1,h2,h3⟩:=IK.o.row;exact⟨pvs,h1,cV h2 (Nat.zero_le _),fun g hg=>(bY h2 hg).1,fun j o u hj hu=>⟨((h3 j o u hj hu).2 (by have:=(Mz.1 hj).1;omega)).1,((h3 j o u hj hu).2 (by have:=(Mz.1 hj).1;omega)).2.2.imp fun q hq _=>⟨hq.1,rfl⟩⟩⟩⟩
    exact h9.imp fun q hq hl=>⟨by omega,(g15 wo (w.heap.size+1) t a2 b2 c2 d2 va vc).block q hl (fun e=>by have:=Option.some.inj e;omega)⟩)
   clear Mc;have t0_:=IK.o.box.c;have n0_:=IK.o.res.c;obtain⟨m0,m1,m2,m3,m4,m5,m6,m7,m8,m9,m10,m11,m12,m13,m14⟩:=IK.o.res.f;have P9:=aa (IK.o.res.put15 t a2 b2 c2 d2 va vc);have B9:=aa (bS (mz (aq (r:=none) IK.o.bel) (Nat.le_succ w.heap.size) t a2 b2 c2 d2 va vc));have O9:Ll (cQ (jE wo (w.heap.size+1) t a2 b2 c2 d2 va vc) (fun k=>w.heap.size<=k) t a2 b2 c2 d2 va vc):=aa ((OK9.o.gr (g15 wo (w.heap.size+1) t a2 b2 c2 d2 va vc) (fun k hk e=>by have:=Option.some.inj e;omega)).weak fun k hk=>by omega);go_wp2
   have z0_:=P9.o.c;refine MM (v:=.agg (Ld t a2 c2 b2 d2 va vc)) ?_ rfl ?_
   ·simp only[jE]at z0_;simp[results,results17,go_sem,z0_]
   ·exact⟨_,_,_,_,_,_,rfl,O9.o,B9.o,SH9.o⟩
theorem Cj(n:Nat):(madeCells rn.toArray (n * 15)).toList=(List.replicate n rn).flatten:=by
 have h15:∀ c∈List.replicate n rn,c.length=15:=fun c hc=>by rw[List.eq_of_mem_replicate hc];rfl
 apply List.ext_getElem?;intro j;by_cases hj:j < n * 15
 ·have hd:j / 15 < n:=by omega
  have hm:j % 15 < 15:=Nat.mod_lt _ (by omega);have e:=oN (List.replicate n rn) (j / 15) (j % 15) rn h15 (by rw[List.getElem?_replicate,if_pos hd]) hm;rw[show j / 15 * 15+j % 15=j by omega]at e;rw[e];have hz:rn.length=15:=rfl;simp only[madeCells,Array.toList_map,Array.toList_range,List.getElem?_map,List.getElem?_range hj,Option.map_some,List.size_toArray,hz];rw[getElem!_pos rn.toArray (j % 15) (by simp only[List.size_toArray,hz];exact hm),Mw (by rw[hz];exact hm)];rfl
 ·rw[List.getElem?_eq_none (by simp[madeCells];omega),List.getElem?_eq_none (by rw[fY _ h15];simp;omega)]
theorem Eb(w:LC)(ok n)(hn:n<=1000):dm (w.alloc (.cells (madeCells Le (n * 15)) 44)) w.heap.size ok (List.replicate n dT) (.slice (some ⟨w.heap.size,0,none⟩) n n):=by
 refine⟨List.replicate n rn,by simp,⟨?_,.inr ⟨w.heap.size,n,_,by rw[List.length_replicate],MG _,MN _ _,by simp,by unfold maxLen;omega,by simp[madeCells],?_⟩⟩,fun i t cs ht hc=>?_⟩
 ·rw[fY _ (fun c hc=>by rw[List.eq_of_mem_replicate hc];rfl)];simp
 ·have:=Cj n;simp only[rn]at this ⊢;rw[this,MD (by rw[fY _ (fun c hc=>by rw[List.eq_of_mem_replicate hc];rfl)];simp)]
 ·have e1:=List.eq_of_mem_replicate (List.mem_of_getElem? ht);have e2:=List.eq_of_mem_replicate (List.mem_of_getElem? hc);subst e1;subst e2;exact⟨none,none,0,0,none,0,rfl,by simp[dT],fG _ _,⟨by simp[dT,maxLen],.inl ⟨rfl,none,rfl⟩⟩⟩
theorem uG{l:List Th}{t:Th}(h:l[k]?=some t):(l.take k++List.replicate (l.length - k) dT)[k]?=some dT/\(l.take k++List.replicate (l.length - k) dT).set k t=l.take (k+1)++List.replicate (l.length - (k+1)) dT/\(l.take k++List.replicate (l.length - k) dT).length=l.length:=by
 obtain⟨hk,e⟩:=Mz.1 h;have e1:(l.take k).length=k:=by rw[MC];omega
 obtain⟨m,hm⟩:∃ m,l.length - k=m+1:=⟨l.length - k - 1,by omega⟩
 refine⟨?_,?_,?_⟩
 ·rw[List.getElem?_append_right (by omega),e1,Nat.sub_self,hm,List.replicate_succ];rfl
 ·rw[List.set_append_right _ _ (by omega),e1,Nat.sub_self,hm,List.replicate_succ,Mu,List.take_succ_eq_append_getElem hk,e,List.append_assoc,show l.length - (k+1)=m by omega];rfl
 ·simp only[Mx,List.length_replicate,e1];omega
structure sZ (w:LC) (ok:Nat->Prop) (S:Nat) (v:Value) (st:Nu) (k:Nat) (wr:LC):Prop where
 srv:bo wr ok S v st
 row:dm wr w.heap.size (fun j=>w.heap.size < j) (st.ths.take k++List.replicate (st.ths.length - k) dT) (.slice (some ⟨w.heap.size,0,none⟩) st.ths.length st.ths.length)
 bel:La w wr
 big:w.heap.size < wr.heap.size
 shp:∃ L0:List (List Value),L0.length=st.ths.length/\wr.ownsRow 0 44 15 (.slice (some ⟨w.heap.size,0,none⟩) st.ths.length st.ths.length) st.ths.length L0.flatten/\(∀ c∈L0,c.length=15)/\∀ (i:Nat) (t:Th) (cs:List Value),i < k->st.ths[i]?=some t->L0[i]?=some cs->∃ a b c d oa oc,cs=cu t a b c d oa oc/\SS wr (fun j=>w.heap.size < j) t a b c d oa oc
theorem sZ.bel'{wr':LC}{st:Nu}(h:sZ w ok S v st k wr)(hb:La wr wr'):sZ w ok S v st k wr':=⟨h.srv.bel hb,h.row.bel hb,ab h.bel hb,MI h.big hb.size,by
 obtain⟨L0,h1,h2,h3,h4⟩:=h.shp;refine⟨L0,h1,fD h2 hb,h3,fun i t cs hi ht hc=>?_⟩;obtain⟨a,b,c,d,oa,oc,e,h5⟩:=h4 i t cs hi ht hc;exact⟨a,b,c,d,oa,oc,e,h5.imp fun g hg hl=>⟨hg,hb.block g hl⟩⟩⟩
theorem sZ.step{st:Nu}{t:Th}{a b:Option Addr}{oa:Option Addr}{oc:Nat}(h:sZ w (Lj ok w) S v st k wr)(hS:S < w.heap.size)(hv:∀ k,v.ownBlock=some k->k < w.heap.size)(ht:st.ths[k]?=some t)(hk:cQ wr (fun j=>w.heap.size < j) t a b c d oa oc)(hs:SS wr (fun j=>w.heap.size < j) t a b c d oa oc):sZ w (Lj ok w) S v st (k+1) (wr.setCells w.heap.size (k * 15) (cu t a b c d oa oc)):=by
 obtain⟨h1,h2,h3⟩:=uG ht;have G:=jz w.heap.size (cu t a b c d oa oc) (k * 15) wr;have h4:dm wr w.heap.size (fun j=>w.heap.size < j) (st.ths.take k++List.replicate (st.ths.length - k) dT) (.slice (some ⟨w.heap.size,0,none⟩) (st.ths.take k++List.replicate (st.ths.length - k) dT).length st.ths.length):=by rw[h3];exact h.row
 have h5:=h4.put (fun hk=>Nat.lt_irrefl _ hk) h1 hk;rw[h2,h3]at h5;exact⟨h.srv.new (a:=w) G hS hv (MG _),h5,⟨G.os.trans h.bel.os,G.tape.trans h.bel.tape,G.output.trans h.bel.output,MH h.bel.size G.size,fun j hj=>(G.block j (MI hj h.bel.size) (by intro e;have:=Option.some.inj e;omega)).trans (h.bel.block j hj)⟩,MI h.big G.size,by
  obtain⟨L0,g1,g2,g3,g4⟩:=h.shp;have hlt:=(Mz.1 ht).1;refine⟨L0.set k (cu t a b c d oa oc),by simpa using g1,?_,fun x hx=>?_,fun i t' cs hi ht' hc=>?_⟩
  ·have g9:=vO (by omega) (cu t a b c d oa oc) (k * 15) _ _ g2;have g8:=sJ (cu t a b c d oa oc) 0 L0 k L0[k] g3 (Mw (by omega)) (by simp[cu]);rw[Nat.add_zero]at g8;rw[g8]at g9;have g7:uv L0[k] 0 (cu t a b c d oa oc)=cu t a b c d oa oc:=by
    match L0[k],g3 L0[k] (List.getElem_mem _) with
    | [_,_,_,_,_,_,_,_,_,_,_,_,_,_,_],_=>rfl
   rwa [g7]at g9
  ·rcases List.mem_or_eq_of_mem_set hx with hx | rfl
   ·exact g3 x hx
   ·rfl
  ·rw[List.getElem?_set]at hc;split at hc
   ·rename_i e;subst e;try rw[if_pos (by omega)]at hc
    cases hc;rw[ht]at ht';cases ht';exact⟨a,b,c,d,oa,oc,rfl,hs.imp fun g hg hl=>⟨hg,G.block g hl (fun e=>by have:=Option.some.inj e;omega)⟩⟩
   ·obtain⟨a',b',c',d',oa',oc',e,h9⟩:=g4 i t' cs (by omega) ht' hc;exact⟨a',b',c',d',oa',oc',e,h9.imp fun g hg hl=>⟨hg,G.block g hl (fun e=>by have:=Option.some.inj e;omega)⟩⟩⟩
theorem Bl(w:LC)(ok S v)(st:Nu)(h:bo w ok S v st)(hg:dP st):Calls prog 9 #[.pointer (some ⟨S,0,none⟩)] w fun e w'=>e=.returned (.slice (some ⟨w.heap.size,0,none⟩) st.ths.length st.ths.length)/\dm w' w.heap.size (fun j=>w.heap.size < j) st.ths (.slice (some ⟨w.heap.size,0,none⟩) st.ths.length st.ths.length)/\La w w'/\SU w' (fun j=>w.heap.size<=j) st.ths (.slice (some ⟨w.heap.size,0,none⟩) st.ths.length st.ths.length):=by
 have HNE:=aa (fun g (hg:v.ownBlock=some g)=>h.ne hg);have HV0:=aa (fun k (hk:v.ownBlock=some k)=>(HNE.o k hk).2);have SLT:Ll (S < w.heap.size):=aa h.blk.lt;have GOOD:=aa hg;have S0:=aa h.low;obtain⟨va,vc,hform⟩:=h.row.form;obtain⟨i0,hi0,hz0,hz1,hz2⟩:=info_parts Sg;have l8:=hg.len;have hmk:(Instr.makeSlice 27 (.int .i64 (st.ths.length:Int)) (.int .i64 (st.ths.length:Int))).run prog w=.ok (.slice (some ⟨w.heap.size,0,none⟩) st.ths.length st.ths.length) (w.alloc (.cells (madeCells Le (st.ths.length * 15)) 44)):=by
  have k:=run_make (P:=prog) w 27 44 i0 _ underlying27 hi0 hz0 .i64 .i64 (st.ths.length:Int) (st.ths.length:Int) (by omega) (Int.le_refl _) (by rw[hz2];omega) (by omega);rw[hz1]at k;simpa [Value.cells] using k
 obtain⟨W1,hW1⟩:∃ W,W=w.alloc (.cells (madeCells Le (st.ths.length * 15)) 44):=⟨_,rfl⟩
 have Y1:La w W1:=by rw[hW1];exact ae _ _
 have I1:Ll (sZ w (Lj ok w) S v st 0 W1):=aa ⟨S0.o.bel Y1,by
  rw[hW1];have:=Eb w (fun j=>w.heap.size < j) st.ths.length (by omega);simpa using this,Y1,by rw[hW1];simp,by
  rw[hW1];have:=Eb w (fun j=>w.heap.size < j) st.ths.length (by omega);obtain⟨L0,g1,g2,g3⟩:=this;have g4:=dm.fifteen g1 g3;simp only[List.length_replicate]at g1 g2;exact⟨L0,g1,cV g2 (Nat.zero_le _),g4,fun i t cs hi=>absurd hi (Nat.not_lt_zero _)⟩⟩
 rw[<-hW1]at hmk;clear hi0 hz0 hz1 hz2 hW1 Y1 hg;subst hform;have s0_:=h.blk.c;have r0_:=I1.o.srv.blk.c;clear h;go_enter func9,ntmps9;go_wp2
 clear hmk;go_loopg [19] st.ths.length (fun gk iv wr=>∃ k:Nat,k<=st.ths.length/\gk=st.ths.length - k/\iv=.int .i64 k/\Ll (sZ w (Lj ok w) S (.slice va st.ths.length vc) st k wr))
 case atStart=>exact⟨0,Nat.zero_le _,rfl,rfl,I1⟩
 case round=>
  obtain⟨k,hk,hgk,rfl,IK⟩:=hrel;have GK:=aa hgk;clear hgk I1;obtain⟨wo,hwo⟩:∃ wo,wo=wr:=⟨wr,rfl⟩
  subst hwo;by_cases hlt:k < st.ths.length
  ·obtain⟨t,ht⟩:∃ t,st.ths[k]?=some t:=⟨_,Mw hlt⟩
   have HT:=aa ht;have GT:=aa (GOOD.o.ths t (List.mem_of_getElem? ht));obtain⟨g,cap,e9,hgB,hgl,hlc,hc9,hf,Mb,a,b,c,d,oa,oc,hcl,hkk⟩:=IK.o.srv.row.at ht;obtain⟨rfl,rfl⟩:va=some ⟨g,0,none⟩/\cap=vc:=by simp only[Value.slice.injEq]at e9;exact⟨e9.1,e9.2.2.symm⟩
   have w2:(k:Int) < (st.ths.length:Int):=by omega
   have w3:(0:Int)<=(k:Int):=by omega
   have t0:wo.cell? ⟨g,k * 15,none⟩=some (.string ⟨t.name.toArray⟩):=hcl 0 _ rfl;have t1:wo.cell? ⟨g,k * 15+1,none⟩=some (.int .i64 t.value.kind):=hcl 1 _ rfl;have t2:wo.cell? ⟨g,k * 15+2,none⟩=some (.int .i64 t.value.n):=hcl 2 _ rfl;have t3:wo.cell? ⟨g,k * 15+3,none⟩=some (.string ⟨t.value.s.toArray⟩):=hcl 3 _ rfl;have t4:wo.cell? ⟨g,k * 15+4,none⟩=some (.slice a t.value.keys.length c):=hcl 4 _ rfl;have t5:wo.cell? ⟨g,k * 15+5,none⟩=some (.slice b t.value.l.length d):=hcl 5 _ rfl;have t6:wo.cell? ⟨g,k * 15+6,none⟩=some (.slice oa t.owners.length oc):=hcl 6 _ rfl;have t7:wo.cell? ⟨g,k * 15+7,none⟩=some (.int .i64 t.ver):=hcl 7 _ rfl;have t8:wo.cell? ⟨g,k * 15+8,none⟩=some (.int .i64 t.gen):=hcl 8 _ rfl;have t9:wo.cell? ⟨g,k * 15+9,none⟩=some (.string ⟨t.st.a.toArray⟩):=hcl 9 _ rfl;have t10:wo.cell? ⟨g,k * 15+10,none⟩=some (.string ⟨t.st.c.toArray⟩):=hcl 10 _ rfl;have t11:wo.cell? ⟨g,k * 15+11,none⟩=some (.int .i64 t.st.ph):=hcl 11 _ rfl;have t12:wo.cell? ⟨g,k * 15+12,none⟩=some (.int .i64 t.st.st):=hcl 12 _ rfl;have t13:wo.cell? ⟨g,k * 15+13,none⟩=some (.int .i64 t.st.we):=hcl 13 _ rfl;have t14:wo.cell? ⟨g,k * 15+14,none⟩=some (.int .i64 t.st.si):=hcl 14 _ rfl;obtain⟨W5,hW5⟩:∃ W,W=wo.alloc (.cells (Ld t a c b d oa oc) 44):=⟨_,rfl⟩
   have A5:Ll (La wo W5):=aa (by rw[hW5];exact ae _ _);have XB:Ll (fN W5 wo.heap.size t a b c d oa oc):=aa (by rw[hW5];exact MN _ _);have HW5:=aa hW5;have I5:=aa (IK.o.bel' A5.o);have TW:=aa (Fs W5 _ t a b c d oa oc (hkk.bel A5.o) (dQ (lq GT.o.rd)) (by have:=(gz GT.o.own).1;omega) GT.o.lim);clear hW5 ht hkk hcl hf Mb hgB hgl e9;go_upto_region 7 with fail
   rw[<-HW5.o];obtain⟨t0,t1,t2,t3,t4,t5,t6,t7,t8,t9,t10,t11,t12,t13,t14⟩:=XB.o.c;go_upto_region 8 with (go_at_call 17;refine TW.o.mono ?_;rintro e w7 ⟨a9,b9,c9,d9,oa9,oc9,rfl,h1,hb,hs⟩;have K7:=aa h1;have S7:=aa hs;have I7:=aa (I5.o.bel' hb);clear h1 hb hs;obtain⟨g4,cap4,e4,-,-,-,-,hf4,-,a4,b4,c4,d4,oa4,oc4,hcl4,-⟩:=I7.o.row.at (uG HT.o).1;obtain rfl:w.heap.size=g4:=(by simp only[Value.slice.injEq,Option.some.injEq,Addr.mk.injEq]at e4;exact e4.1.1);have n0:=hcl4 0 _ rfl;have m0:=hf4 (k * 15+0);have n1:=hcl4 1 _ rfl;have m1:=hf4 (k * 15+1);have n2:=hcl4 2 _ rfl;have m2:=hf4 (k * 15+2);have n3:=hcl4 3 _ rfl;have m3:=hf4 (k * 15+3);have n4:=hcl4 4 _ rfl;have m4:=hf4 (k * 15+4);have n5:=hcl4 5 _ rfl;have m5:=hf4 (k * 15+5);have n6:=hcl4 6 _ rfl;have m6:=hf4 (k * 15+6);have n7:=hcl4 7 _ rfl;have m7:=hf4 (k * 15+7);have n8:=hcl4 8 _ rfl;have m8:=hf4 (k * 15+8);have n9:=hcl4 9 _ rfl;have m9:=hf4 (k * 15+9);have n10:=hcl4 10 _ rfl;have m10:=hf4 (k * 15+10);have n11:=hcl4 11 _ rfl;have m11:=hf4 (k * 15+11);have n12:=hcl4 12 _ rfl;have m12:=hf4 (k * 15+12);have n13:=hcl4 13 _ rfl;have m13:=hf4 (k * 15+13);have n14:=hcl4 14 _ rfl;have m14:=hf4 (k * 15+14);clear hf4 hcl4 e4;simp only[Nat.add_zero]at n0 m0)
   obtain⟨W9,hW9⟩:∃ W,W=(((((((((((((((w7.setCell ⟨w.heap.size,k * 15,none⟩ (.string ⟨t.name.toArray⟩)).setCell ⟨w.heap.size,k * 15+1,none⟩ (.int .i64 t.value.kind)).setCell ⟨w.heap.size,k * 15+2,none⟩ (.int .i64 t.value.n)).setCell ⟨w.heap.size,k * 15+3,none⟩ (.string ⟨t.value.s.toArray⟩)).setCell ⟨w.heap.size,k * 15+4,none⟩ (.slice a9 t.value.keys.length c9)).setCell ⟨w.heap.size,k * 15+5,none⟩ (.slice b9 t.value.l.length d9)).setCell ⟨w.heap.size,k * 15+6,none⟩ (.slice oa9 t.owners.length oc9)).setCell ⟨w.heap.size,k * 15+7,none⟩ (.int .i64 t.ver)).setCell ⟨w.heap.size,k * 15+8,none⟩ (.int .i64 t.gen)).setCell ⟨w.heap.size,k * 15+9,none⟩ (.string ⟨t.st.a.toArray⟩)).setCell ⟨w.heap.size,k * 15+10,none⟩ (.string ⟨t.st.c.toArray⟩)).setCell ⟨w.heap.size,k * 15+11,none⟩ (.int .i64 t.st.ph)).setCell ⟨w.heap.size,k * 15+12,none⟩ (.int .i64 t.st.st)).setCell ⟨w.heap.size,k * 15+13,none⟩ (.int .i64 t.st.we)).setCell ⟨w.heap.size,k * 15+14,none⟩ (.int .i64 t.st.si)):=⟨_,rfl⟩
   have I9:Ll (sZ w (Lj ok w) S (.slice (some ⟨g,0,none⟩) st.ths.length cap) st (k+1) W9):=aa (by rw[hW9];exact I7.o.step SLT.o HV0.o HT.o (K7.o.weak fun j hj=>by have:=I5.o.big;omega) (S7.o.imp fun j hj _=>⟨by have:=I5.o.big;omega,rfl⟩));rw[<-hW9];clear hW9;go_wp2
   go_roundg (st.ths.length - (k+1))
   case measure=>rw[GK.o];omega
   case rel=>exact⟨k+1,hlt,rfl,by go_num,I9⟩
  ·have d9:¬(k:Int) < (st.ths.length:Int):=by omega
   have Mc:k=st.ths.length:=by omega
   have R9:Ll (dm wo w.heap.size (fun j=>w.heap.size < j) st.ths (.slice (some ⟨w.heap.size,0,none⟩) st.ths.length st.ths.length)):=aa (by
    have:=IK.o.row;rwa [Mc,List.take_length,Nat.sub_self,List.replicate_zero,List.append_nil]at this)
   have SL9:Ll (SU wo (fun j=>w.heap.size<=j) st.ths (.slice (some ⟨w.heap.size,0,none⟩) st.ths.length st.ths.length)):=aa (by
    obtain⟨L0,g1,g2,g3,g4⟩:=IK.o.shp;refine⟨L0,g1,g2,fun g hg=>by cases hg;exact MG _,fun i t cs ht hc=>?_⟩;obtain⟨a,b,c,d,oa,oc,e,h9⟩:=g4 i t cs (by have:=(Mz.1 ht).1;omega) ht hc;exact⟨a,b,c,d,oa,oc,e,h9.imp fun q hq _=>⟨Nat.le_of_lt hq,rfl⟩⟩)
   clear Mc;go_wp2
   go_ret;exact⟨rfl,R9.o,IK.o.bel,SL9.o⟩
variable {w':World}
theorem Jj(w:LC)(ok):In w ok jM (.agg #[.int .i64 5,.int .i64 0,.string ⟨#[]⟩,.slice none 0 0,.slice none 0 0]):=⟨1,_,_,rfl,by unfold dW;simp[jM],by unfold dW;simp[jM],by simp[jM,maxLen],⟨by simp[jM,maxLen],.inl ⟨rfl,none,rfl⟩⟩,⟨by simp[jM,maxLen],.inl ⟨rfl,none,rfl⟩⟩⟩
theorem nO{time ver t}{a:cm}(h:(al time ver t a).2.2≠0):(al time ver t a).2.1=ver:=by
 unfold al at h ⊢;split
 ·rfl
 ·rename_i h1;rw[if_neg h1]at h;split
  ·rfl
  ·rename_i h2;rw[if_neg h2]at h;exact absurd rfl h
theorem kS.row{a}(k:kS a w S v)(h:w.grownBy w' v.ownBlock):kS a w' S v:=⟨h.os.trans k.os,h.tape.trans k.tape,h.output.trans k.output,MH k.size h.size,fun j hj h1 h2=>(h.block j (MI hj k.size) fun e=>h2 e.symm).trans (k.block j hj h1 h2)⟩
noncomputable def iF (s:Nu) (i:Nat) (a:cm):Nu × uf:=
 if (al s.time s.ver (eT a.name) a).2.2≠0 then (s,bz (al s.time s.ver (eT a.name) a).2.2)
 else ({ s with ths:=s.ths.take i++(al s.time s.ver (eT a.name) a).1 :: s.ths.drop i,ver:=(al s.time s.ver (eT a.name) a).2.1 },⟨0,(al s.time s.ver (eT a.name) a).1.ver,[]⟩)
theorem FN(w ok S v)(st:Nu)(i)(q:cm)(h:bo w ok S v st)(hv:0<=st.ver/\st.ver<=1000)(hi:i<=st.ths.length)(h8:st.ths.length<=8)(hG:cn w)(hM:bj w)(hW:di w)(hn:q.name.length<=9223372036854775807)(hq:q.body.length<=9223372036854775807)(hw:q.who.length<=9223372036854775807):Calls prog 24 #[.pointer (some ⟨S,0,none⟩),.int .i64 i,.agg (Lf q)] w fun e w'=>∃ v',e=.returned (fX (iF st i q).2)/\bo w' (Fa ok w.heap.size S v') S v' (iF st i q).1/\(∀ g,v'.ownBlock=some g->v.ownBlock=some g\/w.heap.size<=g)/\kS w w' S v:=by
 obtain⟨W2,hW2⟩:∃ W,W=(w.alloc (.cells (Lf q) 29)).alloc (.cells #[.int .i64 0,.int .i64 0,.string ⟨#[]⟩] 32):=⟨_,rfl⟩
 have Y2:Ll (La w W2):=aa (by rw[hW2];exact ab (ae _ _) (ae _ _));have AB:Ll (jC W2 w.heap.size q):=aa (by rw[hW2];exact fb _ _ _);have RB:Ll (dK W2 (w.heap.size+1) 0 0 []):=aa (by rw[hW2];exact et _ _ _);have HW2:=aa hW2;have S2:=aa (h.low.bel Y2.o);have NO:=aa h.no;have HNE:=aa (fun g (hg:v.ownBlock=some g)=>h.ne hg);have SLT:Ll (S < w.heap.size):=aa h.blk.lt;obtain⟨x,xv,xe,hx⟩:∃ x xv xe,al st.time st.ver (eT q.name) q=(x,xv,xe):=⟨_,_,_,rfl⟩
 obtain⟨W3,hW3⟩:∃ W,W=W2.alloc (.cells #[.string ⟨q.name.toArray⟩,.int .i64 5,.int .i64 0,.string ⟨#[]⟩,.slice none 0 0,.slice none 0 0,.slice none 0 0,.int .i64 0,.int .i64 0,.string ⟨#[]⟩,.string ⟨#[]⟩,.int .i64 0,.int .i64 0,.int .i64 0,.int .i64 0] 44):=⟨_,rfl⟩
 have A3:Ll (La W2 W3):=aa (by rw[hW3];exact ae _ _);have NB:Ll (fN W3 W2.heap.size (eT q.name) none none 0 0 none 0):=aa (by rw[hW3];exact MN _ _);have HW3:=aa hW3;have Y3:=aa (ab Y2.o A3.o);have S3:=aa (S2.o.bel A3.o);have WR0:=pI W3 (Lj ok w) S v st.time st.ver st.acts (eT q.name) none none 0 0 none 0 q S3.o.blk (fun hk=>(NO.o S hk.1).1 rfl) hv ⟨Int.le_refl _,by show (0:Int)<=1000;decide⟩ ⟨hn,Jj _ _,⟨by simp[eT,maxLen],.inl ⟨rfl,none,rfl⟩⟩⟩ (hG.grown (r:=none) (aq Y3.o) (by simp)) (hM.bel Y3.o) (hW.bel Y3.o) (by simp[eT,bA]) (by intro o ho;cases ho) hq hw;rw[hx]at WR0;have WRIT:=aa WR0;have HX:=aa hx;have H8:=aa h8;have HI:=aa hi;clear WR0 hx hW2 hW3 h hv hi h8 hG hM hW hn hq hw;have q0_:=AB.o.c;go_enter func24,ntmps24;go_upto_region 1 with fail
 rw[<-HW2.o];go_upto_region 2 with fail
 rw[<-HW3.o];have q0_:=(AB.o.bel A3.o).c;obtain⟨t0,t1,t2,t3,t4,t5,t6,t7,t8,t9,t10,t11,t12,t13,t14⟩:=NB.o.c;go_upto_region 3 with (go_at_call 38;refine WRIT.o.mono ?_;rintro e w4 ⟨a9,b9,c9,d9,oa9,oc9,rfl,h1,h2,h3⟩;have K4:=aa h1;have SB4:=aa h2;have G4:=aa h3;clear h1 h2 h3)
 obtain⟨W5,hW5⟩:∃ W,W=w4.alloc (.cells (Ld x a9 c9 b9 d9 oa9 oc9) 44):=⟨_,rfl⟩
 have A5:Ll (La w4 W5):=aa (by rw[hW5];exact ae _ _);have XB:Ll (fN W5 w4.heap.size x a9 b9 c9 d9 oa9 oc9):=aa (by rw[hW5];exact MN _ _);rw[<-hW5];clear hW5;have S5:=aa ((S3.o.grS G4.o SB4.o).bel A5.o);have F5:=aa (((eE (S:=S) (v:=v) Y3.o).gb G4.o (.inl rfl)).bel A5.o);have RB5:Ll (dK W5 (w.heap.size+1) 0 0 []):=aa (dK.bel (MF.1 (RB.o.bel A3.o) |>.1 |> fun hl=>(G4.o.block _ hl (fun e=>by cases e;have:=SLT.o;omega)).trans (RB.o.bel A3.o)) A5.o);by_cases hxe:xe=0
 rotate_left
 ·have e0:(xe != 0)=true:=by simpa using hxe
  have e1:(xe == 0)=false:=by rw[MO];exact hxe
  have R:Ll (iF st i q=(st,bz xe)):=aa (by unfold iF;rw[HX.o,if_pos hxe]);have hxv:xv=st.ver:=by
   have:=nO (time:=st.time) (ver:=st.ver) (t:=eT q.name) (a:=q) (by rw[HX.o];exact hxe);rw[HX.o]at this;exact this
  rw[hxv]at S5;clear hxe hxv;have RF:=aa (dh W5 xe);go_wp2_with (go_at_call 12;refine RF.o.mono ?_;rintro e w5 ⟨rfl,hb⟩;have B5:=aa hb;clear hb;have n0_:=(RB5.o.bel B5.o).c;have Z9:=aa ((RB5.o.bel B5.o).set (bz xe)))
  have z0_:=Z9.o.c;have S9:=aa (((S5.o.bel B5.o).new (a:=w) (cE _ _ (bz xe)) SLT.o (fun k hk=>(HNE.o k hk).2) (Nat.le_succ _)).o);have F9:=aa ((F5.o.bel B5.o).gb (cE w5 (w.heap.size+1) (bz xe)) (.inr (.inr (Nat.le_succ _))));refine MM (v:=.agg #[.int .i64 xe,.int .i64 0,.string ⟨#[]⟩]) ?_ rfl ?_
  ·simp only[fE,bz]at z0_;simp[results,results24,go_sem,z0_]
  ·rw[R.o];first
    | exact⟨rfl,_,S9.o,fun k hk=>.inl hk,F9.o⟩
    | exact⟨_,rfl,S9.o,fun k hk=>.inl hk,F9.o⟩
 subst hxe;have R:Ll (iF st i q=({ st with ths:=st.ths.take i++x :: st.ths.drop i,ver:=xv },⟨0,x.ver,[]⟩)):=aa (by unfold iF;rw[HX.o,if_neg (by simp)]);obtain⟨ra,rc,hform⟩:=S5.o.row.form;have SZ:Ll (w.heap.size+2<=W3.heap.size/\W3.heap.size<=w4.heap.size/\w4.heap.size < W5.heap.size):=aa (by have h1:=NB.o.lt;have h2:=(MF.1 RB.o).1;have h3:=A3.o.size;have h4:=G4.o.size;have h5:=XB.o.lt;omega);have HOK:Ll (∀ k,(bQ (Lj ok w) W3.heap.size k/\k < W5.heap.size)->IT S v k):=aa (by
  rintro k ⟨hk | hk,-⟩
  ·exact NO.o k hk.1
  ·have h1:=SZ.o;have h2:=SLT.o;exact⟨by omega,fun e=>by have:=HNE.o k e;omega⟩)
 have T5:=aa (S5.o.row.weak (ok':=fun k=>bQ (Lj ok w) W3.heap.size k/\k < W5.heap.size) fun k hk=>⟨.inl hk,by have:=SZ.o;have:=hk.2;omega⟩);have K5:Ll (cQ W5 (fun k=>bQ (Lj ok w) W3.heap.size k/\k < W5.heap.size) x a9 b9 c9 d9 oa9 oc9):=aa ((K4.o.low.weak fun k hk=>⟨hk.1,by have:=SZ.o;have:=hk.2;omega⟩).bel A5.o);have INS:Ll (∀ W vb,La W5 W->W5.heap.size<=vb->W.heap[vb]?=some (.cells (Ld x a9 c9 b9 d9 oa9 oc9) 44)->Calls prog 39 #[v,.int .i64 i,.slice (some ⟨vb,0,none⟩) 1 1] W fun e w'=>∃ g cap,e=.returned (.slice (some ⟨g,0,none⟩) (st.ths.length+1) cap)/\dm w' (S+1) (fun k=>bQ (Lj ok w) W3.heap.size k/\k < W5.heap.size) (st.ths.take i++x :: st.ths.drop i) (.slice (some ⟨g,0,none⟩) (st.ths.length+1) cap)/\W5.grownBy w' v.ownBlock/\(v.ownBlock=some g\/W5.heap.size<=g)):=aa (by
  intro W vb hb hvb hW;refine(dm.ins W (S+1) _ st.ths v i vb x a9 b9 c9 d9 oa9 oc9 (T5.o.bel hb) hW (K5.o.bel hb) HI.o (by have:=H8.o;omega) (by have:=SLT.o;have:=SZ.o;have:=hb.size;omega) (fun g hg e=>by have:=HNE.o g hg;have:=SZ.o;omega) (fun k hk=>(HOK.o k hk).2)).mono ?_;rintro e w' ⟨g,cap,rfl,p1,p2,p3⟩;exact⟨g,cap,rfl,p1,am (aq hb) p2,p3.imp id fun h9=>MH hb.size h9⟩)
 have BW:Ll (∀ o,La W5 (W5.drew.alloc o)):=aa (fun o=>ab (aC _ 1) (ae _ _));have NW:Ll (∀ (W:LC) o,(W.alloc o).heap[W.heap.size]?=some o):=aa (fun W o=>MN W o);subst hform;obtain⟨s0,s1,s2,s3⟩:=S5.o.blk.c;obtain⟨t0,t1,t2,t3,t4,t5,t6,t7,t8,t9,t10,t11,t12,t13,t14⟩:=XB.o.c;go_upto_region 5 with fail
 refine aD (fun wS=>W5.grownBy wS (Value.slice ra st.ths.length rc).ownBlock) [11] (by kernel_rfl) (cJ (az _ _) 1) (fun LI=>?_);refine WT.out ?_;iterate 7
  first
   | refine OJ 0 ?_ [9,10,11] LI ?_ ?_
   | refine OJ 1 ?_ [2,3,4,8,9,10,11] LI ?_ ?_
   | refine OJ 2 ?_ [3,4,8,9,10,11] LI ?_ ?_
   | refine OJ 3 ?_ [4,8,9,10,11] LI ?_ ?_
   | refine OJ 4 ?_ [8,9,10,11] LI ?_ ?_
   | refine OJ 5 ?_ [8,9,10,11] LI ?_ ?_
   | refine OJ 6 ?_ [7,8,9,10,11] LI ?_ ?_
  rotate_left
  ·intro wS LN;obtain⟨s0,s1,s2,s3⟩:=(S5.o.blk.gr LN (fun e=>by have:=HNE.o S e.symm;omega)).c;obtain⟨t0,t1,t2,t3,t4,t5,t6,t7,t8,t9,t10,t11,t12,t13,t14⟩:=(XB.o.gr LN (fun e=>by have:=HNE.o w4.heap.size e.symm;have:=SZ.o;omega)).c;go_simp;all_goals with_reducible rfl
  simp only[av,List.set]
 repeat' (first
  | exact nl
  |(refine ON 7 (fun K hK=>?_) ?_
    go_simp;refine hK.out _ _ (bd LI _) (fun LJ=>?_);clear hK K;replace LI:=LJ;clear LJ;try simp only[Act.put,Mt,Mu,Mv])
  |(refine ON 8 (fun K hK=>?_) ?_
    go_simp;refine(INS.o _ _ (BW.o _) (MG _) (NW.o _ _)).mono ?_;rintro e w8q ⟨g,cap,rfl,h1,h2,h3⟩;refine hK.out _ _ (h2) (fun LJ=>?_);have T6:=aa h1;have G6:=aa h2;have N6:=aa h3;clear h1 h2 h3;clear hK K;replace LI:=LJ;clear LJ;try simp only[Act.put,Mt,Mu,Mv])
  |(refine OO 11 (fun K hK=>?_)
    obtain⟨s0,s1,s2,s3⟩:=(S5.o.blk.gr G6.o (fun e=>by have:=HNE.o S e.symm;omega)).c;obtain⟨f0,f1,f2,f3⟩:=(S5.o.blk.gr G6.o (fun e=>by have:=HNE.o S e.symm;omega)).f;go_simp;refine hK.out _ _ ?_;clear hK K;try simp only[Act.put,Mt,Mu,Mv])
  |(first
     | refine OJ 9 ?_ [10,11] (by exact LI) ?_ ?_
     | refine OJ 10 ?_ [11] (by exact LI) ?_ ?_
    rotate_left
    ·intro wS LN;go_simp;all_goals with_reducible rfl
    simp only[av,List.set])
  | refine OL [7] ?_
  | refine OL [8] ?_
  | fail)
 all_goals
  refine dn (by kernel_rfl) ?_;obtain⟨W7,hW7⟩:∃ W,W=w8q.setCell ⟨S,0,none⟩ (.slice (some ⟨g,0,none⟩) (st.ths.length+1) cap):=⟨_,rfl⟩
  have G7:Ll (w8q.grownBy W7 (some S)):=aa (by rw[hW7];exact ap (az _ _) _ _);have SB7:Ll (eF W7 S (.slice (some ⟨g,0,none⟩) (st.ths.length+1) cap) st.time xv st.acts):=aa (by rw[hW7];exact ak (S5.o.blk.gr G6.o (fun e=>by have:=HNE.o S e.symm;omega)) 0 _);rw[<-hW7];clear hW7 f0 f1 f2 f3;have GN:Ll (S < g/\g≠w.heap.size+1/\(∀ k,(bQ (Lj ok w) W3.heap.size k/\k < W5.heap.size)->k≠g)):=aa (by
   have h1:=SZ.o;have h2:=SLT.o;rcases N6.o with h9 | h9
   ·have h3:=HNE.o g h9;exact⟨h3.1,by omega,fun k hk e=>(HOK.o k hk).2 (by rw[e];exact h9)⟩
   ·exact⟨by omega,by omega,fun k hk e=>by have:=hk.2;omega⟩)
  have S7:Ll (bo W7 (fun k=>bQ (Lj ok w) W3.heap.size k/\k < W5.heap.size) S (.slice (some ⟨g,0,none⟩) (st.ths.length+1) cap) { st with ths:=st.ths.take i++x :: st.ths.drop i,ver:=xv }):=aa ⟨SB7.o,T6.o.gr G7.o (fun k hk e=>by cases e;exact(HOK.o S hk).1 rfl) (fun k hk e=>by have h5:some g=some k:=hk;cases e;cases h5;exact Nat.lt_irrefl _ GN.o.1),fun k hk=>⟨(HOK.o k hk).1,fun e=>by have h5:some g=some k:=e;cases h5;exact GN.o.2.2 g hk rfl⟩⟩;have F7:=aa ((F5.o.row G6.o).gb G7.o (.inl rfl));have RB7:Ll (dK W7 (w.heap.size+1) 0 0 []):=aa ((G7.o.block _ (MI (MF.1 RB5.o).1 G6.o.size) (by intro e;cases e;have:=SLT.o;omega)).trans ((G6.o.block _ (MF.1 RB5.o).1 (fun e=>by have:=HNE.o _ e.symm;omega)).trans RB5.o));have XB7:=aa ((XB.o.gr G6.o (fun e=>by have:=HNE.o w4.heap.size e.symm;have:=SZ.o;omega)).gr G7.o (by intro e;cases e;have:=SLT.o;have:=SZ.o;omega));obtain⟨t0,t1,t2,t3,t4,t5,t6,t7,t8,t9,t10,t11,t12,t13,t14⟩:=XB7.o.c;have n0_:=RB7.o.c;have Z9:=aa (RB7.o.set ⟨0,x.ver,[]⟩);have S9:=aa ((S7.o.gr (cE _ (w.heap.size+1) ⟨0,x.ver,[]⟩) (by have:=SLT.o;omega) (fun e=>by have h5:some g=some (w.heap.size+1):=e;cases h5;exact GN.o.2.1 rfl) (by rintro k ⟨hk | hk,-⟩;have:=hk.2;omega;have:=SZ.o;omega)).imp (ok':=Fa ok w.heap.size S (.slice (some ⟨g,0,none⟩) (st.ths.length+1) cap)) (fun k hk=>⟨hk.1.imp (fun h9=>h9.1) (fun h9=>by have:=SZ.o;omega),S7.o.no k hk⟩) fun _ hk=>hk.2);have F9:=aa (F7.o.gb (cE W7 (w.heap.size+1) ⟨0,x.ver,[]⟩) (.inr (.inr (Nat.le_succ _))));go_wp2
  have z0_:=Z9.o.c;refine MM (v:=.agg #[.int .i64 0,.int .i64 x.ver,.string ⟨#[]⟩]) ?_ rfl ?_
  ·simp only[fE]at z0_;simp[results,results24,go_sem,z0_]
  ·rw[R.o];have V9:∀ k,(Value.slice (some ⟨g,0,none⟩) (st.ths.length+1) cap).ownBlock=some k->(Value.slice ra st.ths.length rc).ownBlock=some k\/w.heap.size<=k:=fun k hk=>by
    have h5:some g=some k:=hk;cases h5;exact N6.o.imp id fun h9=>by have:=SZ.o;omega
   first
    | exact⟨rfl,_,S9.o,V9,F9.o⟩
    | exact⟨_,rfl,S9.o,V9,F9.o⟩
variable {W:World}
noncomputable def fF (s:Nu) (i:Nat) (t:Th) (a:cm):Nu × uf:=
 if a.kind≠5/\a.version≠0/\a.version≠t.ver then (s,bz 7)
 else if (al s.time s.ver t a).2.2≠0 then (s,bz (al s.time s.ver t a).2.2)
 else ({ s with ths:=s.ths.set i (al s.time s.ver t a).1,ver:=(al s.time s.ver t a).2.1 },⟨0,(al s.time s.ver t a).1.ver,[]⟩)
theorem jC.grA{q:cm}{r}(h:jC w g q)(hg:w.grownBy w' r)(hr:some g≠r):jC w' g q:=(hg.block g (MF.1 h).1 hr).trans h
def Kq (W2:LC) (S:Nat) (v:Value) (time acts:Int) (wS:LC):Prop:=W2.grownBy wS (some S)/\∃ n,eF wS S v time n acts
theorem JI{W2:LC}{time acts}(_:Kq W2 S v time acts (W.alloc (.cells Le 44))):fN (W.alloc (.cells Le 44)) W.heap.size dT none none 0 0 none 0:=MN _ _
theorem Ih{W2:LC}{time acts}(_:Kq W2 S v time acts (W.alloc (.cells Le 44)).drew.drew):fN (W.alloc (.cells Le 44)).drew.drew W.heap.size dT none none 0 0 none 0:=MN _ _
structure Kt (w W5:LC) (ok:Nat->Prop) (S g cap:Nat) (st:Nu) (x:Th) (xv:Int) (xg:Nat) (a b:Option Addr) (c d:Nat) (oa:Option Addr) (oc:Nat):Prop where
 xb:fN W5 xg x a b c d oa oc
 srv:bo W5 (Lj ok w) S (Value.slice (some ⟨g,0,none⟩) st.ths.length cap) { st with ver:=xv }
 fr:kS w W5 S (Value.slice (some ⟨g,0,none⟩) st.ths.length cap)
 rb:dK W5 (w.heap.size+1) 0 0 []
 ok:cQ W5 (fun k=>(ok k/\k < w.heap.size\/w.heap.size+2<=k)/\k≠xg) x a b c d oa oc
 big:w.heap.size+2<=xg
theorem Ke{W2 W':LC}{cap}{st:Nu}{x xv a b oa oc}(hNB:fN W' W2.heap.size dT none none 0 0 none 0)(hb:La W2 W)(L9:W2.heap.size < W.heap.size)(h2:bo W2 (Lj ok w) S (Value.slice (some ⟨g,0,none⟩) st.ths.length cap) st)(f2:kS w W2 S (Value.slice (some ⟨g,0,none⟩) st.ths.length cap))(hr:dK W2 (w.heap.size+1) 0 0 [])(g4:W.grownBy W' (some S))(sb:eF W' S (Value.slice (some ⟨g,0,none⟩) st.ths.length cap) st.time xv st.acts)(k4:cQ W' (bQ (Lj ok w) W.heap.size) x a b c d oa oc)(hz:w.heap.size+2<=W2.heap.size)(hl:S < w.heap.size)(hg:S < g/\g < w.heap.size):Kt w (jE W' W2.heap.size x a b c d oa oc) ok S g cap st x xv W2.heap.size a b c d oa oc:=by
 have G:=g15 W' W2.heap.size x a b c d oa oc;have s4:=(h2.bel hb).grS g4 sb;have r4:dK W' (w.heap.size+1) 0 0 []:=(g4.block _ (MF.1 (hr.bel hb)).1 (by intro e;cases e;omega)).trans (hr.bel hb);refine⟨hNB.put15 x a b c d oa oc,s4.gr G (by omega) (fun e=>by have h5:=Option.some.inj (show some g=some W2.heap.size from e);omega) (fun k hk=>by have:=hk.2;omega),((f2.bel hb).gb g4 (.inl rfl)).gb G (.inr (.inr (by omega))),(G.block _ (MF.1 r4).1 (by intro e;have:=Option.some.inj e;omega)).trans r4,(k4.weak fun k hk=>?_).gr G (fun k hk e=>hk.2 (Option.some.inj e)),hz⟩;rcases hk with hk | hk
 ·exact⟨.inl hk,by have:=hk.2;omega⟩
 ·exact⟨.inr (by omega),by omega⟩
theorem J7{W2 W':LC}{cap}{st:Nu}{x xv a b oa oc}(hb:La W2 W)(h2:bo W2 (Lj ok w) S (Value.slice (some ⟨g,0,none⟩) st.ths.length cap) st)(f2:kS w W2 S (Value.slice (some ⟨g,0,none⟩) st.ths.length cap))(hr:dK W2 (w.heap.size+1) 0 0 [])(g4:W.grownBy W' (some S))(sb:eF W' S (Value.slice (some ⟨g,0,none⟩) st.ths.length cap) st.time xv st.acts)(k4:cQ W' (bQ (Lj ok w) W.heap.size) x a b c d oa oc)(hz:w.heap.size+2<=W2.heap.size)(hl:S < w.heap.size)(hg:S < g/\g < w.heap.size):Kt w (W'.alloc (.cells (Ld x a c b d oa oc) 44)) ok S g cap st x xv W'.heap.size a b c d oa oc:=by
 have G:La W' (W'.alloc (.cells (Ld x a c b d oa oc) 44)):=ae _ _;have s4:=(h2.bel hb).grS g4 sb;have r4:dK W' (w.heap.size+1) 0 0 []:=(g4.block _ (MF.1 (hr.bel hb)).1 (by intro e;cases e;omega)).trans (hr.bel hb);have h7:=hb.size;have h8:=g4.size;refine⟨MN _ _,s4.bel G,((f2.bel hb).gb g4 (.inl rfl)).bel G,r4.bel G,(k4.low.bel G).weak fun k hk=>?_,by omega⟩;have h9:=hk.2;rcases hk.1 with hk | hk
 ·exact⟨.inl hk,by omega⟩
 ·exact⟨.inr (by omega),by omega⟩
theorem Ga(W):La W W.drew.drew:=ab (aC _ 1) (aC _ 1)
theorem CM(w:LC)(ok)(S:Nat)(v)(st:Nu)(i:Nat)(t)(q:cm)(h:bo w ok S v st)(ht:st.ths[i]?=some t)(hv:0<=st.ver/\st.ver<=1000)(hgn:0<=t.gen/\t.gen<=1000)(hN:(bA t.owners).length<=4000000)(hP:∀ o∈t.owners,∀ x∈o.paths,x.length<=140737488351232)(hG:cn w)(hM:bj w)(hW:di w)(hq:q.body.length<=9223372036854775807)(hw:q.who.length<=9223372036854775807):Calls prog 25 #[.pointer (some ⟨S,0,none⟩),.int .i64 i,.agg (Lf q)] w fun e w'=>e=.returned (fX (fF st i t q).2)/\bo w' (Fa ok w.heap.size S v) S v (fF st i t q).1/\kS w w' S v:=by
 obtain⟨W2,hW2⟩:∃ W,W=(w.alloc (.cells (Lf q) 29)).alloc (.cells #[.int .i64 0,.int .i64 0,.string ⟨#[]⟩] 32):=⟨_,rfl⟩
 have Y2:Ll (La w W2):=aa (by rw[hW2];exact ab (ae _ _) (ae _ _));have AB:Ll (jC W2 w.heap.size q):=aa (by rw[hW2];exact fb _ _ _);have RB:Ll (dK W2 (w.heap.size+1) 0 0 []):=aa (by rw[hW2];exact et _ _ _);have HW2:=aa hW2;have S2:=aa (h.low.bel Y2.o);have NO:=aa h.no;have HNE:=aa (fun g (hg:v.ownBlock=some g)=>h.ne hg);have SLT:Ll (S < w.heap.size):=aa h.blk.lt;obtain⟨x,xv,xe,hx⟩:∃ x xv xe,al st.time st.ver t q=(x,xv,xe):=⟨_,_,_,rfl⟩
 have hi:=(Mz.1 ht).1;obtain⟨g,cap,rfl,hgB,hgl,hlc,hc9,hf,Mb,a,b,c,d,oa,oc,hcl,hk⟩:=S2.o.row.at ht;have GL:Ll (S < g/\g < w.heap.size):=aa (HNE.o g rfl);have S2Z:Ll (w.heap.size+2<=W2.heap.size):=aa (by have:=(MF.1 RB.o).1;omega);have q1:(0:Int)<=(i:Int):=by omega
 have q2:(i:Int) < (st.ths.length:Int):=by omega
 have WRIT:Ll (∀ W,La W2 W->Calls prog 38 #[.pointer (some ⟨S,0,none⟩),.agg (Ld t a c b d oa oc),.agg (Lf q)] W fun e w'=>∃ a9 b9 c9 d9 oa9 oc9,e=.returned (.tuple #[.agg (Ld x a9 c9 b9 d9 oa9 oc9),.int .i64 xe])/\cQ w' (bQ (Lj ok w) W.heap.size) x a9 b9 c9 d9 oa9 oc9/\eF w' S (Value.slice (some ⟨g,0,none⟩) st.ths.length cap) st.time xv st.acts/\W.grownBy w' (some S)):=aa (by
  intro W hb;have Y:=ab Y2.o hb;have:=pI W (Lj ok w) S (Value.slice (some ⟨g,0,none⟩) st.ths.length cap) st.time st.ver st.acts t a b c d oa oc q (S2.o.blk.bel hb) (fun hk=>(NO.o S hk.1).1 rfl) hv hgn (hk.bel hb) (hG.grown (r:=none) (aq Y) (by simp)) (hM.bel Y) (hW.bel Y) hN hP hq hw;rw[hx]at this;exact this)
 have CL:Ll (∀ wS,Kq W2 S (Value.slice (some ⟨g,0,none⟩) st.ths.length cap) st.time st.acts wS->∀ j u,(cu t a b c d oa oc)[j]?=some u->wS.cell? ⟨g,i * 15+j,none⟩=some u):=aa (fun wS hS j u hu=>by
  have h1:=hcl j u hu;have h2:=hS.1.block g hgl (fun e=>by cases e;have:=GL.o;omega);rw[<-h1];simp only[World.cell?,h2])
 have HX:=aa hx;have HT:=aa ht;have F2:=aa (eE (S:=S) (v:=(Value.slice (some ⟨g,0,none⟩) st.ths.length cap)) Y2.o);have c7:W2.cell? ⟨g,i * 15+7,none⟩=some (.int .i64 t.ver):=hcl 7 _ rfl;clear hx hW2 h ht hv hgn hN hP hG hM hW hq hw hcl hk hf Mb hgB hgl;obtain⟨q0,q1',q2',q3,q4,q5,q6,q7⟩:=AB.o.c;have s0_:=S2.o.blk.c;by_cases hd:q.kind≠5/\q.version≠0/\q.version≠t.ver
 ·obtain⟨h5,hv0,hvt⟩:=hd;have R:Ll (fF st i t q=(st,bz 7)):=aa (by unfold fF;rw[if_pos ⟨h5,hv0,hvt⟩]);have e5:(q.kind != 5)=true:=by simpa using h5
  have e6:(q.version != 0)=true:=by simpa using hv0
  have e7:(q.version != t.ver)=true:=by simpa using hvt
  have e5':(q.kind == 5)=false:=by simpa using h5
  have e6':(q.version == 0)=false:=by simpa using hv0
  have e7':(q.version == t.ver)=false:=by simpa using hvt
  clear h5 hv0 hvt;go_enter func25,ntmps25;go_upto_region 1 with fail
  rw[<-HW2.o];go_region
  obtain⟨W3,hW3⟩:∃ W,W=W2.drew:=⟨_,rfl⟩
  have Y3:Ll (La W2 W3):=aa (by rw[hW3];exact aC _ 1);rw[<-hW3];clear hW3 q1' q2' c7;have RF:=aa (dh W3 7);go_wp2_with (go_at_call 12;refine RF.o.mono ?_;rintro e w5 ⟨rfl,hb⟩;have B5:=aa (ab Y3.o hb);clear hb;obtain⟨n0,n1,n2,m0,m1,m2⟩:=(RB.o.bel B5.o).c;have Z9:=aa ((RB.o.bel B5.o).set (bz 7)))
  have z0_:=Z9.o.c;have S9:=aa (((S2.o.bel B5.o).new (a:=w) (cE _ _ (bz 7)) SLT.o (fun k hk=>(HNE.o k hk).2) (Nat.le_succ _)).o);have F9:=aa ((F2.o.bel B5.o).gb (cE w5 (w.heap.size+1) (bz 7)) (.inr (.inr (Nat.le_succ _))));refine MM (v:=.agg #[.int .i64 7,.int .i64 0,.string ⟨#[]⟩]) ?_ rfl ?_
  ·simp only[fE,bz]at z0_;simp[results,results25,go_sem,z0_]
  ·rw[R.o];exact⟨rfl,S9.o,F9.o⟩
 have hd3:(q.kind != 5)=false/\(q.kind == 5)=true\/((q.kind != 5)=true/\(q.kind == 5)=false)/\((q.version != 0)=false/\(q.version == 0)=true\/((q.version != 0)=true/\(q.version == 0)=false)/\(q.version != t.ver)=false/\(q.version == t.ver)=true):=by
  by_cases h5:q.kind=5
  ·left;simp[h5]
  ·right;refine⟨by simp[h5],?_⟩;by_cases h6:q.version=0
   ·left;simp[h6]
   ·right;refine⟨by simp[h6],?_⟩;have h7:q.version=t.ver:=by
     apply Classical.byContradiction;intro h7;exact hd ⟨h5,h6,h7⟩
    simp[h7]
 have HD:=aa hd;clear hd;go_enter func25,ntmps25;go_upto_region 1 with fail
 rw[<-HW2.o];go_cut [29] (fun cv wc=>cv=.bool false/\wc=W2.drew)
 case first=>
  rcases hd3 with⟨e5,e5'⟩ | ⟨⟨e5,e5'⟩,⟨e6,e6'⟩ | ⟨⟨e6,e6'⟩,e7,e7'⟩⟩
  all_goals
   go_region
   go_wp2
   go_meet
   case rel=>exact⟨rfl,rfl⟩
 case rest=>
  obtain⟨rfl,rfl⟩:=hcut;clear hd3;go_upto_region 3 with fail
  clear q1' q2' c7;refine aD (fun wS=>Kq W2 S (Value.slice (some ⟨g,0,none⟩) st.ths.length cap) st.time st.acts wS) [14] (by kernel_rfl) ⟨cJ (cJ (az _ _) 1) 1,_,S2.o.blk.bel (Ga _)⟩ (fun LI=>?_);refine WT.out ?_;iterate 9
   first
    | refine OJ 0 ?_ [9,10,11,12,14,15] LI ?_ ?_
    | refine OJ 1 ?_ [2,3,4,6,7,9,10,11,12,14,15] LI ?_ ?_
    | refine OJ 2 ?_ [3,4,6,7,9,10,11,12,14,15] LI ?_ ?_
    | refine OJ 3 ?_ [4,6,7,9,10,11,12,14,15] LI ?_ ?_
    | refine OJ 4 ?_ [6,7,9,10,11,12,14,15] LI ?_ ?_
    | refine OJ 5 ?_ [6,7,9,10,11,12,14,15] LI ?_ ?_
    | refine OJ 6 ?_ [7,9,10,11,12,14,15] LI ?_ ?_
    | refine OJ 7 ?_ [9,10,11,12,14,15] LI ?_ ?_
    | refine OJ 8 ?_ [9,10,11,12,14,15] LI ?_ ?_
   rotate_left
   ·intro wS LN;obtain⟨nq,hSb⟩:=LN.2;have s0_:=hSb.c;obtain⟨q0,q1,q2,q3,q4,q5,q6,q7⟩:=(AB.o.grA LN.1 (by intro e;cases e;exact Nat.lt_irrefl _ SLT.o)).c;have t0:wS.cell? ⟨g,i * 15,none⟩=some (.string ⟨t.name.toArray⟩):=CL.o _ LN 0 _ rfl;have t1:wS.cell? ⟨g,i * 15+1,none⟩=some (.int .i64 t.value.kind):=CL.o _ LN 1 _ rfl;have t2:wS.cell? ⟨g,i * 15+2,none⟩=some (.int .i64 t.value.n):=CL.o _ LN 2 _ rfl;have t3:wS.cell? ⟨g,i * 15+3,none⟩=some (.string ⟨t.value.s.toArray⟩):=CL.o _ LN 3 _ rfl;have t4:wS.cell? ⟨g,i * 15+4,none⟩=some (.slice a t.value.keys.length c):=CL.o _ LN 4 _ rfl;have t5:wS.cell? ⟨g,i * 15+5,none⟩=some (.slice b t.value.l.length d):=CL.o _ LN 5 _ rfl;have t6:wS.cell? ⟨g,i * 15+6,none⟩=some (.slice oa t.owners.length oc):=CL.o _ LN 6 _ rfl;have t7:wS.cell? ⟨g,i * 15+7,none⟩=some (.int .i64 t.ver):=CL.o _ LN 7 _ rfl;have t8:wS.cell? ⟨g,i * 15+8,none⟩=some (.int .i64 t.gen):=CL.o _ LN 8 _ rfl;have t9:wS.cell? ⟨g,i * 15+9,none⟩=some (.string ⟨t.st.a.toArray⟩):=CL.o _ LN 9 _ rfl;have t10:wS.cell? ⟨g,i * 15+10,none⟩=some (.string ⟨t.st.c.toArray⟩):=CL.o _ LN 10 _ rfl;have t11:wS.cell? ⟨g,i * 15+11,none⟩=some (.int .i64 t.st.ph):=CL.o _ LN 11 _ rfl;have t12:wS.cell? ⟨g,i * 15+12,none⟩=some (.int .i64 t.st.st):=CL.o _ LN 12 _ rfl;have t13:wS.cell? ⟨g,i * 15+13,none⟩=some (.int .i64 t.st.we):=CL.o _ LN 13 _ rfl;have t14:wS.cell? ⟨g,i * 15+14,none⟩=some (.int .i64 t.st.si):=CL.o _ LN 14 _ rfl;go_simp;all_goals with_reducible rfl
   simp only[av,List.set]
  repeat' (first
   | exact nl
   |(refine ON 9 (fun K hK=>?_) ?_
     go_simp;refine(WRIT.o _ (by first | exact Ga _ | exact ab (ae _ _) (Ga _))).mono ?_;rintro e w9q ⟨a9,b9,c9,d9,oa9,oc9,rfl,h1,h2,h3⟩;refine hK.out _ _ (⟨am LI.1 h3,_,h2⟩) (fun LJ=>?_);have K4:=aa h1;have SB4:=aa h2;have G4:=aa h3;try replace NB:=aa (NB.o.gr G4.o (fun e=>by cases e;have:=SLT.o;have:=S2Z.o;omega))
     clear h1 h2 h3;clear hK K;replace LI:=LJ;clear LJ;try simp only[Act.put,Mt,Mu,Mv])
   |(refine ON 13 (fun K hK=>?_) ?_
     go_simp;refine hK.out _ _ (⟨bd LI.1 _,by obtain⟨nq,hSb⟩:=LI.2;exact⟨nq,hSb.bel (ae _ _)⟩⟩) (fun LJ=>?_);first | have NB:=aa (JI LJ) | have NB:=aa (Ih LJ)
     clear hK K;replace LI:=LJ;clear LJ;try simp only[Act.put,Mt,Mu,Mv])
   |(refine OO 14 (fun K hK=>?_)
     obtain⟨n0,n1,n2,n3,n4,n5,n6,n7,n8,n9,n10,n11,n12,n13,n14⟩:=NB.o.c;obtain⟨m0,m1,m2,m3,m4,m5,m6,m7,m8,m9,m10,m11,m12,m13,m14⟩:=NB.o.f;go_simp;refine hK.out _ _ ?_;clear hK K;try simp only[Act.put,Mt,Mu,Mv])
   |(refine OO 15 (fun K hK=>?_)
     go_simp;refine hK.out _ _ ?_;clear hK K;try simp only[Act.put,Mt,Mu,Mv])
   |(first
      | refine OJ 10 ?_ [11,12,14,15] (by exact LI) ?_ ?_
      | refine OJ 11 ?_ [14,15] (by exact LI) ?_ ?_
     rotate_left
     ·intro wS LN;go_simp;all_goals with_reducible rfl
     simp only[av,List.set])
   |(refine Pm 12 ?_ (by exact LI) ?_ ?_
     rotate_left
     ·intro wS;go_simp;all_goals with_reducible rfl
     simp only[av,List.set])
   | refine OL [9,13] ?_
   | refine OL [13] ?_
   | refine OL [9] ?_
   | fail)
  all_goals
   refine dn (by kernel_rfl) ?_;first
    |(obtain⟨W5,hW5⟩:∃ W,W=(((((((((((((((w9q.setCell ⟨W2.heap.size,0,none⟩ (.string ⟨x.name.toArray⟩)).setCell ⟨W2.heap.size,1,none⟩ (.int .i64 x.value.kind)).setCell ⟨W2.heap.size,2,none⟩ (.int .i64 x.value.n)).setCell ⟨W2.heap.size,3,none⟩ (.string ⟨x.value.s.toArray⟩)).setCell ⟨W2.heap.size,4,none⟩ (.slice a9 x.value.keys.length c9)).setCell ⟨W2.heap.size,5,none⟩ (.slice b9 x.value.l.length d9)).setCell ⟨W2.heap.size,6,none⟩ (.slice oa9 x.owners.length oc9)).setCell ⟨W2.heap.size,7,none⟩ (.int .i64 x.ver)).setCell ⟨W2.heap.size,8,none⟩ (.int .i64 x.gen)).setCell ⟨W2.heap.size,9,none⟩ (.string ⟨x.st.a.toArray⟩)).setCell ⟨W2.heap.size,10,none⟩ (.string ⟨x.st.c.toArray⟩)).setCell ⟨W2.heap.size,11,none⟩ (.int .i64 x.st.ph)).setCell ⟨W2.heap.size,12,none⟩ (.int .i64 x.st.st)).setCell ⟨W2.heap.size,13,none⟩ (.int .i64 x.st.we)).setCell ⟨W2.heap.size,14,none⟩ (.int .i64 x.st.si)):=⟨_,rfl⟩
      rw[<-hW5];obtain⟨xg,P5⟩:∃ xg,Ll (Kt w W5 ok S g cap st x xv xg a9 b9 c9 d9 oa9 oc9/\xg=W2.heap.size):=⟨_,aa ⟨by rw[hW5];exact Ke NB.o (ab (ae _ _) (Ga _)) (by rw[show ((W2.alloc _).drew.drew).heap.size=W2.heap.size+1 from by simp[World.drew]];omega) S2.o F2.o RB.o G4.o SB4.o K4.o S2Z.o SLT.o GL.o,rfl⟩⟩
      rw[<-P5.o.2])
    |(obtain⟨W5,hW5⟩:∃ W,W=w9q.alloc (.cells (Ld x a9 c9 b9 d9 oa9 oc9) 44):=⟨_,rfl⟩
      rw[<-hW5];obtain⟨xg,P5⟩:∃ xg,Ll (Kt w W5 ok S g cap st x xv xg a9 b9 c9 d9 oa9 oc9/\xg=w9q.heap.size):=⟨_,aa ⟨by rw[hW5];exact J7 (Ga _) S2.o F2.o RB.o G4.o SB4.o K4.o S2Z.o SLT.o GL.o,rfl⟩⟩
      rw[<-P5.o.2])
   clear hW5 NB K4 SB4 G4 LI m3 m4 m5 m6 m7 m8 m9 m10 m11 m12 m13 m14;by_cases hxe:xe=0
   rotate_left
   ·have e0:(xe != 0)=true:=by simpa using hxe
    have e1:(xe == 0)=false:=by rw[MO];exact hxe
    have R:Ll (fF st i t q=(st,bz xe)):=aa (by unfold fF;rw[if_neg HD.o,HX.o,if_pos hxe]);have S5:=aa P5.o.1.srv;rw[show xv=st.ver from by
     have:=nO (time:=st.time) (ver:=st.ver) (t:=t) (a:=q) (by rw[HX.o];exact hxe);rw[HX.o]at this;exact this]at S5
    have RF:=aa (dh W5 xe);clear hxe;go_wp2_with (go_at_call 12;refine RF.o.mono ?_;rintro e w5 ⟨rfl,hb⟩;have B5:=aa hb;clear hb;obtain⟨n0,n1,n2,m0,m1,m2⟩:=(P5.o.1.rb.bel B5.o).c;have Z9:=aa ((P5.o.1.rb.bel B5.o).set (bz xe)))
    have z0_:=Z9.o.c;have S9:=aa (((S5.o.bel B5.o).new (a:=w) (cE _ _ (bz xe)) SLT.o (fun k hk=>(HNE.o k hk).2) (Nat.le_succ _)).o);have F9:=aa ((P5.o.1.fr.bel B5.o).gb (cE w5 (w.heap.size+1) (bz xe)) (.inr (.inr (Nat.le_succ _))));refine MM (v:=.agg #[.int .i64 xe,.int .i64 0,.string ⟨#[]⟩]) ?_ rfl ?_
    ·simp only[fE,bz]at z0_;simp[results,results25,go_sem,z0_]
    ·rw[R.o];exact⟨rfl,S9.o,F9.o⟩
   subst hxe;have R:Ll (fF st i t q=({ st with ths:=st.ths.set i x,ver:=xv },⟨0,x.ver,[]⟩)):=aa (by unfold fF;rw[if_neg HD.o,HX.o,if_neg (by simp)]);have s0_:=P5.o.1.srv.blk.c;obtain⟨t0,t1,t2,t3,t4,t5,t6,t7,t8,t9,t10,t11,t12,t13,t14⟩:=P5.o.1.xb.c;obtain⟨g4,cap4,e4,-,-,-,-,hf4,-,a4,b4,c4,d4,oa4,oc4,hcl4,-⟩:=P5.o.1.srv.row.at HT.o;obtain⟨rfl,rfl⟩:g4=g/\cap4=cap:=by simp only[Value.slice.injEq,Option.some.injEq,Addr.mk.injEq]at e4;exact⟨e4.1.1.symm,e4.2.2.symm⟩
   have n0:=hcl4 0 _ rfl;have m0:=hf4 (i * 15+0);have n1:=hcl4 1 _ rfl;have m1:=hf4 (i * 15+1);have n2:=hcl4 2 _ rfl;have m2:=hf4 (i * 15+2);have n3:=hcl4 3 _ rfl;have m3:=hf4 (i * 15+3);have n4:=hcl4 4 _ rfl;have m4:=hf4 (i * 15+4);have n5:=hcl4 5 _ rfl;have m5:=hf4 (i * 15+5);have n6:=hcl4 6 _ rfl;have m6:=hf4 (i * 15+6);have n7:=hcl4 7 _ rfl;have m7:=hf4 (i * 15+7);have n8:=hcl4 8 _ rfl;have m8:=hf4 (i * 15+8);have n9:=hcl4 9 _ rfl;have m9:=hf4 (i * 15+9);have n10:=hcl4 10 _ rfl;have m10:=hf4 (i * 15+10);have n11:=hcl4 11 _ rfl;have m11:=hf4 (i * 15+11);have n12:=hcl4 12 _ rfl;have m12:=hf4 (i * 15+12);have n13:=hcl4 13 _ rfl;have m13:=hf4 (i * 15+13);have n14:=hcl4 14 _ rfl;have m14:=hf4 (i * 15+14);simp only[Nat.add_zero]at n0 m0;clear hf4 hcl4 e4;go_upto_region 6 with fail
   go_region
   have G9:=aa (jz g4 (cu x a9 b9 c9 d9 oa9 oc9) (i * 15) W5);have OKX:Ll (∀ k,((ok k/\k < w.heap.size\/w.heap.size+2<=k)/\k≠xg)->IT S (Value.slice (some ⟨g4,0,none⟩) st.ths.length cap4) k/\k≠w.heap.size+1/\k≠g4):=aa (by
    have h1:=GL.o;rintro k ⟨hk | hk,-⟩
    ·exact⟨NO.o k hk.1,by have:=hk.2;omega,fun e=>(NO.o k hk.1).2 (by rw[e];rfl)⟩
    ·exact⟨⟨by omega,fun e=>by have h5:=Option.some.inj (show some g4=some k from e);omega⟩,by omega,by omega⟩)
   have K9:Ll (bo (W5.setCells g4 (i * 15) (cu x a9 b9 c9 d9 oa9 oc9)) (fun k=>(ok k/\k < w.heap.size\/w.heap.size+2<=k)/\k≠xg) S (Value.slice (some ⟨g4,0,none⟩) st.ths.length cap4) { st with ths:=st.ths.set i x,ver:=xv }):=aa ⟨P5.o.1.srv.blk.gr G9.o (by intro e;have:=Option.some.inj e;have:=GL.o;omega),(P5.o.1.srv.row.weak fun k hk=>⟨.inl hk,by have:=P5.o.1.big;have:=hk.2;omega⟩).put (fun hk=>(OKX.o _ hk).2.2 rfl) HT.o P5.o.1.ok,fun k hk=>(OKX.o k hk).1⟩;have F9:=aa (P5.o.1.fr.gb G9.o (.inr (.inl rfl)));have X9:=aa (P5.o.1.xb.gr G9.o (by intro e;have:=Option.some.inj e;have:=P5.o.1.big;have:=GL.o;omega));have R9:Ll (dK (W5.setCells g4 (i * 15) (cu x a9 b9 c9 d9 oa9 oc9)) (w.heap.size+1) 0 0 []):=aa ((G9.o.block _ (MF.1 P5.o.1.rb).1 (by intro e;have:=Option.some.inj e;have:=GL.o;omega)).trans P5.o.1.rb);obtain⟨W9,hW9⟩:∃ W,W=(W5.setCells g4 (i * 15) (cu x a9 b9 c9 d9 oa9 oc9)).drew:=⟨_,rfl⟩
   have K10:=aa (K9.o.bel (aC _ 1));have X10:=aa (X9.o.bel (aC _ 1));have R10:=aa (R9.o.bel (aC _ 1));have F10:=aa (F9.o.bel (aC _ 1));change Exit.then _ _ Exit.normal _ (W5.setCells g4 (i * 15) (cu x a9 b9 c9 d9 oa9 oc9)).drew;rw[show (W5.setCells g4 (i * 15) (cu x a9 b9 c9 d9 oa9 oc9)).drewN 1=W9 from hW9.symm]at K10 X10 R10 F10;rw[<-hW9];clear hW9 K9 X9 R9 F9 G9 m3 m4 m5 m6 m7 m8 m9 m10 m11 m12 m13 m14;obtain⟨t0,t1,t2,t3,t4,t5,t6,t7,t8,t9,t10,t11,t12,t13,t14⟩:=X10.o.c;obtain⟨n0,n1,n2,m0,m1,m2⟩:=R10.o.c;have Z9:=aa (R10.o.set ⟨0,x.ver,[]⟩);have S9:=aa ((K10.o.gr (cE _ (w.heap.size+1) ⟨0,x.ver,[]⟩) (by have:=SLT.o;omega) (fun e=>by have h5:=Option.some.inj (show some g4=some (w.heap.size+1) from e);have:=GL.o;omega) (fun k hk=>(OKX.o k hk).2.1)).imp (ok':=Fa ok w.heap.size S (Value.slice (some ⟨g4,0,none⟩) st.ths.length cap4)) (fun k hk=>⟨hk.1.imp (fun h9=>h9.1) (fun h9=>by omega),(OKX.o k hk).1⟩) fun _ hk=>hk.2);have F11:=aa (F10.o.gb (cE W9 (w.heap.size+1) ⟨0,x.ver,[]⟩) (.inr (.inr (Nat.le_succ _))));go_wp2
   have z0_:=Z9.o.c;refine MM (v:=.agg #[.int .i64 0,.int .i64 x.ver,.string ⟨#[]⟩]) ?_ rfl ?_
   ·simp only[fE]at z0_;simp[results,results25,go_sem,z0_]
   ·rw[R.o];exact⟨rfl,S9.o,F11.o⟩
theorem yj{l n}(h:∀ x∈l,Op.bytesLess n x.name=true):ci l n=0:=by
 unfold ci;rw[List.countP_eq_zero];intro x hx h9;have h1:=cP _ _ _ (h x hx) h9;rw[cd]at h1;cases h1
theorem nR:∀ (l:List Th) (n:Lz),bD (l.map Th.name)->dR l n=true->∃ t,l[ci l n]?=some t/\t.name=n
 | [],n,_,h=>by simp[dR]at h
 | x :: l,n,hr,h=>by
  have hx:∀ y∈l,Op.bytesLess x.name y.name=true:=fun y hy=>(List.pairwise_cons.1 hr).1 y.name (List.mem_map.2 ⟨y,hy,rfl⟩);have hl:bD (l.map Th.name):=(List.pairwise_cons.1 hr).2;by_cases he:x.name=n
  ·subst he;refine⟨x,?_,rfl⟩;have h0:ci (x :: l) x.name=0:=by
    have:=yj hx;unfold ci at this ⊢;rw[List.countP_cons_of_neg (by rw[cd];simp),this]
   rw[h0];rfl
  ·have h1:dR l n=true:=by
    unfold dR at h ⊢;rw[List.any_cons]at h;simpa [he] using h
   obtain⟨t,h2,h3⟩:=nR l n hl h1;refine⟨t,?_,h3⟩;have h4:Op.bytesLess x.name n=true:=by rw[<-h3];exact hx t (List.mem_of_getElem? h2)
   have h5:ci (x :: l) n=ci l n+1:=by
    unfold ci;rw[List.countP_cons_of_pos (by exact h4)]
   rw[h5];simpa using h2
theorem C8{s:Nu}{a:cm}{e}(h:cj s.ths.length a.kind (dR s.ths a.name)=e)(he:e≠0):dD s a=(s,bz e):=by
 unfold dD;simp only[h];rw[if_pos he]
theorem nQ{s:Nu}{a:cm}(h:cj s.ths.length a.kind (dR s.ths a.name)=0)(ht:dR s.ths a.name=false):dD s a=iF s (ci s.ths a.name) a:=by
 rw[ht]at h;unfold dD iF;simp only[ht,h];rw[if_neg (by simp)];cases hp:s.ths[ci s.ths a.name]? with
 | some t=>simp
 | none=>
  have hle:s.ths.length<=ci s.ths a.name:=by simpa using hp
  simp only;rw[MD hle,List.drop_eq_nil_of_le hle]
theorem fk{s:Nu}{a:cm}{t}(h:cj s.ths.length a.kind (dR s.ths a.name)=0)(ht:dR s.ths a.name=true)(hp:s.ths[ci s.ths a.name]?=some t):dD s a=if a.kind=6 then oA s (ci s.ths a.name) t else if a.kind=7 then iG s (ci s.ths a.name) t a.order else if a.kind=9 then (s,pj t) else fF s (ci s.ths a.name) t a:=by
 rw[ht]at h;unfold dD;simp only[ht,h,hp];rw[if_neg (by simp),if_neg (by simp)];rfl
def td (w:LC) (ok:Nat->Prop) (S:Nat) (v:Value) (p:Nu × uf) (e:Ending) (w':LC):Prop:=∃ v',e=.returned (fX p.2)/\bo w' (Fa ok w.heap.size S v') S v' p.1/\(∀ g,v'.ownBlock=some g->v.ownBlock=some g\/w.heap.size<=g)/\kS w w' S v
theorem rG{W3 w5:LC}(hr:dK W3 (w.heap.size+1) 0 0 [])(hS:S < w.heap.size)(hv0:∀ k,v.ownBlock=some k->k < w.heap.size)(f5:kS W3 w5 S v):dK w5 (w.heap.size+1) 0 0 []:=
 (f5.block _ (MF.1 hr).1 (by omega) (fun e=>by have:=hv0 _ e;omega)).trans hr
theorem gF{W3 w5 v'}{p:Nu × uf}{e}(F3:kS w W3 S v)(hB:w.heap.size+2<=W3.heap.size)(hS:S < w.heap.size)(hv0:∀ k,v.ownBlock=some k->k < w.heap.size)(h5:bo w5 (Fa (Lj ok w) W3.heap.size S v') S v' p.1)(hv:∀ g,v'.ownBlock=some g->v.ownBlock=some g\/W3.heap.size<=g)(f5:kS W3 w5 S v)(he:e=.returned (fX p.2)):td w ok S v p e (fE w5 (w.heap.size+1) p.2):=by
 have hv2:∀ g,v'.ownBlock=some g->g≠w.heap.size+1:=fun g hg=>by
  rcases hv g hg with h1 | h1
  ·have:=hv0 g h1;omega
  ·omega
 refine⟨v',he,(h5.gr (cE _ _ _) (by omega) (fun e=>hv2 _ e rfl) (fun k hk=>?_)).imp (fun k hk=>⟨hk.1.imp (fun h9=>h9.1) (fun h9=>by omega),hk.2⟩) (fun _ hk=>hk.2),fun g hg=>(hv g hg).imp id fun h9=>by omega,(F3.trans f5 fun g hg=>.inl hg).gb (cE _ _ _) (.inr (.inr (by omega)))⟩;rcases hk.1 with h9 | h9
 ·have:=h9.2;omega
 ·omega
theorem bo.outB{C:Nat}{st:Nu}(h:bo w (fun k=>ok k/\k < B) S v st)(_:B+2<=C):bo w (Fa (fun k=>ok k/\k < B) C S v) S v st:=h.imp (fun k hk=>⟨.inl hk,h.no k hk⟩) fun _ hk=>hk.2
theorem Bk(w:LC)(ok S v)(st:Nu)(q:cm)(h:bo w ok S v st)(hg:dP st)(hG:cn w)(hM:bj w)(hW:di w)(hn:q.name.length<=9223372036854775807)(hq:q.body.length<=9223372036854775807)(hw:q.who.length<=9223372036854775807):Calls prog 15 #[.pointer (some ⟨S,0,none⟩),.agg (Lf q)] w fun e w'=>td w ok S v (dD st q) e w':=by
 obtain⟨W2,hW2⟩:∃ W,W=(w.alloc (.cells (Lf q) 29)).alloc (.cells #[.int .i64 0,.int .i64 0,.string ⟨#[]⟩] 32):=⟨_,rfl⟩
 have Y2:Ll (La w W2):=aa (by rw[hW2];exact ab (ae _ _) (ae _ _));have AB:Ll (jC W2 w.heap.size q):=aa (by rw[hW2];exact fb _ _ _);have RB:Ll (dK W2 (w.heap.size+1) 0 0 []):=aa (by rw[hW2];exact et _ _ _);have HW2:=aa hW2;have S2:=aa (h.low.bel Y2.o);have NO:=aa h.no;have HNE:=aa (fun g (hg:v.ownBlock=some g)=>h.ne hg);have SLT:Ll (S < w.heap.size):=aa h.blk.lt;have HV0:=aa (fun k (hk:v.ownBlock=some k)=>(HNE.o k hk).2);have GOOD:=aa hg;have HGl:=aa hG;have HMl:=aa hM;have HWl:=aa hW;have HN:=aa hn;have HQ:=aa hq;have HW_:=aa hw;obtain⟨va,vc,hform⟩:=S2.o.row.form;obtain⟨th,hth⟩:∃ th,dR st.ths q.name=th:=⟨_,rfl⟩
 obtain⟨pl,hpl⟩:∃ pl,ci st.ths q.name=pl:=⟨_,rfl⟩
 have HTH:=aa hth;have HPL:=aa hpl;have FIND:Ll (∀ W,La W2 W->Calls prog 19 #[v,.string ⟨q.name.toArray⟩] W fun e w'=>e=.returned (.tuple #[.int .i64 (pl:Nat),.bool th])/\La W w'):=aa (fun W hb=>by
  have:=yN W _ st.ths v q.name (S2.o.row.ths.bel hb) GOOD.o.rise (by have:=GOOD.o.len;omega);rw[HPL.o,<-AZ,HTH.o]at this;exact this)
 have L8:Ll (st.ths.length<=9223372036854775807):=aa (by have:=hg.len;omega);clear hW2 h hg hG hM hW hn hq hw hth hpl;subst hform;go_enter func15,ntmps15;go_upto_region 1 with fail
 rw[<-HW2.o];refine aD (fun wS=>La W2 wS) [] (by kernel_rfl) (aC _ 1) (fun LI=>?_);refine WT.out ?_;iterate 6
  first
   | refine OJ 0 ?_ [] LI ?_ ?_
   | refine OJ 1 ?_ [] LI ?_ ?_
   | refine OJ 2 ?_ [] LI ?_ ?_
   | refine OJ 3 ?_ [] LI ?_ ?_
   | refine OJ 4 ?_ [] LI ?_ ?_
   | refine OJ 5 ?_ [] LI ?_ ?_
  rotate_left
  ·intro wS LN;have s0_:=(S2.o.blk.bel LN).c;have q0_:=(AB.o.bel LN).c;go_simp;all_goals with_reducible rfl
  simp only[av,List.set]
 repeat' (first
  | exact nl
  |(refine ON 6 (fun K hK=>?_) ?_
    go_simp;refine Lk (FIND.o _ LI) fun w6q hb5=>?_;refine hK.out _ _ (ab LI hb5) (fun LJ=>?_);have B3:=aa LJ;clear hb5;clear hK K;replace LI:=LJ;clear LJ;try simp only[Act.put,Mt,Mu,Mv])
  |(first
     | refine OJ 7 ?_ [] (by exact LI) ?_ ?_
     | refine OJ 8 ?_ [] (by exact LI) ?_ ?_
     | refine OJ 9 ?_ [] (by exact LI) ?_ ?_
     | refine OJ 10 ?_ [] (by exact LI) ?_ ?_
     | refine OJ 11 ?_ [] (by exact LI) ?_ ?_
    rotate_left
    ·intro wS LN;go_simp;all_goals with_reducible rfl
    simp only[av,List.set])
  | refine OL [6] ?_
  | fail)
 all_goals
  refine dn (by kernel_rfl) ?_;obtain⟨W3,hW3⟩:∃ W,W=w6q:=⟨_,rfl⟩
  rw[<-hW3]at B3 ⊢;clear hW3 LI;have Y3:=aa (ab Y2.o B3.o);have S3:=aa (S2.o.bel B3.o);have AB3:=aa (AB.o.bel B3.o);have RB3:=aa (RB.o.bel B3.o);have F3:=aa (eE (S:=S) (v:=.slice va st.ths.length vc) Y3.o);have SZ3:Ll (w.heap.size+2<=W3.heap.size):=aa (by have:=(MF.1 RB3.o).1;omega);obtain⟨be,hbe⟩:∃ be,cj st.ths.length q.kind th=be:=⟨_,rfl⟩
  have BA:=DA W3 S st.ths.length vc va st.time st.ver st.acts q.kind th S3.o.blk L8.o;rw[hbe]at BA;have BAR:=aa BA;have HB:=aa hbe;clear BA hbe;have q0_:=AB3.o.c;have s0_:=S3.o.blk.c;go_upto_region 3 with (go_at_call 20;refine BAR.o.mono ?_;rintro e w4 ⟨rfl,hw4⟩;obtain rfl:W3=w4:=hw4.symm)
  by_cases hbe:be=0
  rotate_left
  ·have e0:(be != 0)=true:=by simpa using hbe
   have e1:(be == 0)=false:=by rw[MO];exact hbe
   have HB0:=aa hbe;clear hbe;have RF:=aa (dh W3 be);have R:Ll (dD st q=(st,bz be)):=aa (C8 (by rw[HTH.o];exact HB.o) HB0.o);go_wp2_with (go_at_call 12;refine RF.o.mono ?_;rintro e w5 ⟨rfl,hh⟩;have D9:=aa (gF (e:=.returned (fX (bz be))) (p:=(st,bz be)) (w:=w) (ok:=ok) F3.o SZ3.o SLT.o HV0.o ((S3.o.bel hh).outB SZ3.o) (fun _ hg=>.inl hg) (eE hh) rfl);have RB5:=aa (RB3.o.bel hh);have n0_:=RB5.o.c;have Z9:=aa (RB5.o.set (bz be));clear hh)
   rw[R.o];have z0_:=Z9.o.c;refine MM (v:=.agg #[.int .i64 be,.int .i64 0,.string ⟨#[]⟩]) ?_ rfl ?_
   ·simp only[fE,bz]at z0_;simp[results,results15,go_sem,z0_]
   ·exact D9.o
  subst hbe;have HBE:=HB;cases th with
  | false=>
   have BN:=aa (lD GOOD.o.len HBE.o);have k6:(q.kind == 6)=false:=by rw[MO];have:=BN.o.2;omega
   have k7:(q.kind == 7)=false:=by rw[MO];have:=BN.o.2;omega
   have k9:(q.kind == 9)=false:=by rw[MO];have:=BN.o.2;omega
   have LP:Ll (pl<=st.ths.length):=aa (by rw[<-HPL.o];exact sI _ _);obtain⟨rs,rr,hrr⟩:∃ rs rr,iF st pl q=(rs,rr):=⟨_,_,rfl⟩
   have CON:=FN W3 (Lj ok w) S (.slice va st.ths.length vc) st pl q S3.o ⟨GOOD.o.ver.1,by have:=GOOD.o.ver.2;have:=GOOD.o.acts;omega⟩ LP.o GOOD.o.len (HGl.o.grown (r:=none) (aq Y3.o) (by simp)) (HMl.o.bel Y3.o) (HWl.o.bel Y3.o) HN.o HQ.o HW_.o;rw[hrr]at CON;simp only[fX]at CON;have CONT:=aa CON;have R:Ll (dD st q=(rs,rr)):=aa (by rw[nQ (by rw[HTH.o];exact HBE.o) HTH.o,HPL.o];exact hrr);clear CON hrr;go_wp2_with (go_at_call 24;refine CONT.o.mono ?_;rintro e w5 ⟨v5,rfl,h1,h2,h3⟩;have D9:=aa (gF (e:=.returned (fX rr)) (p:=(rs,rr)) (w:=w) (ok:=ok) F3.o SZ3.o SLT.o HV0.o (h1) (h2) (h3) rfl);have RB5:=aa (rG RB3.o SLT.o HV0.o (h3));have n0_:=RB5.o.c;have Z9:=aa (RB5.o.set rr);clear h1 h2 h3)
   rw[R.o];have z0_:=Z9.o.c;refine MM (v:=.agg #[.int .i64 rr.code,.int .i64 rr.n,.string ⟨rr.body.toArray⟩]) ?_ rfl ?_
   ·simp only[fE]at z0_;simp[results,results15,go_sem,z0_]
   ·exact D9.o
  | true=>
   obtain⟨t,hpt,htn⟩:=nR st.ths q.name GOOD.o.rise HTH.o;rw[HPL.o]at hpt;have HPT:=aa hpt;have GT:=aa (GOOD.o.ths t (List.mem_of_getElem? hpt));clear htn;by_cases hk6:q.kind=6
   ·have HK:=aa hk6;have k6:(q.kind == 6)=true:=by simp[hk6]
    clear hk6;obtain⟨rs,rr,hrr⟩:∃ rs rr,oA st pl t=(rs,rr):=⟨_,_,rfl⟩
    have CON:=BM W3 (Lj ok w) S (.slice va st.ths.length vc) st pl t S3.o hpt GOOD.o.len;rw[hrr]at CON;simp only[fX]at CON;have CONT:=aa CON;have R:Ll (dD st q=(rs,rr)):=aa (by rw[fk (by rw[HTH.o];exact HBE.o) HTH.o (by rw[HPL.o];exact HPT.o)];rw[HPL.o];rw[if_pos HK.o];exact hrr);clear CON hrr;clear hpt;go_wp2_with (go_at_call 21;refine CONT.o.mono ?_;rintro e w5 ⟨v5,rfl,h1,h2,h3⟩;have D9:=aa (gF (e:=.returned (fX rr)) (p:=(rs,rr)) (w:=w) (ok:=ok) F3.o SZ3.o SLT.o HV0.o (h1) (fun g hg=>.inl (h2 ▸ hg)) (h3) rfl);have RB5:=aa (rG RB3.o SLT.o HV0.o (h3));have n0_:=RB5.o.c;have Z9:=aa (RB5.o.set rr);clear h1 h2 h3)
    rw[R.o];have z0_:=Z9.o.c;refine MM (v:=.agg #[.int .i64 rr.code,.int .i64 rr.n,.string ⟨rr.body.toArray⟩]) ?_ rfl ?_
    ·simp only[fE]at z0_;simp[results,results15,go_sem,z0_]
    ·exact D9.o
   have HK6:=aa hk6;have k6:(q.kind == 6)=false:=by rw[MO];exact hk6
   clear hk6;by_cases hk7:q.kind=7
   ·have HK:=aa hk7;have k7:(q.kind == 7)=true:=by simp[hk7]
    clear hk7;obtain⟨rs,rr,hrr⟩:∃ rs rr,iG st pl t q.order=(rs,rr):=⟨_,_,rfl⟩
    have CON:=FZ W3 (Lj ok w) S (.slice va st.ths.length vc) st pl q.order t S3.o hpt;rw[hrr]at CON;simp only[fX]at CON;have CONT:=aa CON;have R:Ll (dD st q=(rs,rr)):=aa (by rw[fk (by rw[HTH.o];exact HBE.o) HTH.o (by rw[HPL.o];exact HPT.o)];rw[HPL.o];rw[if_neg HK6.o,if_pos HK.o];exact hrr);clear CON hrr;clear hpt;go_wp2_with (go_at_call 22;refine CONT.o.mono ?_;rintro e w5 ⟨rfl,h1,h3⟩;have D9:=aa (gF (e:=.returned (fX rr)) (p:=(rs,rr)) (w:=w) (ok:=ok) F3.o SZ3.o SLT.o HV0.o (h1) (fun _ hg=>.inl hg) (h3) rfl);have RB5:=aa (rG RB3.o SLT.o HV0.o (h3));have n0_:=RB5.o.c;have Z9:=aa (RB5.o.set rr);clear h1 h3)
    rw[R.o];have z0_:=Z9.o.c;refine MM (v:=.agg #[.int .i64 rr.code,.int .i64 rr.n,.string ⟨rr.body.toArray⟩]) ?_ rfl ?_
    ·simp only[fE]at z0_;simp[results,results15,go_sem,z0_]
    ·exact D9.o
   have HK7:=aa hk7;have k7:(q.kind == 7)=false:=by rw[MO];exact hk7
   clear hk7;by_cases hk9:q.kind=9
   ·have HK:=aa hk9;have k9:(q.kind == 9)=true:=by simp[hk9]
    clear hk9;obtain⟨g,cap,e9,hgB,hgl,hlc,hc9,hf,Mb,a,b,c,d,oa,oc,hcl,hkk⟩:=S3.o.row.at hpt;obtain⟨rfl,rfl⟩:va=some ⟨g,0,none⟩/\cap=vc:=by simp only[Value.slice.injEq]at e9;exact⟨e9.1,e9.2.2.symm⟩
    have w2:(pl:Int) < (st.ths.length:Int):=by have:=(Mz.1 hpt).1;omega
    have w3:(0:Int)<=(pl:Int):=by omega
    have t0:W3.cell? ⟨g,pl * 15,none⟩=some (.string ⟨t.name.toArray⟩):=hcl 0 _ rfl;have t1:W3.cell? ⟨g,pl * 15+1,none⟩=some (.int .i64 t.value.kind):=hcl 1 _ rfl;have t2:W3.cell? ⟨g,pl * 15+2,none⟩=some (.int .i64 t.value.n):=hcl 2 _ rfl;have t3:W3.cell? ⟨g,pl * 15+3,none⟩=some (.string ⟨t.value.s.toArray⟩):=hcl 3 _ rfl;have t4:W3.cell? ⟨g,pl * 15+4,none⟩=some (.slice a t.value.keys.length c):=hcl 4 _ rfl;have t5:W3.cell? ⟨g,pl * 15+5,none⟩=some (.slice b t.value.l.length d):=hcl 5 _ rfl;have t6:W3.cell? ⟨g,pl * 15+6,none⟩=some (.slice oa t.owners.length oc):=hcl 6 _ rfl;have t7:W3.cell? ⟨g,pl * 15+7,none⟩=some (.int .i64 t.ver):=hcl 7 _ rfl;have t8:W3.cell? ⟨g,pl * 15+8,none⟩=some (.int .i64 t.gen):=hcl 8 _ rfl;have t9:W3.cell? ⟨g,pl * 15+9,none⟩=some (.string ⟨t.st.a.toArray⟩):=hcl 9 _ rfl;have t10:W3.cell? ⟨g,pl * 15+10,none⟩=some (.string ⟨t.st.c.toArray⟩):=hcl 10 _ rfl;have t11:W3.cell? ⟨g,pl * 15+11,none⟩=some (.int .i64 t.st.ph):=hcl 11 _ rfl;have t12:W3.cell? ⟨g,pl * 15+12,none⟩=some (.int .i64 t.st.st):=hcl 12 _ rfl;have t13:W3.cell? ⟨g,pl * 15+13,none⟩=some (.int .i64 t.st.we):=hcl 13 _ rfl;have t14:W3.cell? ⟨g,pl * 15+14,none⟩=some (.int .i64 t.st.si):=hcl 14 _ rfl;have TOLD0:=Hn W3 _ t a b c d oa oc hkk (HGl.o.grown (r:=none) (aq Y3.o) (by simp));obtain⟨rr,hrr⟩:∃ rr,pj t=rr:=⟨_,rfl⟩
    rw[hrr]at TOLD0;simp only[fX]at TOLD0;have CONT:=aa TOLD0;have R:Ll (dD st q=(st,rr)):=aa (by rw[fk (by rw[HTH.o];exact HBE.o) HTH.o (by rw[HPL.o];exact HPT.o)];rw[HPL.o];rw[if_neg HK6.o,if_neg HK7.o,if_pos HK.o,hrr]);clear TOLD0 hrr hcl hkk hf Mb hgB hgl e9 hpt;go_wp2_with (go_at_call 23;refine CONT.o.mono ?_;rintro e w5 ⟨rfl,hh⟩;have D9:=aa (gF (e:=.returned (fX rr)) (p:=(st,rr)) (w:=w) (ok:=ok) F3.o SZ3.o SLT.o HV0.o ((S3.o.bel hh).outB SZ3.o) (fun _ hg=>.inl hg) (eE hh) rfl);have RB5:=aa (RB3.o.bel hh);have n0_:=RB5.o.c;have Z9:=aa (RB5.o.set rr);clear hh)
    rw[R.o];have z0_:=Z9.o.c;refine MM (v:=.agg #[.int .i64 rr.code,.int .i64 rr.n,.string ⟨rr.body.toArray⟩]) ?_ rfl ?_
    ·simp only[fE]at z0_;simp[results,results15,go_sem,z0_]
    ·exact D9.o
   have HK9:=aa hk9;have k9:(q.kind == 9)=false:=by rw[MO];exact hk9
   clear hk9;have PL:Ll ((bA t.owners).length<=4000000):=aa (by have h1:=sx _ GT.o.lim;have h2:=(gz GT.o.own).1;omega);have PP:Ll (∀ o∈t.owners,∀ x∈o.paths,x.length<=140737488351232):=aa (fun o ho x hx=>(zw ((mT ((gz GT.o.own).2.1 o ho).2).2.1 x hx)).1);have GNB:Ll (0<=t.gen/\t.gen<=1000):=aa (by have h1:=GT.o.gen;have h2:=GT.o.ver;have h3:=GOOD.o.ver.2;have h4:=GOOD.o.acts;omega);obtain⟨rs,rr,hrr⟩:∃ rs rr,fF st pl t q=(rs,rr):=⟨_,_,rfl⟩
   have CON:=CM W3 (Lj ok w) S (.slice va st.ths.length vc) st pl t q S3.o hpt ⟨GOOD.o.ver.1,by have:=GOOD.o.ver.2;have:=GOOD.o.acts;omega⟩ GNB.o PL.o PP.o (HGl.o.grown (r:=none) (aq Y3.o) (by simp)) (HMl.o.bel Y3.o) (HWl.o.bel Y3.o) HQ.o HW_.o;rw[hrr]at CON;simp only[fX]at CON;have CONT:=aa CON;have R:Ll (dD st q=(rs,rr)):=aa (by rw[fk (by rw[HTH.o];exact HBE.o) HTH.o (by rw[HPL.o];exact HPT.o)];rw[HPL.o];rw[if_neg HK6.o,if_neg HK7.o,if_neg HK9.o];exact hrr);clear CON hrr;clear hpt;go_wp2_with (go_at_call 25;refine CONT.o.mono ?_;rintro e w5 ⟨rfl,h1,h3⟩;have D9:=aa (gF (e:=.returned (fX rr)) (p:=(rs,rr)) (w:=w) (ok:=ok) F3.o SZ3.o SLT.o HV0.o (h1) (fun _ hg=>.inl hg) (h3) rfl);have RB5:=aa (rG RB3.o SLT.o HV0.o (h3));have n0_:=RB5.o.c;have Z9:=aa (RB5.o.set rr);clear h1 h3)
   rw[R.o];have z0_:=Z9.o.c;refine MM (v:=.agg #[.int .i64 rr.code,.int .i64 rr.n,.string ⟨rr.body.toArray⟩]) ?_ rfl ?_
   ·simp only[fE]at z0_;simp[results,results15,go_sem,z0_]
   ·exact D9.o
structure Gl (w:LC) (S:Nat):Prop where
 g:cn w
 m:bj w
 w:di w
 top:7<=S/\0 < S/\2 < S
theorem Gl.gr(h:Gl w S)(hb:∀ k,k < S->k < w.heap.size->w'.heap[k]?=w.heap[k]?)(ht:w'.os=w.os/\w'.tape=w.tape/\w'.output=w.output/\w.heap.size<=w'.heap.size):Gl w' S:=by
 obtain⟨m,hm⟩:=h.m;obtain⟨t,f,hw⟩:=h.w;have h1:=h.top;refine⟨?_,⟨m,?_⟩,⟨t,f,?_⟩,h.top⟩
 ·have hG:=h.g;unfold cn at hG ⊢;obtain⟨⟨tp,p,t,f,h1'⟩,⟨tq,q,t2,f2,h2⟩,⟨t3,f3,h3⟩⟩:=hG;have lt:∀ k o,w.heap[k]?=some o->k < w.heap.size:=fun k o hk=>(MF.1 hk).1;refine⟨⟨tp,p,t,f,?_⟩,⟨tq,q,t2,f2,?_⟩,⟨t3,f3,?_⟩⟩
  ·rw[hb _ (by omega) (lt _ _ h1')];exact h1'
  ·rw[hb _ (by omega) (lt _ _ h2)];exact h2
  ·rw[hb _ (by omega) (lt _ _ h3)];exact h3
 ·have:=World.block_lt_of_cell? w _ hm;simp only[World.cell?]at hm ⊢;rw[hb _ h1.2.1 this];exact hm
 ·rw[hb _ h1.2.2 (MF.1 hw).1];exact hw
theorem Gl.bel(h:Gl w S)(hb:La w w'):Gl w' S:=h.gr (fun k _ hk=>hb.block k hk) ⟨hb.os,hb.tape,hb.output,hb.size⟩
theorem Gl.sfr(h:Gl w S)(f:kS w w' S v)(hv:∀ k,v.ownBlock=some k->S < k):Gl w' S:=h.gr (fun k hS hk=>f.block k hk (by omega) (fun e=>by have:=hv k e;omega)) ⟨f.os,f.tape,f.output,f.size⟩
theorem Kd(w:LC)(ok S v)(st:Nu)(q:cm)(h:bo w ok S v st)(hg:dP st)(hGl:Gl w S)(hn:q.name.length<=9223372036854775807)(hq:q.body.length<=9223372036854775807)(hw:q.who.length<=9223372036854775807):Calls prog 7 #[.pointer (some ⟨S,0,none⟩),.agg (Lf q)] w fun e w'=>td w ok S v (je st q) e w':=by
 obtain⟨W2,hW2⟩:∃ W,W=(w.alloc (.cells (Lf q) 29)).alloc (.cells #[.int .i64 0,.int .i64 0,.string ⟨#[]⟩] 32):=⟨_,rfl⟩
 have Y2:Ll (La w W2):=aa (by rw[hW2];exact ab (ae _ _) (ae _ _));have AB:Ll (jC W2 w.heap.size q):=aa (by rw[hW2];exact fb _ _ _);have RB:Ll (dK W2 (w.heap.size+1) 0 0 []):=aa (by rw[hW2];exact et _ _ _);have HW2:=aa hW2;have S2:=aa (h.low.bel Y2.o);have NO:=aa h.no;have HNE:=aa (fun g (hg:v.ownBlock=some g)=>h.ne hg);have SLT:Ll (S < w.heap.size):=aa h.blk.lt;have HV0:=aa (fun k (hk:v.ownBlock=some k)=>(HNE.o k hk).2);have GOOD:=aa hg;have GLO:=aa hGl;have HN:=aa hn;have HQ:=aa hq;have HW_:=aa hw;clear hW2 h hg hGl hn hq hw;have SZ3:Ll (w.heap.size+2<=W2.heap.size):=aa (by have:=(MF.1 RB.o).1;omega);have F2:=aa (eE (S:=S) (v:=v) Y2.o);have s0_:=S2.o.blk.c;by_cases h300:st.acts=300
 ·have e3:(st.acts == 300)=true:=by simp[h300]
  have H3:=aa h300;clear h300;go_enter func7,ntmps7;go_upto_region 1 with fail
  rw[<-HW2.o];have RF:=aa (dh W2 10);have R:Ll (je st q=(st,bz 10)):=aa (by unfold je;rw[if_pos H3.o]);go_wp2_with (go_at_call 12;refine RF.o.mono ?_;rintro e w5 ⟨rfl,hh⟩;have D9:=aa (gF (e:=.returned (fX (bz 10))) (p:=(st,bz 10)) (w:=w) (ok:=ok) F2.o SZ3.o SLT.o HV0.o ((S2.o.bel hh).outB SZ3.o) (fun _ hg=>.inl hg) (eE hh) rfl);have RB5:=aa (RB.o.bel hh);have n0_:=RB5.o.c;have Z9:=aa (RB5.o.set (bz 10));clear hh)
  rw[R.o];have z0_:=Z9.o.c;refine MM (v:=.agg #[.int .i64 10,.int .i64 0,.string ⟨#[]⟩]) ?_ rfl ?_
  ·simp only[fE,bz]at z0_;simp[results,results7,go_sem,z0_]
  ·exact D9.o
 have e3:(st.acts == 300)=false:=by rw[MO];exact h300
 have H3:=aa h300;have hwA:IntKind.i64.wrap (st.acts+1)=st.acts+1:=by have h1:=GOOD.o.acts;have h2:=GOOD.o.ver;rw[IntKind.wrap_i64];omega
 clear h300;obtain⟨f0,f1,f2,f3⟩:=S2.o.blk.f;go_enter func7,ntmps7;go_upto_region 1 with fail
 rw[<-HW2.o];go_upto_region 6 with fail
 clear f0 f1 f2 f3;obtain⟨W3,hW3⟩:∃ W,W=W2.setCell ⟨S,3,none⟩ (.int .i64 (st.acts+1)):=⟨_,rfl⟩
 have G3:Ll (W2.grownBy W3 (some S)):=aa (by rw[hW3];exact ap (az _ _) _ _);have S3:Ll (bo W3 (Lj ok w) S v { st with acts:=st.acts+1 }):=aa (S2.o.grS (time:=st.time) (ver:=st.ver) G3.o (by rw[hW3];exact ak S2.o.blk 3 _));rw[<-hW3];clear hW3;have F3:=aa (F2.o.gb G3.o (.inl rfl));have AB3:Ll (jC W3 w.heap.size q):=aa (AB.o.grA G3.o (by intro e;have:=Option.some.inj e;have:=SLT.o;omega));have RB3:Ll (dK W3 (w.heap.size+1) 0 0 []):=aa ((G3.o.block _ (MF.1 RB.o).1 (by intro e;have:=Option.some.inj e;have:=SLT.o;omega)).trans RB.o);have GL3:=aa (GLO.o.sfr F3.o (fun k hk=>(HNE.o k hk).1));have SZ:=aa G3.o.size;replace SZ3:Ll (w.heap.size+2<=W3.heap.size):=aa (MH SZ3.o SZ.o);have GD3:Ll (dP { st with acts:=st.acts+1 }):=aa ⟨GOOD.o.time,⟨GOOD.o.ver.1,by have:=GOOD.o.ver.2;simp only;omega⟩,by have h1:=GOOD.o.acts;have h2:=H3.o;simp only;omega,GOOD.o.len,GOOD.o.rise,GOOD.o.ths⟩;have D0:Ll (je st q=if q.kind < 1\/9 < q.kind then ({ st with acts:=st.acts+1 },bz 9) else if q.kind=8 then iz { st with acts:=st.acts+1 } q.n else if bT q.name=false then ({ st with acts:=st.acts+1 },bz 1) else dD { st with acts:=st.acts+1 } q):=aa (by unfold je;rw[if_neg H3.o]);have q0_:=AB3.o.c;by_cases hk1:q.kind < 1
 ·have H1:=aa hk1;have RF:=aa (dh W3 9);have R:Ll (je st q=({ st with acts:=st.acts+1 },bz 9)):=aa (by rw[D0.o,if_pos (.inl H1.o)]);go_wp2_with (go_at_call 12;refine RF.o.mono ?_;rintro e w5 ⟨rfl,hh⟩;have D9:=aa (gF (e:=.returned (fX (bz 9))) (p:=({ st with acts:=st.acts+1 },bz 9)) (w:=w) (ok:=ok) F3.o SZ3.o SLT.o HV0.o ((S3.o.bel hh).outB SZ3.o) (fun _ hg=>.inl hg) (eE hh) rfl);have RB5:=aa (RB3.o.bel hh);have n0_:=RB5.o.c;have Z9:=aa (RB5.o.set (bz 9));clear hh)
  rw[R.o];have z0_:=Z9.o.c;refine MM (v:=.agg #[.int .i64 9,.int .i64 0,.string ⟨#[]⟩]) ?_ rfl ?_
  ·simp only[fE,bz]at z0_;simp[results,results7,go_sem,z0_]
  ·exact D9.o
 by_cases hk9:9 < q.kind
 ·have H1:=aa hk9;have RF:=aa (dh W3 9);have R:Ll (je st q=({ st with acts:=st.acts+1 },bz 9)):=aa (by rw[D0.o,if_pos (.inr H1.o)]);go_wp2_with (go_at_call 12;refine RF.o.mono ?_;rintro e w5 ⟨rfl,hh⟩;have D9:=aa (gF (e:=.returned (fX (bz 9))) (p:=({ st with acts:=st.acts+1 },bz 9)) (w:=w) (ok:=ok) F3.o SZ3.o SLT.o HV0.o ((S3.o.bel hh).outB SZ3.o) (fun _ hg=>.inl hg) (eE hh) rfl);have RB5:=aa (RB3.o.bel hh);have n0_:=RB5.o.c;have Z9:=aa (RB5.o.set (bz 9));clear hh)
  rw[R.o];have z0_:=Z9.o.c;refine MM (v:=.agg #[.int .i64 9,.int .i64 0,.string ⟨#[]⟩]) ?_ rfl ?_
  ·simp only[fE,bz]at z0_;simp[results,results7,go_sem,z0_]
  ·exact D9.o
 have HK0:Ll (¬(q.kind < 1\/9 < q.kind)):=aa (by omega);by_cases hk8:q.kind=8
 ·have H8:=aa hk8;have e8:(q.kind == 8)=true:=by simp[hk8]
  clear hk8;obtain⟨rs,rr,hrr⟩:∃ rs rr,iz { st with acts:=st.acts+1 } q.n=(rs,rr):=⟨_,_,rfl⟩
  have CON:=GE W3 (Lj ok w) S v { st with acts:=st.acts+1 } q.n S3.o GOOD.o.len GOOD.o.time;rw[hrr]at CON;simp only[fX]at CON;have CONT:=aa CON;have R:Ll (je st q=(rs,rr)):=aa (by rw[D0.o,if_neg HK0.o,if_pos H8.o];exact hrr);clear CON hrr;go_wp2_with (go_at_call 13;refine CONT.o.mono ?_;rintro e w5 ⟨rfl,h1,h3⟩;have D9:=aa (gF (e:=.returned (fX rr)) (p:=(rs,rr)) (w:=w) (ok:=ok) F3.o SZ3.o SLT.o HV0.o (h1) (fun _ hg=>.inl hg) (h3) rfl);have RB5:=aa (rG RB3.o SLT.o HV0.o (h3));have n0_:=RB5.o.c;have Z9:=aa (RB5.o.set rr);clear h1 h3)
  rw[R.o];have z0_:=Z9.o.c;refine MM (v:=.agg #[.int .i64 rr.code,.int .i64 rr.n,.string ⟨rr.body.toArray⟩]) ?_ rfl ?_
  ·simp only[fE]at z0_;simp[results,results7,go_sem,z0_]
  ·exact D9.o
 have H8:=aa hk8;have e8:(q.kind == 8)=false:=by rw[MO];exact hk8
 clear hk8;obtain⟨nb,hnb⟩:∃ nb,bT q.name=nb:=⟨_,rfl⟩
 have NA:=Go.Proofs.YtgolnaencepejaaGreatDoor.lR W3 q.name HN.o;rw[hnb]at NA;have NAM:Ll (Calls prog 14 #[.string ⟨q.name.toArray⟩] W3 fun e w'=>e=.returned (.bool nb)/\w'=W3):=aa NA;have HNB:=aa hnb;clear NA hnb;cases nb with
 | false=>
  go_upto_region 11 with (go_at_call 14;refine NAM.o.mono ?_;rintro e w4 ⟨rfl,hw4⟩;obtain rfl:W3=w4:=hw4.symm)
  have RF:=aa (dh W3 1);have R:Ll (je st q=({ st with acts:=st.acts+1 },bz 1)):=aa (by rw[D0.o,if_neg HK0.o,if_neg H8.o,if_pos HNB.o]);go_wp2_with (go_at_call 12;refine RF.o.mono ?_;rintro e w5 ⟨rfl,hh⟩;have D9:=aa (gF (e:=.returned (fX (bz 1))) (p:=({ st with acts:=st.acts+1 },bz 1)) (w:=w) (ok:=ok) F3.o SZ3.o SLT.o HV0.o ((S3.o.bel hh).outB SZ3.o) (fun _ hg=>.inl hg) (eE hh) rfl);have RB5:=aa (RB3.o.bel hh);have n0_:=RB5.o.c;have Z9:=aa (RB5.o.set (bz 1));clear hh)
  rw[R.o];have z0_:=Z9.o.c;refine MM (v:=.agg #[.int .i64 1,.int .i64 0,.string ⟨#[]⟩]) ?_ rfl ?_
  ·simp only[fE,bz]at z0_;simp[results,results7,go_sem,z0_]
  ·exact D9.o
 | true=>
  go_upto_region 12 with (go_at_call 14;refine NAM.o.mono ?_;rintro e w4 ⟨rfl,hw4⟩;obtain rfl:W3=w4:=hw4.symm)
  obtain⟨rs,rr,hrr⟩:∃ rs rr,dD { st with acts:=st.acts+1 } q=(rs,rr):=⟨_,_,rfl⟩
  have CON:=Bk W3 (Lj ok w) S v { st with acts:=st.acts+1 } q S3.o GD3.o GL3.o.g GL3.o.m GL3.o.w HN.o HQ.o HW_.o;rw[hrr]at CON;simp only[fX,td]at CON;have CONT:=aa CON;have R:Ll (je st q=(rs,rr)):=aa (by rw[D0.o,if_neg HK0.o,if_neg H8.o,if_neg (by rw[HNB.o];simp)];exact hrr);clear CON hrr;go_wp2_with (go_at_call 15;refine CONT.o.mono ?_;rintro e w5 ⟨v5,rfl,h1,h2,h3⟩;have D9:=aa (gF (e:=.returned (fX rr)) (p:=(rs,rr)) (w:=w) (ok:=ok) F3.o SZ3.o SLT.o HV0.o (h1) (h2) (h3) rfl);have RB5:=aa (rG RB3.o SLT.o HV0.o (h3));have n0_:=RB5.o.c;have Z9:=aa (RB5.o.set rr);clear h1 h2 h3)
  rw[R.o];have z0_:=Z9.o.c;refine MM (v:=.agg #[.int .i64 rr.code,.int .i64 rr.n,.string ⟨rr.body.toArray⟩]) ?_ rfl ?_
  ·simp only[fE]at z0_;simp[results,results7,go_sem,z0_]
  ·exact D9.o
theorem JH(w):Calls prog 4 #[] w fun e w'=>e=.returned (.pointer (some ⟨w.heap.size,0,none⟩))/\bo w' (fun _=>False) w.heap.size (.slice none 0 0) vm/\La w w':=by
 obtain⟨W1,hW1⟩:∃ W,W=w.alloc (.cells #[.slice none 0 0,.int .i64 0,.int .i64 0,.int .i64 0] 51):=⟨_,rfl⟩
 have Y1:Ll (La w W1):=aa (by rw[hW1];exact ae _ _);have S1:Ll (bo W1 (fun _=>False) w.heap.size (.slice none 0 0) vm):=aa ⟨by rw[hW1];exact MN _ _,⟨[],rfl,World.ownsRow_nil _ _ _ _,fun i t cs ht=>by simp[vm]at ht⟩,fun _ hk=>hk.elim⟩;have HW1:=aa hW1;clear hW1;go_enter func4,ntmps4;go_wp2
 rw[<-HW1.o];go_ret;exact⟨rfl,S1.o,Y1.o⟩
def zu:cm:=⟨1,[97],[],[123,34,105,109,97,103,101,34,58,34,120,34,125],0,0,0,false⟩
def yB:cm:=⟨3,[97],[],[123,34,105,109,97,103,101,34,58,34,121,34,44,34,115,116,101,112,115,34,58,91,49,48,44,123,34,112,97,117,115,101,34,58,48,125,93,125],0,0,0,false⟩
def Fo:cm:=⟨7,[97],[],[],0,0,2,false⟩
def xE:V:=⟨5,0,[],[[105,109,97,103,101]],[⟨3,0,[120],[],[]⟩]⟩
def tG:V:=⟨5,0,[],[[105,109,97,103,101],[115,116,101,112,115]],[⟨3,0,[121],[],[]⟩,⟨4,0,[],[],[⟨2,10,[],[],[]⟩,⟨5,0,[],[[112,97,117,115,101]],[⟨2,0,[],[],[]⟩]⟩]⟩]⟩
theorem JC:cW zu.body=(xE,0):=by kernel_rfl
theorem Ju:cW yB.body=(tG,0):=by kernel_rfl
theorem IZ:eY xE=some ([120],[]):=by kernel_rfl
theorem Ed:eY tG=some ([121],[⟨10,0⟩,⟨-1,0⟩]):=by kernel_rfl
theorem Hf:ge xE tG=(tG,0):=by kernel_rfl
def Ie:dI:=(ij [120] [] (fV [120] []).1 0 0).1
def Kc:dI:=(ij [121] [⟨10,0⟩,⟨-1,0⟩] Ie 0 0).1
def EW:Th:=⟨[97],xE,[],1,1,Ie⟩
def zK:Th:=⟨[97],tG,[],2,2,Kc⟩
theorem vn(v):ir v []=[]:=by
 unfold ir;split
 ·rfl
 ·rfl
theorem J9:al 0 0 (eT [97]) zu=(EW,1,0):=by
 have hw:aJ (eT [97]) zu=(xE,[],0):=by
  unfold aJ;rw[JC,if_neg (by simp),if_neg (by decide)];have hc:bW (eT [97]).value zu.kind xE=(xE,0):=by
   unfold bW;rw[if_neg (by decide),if_neg (by decide)]
  simp only[hc];rw[if_neg (by simp),show (eT [97]).owners=[] from rfl,vn]
 unfold al;rw[hw];simp only;rw[if_neg (by simp),if_neg (by unfold cI;rw[IZ];simp)];exact Kb (im:=[120]) (sps:=[]) (fs:=(fV [120] []).1) (fe:=(fV [120] []).2) (ns:=Ie) (ne:=(ij [120] [] (fV [120] []).1 0 0).2) (by unfold bE;rw[IZ];rfl) rfl rfl rfl
theorem KM:je vm zu=(⟨[EW],0,1,1⟩,⟨0,1,[]⟩):=by
 unfold je;rw[if_neg (by decide)];simp only;rw[if_neg (by decide),if_neg (by decide),if_neg (by decide),nQ (by decide) rfl];unfold iF;show (if (al 0 0 (eT [97]) zu).2.2≠0 then _ else _)=_;rw[J9];rfl
theorem Ki:al 0 1 EW yB=(zK,2,0):=by
 have hw:aJ EW yB=(tG,[],0):=by
  unfold aJ;rw[Ju,if_neg (by simp),if_neg (by decide)];have hc:bW EW.value yB.kind tG=(tG,0):=by
   unfold bW;rw[if_pos (by decide)];exact Hf
  simp only[hc];rw[if_neg (by simp),show EW.owners=[] from rfl,vn]
 unfold al;rw[hw];simp only;rw[if_neg (by simp),if_neg (by unfold cI;rw[Ed];simp)];exact JZ (t:=EW) (im:=[121]) (sps:=[⟨10,0⟩,⟨-1,0⟩]) (ns:=Kc) (ne:=(ij [121] [⟨10,0⟩,⟨-1,0⟩] Ie 0 0).2) (by unfold bE;rw[Ed];rfl) (by decide) (fun e=>by have:=congrArg (fun v:V=>v.keys.length) e;revert this;decide) rfl
theorem KS:je ⟨[EW],0,1,1⟩ yB=(⟨[zK],0,2,2⟩,⟨0,2,[]⟩):=by
 unfold je;rw[if_neg (by decide)];simp only;rw[if_neg (by decide),if_neg (by decide),if_neg (by decide),fk (t:=EW) (by decide) rfl rfl,if_neg (by decide),if_neg (by decide),if_neg (by decide)];unfold fF;rw[if_neg (by decide)];show (if (al 0 1 EW yB).2.2≠0 then _ else _)=_;rw[Ki];rfl
theorem KU:(je ⟨[zK],0,2,2⟩ Fo).2.n=1/\(je ⟨[zK],0,2,2⟩ Fo).1.ths.length=1:=by
 have h:je ⟨[zK],0,2,2⟩ Fo=iG ⟨[zK],0,2,3⟩ 0 zK 2:=by
  unfold je;rw[if_neg (by decide)];simp only;rw[if_neg (by decide),if_neg (by decide),if_neg (by decide),fk (t:=zK) (by decide) rfl rfl,if_neg (by decide),if_pos (by decide)];rfl
 rw[h];have hn:(dA 0 zK 2).2=0/\(dA 0 zK 2).1.ph=1:=by
  unfold dA;rw[show bE zK.value=([121],[⟨10,0⟩,⟨-1,0⟩]) by unfold bE;rw[show zK.value=tG from rfl,Ed];rfl];exact⟨by kernel_rfl,by kernel_rfl⟩
 unfold iG;rw[show (⟨[zK],0,2,3⟩:Nu).time=0 from rfl,if_neg (by rw[hn.1];simp)];exact⟨hn.2,rfl⟩
theorem Ik{a:LC}(h:La a w)(f:kS w w' S v)(hS:a.heap.size<=S)(hv:∀ k,v.ownBlock=some k->a.heap.size<=k):La a w':=
 ⟨f.os.trans h.os,f.tape.trans h.tape,f.output.trans h.output,MH h.size f.size,fun k hk=>(f.block k (MI hk h.size) (by omega) (fun e=>by have:=hv k e;omega)).trans (h.block k hk)⟩
theorem Jq(h1:cn w)(h2:bj w)(h3:di w):Gl w w.heap.size:=by
 obtain⟨m,hm⟩:=h2;obtain⟨t,f,hw⟩:=h3;exact⟨h1,⟨m,hm⟩,⟨t,f,hw⟩,h1.size,World.block_lt_of_cell? w _ hm,(MF.1 hw).1⟩
theorem Gl.up{A:Nat}(h:Gl w A)(hS:A<=S):Gl w S:=⟨h.g,h.m,h.w,by have:=h.top;omega⟩
def PC (S:Nat) (v:Value):Nat->Prop:=fun k=>S < k/\v.ownBlock≠some k
structure iH (a w:LC) (S:Nat) (v:Value) (st:Nu):Prop where
 bel:La a w
 srv:bo w (PC S v) S v st
 good:dP st
 gl:Gl w a.heap.size
 low:a.heap.size<=S
theorem iH.more{a:LC}{st:Nu}(h:iH a w S v st)(hb:La w w'):iH a w' S v st:=⟨ab h.bel hb,h.srv.bel hb,h.good,h.gl.bel hb,h.low⟩
theorem wX(a w:LC)(hb:La a w)(h1:cn a)(h2:bj a)(h3:di a):Calls prog 4 #[] w fun e w'=>e=.returned (.pointer (some ⟨w.heap.size,0,none⟩))/\iH a w' w.heap.size (.slice none 0 0) vm/\La w w':=
 (JH w).mono fun e w' h=>⟨h.1,⟨ab hb h.2.2,h.2.1.imp (fun _ h9=>h9.elim) (fun k h9=>⟨Nat.ne_of_gt h9.1,h9.2⟩),AW,((Jq h1 h2 h3).bel hb).bel h.2.2,hb.size⟩,h.2.2⟩
theorem jy{a:LC}{st:Nu}(h:iH a w S v st)(q:cm)(hn:q.name.length<=9223372036854775807)(hq:q.body.length<=9223372036854775807)(hw:q.who.length<=9223372036854775807):Calls prog 7 #[.pointer (some ⟨S,0,none⟩),.agg (Lf q)] w fun e w'=>∃ v',e=.returned (.agg #[.int .i64 (je st q).2.code,.int .i64 (je st q).2.n,.string ⟨(je st q).2.body.toArray⟩])/\iH a w' S v' (je st q).1/\kS w w' S v/\∀ g,v'.ownBlock=some g->v.ownBlock=some g\/w.heap.size<=g:=
 (Kd w _ S v st q h.srv h.good (h.gl.up h.low) hn hq hw).mono fun e w' hh=>by
  obtain⟨v',rfl,h1,h2,h3⟩:=hh;exact⟨v',rfl,⟨Ik h.bel h3 h.low (fun k hk=>by have:=h.srv.ne hk;have:=h.low;omega),h1.imp (fun k hk=>⟨by rcases hk.1 with h8 | h8;exact h8.1;have:=h.srv.blk.lt;omega,hk.2.2⟩) (fun k hk=>⟨Nat.ne_of_gt hk.1,hk.2⟩),Ib h.good,h.gl.gr (fun k hS hk=>h3.block k hk (by have:=h.low;omega) (fun e=>by have:=h.srv.ne e;have:=h.low;omega)) ⟨h3.os,h3.tape,h3.output,h3.size⟩,h.low⟩,h3,h2⟩
theorem fl{a:LC}{st:Nu}(h:iH a w S v st):Calls prog 9 #[.pointer (some ⟨S,0,none⟩)] w fun e w'=>e=.returned (.slice (some ⟨w.heap.size,0,none⟩) st.ths.length st.ths.length)/\dm w' w.heap.size (fun j=>w.heap.size < j) st.ths (.slice (some ⟨w.heap.size,0,none⟩) st.ths.length st.ths.length)/\iH a w' S v st/\La w w':=
 (Bl w _ S v st h.srv h.good).mono fun e w' hh=>⟨hh.1,hh.2.1,h.more hh.2.2.1,hh.2.2.1⟩
theorem dK.sfr{c n:Int}{b:Lz}(h:dK w g c n b)(f:kS w w' S v)(h1:g≠S)(h2:v.ownBlock≠some g):dK w' g c n b:=(f.block g (MF.1 h).1 h1 h2).trans h
theorem Fb(w:LC)(h1:cn w)(h2:bj w)(h3:di w):Calls prog 11 #[] w fun e w'=>e=.returned (.bool true)/\La w w':=by
 have NEW:=aa (wX w w (MK _ _) h1 h2 h3);clear h1 h2 h3;go_enter func11,ntmps11;go_upto_region 4 with (go_at_call 4;refine NEW.o.mono ?_;rintro e w1 ⟨rfl,hl,hb⟩;have L1:=aa hl;have SZ1:=aa hb.size;clear hl hb)
 have DO1:=jy L1.o zu (by decide) (by decide) (by decide);rw[KM]at DO1;have DOA:=aa DO1;clear DO1;go_upto_region 5 with (go_at_call 7;refine DOA.o.mono ?_;rintro e w2 ⟨v2,rfl,k1,k2,k3⟩;have L2:=aa k1;clear k1 k2 k3)
 obtain⟨W2,hW2⟩:∃ W,W=w2.alloc (.cells #[.int .i64 0,.int .i64 1,.string ⟨#[]⟩] 32):=⟨_,rfl⟩
 have L3:Ll (iH w W2 w.heap.size v2 ⟨[EW],0,1,1⟩):=aa (by rw[hW2];exact L2.o.more (ae _ _));have R3:Ll (dK W2 w2.heap.size 0 1 []):=aa (by rw[hW2];exact MN _ _);have N3:Ll (w2.heap.size≠w.heap.size/\v2.ownBlock≠some w2.heap.size):=aa ⟨by have:=L2.o.srv.blk.lt;omega,fun e=>by have:=L2.o.srv.ne e;omega⟩;rw[<-hW2];clear hW2 L2;have DO2:=jy L3.o yB (by decide) (by decide) (by decide);rw[KS]at DO2;have DOB:=aa DO2;clear DO2;go_upto_region 6 with (go_at_call 7;refine DOB.o.mono ?_;rintro e w4 ⟨v4,rfl,k1,k2,k3⟩;have L4:=aa k1;have R4:=aa (R3.o.sfr k2 N3.o.1 N3.o.2);have N4:Ll (v4.ownBlock≠some w2.heap.size):=aa (fun e9=>by rcases k3 _ e9 with e8 | e8;exact N3.o.2 e8;have:=(MF.1 R3.o).1;omega);clear k1 k2 k3)
 obtain⟨W4,hW4⟩:∃ W,W=w4.alloc (.cells #[.int .i64 0,.int .i64 2,.string ⟨#[]⟩] 32):=⟨_,rfl⟩
 have L5:Ll (iH w W4 w.heap.size v4 ⟨[zK],0,2,2⟩):=aa (by rw[hW4];exact L4.o.more (ae _ _));have R5:Ll (dK W4 w4.heap.size 0 2 []):=aa (by rw[hW4];exact MN _ _);have R3b:Ll (dK W4 w2.heap.size 0 1 []):=aa (by rw[hW4];exact R4.o.bel (ae _ _));have N5:Ll (w4.heap.size≠w.heap.size/\v4.ownBlock≠some w4.heap.size):=aa ⟨by have:=L4.o.srv.blk.lt;omega,fun e=>by have:=L4.o.srv.ne e;omega⟩;rw[<-hW4];clear hW4 L4 R4 R3 L3;obtain⟨sC,rC,hC⟩:∃ sC rC,je ⟨[zK],0,2,2⟩ Fo=(sC,rC):=⟨_,_,rfl⟩
 have CN:Ll (rC.n=1/\sC.ths.length=1):=aa (by have:=KU;rw[hC]at this;exact this);have DO3:=jy L5.o Fo (by decide) (by decide) (by decide);rw[hC]at DO3;have DOC:=aa DO3;clear DO3 hC;go_upto_region 7 with (go_at_call 7;refine DOC.o.mono ?_;rintro e w6 ⟨v6,rfl,k1,k2,k3⟩;have L6:=aa k1;have R6:=aa (R5.o.sfr k2 N5.o.1 N5.o.2);have R6b:=aa (R3b.o.sfr k2 N3.o.1 N4.o);clear k1 k2 k3)
 obtain⟨W6,hW6⟩:∃ W,W=w6.alloc (.cells #[.int .i64 rC.code,.int .i64 rC.n,.string ⟨rC.body.toArray⟩] 32):=⟨_,rfl⟩
 have L7:Ll (iH w W6 w.heap.size v6 sC):=aa (by rw[hW6];exact L6.o.more (ae _ _));have R7:Ll (dK W6 w6.heap.size rC.code rC.n rC.body):=aa (by rw[hW6];exact MN _ _);have R7b:Ll (dK W6 w4.heap.size 0 2 []):=aa (by rw[hW6];exact R6.o.bel (ae _ _));have R7c:Ll (dK W6 w2.heap.size 0 1 []):=aa (by rw[hW6];exact R6b.o.bel (ae _ _));rw[<-hW6];clear hW6 L6 R6 R6b R5 R3b L5;have THG:=aa (fl L7.o);obtain⟨x0,x1,x2,-⟩:=R7.o.c;have y0_:=R7b.o.c;have z0_:=R7c.o.c;rw[CN.o.1]at x1;rw[CN.o.2]at THG;go_wp2_with (go_at_call 9;refine THG.o.mono ?_;rintro e w8 ⟨rfl,-,h9,-⟩;have B8:=aa h9.bel;clear h9)
 go_ret;exact⟨rfl,B8.o⟩
variable {n i:Nat}
def fc (w:LC) (l:List cm) (v:Value):Prop:=
 l.length<=9223372036854775807/\(∀ q∈l,q.name.length<=9223372036854775807/\q.body.length<=9223372036854775807/\q.who.length<=9223372036854775807)/\(l=[]/\(∃ a,v=.slice a 0 0)\/∃ g off c,v=.slice (some ⟨g,off,none⟩) l.length c/\l.length<=c/\c<=9223372036854775807/\∀ (i:Nat) (q:cm),l[i]?=some q->w.cell? ⟨g,off+i * 8,none⟩=some (.int .i64 q.kind)/\w.cell? ⟨g,off+i * 8+1,none⟩=some (.string ⟨q.name.toArray⟩)/\w.cell? ⟨g,off+i * 8+2,none⟩=some (.string ⟨q.who.toArray⟩)/\w.cell? ⟨g,off+i * 8+3,none⟩=some (.string ⟨q.body.toArray⟩)/\w.cell? ⟨g,off+i * 8+4,none⟩=some (.int .i64 q.version)/\w.cell? ⟨g,off+i * 8+5,none⟩=some (.int .i64 q.n)/\w.cell? ⟨g,off+i * 8+6,none⟩=some (.int .i64 q.order)/\w.cell? ⟨g,off+i * 8+7,none⟩=some (.bool q.force))
theorem fc.form{l:List cm}(h:fc w l v):∃ a c,v=.slice a l.length c:=by
 rcases h.2.2 with⟨rfl,a,rfl⟩ | ⟨g,off,c,rfl,-⟩
 ·exact⟨_,_,rfl⟩
 ·exact⟨_,_,rfl⟩
theorem fc.at{l:List cm}{a}{q:cm}(h:fc w l (.slice a n c))(hi:l[i]?=some q):∃ g off,a=some ⟨g,off,none⟩/\l.length<=c/\c<=9223372036854775807/\w.cell? ⟨g,off+i * 8,none⟩=some (.int .i64 q.kind)/\w.cell? ⟨g,off+i * 8+1,none⟩=some (.string ⟨q.name.toArray⟩)/\w.cell? ⟨g,off+i * 8+2,none⟩=some (.string ⟨q.who.toArray⟩)/\w.cell? ⟨g,off+i * 8+3,none⟩=some (.string ⟨q.body.toArray⟩)/\w.cell? ⟨g,off+i * 8+4,none⟩=some (.int .i64 q.version)/\w.cell? ⟨g,off+i * 8+5,none⟩=some (.int .i64 q.n)/\w.cell? ⟨g,off+i * 8+6,none⟩=some (.int .i64 q.order)/\w.cell? ⟨g,off+i * 8+7,none⟩=some (.bool q.force):=by
 rcases h.2.2 with⟨rfl,a,e⟩ | ⟨g,off,c',e,h1,h2,h3⟩
 ·simp at hi
 ·simp only[Value.slice.injEq]at e;obtain⟨rfl,-,rfl⟩:=e;exact⟨g,off,rfl,h1,h2,h3 i q hi⟩
noncomputable def J4 (s:Nu) (l:List cm):Nu:=l.foldl (fun s a=>(je s a).1) s
noncomputable def oQ (l:List cm) (k:Nat):Nu:=J4 vm (l.take k)
theorem uD{l:List cm}{q:cm}(h:l[k]?=some q):oQ l (k+1)=(je (oQ l k) q).1:=by
 obtain⟨hk,rfl⟩:=Mz.1 h;unfold oQ J4;rw[List.take_succ_eq_append_getElem hk,List.foldl_append];rfl
section
open Go.ChangeShapes Go.WideShapes Go.ChangeAt Go.RowKit
theorem nH:Tryz.prog.cellsOf 3=1:=by kernel_rfl
theorem nK:Tryz.prog.cellsOf 4=1:=by kernel_rfl
theorem I8:Tryz.prog.cellsOf 29=8:=by kernel_rfl
theorem pr:Tryz.prog.readableRec 22=true:=by kernel_rfl
theorem Al:22 < Tryz.prog.types.size:=of_decide_eq_true (by kernel_rfl)
def me (o:cm):Prop:=o.name.length<=9223372036854775807/\o.body.length<=9223372036854775807/\o.who.length<=9223372036854775807
theorem EX{H:Type}{enc:TypeId × Value->H}{W:World}(fuel:Nat)(cs:List Value)(x:DataW H × List MemPlace)(h:DataW.trod enc Tryz.prog W 0 (fun _=>true) true fuel 29 cs=some x):∃ o:cm,cs=[.int .i64 o.kind,.string ⟨o.name.toArray⟩,.string ⟨o.who.toArray⟩,.string ⟨o.body.toArray⟩,.int .i64 o.version,.int .i64 o.n,.int .i64 o.order,.bool o.force]/\me o:=by
 obtain⟨xs,n,e,hx,hl,LT,hg⟩:=DataW.trod_struct Tryz.underlying29 h;rw[I8]at hl;match cs,hl,xs,LT with
 | [v0,v1,v2,v3,v4,v5,v6,v7],_,[y0,y1,y2,y3,y4,y5,y6,y7],_=>
  have g0:DataW.trod enc Tryz.prog W 0 (fun _=>true) true n 3 [v0]=some y0:=by simpa [db,nH,nK] using hg 0 _ rfl
  have g1:DataW.trod enc Tryz.prog W 0 (fun _=>true) true n 9 [v1]=some y1:=by simpa [db,nH,nK] using hg 1 _ rfl
  have g2:DataW.trod enc Tryz.prog W 0 (fun _=>true) true n 9 [v2]=some y2:=by simpa [db,nH,nK] using hg 2 _ rfl
  have g3:DataW.trod enc Tryz.prog W 0 (fun _=>true) true n 9 [v3]=some y3:=by simpa [db,nH,nK] using hg 3 _ rfl
  have g4:DataW.trod enc Tryz.prog W 0 (fun _=>true) true n 3 [v4]=some y4:=by simpa [db,nH,nK] using hg 4 _ rfl
  have g5:DataW.trod enc Tryz.prog W 0 (fun _=>true) true n 3 [v5]=some y5:=by simpa [db,nH,nK] using hg 5 _ rfl
  have g6:DataW.trod enc Tryz.prog W 0 (fun _=>true) true n 3 [v6]=some y6:=by simpa [db,nH,nK] using hg 6 _ rfl
  have g7:DataW.trod enc Tryz.prog W 0 (fun _=>true) true n 4 [v7]=some y7:=by simpa [db,nH,nK] using hg 7 _ rfl
  obtain⟨z0,e0,-,-⟩:=DataW.trod_int Tryz.underlying3 g0;obtain⟨s1,e1,-,l1⟩:=DataW.trod_string Tryz.underlying9 g1;obtain⟨s2,e2,-,l2⟩:=DataW.trod_string Tryz.underlying9 g2;obtain⟨s3,e3,-,l3⟩:=DataW.trod_string Tryz.underlying9 g3;obtain⟨z4,e4,-,-⟩:=DataW.trod_int Tryz.underlying3 g4;obtain⟨z5,e5,-,-⟩:=DataW.trod_int Tryz.underlying3 g5;obtain⟨z6,e6,-,-⟩:=DataW.trod_int Tryz.underlying3 g6;obtain⟨b7,e7,-⟩:=DataW.trod_bool Tryz.underlying4 g7;simp only[List.cons.injEq,and_true]at e0 e1 e2 e3 e4 e5 e6 e7;subst e0 e1 e2 e3 e4 e5 e6 e7;unfold maxLen at l1 l2 l3;exact⟨⟨z0,s1.data.toList,s2.data.toList,s3.data.toList,z4,z5,z6,b7⟩,by simp,by rw[Array.length_toList];exact l1,by rw[Array.length_toList];exact l3,by rw[Array.length_toList];exact l2⟩
theorem uV{H:Type}{enc:TypeId × Value->H}{W:World}{base:Nat}{v:Value}{d:DataW H}{p:List MemPlace}(hk:Value.okWide Tryz.prog W .any base 22 v)(h:DataW.Trod enc Tryz.prog W 0 (fun _=>true) true 22 v d p):∃ os,fc W os v:=by
 obtain⟨a0,len0,cap0,rfl⟩:=okWide_slice Tryz.underlying22 hk;obtain⟨f,hf⟩:=h;have hf':DataW.trod enc Tryz.prog W 0 (fun _=>true) true f 22 [.slice a0 len0 cap0]=some (d,p):=hf;rcases DataW.trod_slice Tryz.underlying22 hf' with⟨e,-⟩ | ⟨a,len,cap,elems,rest,k,ek,e,hx,-,hl,hm,LT,hel,hsp,-⟩
 ·simp only[List.cons.injEq,and_true]at e;exact⟨[],by simp,by simp,.inl ⟨rfl,none,e⟩⟩
 ·simp only[List.cons.injEq,and_true]at e;rw[I8]at hel hsp;obtain⟨hrl,hrest⟩:=hsp rfl;unfold maxLen at hm;have all:∀ i,i < len->∃ cs' y,W.cells? 0 (a.add (i * 8)) 8=some cs'/\DataW.trod enc Tryz.prog W 0 (fun _=>true) true k 29 cs'=some y:=by
   intro i hi;have:=hel i hi;rw[Mw (by omega)]at this;obtain⟨cs',h1,h2⟩:=Option.bind_eq_some_iff.1 this;exact⟨cs',_,h1,h2⟩
  by_cases h0:len=0
  ·subst h0;by_cases hc0:cap=0
   ·subst hc0;exact⟨[],by simp,by simp,.inl ⟨rfl,some a,e⟩⟩
   ·have ha:a=⟨a.block,a.off,none⟩:=by
     have:=hrest 0 (by omega);rw[Mw (by omega)]at this;obtain⟨cs',h1,-⟩:=Option.bind_eq_some_iff.1 this;obtain⟨-,h2,h3⟩:=World.cells?_some h1;have:=h3 0 (by omega);rw[Mw (by omega)]at this;exact qv (sg (v:=cs'[0]) (by simpa [Addr.add] using this))
    exact⟨[],by simp,by simp,.inr ⟨a.block,a.off,cap,by rw[<-ha];exact e,by simp,hm,fun i o ho=>by simp at ho⟩⟩
  ·have ha:a=⟨a.block,a.off,none⟩:=by
    obtain⟨cs',y,h1,-⟩:=all 0 (by omega);obtain⟨-,h2,h3⟩:=World.cells?_some h1;have:=h3 0 (by omega);rw[Mw (by omega)]at this;exact qv (sg (v:=cs'[0]) (by simpa [Addr.add] using this))
   obtain⟨T,hT⟩:=@Go.Deep.choose_lt cm ⟨⟨0,[],[],[],0,0,0,false⟩⟩ len (fun i o=>W.cells? 0 (a.add (i * 8)) 8=some [.int .i64 o.kind,.string ⟨o.name.toArray⟩,.string ⟨o.who.toArray⟩,.string ⟨o.body.toArray⟩,.int .i64 o.version,.int .i64 o.n,.int .i64 o.order,.bool o.force]/\me o) (fun i hi=>by
    obtain⟨cs',y,h1,h2⟩:=all i hi;obtain⟨o,rfl,hn⟩:=EX k cs' y h2;exact⟨o,h1,hn⟩)
   have mem:∀ q∈(List.range len).map T,me q:=by
    intro q hq;obtain⟨i,hi,rfl⟩:=List.mem_map.1 hq;exact(hT i (List.mem_range.1 hi)).2
   refine⟨(List.range len).map T,by simp only[List.length_map,List.length_range];omega,mem,.inr ⟨a.block,a.off,cap,by simp only[List.length_map,List.length_range];rw[<-ha];exact e,by simp only[List.length_map,List.length_range];omega,hm,fun i o ho=>?_⟩⟩;simp only[List.getElem?_map,Option.map_eq_some_iff]at ho;obtain⟨j,hj,rfl⟩:=ho;obtain⟨hj1,hj2⟩:=Mz.1 hj;simp only[List.length_range]at hj1;simp only[List.getElem_range]at hj2;subst hj2;obtain⟨-,-,h3⟩:=World.cells?_some (hT i hj1).1;rw[ha]at h3;have c:∀ q,q < 8->W.cell? ⟨a.block,a.off+i * 8+q,none⟩=[.int .i64 (T i).kind,.string ⟨(T i).name.toArray⟩,.string ⟨(T i).who.toArray⟩,.string ⟨(T i).body.toArray⟩,.int .i64 (T i).version,.int .i64 (T i).n,.int .i64 (T i).order,.bool (T i).force][q]?:=by
    intro q hq;have:=h3 q hq;rw[eh,eh]at this;exact this
   exact⟨c 0 (by omega),c 1 (by omega),c 2 (by omega),c 3 (by omega),c 4 (by omega),c 5 (by omega),c 6 (by omega),c 7 (by omega)⟩
end
variable {ok':Nat->Prop}
theorem SD{k:Addr}{x:Value}(h:w'.heap[k.block]?=w.heap[k.block]?)(hx:w.cell? k=some x):w'.cell? k=some x:=by
 rw[<-hx];simp only[World.cell?,h]
theorem bo.keep{st:Nu}(h:bo w ok S v st)(hb:∀ k,k < w.heap.size->k=S\/v.ownBlock=some k\/ok k->w'.heap[k]?=w.heap[k]?)(hk:∀ k,ok k->k < w.heap.size->ok' k)(hn:∀ k,ok' k->IT S v k):bo w' ok' S v st:=by
 obtain⟨L0,h1,h2,h3⟩:=h.row;refine⟨(hb S h.blk.lt (.inl rfl)).trans h.blk,⟨L0,h1,bM h2 fun g hg=>hb g (bY h2 hg).2 (.inr (.inl hg)),fun i t cs ht hc=>?_⟩,hn⟩;obtain⟨a,b,c,d,oa,oc,e,k⟩:=h3 i t cs ht hc;exact⟨a,b,c,d,oa,oc,e,k.imp fun j x hj hx=>⟨hk _ hj (World.block_lt_of_cell? w _ hx),SD (hb _ (World.block_lt_of_cell? w _ hx) (.inr (.inr hj))) hx⟩⟩
def Tn (S:Nat) (v:Value) (O:Nat) (u:Value):Nat->Prop:=fun k=>IT S v k/\IT O u k
structure Sv (a w:LC) (bx:Nat) (x:Value) (S:Nat) (v:Value) (s:Nu) (O:Nat) (u:Value) (o:Nu):Prop where
 bel:La a w
 gl:Gl w a.heap.size
 gs:dP s
 go:dP o
 fs:bo w (Tn S v O u) S v s
 fo:bo w (Tn S v O u) O u o
 low:a.heap.size<=S/\a.heap.size<=O
 ne:S≠O/\v.ownBlock≠some O/\u.ownBlock≠some S/\∀ k,v.ownBlock=some k->u.ownBlock≠some k
 box:w.cell? ⟨bx,0,none⟩=some x/\bx≠S/\bx≠O/\v.ownBlock≠some bx/\u.ownBlock≠some bx
theorem Sv.swap{a:LC}{bx:Nat}{x:Value}{s:Nu}{O:Nat}{u:Value}{o:Nu}(h:Sv a w bx x S v s O u o):Sv a w bx x O u o S v s:=
 ⟨h.bel,h.gl,h.go,h.gs,h.fo.imp (fun _ hk=>⟨hk.2,hk.1⟩) (fun _ hk=>hk.1),h.fs.imp (fun _ hk=>⟨hk.2,hk.1⟩) (fun _ hk=>hk.2),⟨h.low.2,h.low.1⟩,⟨h.ne.1.symm,h.ne.2.2.1,h.ne.2.1,fun k h1 h2=>h.ne.2.2.2 k h2 h1⟩,⟨h.box.1,h.box.2.2.1,h.box.2.1,h.box.2.2.2.2,h.box.2.2.2.1⟩⟩
theorem Sv.more{a:LC}{bx:Nat}{x:Value}{s:Nu}{O:Nat}{u:Value}{o:Nu}(h:Sv a w bx x S v s O u o)(hb:La w w'):Sv a w' bx x S v s O u o:=
 ⟨ab h.bel hb,h.gl.bel hb,h.gs,h.go,h.fs.bel hb,h.fo.bel hb,h.low,h.ne,⟨ah hb h.box.1,h.box.2⟩⟩
theorem SY{a:LC}{bx:Nat}{x:Value}{s:Nu}{O:Nat}{u:Value}{o:Nu}(h:Sv a w bx x S v s O u o)(q:cm)(hn:q.name.length<=9223372036854775807)(hq:q.body.length<=9223372036854775807)(hw:q.who.length<=9223372036854775807):Calls prog 7 #[.pointer (some ⟨S,0,none⟩),.agg (Lf q)] w fun e w'=>∃ v',e=.returned (.agg #[.int .i64 (je s q).2.code,.int .i64 (je s q).2.n,.string ⟨(je s q).2.body.toArray⟩])/\Sv a w' bx x S v' (je s q).1 O u o/\kS w w' S v:=
 (Kd w _ S v s q h.fs h.gs (h.gl.up h.low.1) hn hq hw).mono fun e w' hh=>by
  obtain⟨v',rfl,h1,h2,h3⟩:=hh;have hO:=h.fo.blk.lt;have hu:=fun k (hk:u.ownBlock=some k)=>h.fo.ne hk;have hv:=fun k (hk:v.ownBlock=some k)=>h.fs.ne hk;have hx:=World.block_lt_of_cell? w _ h.box.1;have hL:=h.low;have hN:∀ k,k < w.heap.size->v.ownBlock≠some k->v'.ownBlock≠some k:=fun k hk h8 h9=>by
   rcases h2 k h9 with e8 | e8
   ·exact h8 e8
   ·omega
  refine⟨v',rfl,⟨Ik h.bel h3 hL.1 (fun k hk=>by have:=hv k hk;omega),h.gl.gr (fun k hS hk=>h3.block k hk (by omega) (fun e=>by have:=hv k e;omega)) ⟨h3.os,h3.tape,h3.output,h3.size⟩,Ib h.gs,h.go,h1.imp (fun k hk=>⟨hk.2,?_⟩) (fun k hk=>hk.1),bo.keep h.fo (fun k hk hc=>h3.block k hk ?_ ?_) (fun k hk hl=>⟨⟨hk.1.1,hN k hl hk.1.2⟩,hk.2⟩) (fun k hk=>hk.2),hL,⟨h.ne.1,hN O hO h.ne.2.1,h.ne.2.2.1,fun k hk e=>?_⟩,⟨SD (h3.block bx hx h.box.2.1 h.box.2.2.2.1) h.box.1,h.box.2.1,h.box.2.2.1,hN bx hx h.box.2.2.2.1,h.box.2.2.2.2⟩⟩,h3⟩
  ·rcases hk.1 with h9 | h9
   ·exact h9.2
   ·exact⟨by omega,fun e=>by have:=(hu k e).2;omega⟩
  ·rcases hc with rfl | h9 | h9
   ·exact h.ne.1.symm
   ·exact fun e=>h.ne.2.2.1 (e ▸ h9)
   ·exact h9.1.1
  ·rcases hc with rfl | h9 | h9
   ·exact h.ne.2.1
   ·exact fun e=>h.ne.2.2.2 k e h9
   ·exact h9.1.2
  ·rcases h2 k hk with e8 | e8
   ·exact h.ne.2.2.2 k e8 e
   ·have:=(hu k e).2;omega
theorem Sf{a:LC}{bx:Nat}{x:Value}{s:Nu}{O:Nat}{u:Value}{o:Nu}(h:Sv a w bx x S v s O u o):Calls prog 9 #[.pointer (some ⟨S,0,none⟩)] w fun e w'=>e=.returned (.slice (some ⟨w.heap.size,0,none⟩) s.ths.length s.ths.length)/\dm w' w.heap.size (fun j=>w.heap.size < j) s.ths (.slice (some ⟨w.heap.size,0,none⟩) s.ths.length s.ths.length)/\La w w'/\SU w' (fun j=>w.heap.size<=j) s.ths (.slice (some ⟨w.heap.size,0,none⟩) s.ths.length s.ths.length):=
 Bl w _ S v s h.fs h.gs
theorem Tc{a:LC}{bx O:Nat}{x:Value}(hb:La a w)(hg:Gl w a.heap.size)(hO:bo w (fun _=>False) O (.slice none 0 0) vm)(hL:a.heap.size<=O)(hx:w.cell? ⟨bx,0,none⟩=some x)(hn:bx≠O):Calls prog 4 #[] w fun e w'=>e=.returned (.pointer (some ⟨w.heap.size,0,none⟩))/\Sv a w' bx x w.heap.size (.slice none 0 0) vm O (.slice none 0 0) vm:=
 (JH w).mono fun e w' h=>by
  have h1:=World.block_lt_of_cell? w _ hx;have h2:=hO.blk.lt;have h3:bx < w.heap.size:=h1;exact⟨h.1,⟨ab hb h.2.2,hg.bel h.2.2,AW,AW,h.2.1.imp (fun _ h9=>h9.elim) (fun k h9=>h9.1),(hO.bel h.2.2).imp (fun _ h9=>h9.elim) (fun k h9=>h9.2),⟨hb.size,hL⟩,⟨by omega,nofun,nofun,nofun⟩,⟨ah h.2.2 hx,by omega,hn,nofun,nofun⟩⟩⟩
structure Tg (a:LC) (l:List cm) (g:Nat) (lb:Array Value) (J K:Nat->LC->Nat->Value->Prop):Prop where
 base:∀ k W S v,J k W S v->La a W
 baseK:∀ k W S v,K k W S v->La a W
 bel:∀ k W W' S v,K k W S v->La W W'->K k W' S v
 things:∀ k W S v,J k W S v->Calls prog 9 #[.pointer (some ⟨S,0,none⟩)] W fun e w'=>∃ x,e=.returned x/\J k w' S v
 act:∀ k q W S v,l[k]?=some q->J k W S v->Calls prog 7 #[.pointer (some ⟨S,0,none⟩),.agg (Lf q)] W fun e w'=>e=.returned (.agg #[.int .i64 (je (oQ l k) q).2.code,.int .i64 (je (oQ l k) q).2.n,.string ⟨(je (oQ l k) q).2.body.toArray⟩])/\∃ v',K k w' S v'
 step:∀ k q W S v x,l[k]?=some q->k < 100->K k W S v->Calls prog g (#[.pointer (some ⟨S,0,none⟩),x,.agg (Lf q),.agg #[.int .i64 (je (oQ l k) q).2.code,.int .i64 (je (oQ l k) q).2.n,.string ⟨(je (oQ l k) q).2.body.toArray⟩]]++lb) W fun e w'=>e=.returned (.bool true)/\∃ v',J (k+1) w' S v'
def Tf (l:List cm) (J:Nat->LC->Nat->Value->Prop) (e:Ending) (w':LC):Prop:=∃ S v,e=.returned (.tuple #[.pointer (some ⟨S,0,none⟩),.bool true])/\J (min l.length 100) w' S v
theorem SX(a w:LC)(l:List cm)(v:Value)(g:Nat)(lb:Array Value)(J K:Nat->LC->Nat->Value->Prop)(eg:∀ args w,(callFunc g args).run prog w=.ok (.enter g args) w)(hb:La a w)(hl:fc a l v)(h1:cn a)(h2:bj a)(h3:di a)(hN:∀ W,La w W->Calls prog 4 #[] W fun e w'=>∃ S v,e=.returned (.pointer (some ⟨S,0,none⟩))/\J 0 w' S v)(hL:Tg a l g lb J K):Calls prog 5 #[v,.func (.func g) #[] lb] w fun e w'=>Tf l J e w':=by
 obtain⟨va,vc,rfl⟩:=hl.form;have ALV:=aa (Fb w (h1.grown (r:=none) (aq hb) (by simp)) (h2.bel hb) (h3.bel hb));have NEW:=aa hN;have HL:=aa hl;have LK:=aa hL;have hll:=hl.1;clear h1 h2 h3 hb hl hL hN;go_enter func5,ntmps5;go_upto_region 3 with (go_at_call 11;refine ALV.o.mono ?_;rintro e w1 ⟨rfl,hb1⟩;have B1:=aa hb1;clear hb1)
 go_upto_region 4 with (go_at_call 4;refine(NEW.o _ B1.o).mono ?_;rintro e w2 ⟨S,v0,rfl,hl2⟩;have L2:=aa hl2;clear hl2)
 go_wp2_with fail
 go_loopg [7] (min l.length 100) (fun gk iv wr=>∃ k:Nat,k<=min l.length 100/\gk=min l.length 100 - k/\iv=.int .i64 k/\∃ v9,Ll (J k wr S v9))
 case atStart=>exact⟨0,Nat.zero_le _,rfl,rfl,_,aa L2.o⟩
 case round=>
  obtain⟨k,hk,hgk,rfl,v9,JK⟩:=hrel;have GK:=aa hgk;clear hgk L2;obtain⟨wo,hwo⟩:∃ wo,wo=wr:=⟨wr,rfl⟩
  subst hwo;have wk:IntKind.i64.wrap ((k:Int)+1)=(k:Int)+1:=by rw[IntKind.wrap_i64];omega
  by_cases hlt:k < min l.length 100
  ·have hlk:k < l.length:=by omega
   obtain⟨q,hq⟩:∃ q,l[k]?=some q:=⟨_,Mw hlk⟩
   have HQ:=aa hq;have HQM:=aa (HL.o.2.1 q (List.mem_of_getElem? hq));have k1:(k:Int) < (l.length:Int):=by omega
   have k2:(k:Int) < 100:=by omega
   have k3:(0:Int)<=(k:Int):=by omega
   obtain⟨b,off,rfl,j1,j2,hcells⟩:=HL.o.at hq;have ACT:Ll (∀ W,La a W->W.cell? ⟨b,off+k * 8,none⟩=some (.int .i64 q.kind)/\W.cell? ⟨b,off+k * 8+1,none⟩=some (.string ⟨q.name.toArray⟩)/\W.cell? ⟨b,off+k * 8+2,none⟩=some (.string ⟨q.who.toArray⟩)/\W.cell? ⟨b,off+k * 8+3,none⟩=some (.string ⟨q.body.toArray⟩)/\W.cell? ⟨b,off+k * 8+4,none⟩=some (.int .i64 q.version)/\W.cell? ⟨b,off+k * 8+5,none⟩=some (.int .i64 q.n)/\W.cell? ⟨b,off+k * 8+6,none⟩=some (.int .i64 q.order)/\W.cell? ⟨b,off+k * 8+7,none⟩=some (.bool q.force)):=fun W hW=>⟨ah hW hcells.1,ah hW hcells.2.1,ah hW hcells.2.2.1,ah hW hcells.2.2.2.1,ah hW hcells.2.2.2.2.1,ah hW hcells.2.2.2.2.2.1,ah hW hcells.2.2.2.2.2.2.1,ah hW hcells.2.2.2.2.2.2.2⟩;clear hcells hq;have THG:=aa (LK.o.things _ _ _ _ JK.o);go_upto_region 8 with (go_at_call 9;refine THG.o.mono ?_;rintro e w3 ⟨x3,rfl,hl3⟩;have L3:=aa hl3;clear hl3)
   have DO:=aa (LK.o.act _ q _ _ _ HQ.o L3.o);obtain⟨q0,q1,q2,q3,q4,q5,q6,q7⟩:=ACT.o _ (LK.o.base _ _ _ _ L3.o);obtain⟨rr,hrr⟩:∃ rr,(je (oQ l k) q).2=rr:=⟨_,rfl⟩
   have HRR:=aa hrr;rw[hrr]at DO;clear hrr;go_upto_region 9 with (go_at_call 7;refine DO.o.mono ?_;rintro e w4 ⟨rfl,v4,p1⟩;have LD:=aa p1;clear p1)
   clear q0 q1 q2 q3 q4 q5 q6 q7;obtain⟨W4,hW4⟩:∃ W,W=w4.alloc (.cells #[.int .i64 rr.code,.int .i64 rr.n,.string ⟨rr.body.toArray⟩] 32):=⟨_,rfl⟩
   have A4:Ll (La w4 W4):=aa (by rw[hW4];exact ae _ _);have RB4:Ll (dK W4 w4.heap.size rr.code rr.n rr.body):=aa (by rw[hW4];exact MN _ _);rw[<-hW4];clear hW4;have L4:Ll (K k W4 S v4):=LK.o.bel _ _ _ _ _ LD.o A4.o;have LOOK:Ll (∀ W,La W4 W->Calls prog g (#[.pointer (some ⟨S,0,none⟩),x3,.agg (Lf q),.agg #[.int .i64 rr.code,.int .i64 rr.n,.string ⟨rr.body.toArray⟩]]++lb) W fun e w'=>e=.returned (.bool true)/\∃ v',J (k+1) w' S v'):=fun W hW=>by
    have:=LK.o.step k q W S v4 x3 HQ.o (by omega) (LK.o.bel _ _ _ _ _ L4.o hW);rw[HRR.o]at this;exact this
   obtain⟨q0,q1,q2,q3,q4,q5,q6,q7⟩:=ACT.o _ (LK.o.baseK _ _ _ _ L4.o);have y0_:=RB4.o.c;go_region_with (go_at_fn g;refine(LOOK.o _ (aC _ 1)).mono ?_;rintro e w6 ⟨rfl,v6,h1⟩;have L6:=aa h1;clear h1)
   all_goals
    go_wp2_with fail
    go_roundg (min l.length 100 - (k+1))
    case measure=>rw[GK.o];omega
    case rel=>exact⟨k+1,by omega,rfl,by go_num,_,aa L6.o⟩
  ·have d9:¬((k:Int) < (l.length:Int)/\(k:Int) < 100):=by omega
   have Mc:k=min l.length 100:=by omega
   have E:Ll (J (min l.length 100) wo S v9):=aa (by rw[<-Mc];exact JK.o);by_cases hkl:(k:Int) < (l.length:Int)
   ·have k2:¬(k:Int) < 100:=by omega
    clear Mc d9;go_wp2_with fail
    refine MM (v:=.tuple #[.pointer (some ⟨S,0,none⟩),.bool true]) ?_ rfl ?_
    ·simp[results,results5,go_sem]
    ·exact⟨S,v9,rfl,E.o⟩
   ·clear Mc d9;go_wp2_with fail
    refine MM (v:=.tuple #[.pointer (some ⟨S,0,none⟩),.bool true]) ?_ rfl ?_
    ·simp[results,results5,go_sem]
    ·exact⟨S,v9,rfl,E.o⟩
theorem gY(h:∃ n,wr=w.drewN n){a}(hc:w.cell? a=some v):wr.cell? a=some v:=by
 obtain⟨n,rfl⟩:=h;exact hc
theorem DF(h:∃ n,wr=w.drewN n):∃ n,wr.drew=w.drewN n:=by
 obtain⟨n,rfl⟩:=h;exact⟨n+1,rfl⟩
theorem vD(h:∃ n,wr=w.drewN n)(m):∃ n,wr.drewN m=w.drewN n:=by
 obtain⟨n,rfl⟩:=h;exact⟨n+m,by simp[World.drewN,Nat.add_assoc]⟩
theorem pE(h:∃ n,wr=w.drewN n):La w wr:=by
 obtain⟨n,rfl⟩:=h;exact aC _ _
theorem zg{α:Type}{xs ys:List α}(h:xs.take k=ys.take k)(hx:k < xs.length)(hy:k < ys.length)(he:xs[k]=ys[k]):xs.take (k+1)=ys.take (k+1):=by
 rw[List.take_succ_eq_append_getElem hx,List.take_succ_eq_append_getElem hy,h,he]
theorem uC(w:LC)(ok ok' xs ys v u)(h:ao w ok xs v)(h':ao w ok' ys u):Calls prog 41 #[v,u] w fun e w'=>e=.returned (.bool (decide (xs=ys)))/\∃ n,w'=w.drewN n:=by
 have H:=aa h;have H':=aa h';obtain⟨a,c,rfl⟩:=h.form;obtain⟨a',c',rfl⟩:=h'.form;have ll:=h.1;have ll':=h'.1;unfold maxLen at ll ll';clear h h';by_cases hl:xs.length=ys.length
 ·have q0:((xs.length:Int) != (ys.length:Int))=false:=by simp[hl]
  have q00:((xs.length:Int) == (ys.length:Int))=true:=by simp[hl]
  have HLN:=aa hl;rw[<-hl];clear hl;go_enter func41,ntmps41;go_wp2
  go_loopg [13] xs.length (fun gk i wr=>∃ k:Nat,k<=xs.length/\gk=xs.length - k/\i=.int .i64 k/\Ll (xs.take k=ys.take k)/\Ll (∃ n,wr=w.drewN n))
  case atStart=>exact⟨0,Nat.zero_le _,rfl,rfl,rfl,aa ⟨0,rfl⟩⟩
  case round=>
   obtain⟨k,hk,hgk,rfl,AL,BL⟩:=hrel;have GK:=aa hgk;clear hgk;by_cases hlt:k < xs.length
   ·have hlt':k < ys.length:=HLN.o ▸ hlt;obtain⟨b,off,rfl,hc1,hc2,hcell0⟩:=gQ H.o hlt;obtain⟨b',off',rfl,hc1',hc2',hcell0'⟩:=gQ H'.o hlt';unfold maxLen at hc2 hc2';have w2:(k:Int) < (xs.length:Int):=by omega
    have w3:(0:Int)<=(k:Int):=by omega
    have TK:Ll (xs[k]=ys[k]->xs.take (k+1)=ys.take (k+1)):=aa (zg AL.o hlt hlt');have NE:Ll (xs[k]≠ys[k]->decide (xs=ys)=false):=aa (fun h9=>decide_eq_false (fun e=>h9 (by subst e;rfl)));have d0:=gY BL.o hcell0;have d1:=gY BL.o hcell0';have BD:Ll (∃ n,wr.drew=w.drewN n):=aa (DF BL.o);clear hcell0 hcell0';by_cases he:xs[k]=ys[k]
    ·have TK2:=aa (TK.o he);rw[<-he]at d1;clear he;go_wp2
     go_region
     go_wp2
     go_roundg (xs.length - (k+1))
     case measure=>rw[GK.o];omega
     case rel=>exact⟨k+1,hlt,rfl,by go_num,TK2,BD⟩
    ·have R:=aa (NE.o he);have e9:(xs[k] == ys[k])=false:=by rw[MO];exact he
     obtain⟨x,hx⟩:∃ x,xs[k]=x:=⟨_,rfl⟩
     obtain⟨y,hy⟩:∃ y,ys[k]=y:=⟨_,rfl⟩
     rw[hx]at d0 he e9;rw[hy]at d1 he e9;clear hx hy TK NE;go_wp2
     go_region
     go_wp2
     go_ret;exact⟨by rw[R.o];rfl,BD.o⟩
   ·have d9:¬(k:Int) < (xs.length:Int):=by omega
    have R:Ll (decide (xs=ys)=true):=aa (decide_eq_true (by
     have:=AL.o;rwa [MD (by omega),MD (by have:=HLN.o;omega)]at this))
    go_wp2
    go_ret;exact⟨by rw[R.o];rfl,BL.o⟩
 ·have q0:((xs.length:Int) != (ys.length:Int))=true:=by simp;omega
  have q00:((xs.length:Int) == (ys.length:Int))=false:=by rw[MO];omega
  have R:Ll (decide (xs=ys)=false):=aa (decide_eq_false (fun e=>hl (by rw[e])));go_enter func41,ntmps41;go_wp2
  go_ret;exact⟨by rw[R.o];rfl,0,rfl⟩
theorem ub(w ok ok' xs v u)(h:aB w ok xs v)(h':aB w ok' xs u):Calls prog 27 #[v,u] w fun e w'=>e=.returned (.bool true)/\∃ n,w'=w.drewN n:=by
 have H:=aa h;have H':=aa h';obtain⟨a,c,rfl⟩:=h.form;obtain⟨a',c',rfl⟩:=h'.form;have ll:=h.1;unfold maxLen at ll;clear h h';go_enter func27,ntmps27;go_wp2
 go_loopg [13] xs.length (fun gk i wr=>∃ k:Nat,k<=xs.length/\gk=xs.length - k/\i=.int .i64 k/\Ll (∃ n,wr=w.drewN n))
 case atStart=>exact⟨0,Nat.zero_le _,rfl,rfl,aa ⟨0,rfl⟩⟩
 case round=>
  obtain⟨k,hk,hgk,rfl,BL⟩:=hrel;have GK:=aa hgk;clear hgk;by_cases hlt:k < xs.length
  ·obtain⟨b1,o1,pa,pc,rfl,j1,j2,k1,k2,k3,-⟩:=H.o.at hlt;obtain⟨b2,o2,qa,qc,rfl,i1,i2,l1,l2,l3,-⟩:=H'.o.at hlt;have w2:(k:Int) < (xs.length:Int):=by omega
   have w3:(0:Int)<=(k:Int):=by omega
   have d0:=gY BL.o k1;have d1:=gY BL.o k2;have d2:=gY BL.o l1;have d3:=gY BL.o l2;have TX:Ll (∀ W,(∃ n,W=wr.drewN n)->Calls prog 41 #[.slice pa xs[k].paths.length pc,.slice qa xs[k].paths.length qc] W fun e w'=>e=.returned (.bool true)/\∃ n,w'=wr.drewN n):=aa (fun W hW=>by
    have b9:=ab (pE BL.o) (pE hW);refine(uC W ok ok' _ _ _ _ (k3.bel b9) (l3.bel b9)).mono ?_;rintro e w' ⟨rfl,n,rfl⟩;exact⟨by rw[decide_eq_true rfl],vD hW n⟩)
   clear k1 k2 k3 l1 l2 l3;obtain⟨x,hx⟩:∃ x,xs[k]=x:=⟨_,rfl⟩
   rw[hx]at d0 d1 d2 d3 TX;clear hx;have e8:(x.name == x.name)=true:=by simp
   go_upto_region 6 with fail
   go_quiet ((go_at_call 41;exact TX.o _ ⟨_,rfl⟩))
   have B6:=aa (vD BL.o nq);go_wp2
   go_roundg (xs.length - (k+1))
   case measure=>rw[GK.o];omega
   case rel=>exact⟨k+1,hlt,rfl,by go_num,B6⟩
  ·have d9:¬(k:Int) < (xs.length:Int):=by omega
   go_wp2
   go_ret;exact⟨rfl,BL.o⟩
theorem tP(w:LC)(ok ok' t a b c d oa oc a' b' c' d' oa' oc')(h:cQ w ok t a b c d oa oc)(h':cQ w ok' t a' b' c' d' oa' oc')(hn:dz t.value):Calls prog 16 #[.agg (Ld t a c b d oa oc),.agg (Ld t a' c' b' d' oa' oc')] w fun e w'=>e=.returned (.bool true)/\La w w':=by
 obtain⟨W2,hW2⟩:∃ W,W=(w.alloc (.cells (Ld t a c b d oa oc) 44)).alloc (.cells (Ld t a' c' b' d' oa' oc') 44):=⟨_,rfl⟩
 have Y2:Ll (La w W2):=aa (by rw[hW2];exact ab (ae _ _) (ae _ _));have X1:fN W2 w.heap.size t a b c d oa oc:=by rw[hW2];exact fb _ _ _
 have X2:fN W2 (w.heap.size+1) t a' b' c' d' oa' oc':=by rw[hW2];exact et _ _ _
 have HX1:=aa X1;have HX2:=aa X2;have HW2:=aa hW2;have SM:=aa (lP W2 ok ok' t.value t.value _ _ (h.val.bel Y2.o) (h'.val.bel Y2.o) (MH (gE hn) (by omega)));have SO:Ll (∀ W,La W2 W->Calls prog 27 #[.slice oa t.owners.length oc,.slice oa' t.owners.length oc'] W fun e w'=>e=.returned (.bool true)/\La W w'):=aa (fun W hW=>(ub W ok ok' _ _ _ (h.own.bel (ab Y2.o hW)) (h'.own.bel (ab Y2.o hW))).mono fun e w' hh=>⟨hh.1,pE hh.2⟩);have x0_:=X1.c;have y0_:=X2.c;clear hW2 h h' hn X1 X2;go_enter func16,ntmps16;go_upto_region 1 with fail
 rw[<-HW2.o];go_wp2_with (first
  |(go_at_call 26;refine SM.o.mono ?_;rintro e w5 ⟨r5,rfl,h5,hb5⟩;obtain rfl:r5=true:=h5.2 rfl;have B5:=aa hb5;clear h5 hb5;have x0_:=(HX1.o.bel B5.o).c;have y0_:=(HX2.o.bel B5.o).c)
  |(go_at_call 27;refine Lk (SO.o _ B5.o) fun w6 hb6=>?_;have B6:=aa (ab Y2.o (ab B5.o hb6));clear hb6))
 go_ret;exact⟨rfl,B6.o⟩
theorem li(w:LC)(ok ok' xs v u)(h:cO w ok xs v)(h':cO w ok' xs u)(hn:∀ t∈xs,dz t.value):Calls prog 8 #[v,u] w fun e w'=>e=.returned (.bool true)/\La w w':=by
 have H:=aa h;have H':=aa h';have HN:=aa hn;obtain⟨a,c,rfl⟩:=h.form;obtain⟨a',c',rfl⟩:=h'.form;have ll:=h.1;clear h h' hn;go_enter func8,ntmps8;go_wp2
 go_loopg [13] xs.length (fun gk i wr=>∃ k:Nat,k<=xs.length/\gk=xs.length - k/\i=.int .i64 k/\Ll (La w wr))
 case atStart=>exact⟨0,Nat.zero_le _,rfl,rfl,MK _ _⟩
 case round=>
  obtain⟨k,hk,hgk,rfl,BL⟩:=hrel;have GK:=aa hgk;clear hgk;by_cases hlt:k < xs.length
  ·obtain⟨g1,o1,rfl,j1,j2,j3,xa,xb,xc,xd,xoa,xoc,hx,kx⟩:=(H.o.bel BL.o).at hlt;obtain⟨g2,o2,rfl,i1,i2,i3,ya,yb,yc,yd,yoa,yoc,hy,ky⟩:=(H'.o.bel BL.o).at hlt;have NT:=aa (HN.o xs[k] (List.getElem_mem hlt));have w2:(k:Int) < (xs.length:Int):=by omega
   have w3:(0:Int)<=(k:Int):=by omega
   obtain⟨t,ht⟩:∃ t,xs[k]=t:=⟨_,rfl⟩
   rw[ht]at hx hy kx ky NT;clear ht;obtain⟨x0,x1,x2,x3,x4,x5,x6,x7,x8,x9,x10,x11,x12,x13,x14⟩:=hx;obtain⟨y0,y1,y2,y3,y4,y5,y6,y7,y8,y9,y10,y11,y12,y13,y14⟩:=hy;have BD:Ll (La wr wr.drew):=aa (aC wr 1);have ST:=aa (tP wr.drew _ _ t xa xb xc xd xoa xoc ya yb yc yd yoa yoc (kx.bel BD.o) (ky.bel BD.o) NT.o);clear kx ky;go_upto_region 6 with fail
   go_region_with (go_at_call 16;refine ST.o.mono ?_;rintro e w6 ⟨rfl,hb⟩;have B6:=aa (ab BL.o (ab BD.o hb));clear hb)
   all_goals
    go_wp2
    go_roundg (xs.length - (k+1))
    case measure=>rw[GK.o];omega
    case rel=>exact⟨k+1,hlt,rfl,by go_num,B6⟩
  ·have d9:¬(k:Int) < (xs.length:Int):=by omega
   go_wp2
   go_ret;exact⟨rfl,BL.o⟩
theorem fc.bel{l:List cm}(h:fc w l v)(hb:La w w'):fc w' l v:=by
 refine⟨h.1,h.2.1,?_⟩;rcases h.2.2 with h | ⟨g,off,c,e,h1,h2,h3⟩
 ·exact .inl h
 ·refine .inr ⟨g,off,c,e,h1,h2,fun i q hq=>?_⟩;obtain⟨q0,q1,q2,q3,q4,q5,q6,q7⟩:=h3 i q hq;exact⟨ah hb q0,ah hb q1,ah hb q2,ah hb q3,ah hb q4,ah hb q5,ah hb q6,ah hb q7⟩
theorem vU{s:Nu}(h:dP s):∀ t∈s.ths,dz t.value:=fun t ht=>dQ (lq (h.ths t ht).rd)
theorem Sl{w'':LC}(h:Below B w w')(k:Below B w' w''):Below B w w'':=⟨k.os.trans h.os,k.tape.trans h.tape,k.output.trans h.output,MH h.size k.size,fun j hj=>(k.block j hj).trans (h.block j hj)⟩
theorem Td{P:Nat->Prop}{t:Th}{a b:Option Addr}{oa:Option Addr}{oc:Nat}(h:fN w g t a b c d oa oc)(f:Se P w w')(hP:¬P g):fN w' g t a b c d oa oc:=(f.block g h.lt hP).trans h
theorem S8(a W:LC)(bx S:Nat)(v:Value)(s s':Nu)(O:Nat)(u:Value)(q:cm)(r:uf)(x:Value)(hD:Sv a W bx (.pointer (some ⟨O,0,none⟩)) S v s' O u s)(hq:je s q=(s',r))(hn:q.name.length<=9223372036854775807/\q.body.length<=9223372036854775807/\q.who.length<=9223372036854775807):Calls prog 6 #[.pointer (some ⟨S,0,none⟩),x,.agg (Lf q),.agg #[.int .i64 r.code,.int .i64 r.n,.string ⟨r.body.toArray⟩],.pointer (some ⟨bx,0,none⟩)] W fun e w'=>e=.returned (.bool true)/\∃ u',Sv a w' bx (.pointer (some ⟨O,0,none⟩)) S v s' O u' s':=by
 obtain⟨W1,hW1⟩:∃ W1,W1=(W.alloc (.cells (Lf q) 29)).alloc (.cells #[.int .i64 r.code,.int .i64 r.n,.string ⟨r.body.toArray⟩] 32):=⟨_,rfl⟩
 have Y1:Ll (La W W1):=aa (by rw[hW1];exact ab (ae _ _) (ae _ _));have ABm:Ll (jC W1 W.heap.size q):=aa (by rw[hW1];exact fb _ _ _);have RB:Ll (dK W1 (W.heap.size+1) r.code r.n r.body):=aa (by rw[hW1];exact et _ _ _);have HW1:=aa hW1;have D1:=aa (hD.more Y1.o);have NC:=aa (vU hD.gs);have DOm:Ll (∀ W2,La W1 W2->Calls prog 7 #[.pointer (some ⟨O,0,none⟩),.agg (Lf q)] W2 fun e w'=>∃ u',e=.returned (.agg #[.int .i64 r.code,.int .i64 r.n,.string ⟨r.body.toArray⟩])/\Sv a w' bx (.pointer (some ⟨O,0,none⟩)) S v s' O u' s'/\dK w' (W.heap.size+1) r.code r.n r.body):=aa (fun W2 h2=>by
  have h:=SY (D1.o.more h2).swap q hn.1 hn.2.1 hn.2.2;rw[hq]at h;have hO:=hD.fo.blk.lt;exact h.mono fun e w' h9=>by
   obtain⟨u',rfl,p1,p2⟩:=h9;exact⟨u',rfl,p1.swap,(RB.o.bel h2).sfr p2 (by omega) (fun e9=>by have:=(hD.fo.ne e9).2;omega)⟩)
 clear hW1 hD hq hn;have q0_:=ABm.o.c;obtain⟨y0,y1,y2,-⟩:=RB.o.c;have x0:=D1.o.box.1;go_enter func6,ntmps6;go_upto_region 1 with fail
 rw[<-HW1.o];go_cut [27] (fun bv wc=>bv=.bool false/\∃ u',Ll (Sv a wc bx (.pointer (some ⟨O,0,none⟩)) S v s' O u' s'))
 case first=>
  go_region_with (first
   |(go_at_call 7;refine(DOm.o _ (aC _ 1)).mono ?_;rintro e w2 ⟨u2,rfl,p1,p2⟩;have D2m:=aa p1;have x9:=p1.box.1;have r0_:=p2.c;have TH2:=aa (Sf p1);clear p1 p2)
   |(go_at_call 9;refine TH2.o.mono ?_;rintro e w3 ⟨rfl,p1,p2,-⟩;have D3m:=aa (D2m.o.more p2);have T3m:=aa p1.ths;have x8m:=(D2m.o.more p2).box.1;have TH3:=aa (Sf (D2m.o.more p2).swap);clear TH2 p1 p2)
   |(go_at_call 9;refine TH3.o.mono ?_;rintro e w4 ⟨rfl,p1,p2,-⟩;have D4m:=aa (D3m.o.more p2);have SM:=aa (li w4 _ _ s'.ths _ _ (T3m.o.bel p2) p1.ths NC.o);clear p1 p2)
   |(go_at_call 8;refine SM.o.mono ?_;rintro e w5 ⟨rfl,p1⟩;have D5m:=aa (D4m.o.more p1);clear p1))
  all_goals
   go_wp2_with fail
   go_meet
   case rel=>exact⟨rfl,_,D5m⟩
 case rest=>
  obtain⟨rfl,u5m,D5m⟩:=hcut;clear DOm NC D1 ABm RB x0;have TH:=aa (Sf D5m.o);go_upto_region 4 with (go_at_call 9;refine TH.o.mono ?_;rintro e w6 ⟨rfl,-,p2,p3⟩;have B6:=aa p2;have SH0:=aa p3;clear p2 p3)
  clear TH;obtain⟨B,hB⟩:∃ B,B=wc.heap.size:=⟨_,rfl⟩
  rw[<-hB]at SH0 ⊢;obtain⟨P,hP⟩:∃ P:Nat->Prop,P=fun j=>B<=j/\j < w6.heap.size:=⟨_,rfl⟩
  have SHm:Ll (SU w6 P s'.ths (.slice (some ⟨B,0,none⟩) s'.ths.length s'.ths.length)):=aa (SH0.o.imp fun g h1 h2=>⟨by rw[hP];exact⟨h1,h2⟩,rfl⟩);have HP:Ll (∀ k,P k->B<=k/\k < w6.heap.size):=aa (fun k hk=>by rw[hP]at hk;exact hk);have FIN:Ll (∀ wz,Se P w6 wz->∃ u',Sv a wz bx (.pointer (some ⟨O,0,none⟩)) S v s' O u' s'):=aa (fun wz hz=>⟨_,D5m.o.more (Sl B6.o (hz.below (fun k hk=>by have:=(HP.o k hk).1;omega) B6.o.size))⟩);clear hB hP SH0 B6 D5m;obtain⟨sa,hsa⟩:∃ sa:Option Addr,sa=some ⟨B,0,none⟩:=⟨_,rfl⟩
  rw[<-hsa]at SHm ⊢;clear hsa;go_loopg [31] s'.ths.length (fun gk iv wr=>∃ k:Nat,k<=s'.ths.length/\gk=s'.ths.length - k/\iv=.int .i64 k/\Ll (Se P w6 wr))
  case atStart=>exact⟨0,Nat.zero_le _,rfl,rfl,aa (Se.refl _ _)⟩
  case round=>
   obtain⟨k,hk,hgk,rfl,I⟩:=hrel;have GK:=aa hgk;clear hgk;by_cases hlt:k < s'.ths.length
   ·obtain⟨t,ht⟩:∃ t,s'.ths[k]?=some t:=⟨_,Mw hlt⟩
    obtain⟨g,rfl,j1,j2,xa,xb,xc,xdm,xoa,xoc,⟨z0,z1,z2,z3,z4,z5,z6,z7,z8,z9,z10,z11,z12,z13,z14⟩,hst⟩:=(SHm.o.spf I.o).at ht;have ST:=aa hst;have w2:(k:Int) < (s'.ths.length:Int):=by omega
    have w3:(0:Int)<=(k:Int):=by omega
    clear ht hst;obtain⟨W2,hW2⟩:∃ W,W=wr.alloc (.cells (Ld t xa xc xb xdm xoa xoc) 44):=⟨_,rfl⟩
    have A2:Ll (Se P wr W2):=aa (by rw[hW2];exact Se.bel (ae _ _));have T2:Ll (fN W2 wr.heap.size t xa xb xc xdm xoa xoc):=aa (by rw[hW2];exact MN _ _);have HW2:=aa hW2;have NT:Ll (¬P wr.heap.size):=aa (fun h9=>by have:=(HP.o _ h9).2;have:=I.o.size;omega);have I2:=aa (I.o.trans A2.o);have ST2:=aa (ST.o.spf A2.o);clear hW2;go_upto_region 6 with fail
    rw[<-HW2.o];obtain⟨z0,z1,z2,z3,z4,z5,z6,z7,z8,z9,z10,z11,z12,z13,z14⟩:=T2.o.c;obtain⟨D,hD⟩:=ST2.o.val;have SPL:=aa (Tb P D W2 _ hD (fun k hk=>MI (HP.o k hk).2 I2.o.size));clear hD;go_upto_region 7 with (go_at_call 10;refine SPL.o.mono ?_;rintro e w7 ⟨rfl,p1⟩;have F7m:=aa p1;clear p1)
    clear SPL;have I7:=aa (I2.o.trans F7m.o);have T7m:=aa (Td T2.o F7m.o NT.o);have ST7:=aa (ST2.o.spf F7m.o);obtain⟨z0,z1,z2,z3,z4,z5,z6,z7,z8,z9,z10,z11,z12,z13,z14⟩:=T7m.o.c;have lo:=ST7.o.own.le;go_upto_region 8 with fail
    go_loopg [41] t.owners.length (fun gk iv wi=>∃ m:Nat,m<=t.owners.length/\gk=t.owners.length - m/\iv=.int .i64 m/\Ll (Se P w7 wi))
    case atStart=>exact⟨0,Nat.zero_le _,rfl,rfl,aa (Se.refl _ _)⟩
    case round=>
     obtain⟨m,hm,hgm,rfl,J⟩:=hrel;have GM:=aa hgm;clear hgm;by_cases hlm:m < t.owners.length
     ·obtain⟨o,ho⟩:∃ o,t.owners[m]?=some o:=⟨_,Mw hlm⟩
      obtain⟨g2,rfl,i1,i2,pa,pc,k1,k2,hsp⟩:=(ST7.o.own.spf J.o).at ho;have SP:=aa hsp;have v2:(m:Int) < (t.owners.length:Int):=by omega
      have v3:(0:Int)<=(m:Int):=by omega
      clear ho hsp;obtain⟨wo,hwo⟩:∃ wo,wo=wr:=⟨_,rfl⟩
      obtain⟨W8,hW8⟩:∃ W,W=wr.alloc (.cells #[.string ⟨o.name.toArray⟩,.slice pa o.paths.length pc] 47):=⟨_,rfl⟩
      have A8m:Ll (Se P wr W8):=aa (by rw[hW8];exact Se.bel (ae _ _));have B8:Ll (W8.heap[wr.heap.size]?=some (.cells #[.string ⟨o.name.toArray⟩,.slice pa o.paths.length pc] 47)):=aa (by rw[hW8];exact MN _ _);have HW8:=aa hW8;have NOm:Ll (¬P wr.heap.size):=aa (fun h9=>by have:=(HP.o _ h9).2;have:=I7.o.size;have:=J.o.size;omega);have SP8:Ll (SG W8 P (.slice pa o.paths.length pc)):=aa (A8m.o.shape _ _ SP.o);clear hW8;go_upto_region 10 with fail
      rw[<-HW8.o];obtain⟨c0,c1⟩:=rl B8.o;clear k1 k2;have lpp:=SP8.o.le;go_upto_region 11 with fail
      go_loopg [48] o.paths.length (fun gk iv wi=>∃ n:Nat,n<=o.paths.length/\gk=o.paths.length - n/\iv=.int .i64 n/\Ll (Se P W8 wi))
      case atStart=>exact⟨0,Nat.zero_le _,rfl,rfl,aa (Se.refl _ _)⟩
      case round=>
       obtain⟨n,hn,hgn,rfl,K⟩:=hrel;have GN:=aa hgn;clear hgn c0 c1;by_cases hln:n < o.paths.length
       ·obtain⟨g3,cur,rfl,p1,p2,⟨z,p3⟩,p4,p5,p6⟩:=Sz (K.o.shape _ _ SP8.o) hln;obtain⟨c0,c1⟩:=rl ((K.o.block _ (MF.1 B8.o).1 NOm.o).trans B8.o);have y2:(n:Int) < (o.paths.length:Int):=by omega
        have y3:(0:Int)<=(n:Int):=by omega
        have FS:Ll (Se P W8 (wr.setCell ⟨g3,n,none⟩ (.string ⟨#[115,112,111,105,108,116]⟩))):=aa (K.o.trans (Se.str _ p1 p2));clear p1 p2;go_wp2_with fail
        go_roundg (o.paths.length - (n+1))
        case measure=>rw[GN.o];omega
        case rel=>exact⟨n+1,hln,rfl,by go_num,FS⟩
       ·have y2:¬(n:Int) < (o.paths.length:Int):=by omega
        go_wp2_with fail
        go_roundg (t.owners.length - (m+1))
        case measure=>rw[GM.o];omega
        case rel=>exact⟨m+1,hlm,rfl,by go_num,aa (J.o.trans (A8m.o.trans K.o))⟩
     ·have v2:¬(m:Int) < (t.owners.length:Int):=by omega
      go_wp2_with fail
      go_roundg (s'.ths.length - (k+1))
      case measure=>rw[GK.o];omega
      case rel=>exact⟨k+1,hlt,rfl,by go_num,aa (I7.o.trans J.o)⟩
   ·have w2:¬(k:Int) < (s'.ths.length:Int):=by omega
    go_wp2_with fail
    go_ret;exact⟨rfl,FIN.o _ I.o⟩
theorem Sw:∀ args w,(callFunc 6 args).run prog w=.ok (.enter 6 args) w:=enters_of func6 (by kernel_rfl) rfl
def Tk (a:LC) (l:List cm) (bx O:Nat) (k:Nat) (W:LC) (S:Nat) (v:Value):Prop:=∃ u,Sv a W bx (.pointer (some ⟨O,0,none⟩)) S v (oQ l k) O u (oQ l k)
def Tm (a:LC) (l:List cm) (bx O:Nat) (k:Nat) (W:LC) (S:Nat) (v:Value):Prop:=∃ u,Sv a W bx (.pointer (some ⟨O,0,none⟩)) S v (oQ l (k+1)) O u (oQ l k)
theorem SR(a:LC)(l:List cm)(bx O:Nat)(hl:∀ q∈l,q.name.length<=9223372036854775807/\q.body.length<=9223372036854775807/\q.who.length<=9223372036854775807):Tg a l 6 #[.pointer (some ⟨bx,0,none⟩)] (Tk a l bx O) (Tm a l bx O):=by
 refine⟨fun k W S v ⟨u,h⟩=>h.bel,fun k W S v ⟨u,h⟩=>h.bel,fun k W W' S v ⟨u,h⟩ hb=>⟨u,h.more hb⟩,fun k W S v ⟨u,h⟩=>(Sf h).mono fun e w' h9=>⟨_,h9.1,u,h.more h9.2.2.1⟩,fun k q W S v hq ⟨u,h⟩=>?_,fun k q W S v x hq hk ⟨u,h⟩=>?_⟩
 ·have hm:=hl q (List.mem_of_getElem? hq);refine(SY h q hm.1 hm.2.1 hm.2.2).mono fun e w' h9=>?_;obtain⟨v',rfl,p1,-⟩:=h9;exact⟨rfl,v',u,by rw[uD hq];exact p1⟩
 ·refine(S8 a W bx S v (oQ l k) (oQ l (k+1)) O u q (je (oQ l k) q).2 x h (by rw[uD hq]) (hl q (List.mem_of_getElem? hq))).mono fun e w' h9=>?_;obtain⟨rfl,u',p1⟩:=h9;exact⟨rfl,v,u',p1⟩
theorem topMemory_at(w:LC)(l:List cm)(v:Value)(hl:fc w l v)(h1:cn w)(h2:bj w)(h3:di w):Calls prog 3 #[v] w fun e w'=>e=.returned (.bool true)/\La w w':=by
 have NEW:=aa (JH w);have PL:Ll (∀ w1 W1,bo w1 (fun _=>False) w.heap.size (.slice none 0 0) vm->La w w1->W1=w1.alloc (.cells #[.pointer (some ⟨w.heap.size,0,none⟩)] 23)->Calls prog 5 #[v,.func (.func 6) #[] #[.pointer (some ⟨w1.heap.size,0,none⟩)]] W1 fun e w'=>Tf l (Tk w l w1.heap.size w.heap.size) e w'):=fun w1 W1 hs hb hW=>by
  have A1:La w1 W1:=by rw[hW];exact ae _ _
  have HB:=ab hb A1;have hx:W1.cell? ⟨w1.heap.size,0,none⟩=some (.pointer (some ⟨w.heap.size,0,none⟩)):=by rw[hW];have h9:=MN w1 (.cells #[.pointer (some ⟨w.heap.size,0,none⟩)] 23);simp only[World.cell?,h9];rfl
  refine SX w W1 l v _ _ _ _ Sw HB hl h1 h2 h3 (fun W hW9=>?_) (SR w l _ _ hl.2.1);have hO:=hs.blk.lt;exact(Tc (ab HB hW9) (((Jq h1 h2 h3).bel HB).bel hW9) ((hs.bel A1).bel hW9) (MG _) (ah hW9 hx) (by omega)).mono fun e w' h9=>⟨_,_,h9.1,_,h9.2⟩
 clear h1 h2 h3 hl;go_enter func3,ntmps3;go_upto_region 2 with (go_at_call 4;refine NEW.o.mono ?_;rintro e w1 ⟨rfl,p1,p2⟩;have PL1:=aa (PL.o w1 _ p1 p2 rfl);clear p1 p2)
 go_wp2_with (go_at_call 5;refine PL1.o.mono ?_;rintro e w2 ⟨S,v2,rfl,u,p1⟩;have L2:=aa p1.bel;clear p1)
 go_ret;exact⟨rfl,L2.o⟩
end Go.Proofs.YtgolnaencepejaaGreatDoor
namespace Go.Proofs.YtgolnaencepejaaGreatDoor.topMemory
open Go.ChangeShapes Go.WideShapes Go.ChangeAt Go.RowKit
open Go.ChangeMaps (open_string shut_string)
theorem mf(H:Type)(enc:TypeId × Value->H)(W:World)(base:Nat)(args:Array Value)(ds gs:List (DataW H))(before:List MemPlace)(hval:∀ (j:Nat) t v,Tryz.f3.params[j]?=some t->args[j]?=some v->Value.okWide Tryz.prog W .any base t v)(hW:DataW.Whole enc Tryz.prog Tryz.f3.params.toList Rows.topMemorySpec.vars false W args.toList ds gs before)(hZ:(DataW.weightsEach Tryz.prog (Tryz.f3.params.toList++(OpenSpec.ofChange Rows.topMemorySpec).bare.plain.varTypes Tryz.prog) (ds++gs)).all (·<=reachBytes)=true)(hL:laidMet Tryz.prog lS W)(hS:W.ShapedOpen Tryz.prog):Calls Tryz.prog 3 args W fun e W'=>∃ v,e=.returned v/\Rows.topMemorySpec.post enc Tryz.prog Tryz.f3 false true false false W args v W':=by
 have hW':=hW;obtain⟨p,q,hA0,hV,rfl,hfz,hnd⟩:=hW;have hA:DataW.TrodAll enc Tryz.prog W 0 (fun _=>true) true Tryz.f3.params.toList args.toList ds p:=hA0;rw[Tryz.params3]at hA hval;obtain⟨v0,vs0,d0,ds0,p0,q0,hargs0,rfl,rfl,h0,r0⟩:=trodAll_cons hA;obtain⟨rfl,rfl,rfl⟩:=trodAll_nil r0;have hargs:args=#[v0]:=by
  obtain⟨l⟩:=args;exact congrArg Array.mk hargs0
 subst hargs;obtain⟨rfl,rfl⟩:=trodVars_none hV;have k0:Value.okWide Tryz.prog W .any base 22 v0:=hval 0 _ _ (by simp) (by simp);obtain⟨os0,hv0⟩:=uV k0 h0;clear hA0;simp only[List.append_nil]at hW';have walk:=topMemory_at W os0 v0 hv0 (um hL) (zS hS) (sf hL);refine walk.mono fun e W' ⟨he,hg⟩=>?_;subst he;have ef:Rows.topMemorySpec.fn H ([d0]++[])={ results:=[.lit (.bool true)],args:=[d0] }:=rfl;refine⟨_,rfl,_,_,_,[],(p0++[]),[],hW',?_,?_,?_,hg.frame _,fun h=>by cases h⟩
 ·rw[ef];exact trodAll_mk1 (shut_bool Tryz.underlying4 _)
 ·rw[ef,Tryz.params3];exact trodAll_cons_mk (Below.trod oI pr Al h0 hg (lK h0)) (trodAll_mk0)
 ·rw[ef];rfl
theorem sd(os:Os){H:Type}(enc:TypeId × Value->H):∃ places,DataW.whole enc Tryz.prog ((kr os).forCall (fun _ _=>0) ⟨#[],#[.slice none 0 0],[]⟩).memory Tryz.f3.params.toList Rows.topMemorySpec.vars false #[Value.slice none 0 0].toList 8=some ([.nil],[],places):=
 ⟨[],by kernel_rfl⟩
theorem xX(os:Os)(started:os.Started)(H:Type)(enc:TypeId × Value->H)(F:Stop.Interp):ReturnsInHanded {} Tryz.checked os 3 .any ((OpenSpec.ofChange Rows.topMemorySpec).preRow enc Tryz.prog Tryz.f3 Rows.topMemoryRow.domain false Rows.topMemoryRow.laid) (((OpenSpec.ofChange Rows.topMemorySpec).at F).post enc Tryz.prog Tryz.f3 false true false false):=by
 obtain⟨places,hx⟩:=sd os enc;refine returnsInHanded_of_row (C:=Tryz.checked) (s:=OpenSpec.ofChange Rows.topMemorySpec) own started (by kernel_rfl) Tryz.func3
  (witness_row_at (enc:=enc) (C:=Tryz.checked) false (kr os) #[.slice none 0 0] rfl (by kernel_rfl) (by kernel_rfl) (by kernel_rfl)
   (OpenSpec.preRow_of_cond 8 hx (by kernel_rfl) (fun k hk=>by cases hk) (by kernel_rfl) (Af os _))) ?_
 intro W base args ds gs before hval hW _ _ hZ hL hS _;exact mf H enc W base args ds gs before hval hW hZ hL hS
theorem Oz:(Rows.topMemoryRow.inPlace == Tryz.prog.inPlace 3)=true:=by kernel_rfl
theorem OA:(Rows.topMemoryRow.unfollowed == Tryz.prog.unfollowed 3)=true:=by kernel_rfl
theorem OH:(Rows.topMemoryRow.recurses == Tryz.prog.recurses 3)=true:=by kernel_rfl
theorem OF:(Rows.topMemoryRow.named == Tryz.prog.varsNamed 3)=true:=by kernel_rfl
theorem Oy:(Rows.topMemoryRow.plainKeys == Tryz.prog.plainKeys)=true:=by kernel_rfl
theorem OC:(Rows.topMemoryRow.lifted == Tryz.prog.liftsFinal)=true:=by kernel_rfl
theorem Ox:joinedFacts Tryz.prog 3 Tryz.f3 (OpenSpec.ofChange Rows.topMemorySpec).bare Rows.topMemoryRow=true:=
 Oq (Oq (Oq (Oq (Oq (Oq (Oq (Oq (Oq (Oq (Oq (Oq (Oq (Oq (Oq (Oq (Oq (Oq (Oq (Oq (Oq (Oq (Oq (Oq (Oq (Oq (Oq (Oq (Oq (Oq (Oq (by kernel_rfl) Ov) Ow) (by kernel_rfl)) (by kernel_rfl)) (by kernel_rfl)) (by kernel_rfl)) (by kernel_rfl)) (by kernel_rfl)) Oz) OA) OH) OF) (by kernel_rfl)) (by kernel_rfl)) (by kernel_rfl)) (by kernel_rfl)) (by kernel_rfl)) (by kernel_rfl)) (by kernel_rfl)) (by kernel_rfl)) (by kernel_rfl)) Oy) (by kernel_rfl)) Ot) Ou) OC) (by kernel_rfl)) (by kernel_rfl)) (by kernel_rfl)) (by kernel_rfl)) (by kernel_rfl)
theorem iZ:Rows.TopMemorySaid:=
 OpenClaim.holds_of_cond 3 Tryz.f3 rfl rfl rfl rfl rfl rfl rfl ⟨rfl,rfl,rfl,rfl,rfl⟩ rfl rfl rfl rfl rfl (by kernel_rfl) Tryz.func3 Ox
  (of_decide_eq_true (by kernel_rfl)) (by unfold Func.isWrapper;first | (rw[if_pos (by decide +kernel)];kernel_rfl) | (rw[if_neg (by decide +kernel)];exact⟨rfl,rfl⟩))
  (fun os started H enc _ F=>by rw[OpenClaim.pre_eq_preRow];exact xX os started H enc F)
theorem nD(f:FuncId)(fn:Func)(hf:Tryz.pinned.checked.prog.funcNamed "stairwell/stairwelltop.TopMemory"=some f)(hfn:Tryz.pinned.checked.prog.funcs[f]?=some fn):true=Tryz.pinned.checked.prog.looks []/\∀ (j:Nat) t,fn.params[j]?=some t->Tryz.pinned.checked.prog.wantsStandIn t=false:=by
 obtain rfl:f=3:=Option.some.inj ((show Tryz.prog.funcNamed "stairwell/stairwelltop.TopMemory"=some 3 by kernel_rfl).symm.trans hf) |>.symm
 obtain rfl:fn=Tryz.f3:=(Option.some.inj (Tryz.func3.symm.trans hfn)).symm;refine⟨by kernel_rfl,fun j t ht=>?_⟩;rw[Tryz.params3]at ht;have hm:=Array.mem_of_getElem? ht;simp only[Array.mem_def,List.mem_cons,List.not_mem_nil,or_false]at hm;subst hm;exact(show Tryz.prog.wantsStandIn 22=false by kernel_rfl)
theorem card:Rows.TopMemoryCardSaid:=
 Claim7.holds_tied_plain_at .later [] _ _ _ _ iZ (fun _ h=>by cases h) (by kernel_rfl) (fun _ h=>by cases h) topMemory_row_tie rfl ⟨rfl,rfl⟩ (by kernel_rfl) rfl nD (by kernel_rfl)
end Go.Proofs.YtgolnaencepejaaGreatDoor.topMemory
