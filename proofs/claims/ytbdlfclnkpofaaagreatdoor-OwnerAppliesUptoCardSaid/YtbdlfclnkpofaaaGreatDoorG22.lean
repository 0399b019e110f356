import Derived.Test.YtbdlfclnkpofaaaGreatDoorG19
import Derived.Test.YtbdlfclnkpofaaaGreatDoorG20
set_option maxRecDepth 100000
set_option maxHeartbeats 40000000
set_option linter.unusedSimpArgs false
set_option linter.unusedVariables false
namespace Go.Proofs.YtbdlfclnkpofaaaGreatDoor
open Go.RowKit
open _root_.Go.Proofs.Tryz
section
theorem T6(tmps:Array Value)(W:World)(g:Nat)(e0 e1 e2 e3 e4 v1 v2 v3:Value)(h0:tmps[10]?=some (.pointer (some ⟨g,0,none⟩)))(h1:tmps[11]?=some v1)(h2:tmps[12]?=some v2)(h3:tmps[13]?=some v3)(hb:ag W g e0 e1 e2 e3 e4):(results f8 tmps).run prog W=.ok (.tuple #[.agg #[e0,e1,e2,e3,e4],v1,v2,v3]) W:=by
 obtain⟨z0,z1,z2,z3,z4,-⟩:=hb.c;simp[results,results8,go_sem,h0,h1,h2,h3,z0,z1,z2,z3,z4]
attribute [local go_sem ↓] Go.wp_at_zero Go.wp_at_succ
theorem Vc(w:World)(ok:Nat->Prop)(t LQ:V)(l:List aL)(who:List UInt8)(force:Bool)(vt vl vw:Value)(ht:In w ok t vt)(hl:aB w ok l vl)(hw:In w ok LQ vw)(hN:bN t<=1000000000000000)(hNW:bN LQ<=1000000000000000)(hA:(bA l).length<=4000000)(hP:∀ o∈l,∀ x∈o.paths,x.length<=140737488351232)(hwho:who.length<=9223372036854775807)(hbad:¬((t.kind=5/\aE t=true)/\(LQ.kind=5/\aE LQ=true)/\TC l=true/\bT who=true)):Calls prog 8 #[vt,vl,.string ⟨who.toArray⟩,vw,.bool force] w fun e w'=>gT w w' ok (eC t l who LQ force) e:=by
 have R:Ll (eC t l who LQ force=(t,l,[],1)):=aa (if_neg hbad);have HT:=aa ht.low;have HL:=aa hl.low;have HW:=aa hw.low;have HN:=aa hN;have HNW:=aa hNW;have HA:=aa hA;have HP:=aa hP;obtain⟨a1,b1,c1,d1,rfl⟩:=ht.form;obtain⟨a2,b2,c2,d2,rfl⟩:=hw.form;obtain⟨la,lc,rfl⟩:=hl.form;have ll:=hl.1;unfold maxLen at ll;clear ht hl hw hN hNW hA hP;obtain⟨W2,hW2⟩:∃ W,W=((w.alloc (.cells #[.int .i64 t.kind,.int .i64 t.n,.string ⟨t.s.toArray⟩,.slice a1 t.keys.length c1,.slice b1 t.l.length d1] 25)).alloc (.cells #[.int .i64 LQ.kind,.int .i64 LQ.n,.string ⟨LQ.s.toArray⟩,.slice a2 LQ.keys.length c2,.slice b2 LQ.l.length d2] 25)).alloc (.cells #[.int .i64 0,.int .i64 0,.string ⟨#[]⟩,.slice none 0 0,.slice none 0 0] 25):=⟨_,rfl⟩
 have BW:Ll (Below w.heap.size w W2):=aa (by rw[hW2];exact ab (ab (ae _ _) (ae _ _)) (ae _ _));have VB:Ll (ag W2 w.heap.size (.int .i64 t.kind) (.int .i64 t.n) (.string ⟨t.s.toArray⟩) (.slice a1 t.keys.length c1) (.slice b1 t.l.length d1)):=aa (by rw[hW2];exact lI _ _ _ _);have WB:Ll (ag W2 (w.heap.size+1) (.int .i64 LQ.kind) (.int .i64 LQ.n) (.string ⟨LQ.s.toArray⟩) (.slice a2 LQ.keys.length c2) (.slice b2 LQ.l.length d2)):=aa (by rw[hW2];exact mE _ _ _ _);have RB:Ll (ag W2 (w.heap.size+2) (.int .i64 0) (.int .i64 0) (.string ⟨#[]⟩) (.slice none 0 0) (.slice none 0 0)):=aa (by rw[hW2];exact jI _ _ _ _);have SW:Ll (w.heap.size+3<=W2.heap.size):=aa (by have:=(Array.getElem?_eq_some_iff.1 RB.o).1;omega);have HW2:=aa hW2;clear hW2;have G1:Ll (∀ W,Below w.heap.size w W->Calls prog 20 #[.agg #[.int .i64 t.kind,.int .i64 t.n,.string ⟨t.s.toArray⟩,.slice a1 t.keys.length c1,.slice b1 t.l.length d1]] W fun e w'=>e=.returned (.bool (aE t))/\Below W.heap.size W w'):=aa (fun W hW=>rC W _ t _ (HT.o.bel hW) HN.o);have G2:Ll (∀ W,Below w.heap.size w W->Calls prog 20 #[.agg #[.int .i64 LQ.kind,.int .i64 LQ.n,.string ⟨LQ.s.toArray⟩,.slice a2 LQ.keys.length c2,.slice b2 LQ.l.length d2]] W fun e w'=>e=.returned (.bool (aE LQ))/\Below W.heap.size W w'):=aa (fun W hW=>rC W _ LQ _ (HW.o.bel hW) HNW.o);have G3:Ll (∀ W,Below w.heap.size w W->Calls prog 16 #[.slice la l.length lc] W fun e w'=>e=.returned (.bool (TC l))/\Below W.heap.size W w'):=aa (fun W hW=>qa W _ l _ (HL.o.bel hW) HP.o);have G4:Ll (∀ W,Below w.heap.size w W->Calls prog 14 #[.string ⟨who.toArray⟩] W fun e w'=>e=.returned (.bool (bT who))/\Below W.heap.size W w'):=aa (fun W _=>xe W who hwho);obtain⟨g1,hg1⟩:∃ b,aE t=b:=⟨_,rfl⟩
 rw[hg1]at G1 hbad;obtain⟨g2,hg2⟩:∃ b,aE LQ=b:=⟨_,rfl⟩
 rw[hg2]at G2 hbad;obtain⟨g3,hg3⟩:∃ b,TC l=b:=⟨_,rfl⟩
 rw[hg3]at G3 hbad;obtain⟨g4,hg4⟩:∃ b,bT who=b:=⟨_,rfl⟩
 rw[hg4]at G4 hbad;have gg:g1=false\/g1=true/\g2=false\/g1=true/\g2=true/\(t.kind != 5)=true\/g1=true/\g2=true/\(t.kind != 5)=false/\(LQ.kind != 5)=true\/g1=true/\g2=true/\(t.kind != 5)=false/\(LQ.kind != 5)=false/\g3=false\/g1=true/\g2=true/\(t.kind != 5)=false/\(LQ.kind != 5)=false/\g3=true/\g4=false:=by
  clear hg1 hg2 hg3 hg4 G1 G2 G3 G4 HT HL HW R;by_cases h1:t.kind=5 <;> by_cases h2:LQ.kind=5 <;> cases g1 <;> cases g2 <;> cases g3 <;> cases g4 <;> simp_all
 clear hbad hg1 hg2 hg3 hg4;obtain⟨o0,o1,o2,o3,o4,-⟩:=VB.o.c;rcases gg with rfl | ⟨rfl,rfl⟩ | ⟨rfl,rfl,e1⟩ | ⟨rfl,rfl,e1,e2⟩ | ⟨rfl,rfl,e1,e2,rfl⟩ | ⟨rfl,rfl,e1,e2,rfl,rfl⟩
 all_goals
  go_enter func8,ntmps8;go_upto_region 1 with fail
  rw[<-HW2.o];go_upto_region 2 with (first
 |(go_at_call 14;refine(G4.o _ B3.o).mono ?_;rintro e w4 ⟨rfl,hb⟩;have B4:=aa (ab B3.o hb);have Y4:=aa (ab Y3.o hb);clear hb;have BQ:=B4;have YQ:=Y4;skip)
 |(go_at_call 16;refine(G3.o _ B2.o).mono ?_;rintro e w3 ⟨rfl,hb⟩;have B3:=aa (ab B2.o hb);have Y3:=aa (ab Y2.o hb);clear hb;have BQ:=B3;have YQ:=Y3;skip)
 |(go_at_call 20;refine(G2.o _ B1.o).mono ?_;rintro e w2 ⟨rfl,hb⟩;have B2:=aa (ab B1.o hb);have Y2:=aa (ab Y1.o hb);clear hb;have BQ:=B2;have YQ:=Y2;obtain⟨q0,q1,q2,q3,q4,-⟩:=(af Y2.o VB.o).c;obtain⟨r0,r1,r2,r3,r4,-⟩:=(af Y2.o WB.o).c;skip)
 |(go_at_call 20;refine(G1.o _ BW.o).mono ?_;rintro e w1 ⟨rfl,hb⟩;have B1:=aa (ab BW.o hb);have Y1:=aa (hb);clear hb;have BQ:=B1;have YQ:=Y1;obtain⟨p0,p1,p2,p3,p4,-⟩:=(af Y1.o WB.o).c;skip))
  clear o0 o1 o2 o3 o4;obtain⟨v0,v1,v2,v3,v4,-⟩:=(af YQ.o VB.o).c;obtain⟨n0,n1,n2,n3,n4,m0,m1,m2,m3,m4⟩:=(af YQ.o RB.o).c;have ZB:=aa ((af YQ.o RB.o).set (.int .i64 t.kind) (.int .i64 t.n) (.string ⟨t.s.toArray⟩) (.slice a1 t.keys.length c1) (.slice b1 t.l.length d1));have BF:=aa (aP (g:=(w.heap.size+2)) BQ.o (by omega) (.int .i64 t.kind) (.int .i64 t.n) (.string ⟨t.s.toArray⟩) (.slice a1 t.keys.length c1) (.slice b1 t.l.length d1));go_wp2_with fail
  refine bodyPost_ret (v:=.tuple #[.agg #[.int .i64 t.kind,.int .i64 t.n,.string ⟨t.s.toArray⟩,.slice a1 t.keys.length c1,.slice b1 t.l.length d1],.slice la l.length lc,.slice none 0 0,.int .i64 1]) ?_ rfl ?_
  ·exact T6 _ _ _ _ _ _ _ _ _ _ _ (by rfl) (by rfl) (by rfl) (by rfl) ZB.o
  ·rw[gT,R.o];exact⟨_,_,_,rfl,(HT.o.belB (fun k h=>h.2) BF.o).weak fun k h=>.inl h.1,(HL.o.belB (fun k h=>h.2) BF.o).weak fun k h=>.inl h.1,World.ownsRow_nil _ _ _ _,BF.o⟩
theorem UQ(w:World)(ok:Nat->Prop)(t LQ:V)(l:List aL)(who:List UInt8)(force:Bool)(vt vl vw:Value)(ht:In w ok t vt)(hl:aB w ok l vl)(hw:In w ok LQ vw)(hN:bN t<=1000000000000000)(hNW:bN LQ<=1000000000000000)(hA:(bA l).length<=4000000)(hP:∀ o∈l,∀ x∈o.paths,x.length<=140737488351232)(hwho:who.length<=9223372036854775807)(hk1:t.kind=5)(hg1:aE t=true)(hk2:LQ.kind=5)(hg2:aE LQ=true)(hg3:TC l=true)(hg4:bT who=true)(hfd:eu (aV LQ t (au LQ)) who l≠[])(hfo:force=false):Calls prog 8 #[vt,vl,.string ⟨who.toArray⟩,vw,.bool force] w fun e w'=>gT w w' ok (eC t l who LQ force) e:=by
 have R:Ll (eC t l who LQ force=(t,l,eu (aV LQ t (au LQ)) who l,5)):=aa (by unfold eC;rw[if_pos ⟨⟨hk1,hg1⟩,⟨hk2,hg2⟩,hg3,hg4⟩,if_pos ⟨hfd,hfo⟩]);obtain⟨nf,hnf⟩:∃ nf,(eu (aV LQ t (au LQ)) who l).length=nf:=⟨_,rfl⟩
 have NF:=aa hnf;have w1:(0:Int) < (nf:Int):=by have:=List.length_pos_iff.2 hfd;omega
 clear hnf hfd;subst hfo;have HT:=aa ht.low;have HL:=aa hl.low;have HW:=aa hw.low;have HN:=aa hN;have HNW:=aa hNW;have HA:=aa hA;have HP:=aa hP;obtain⟨a1,b1,c1,d1,rfl⟩:=ht.form;obtain⟨a2,b2,c2,d2,rfl⟩:=hw.form;obtain⟨la,lc,rfl⟩:=hl.form;have ll:=hl.1;unfold maxLen at ll;clear ht hl hw hN hNW hA hP;obtain⟨W2,hW2⟩:∃ W,W=((w.alloc (.cells #[.int .i64 t.kind,.int .i64 t.n,.string ⟨t.s.toArray⟩,.slice a1 t.keys.length c1,.slice b1 t.l.length d1] 25)).alloc (.cells #[.int .i64 LQ.kind,.int .i64 LQ.n,.string ⟨LQ.s.toArray⟩,.slice a2 LQ.keys.length c2,.slice b2 LQ.l.length d2] 25)).alloc (.cells #[.int .i64 0,.int .i64 0,.string ⟨#[]⟩,.slice none 0 0,.slice none 0 0] 25):=⟨_,rfl⟩
 have BW:Ll (Below w.heap.size w W2):=aa (by rw[hW2];exact ab (ab (ae _ _) (ae _ _)) (ae _ _));have VB:Ll (ag W2 w.heap.size (.int .i64 t.kind) (.int .i64 t.n) (.string ⟨t.s.toArray⟩) (.slice a1 t.keys.length c1) (.slice b1 t.l.length d1)):=aa (by rw[hW2];exact lI _ _ _ _);have WB:Ll (ag W2 (w.heap.size+1) (.int .i64 LQ.kind) (.int .i64 LQ.n) (.string ⟨LQ.s.toArray⟩) (.slice a2 LQ.keys.length c2) (.slice b2 LQ.l.length d2)):=aa (by rw[hW2];exact mE _ _ _ _);have RB:Ll (ag W2 (w.heap.size+2) (.int .i64 0) (.int .i64 0) (.string ⟨#[]⟩) (.slice none 0 0) (.slice none 0 0)):=aa (by rw[hW2];exact jI _ _ _ _);have SW:Ll (w.heap.size+3<=W2.heap.size):=aa (by have:=(Array.getElem?_eq_some_iff.1 RB.o).1;omega);have HW2:=aa hW2;clear hW2;have G1:Ll (∀ W,Below w.heap.size w W->Calls prog 20 #[.agg #[.int .i64 t.kind,.int .i64 t.n,.string ⟨t.s.toArray⟩,.slice a1 t.keys.length c1,.slice b1 t.l.length d1]] W fun e w'=>e=.returned (.bool (aE t))/\Below W.heap.size W w'):=aa (fun W hW=>rC W _ t _ (HT.o.bel hW) HN.o);have G2:Ll (∀ W,Below w.heap.size w W->Calls prog 20 #[.agg #[.int .i64 LQ.kind,.int .i64 LQ.n,.string ⟨LQ.s.toArray⟩,.slice a2 LQ.keys.length c2,.slice b2 LQ.l.length d2]] W fun e w'=>e=.returned (.bool (aE LQ))/\Below W.heap.size W w'):=aa (fun W hW=>rC W _ LQ _ (HW.o.bel hW) HNW.o);have G3:Ll (∀ W,Below w.heap.size w W->Calls prog 16 #[.slice la l.length lc] W fun e w'=>e=.returned (.bool (TC l))/\Below W.heap.size W w'):=aa (fun W hW=>qa W _ l _ (HL.o.bel hW) HP.o);have G4:Ll (∀ W,Below w.heap.size w W->Calls prog 14 #[.string ⟨who.toArray⟩] W fun e w'=>e=.returned (.bool (bT who))/\Below W.heap.size W w'):=aa (fun W _=>xe W who hwho);rw[hg1]at G1;rw[hg2]at G2;rw[hg3]at G3;rw[hg4]at G4;have e1:(t.kind != 5)=false:=by simp[hk1]
 have e2:(LQ.kind != 5)=false:=by simp[hk2]
 clear hg1 hg2 hg3 hg4 hk1 hk2;obtain⟨o0,o1,o2,o3,o4,-⟩:=VB.o.c;go_enter func8,ntmps8;go_upto_region 1 with fail
 rw[<-HW2.o];go_upto_region 3 with (first
  |(go_at_call 14;refine(G4.o _ B3.o).mono ?_;rintro e w4 ⟨rfl,hb⟩;have B4:=aa (ab B3.o hb);have Y4:=aa (ab Y3.o hb);clear hb;have BQ:=B4;have YQ:=Y4;skip)
  |(go_at_call 16;refine(G3.o _ B2.o).mono ?_;rintro e w3 ⟨rfl,hb⟩;have B3:=aa (ab B2.o hb);have Y3:=aa (ab Y2.o hb);clear hb;have BQ:=B3;have YQ:=Y3;skip)
  |(go_at_call 20;refine(G2.o _ B1.o).mono ?_;rintro e w2 ⟨rfl,hb⟩;have B2:=aa (ab B1.o hb);have Y2:=aa (ab Y1.o hb);clear hb;have BQ:=B2;have YQ:=Y2;obtain⟨q0,q1,q2,q3,q4,-⟩:=(af Y2.o VB.o).c;obtain⟨r0,r1,r2,r3,r4,-⟩:=(af Y2.o WB.o).c;skip)
  |(go_at_call 20;refine(G1.o _ BW.o).mono ?_;rintro e w1 ⟨rfl,hb⟩;have B1:=aa (ab BW.o hb);have Y1:=aa (hb);clear hb;have BQ:=B1;have YQ:=Y1;obtain⟨p0,p1,p2,p3,p4,-⟩:=(af Y1.o WB.o).c;skip))
 clear o0 o1 o2 o3 o4 p0 p1 p2 p3 p4 q0 q1 q2 q3 q4 r0 r1 r2 r3 r4 e1 e2;obtain⟨o0,o1,o2,o3,o4,-⟩:=(af Y4.o VB.o).c;obtain⟨p0,p1,p2,p3,p4,-⟩:=(af Y4.o WB.o).c;have CF:Ll (Calls prog 22 #[.agg #[.int .i64 t.kind,.int .i64 t.n,.string ⟨t.s.toArray⟩,.slice a1 t.keys.length c1,.slice b1 t.l.length d1],.slice la l.length lc,.string ⟨who.toArray⟩,.agg #[.int .i64 LQ.kind,.int .i64 LQ.n,.string ⟨LQ.s.toArray⟩,.slice a2 LQ.keys.length c2,.slice b2 LQ.l.length d2]] w4 fun e w'=>∃ ra rc,e=.returned (.slice ra nf rc)/\w'.ownsRow w4.heap.size 64 2 (.slice ra nf rc) (eu (aV LQ t (au LQ)) who l).length (jV (eu (aV LQ t (au LQ)) who l))/\Below w4.heap.size w4 w'):=aa (by
  refine(Sf w4 _ _ _ t LQ l who _ _ _ (HT.o.bel B4.o) (HL.o.bel B4.o) (HW.o.bel B4.o) HNW.o HA.o HP.o).mono ?_;rintro e w' ⟨r,rfl,h1,h2⟩;obtain⟨a,c,rfl⟩:=TG h1;exact⟨a,c,by rw[NF.o],by rw[<-NF.o];exact h1,h2⟩)
 go_upto_region 5 with (go_at_call 22;refine CF.o.mono ?_;rintro e w5 ⟨ra,rc,rfl,hrow,hb⟩;have B5:=aa (ab B4.o hb);have Y5:=aa (ab Y4.o hb);have ROW:=aa hrow;have S4:=aa (Nat.le_trans SW.o Y4.o.size);clear hb hrow)
 clear o0 o1 o2 o3 o4 p0 p1 p2 p3 p4;obtain⟨v0,v1,v2,v3,v4,-⟩:=(af Y5.o VB.o).c;obtain⟨n0,n1,n2,n3,n4,m0,m1,m2,m3,m4⟩:=(af Y5.o RB.o).c;have ZB:=aa ((af Y5.o RB.o).set (.int .i64 t.kind) (.int .i64 t.n) (.string ⟨t.s.toArray⟩) (.slice a1 t.keys.length c1) (.slice b1 t.l.length d1));have BF:=aa (aP (g:=(w.heap.size+2)) B5.o (by omega) (.int .i64 t.kind) (.int .i64 t.n) (.string ⟨t.s.toArray⟩) (.slice a1 t.keys.length c1) (.slice b1 t.l.length d1));go_wp2_with fail
 refine bodyPost_ret (v:=.tuple #[.agg #[.int .i64 t.kind,.int .i64 t.n,.string ⟨t.s.toArray⟩,.slice a1 t.keys.length c1,.slice b1 t.l.length d1],.slice la l.length lc,.slice ra nf rc,.int .i64 5]) ?_ rfl ?_
 ·exact T6 _ _ _ _ _ _ _ _ _ _ _ (by rfl) (by rfl) (by rfl) (by rfl) ZB.o
 ·rw[gT,R.o];exact⟨_,_,_,rfl,(HT.o.belB (fun k h=>h.2) BF.o).weak fun k h=>.inl h.1,(HL.o.belB (fun k h=>h.2) BF.o).weak fun k h=>.inl h.1,TP (bM ROW.o fun g hg=>(aI _ _ _ _ _ _ _).block g (bY ROW.o hg).2 (by have h8:=(bY ROW.o hg).1;have h9:=S4.o;intro e;cases e;omega)) (by have h9:=S4.o;omega),BF.o⟩
theorem Ut(w:World)(ok:Nat->Prop)(t LQ:V)(l:List aL)(who:List UInt8)(force:Bool)(vt vl vw:Value)(ht:In w ok t vt)(hl:aB w ok l vl)(hw:In w ok LQ vw)(hN:bN t<=1000000000000000)(hNW:bN LQ<=1000000000000000)(hA:(bA l).length<=4000000)(hP:∀ o∈l,∀ x∈o.paths,x.length<=140737488351232)(hwho:who.length<=9223372036854775807)(hk1:t.kind=5)(hg1:aE t=true)(hk2:LQ.kind=5)(hg2:aE LQ=true)(hg3:TC l=true)(hg4:bT who=true)(hf:eu (aV LQ t (au LQ)) who l=[]\/force=true):Calls prog 8 #[vt,vl,.string ⟨who.toArray⟩,vw,.bool force] w fun e w'=>gT w w' ok (eC t l who LQ force) e:=by
 have AO:=aa (Ay who hk1 hg1 hk2 hg2 hg3);have GON:=aa hg3;obtain⟨nf,hnf⟩:∃ nf,(eu (aV LQ t (au LQ)) who l).length=nf:=⟨_,rfl⟩
 have NF:=aa hnf;obtain⟨A,hA0⟩:∃ A,eC t l who LQ force=A:=⟨_,rfl⟩
 have RA:Ll (A=if aE (gO t LQ l who)=true/\(bP (cG t LQ l who) ⟨who,au LQ⟩).length<=6 then (gO t LQ l who,bP (cG t LQ l who) ⟨who,au LQ⟩,[],0) else (t,l,[],2)):=aa (by
  rw[<-hA0];unfold eC;rw[if_pos ⟨⟨hk1,hg1⟩,⟨hk2,hg2⟩,hg3,hg4⟩,if_neg (by rintro⟨h1,h2⟩;rcases hf with e | e;exact h1 e;rw[e]at h2;exact absurd h2 (by simp))])
 rw[hA0];have qq:¬(0:Int) < (nf:Int)\/(0:Int) < (nf:Int)/\force=true:=by
  by_cases h0:nf=0
  ·exact .inl (by omega)
  ·rcases hf with e | e
   ·rw[e]at hnf;exact absurd hnf.symm h0
   ·exact .inr ⟨by omega,e⟩
 clear hnf hA0 hf;have HT:=aa ht.low;have HL:=aa hl.low;have HW:=aa hw.low;have HN:=aa hN;have HNW:=aa hNW;have HA:=aa hA;have HP:=aa hP;obtain⟨a1,b1,c1,d1,rfl⟩:=ht.form;obtain⟨a2,b2,c2,d2,rfl⟩:=hw.form;obtain⟨la,lc,rfl⟩:=hl.form;have ll:=hl.1;unfold maxLen at ll;clear ht hl hw hN hNW hA hP;obtain⟨W2,hW2⟩:∃ W,W=((w.alloc (.cells #[.int .i64 t.kind,.int .i64 t.n,.string ⟨t.s.toArray⟩,.slice a1 t.keys.length c1,.slice b1 t.l.length d1] 25)).alloc (.cells #[.int .i64 LQ.kind,.int .i64 LQ.n,.string ⟨LQ.s.toArray⟩,.slice a2 LQ.keys.length c2,.slice b2 LQ.l.length d2] 25)).alloc (.cells #[.int .i64 0,.int .i64 0,.string ⟨#[]⟩,.slice none 0 0,.slice none 0 0] 25):=⟨_,rfl⟩
 have BW:Ll (Below w.heap.size w W2):=aa (by rw[hW2];exact ab (ab (ae _ _) (ae _ _)) (ae _ _));have VB:Ll (ag W2 w.heap.size (.int .i64 t.kind) (.int .i64 t.n) (.string ⟨t.s.toArray⟩) (.slice a1 t.keys.length c1) (.slice b1 t.l.length d1)):=aa (by rw[hW2];exact lI _ _ _ _);have WB:Ll (ag W2 (w.heap.size+1) (.int .i64 LQ.kind) (.int .i64 LQ.n) (.string ⟨LQ.s.toArray⟩) (.slice a2 LQ.keys.length c2) (.slice b2 LQ.l.length d2)):=aa (by rw[hW2];exact mE _ _ _ _);have RB:Ll (ag W2 (w.heap.size+2) (.int .i64 0) (.int .i64 0) (.string ⟨#[]⟩) (.slice none 0 0) (.slice none 0 0)):=aa (by rw[hW2];exact jI _ _ _ _);have SW:Ll (w.heap.size+3<=W2.heap.size):=aa (by have:=(Array.getElem?_eq_some_iff.1 RB.o).1;omega);have HW2:=aa hW2;clear hW2;have G1:Ll (∀ W,Below w.heap.size w W->Calls prog 20 #[.agg #[.int .i64 t.kind,.int .i64 t.n,.string ⟨t.s.toArray⟩,.slice a1 t.keys.length c1,.slice b1 t.l.length d1]] W fun e w'=>e=.returned (.bool (aE t))/\Below W.heap.size W w'):=aa (fun W hW=>rC W _ t _ (HT.o.bel hW) HN.o);have G2:Ll (∀ W,Below w.heap.size w W->Calls prog 20 #[.agg #[.int .i64 LQ.kind,.int .i64 LQ.n,.string ⟨LQ.s.toArray⟩,.slice a2 LQ.keys.length c2,.slice b2 LQ.l.length d2]] W fun e w'=>e=.returned (.bool (aE LQ))/\Below W.heap.size W w'):=aa (fun W hW=>rC W _ LQ _ (HW.o.bel hW) HNW.o);have G3:Ll (∀ W,Below w.heap.size w W->Calls prog 16 #[.slice la l.length lc] W fun e w'=>e=.returned (.bool (TC l))/\Below W.heap.size W w'):=aa (fun W hW=>qa W _ l _ (HL.o.bel hW) HP.o);have G4:Ll (∀ W,Below w.heap.size w W->Calls prog 14 #[.string ⟨who.toArray⟩] W fun e w'=>e=.returned (.bool (bT who))/\Below W.heap.size W w'):=aa (fun W _=>xe W who hwho);rw[hg1]at G1;rw[hg2]at G2;rw[hg3]at G3;rw[hg4]at G4;have e1:(t.kind != 5)=false:=by simp[hk1]
 have e2:(LQ.kind != 5)=false:=by simp[hk2]
 clear hg1 hg2 hg3 hg4 hk1 hk2;obtain⟨o0,o1,o2,o3,o4,-⟩:=VB.o.c;go_enter func8,ntmps8;go_upto_region 1 with fail
 rw[<-HW2.o];go_upto_region 3 with (first
  |(go_at_call 14;refine(G4.o _ B3.o).mono ?_;rintro e w4 ⟨rfl,hb⟩;have B4:=aa (ab B3.o hb);have Y4:=aa (ab Y3.o hb);clear hb;have BQ:=B4;have YQ:=Y4;skip)
  |(go_at_call 16;refine(G3.o _ B2.o).mono ?_;rintro e w3 ⟨rfl,hb⟩;have B3:=aa (ab B2.o hb);have Y3:=aa (ab Y2.o hb);clear hb;have BQ:=B3;have YQ:=Y3;skip)
  |(go_at_call 20;refine(G2.o _ B1.o).mono ?_;rintro e w2 ⟨rfl,hb⟩;have B2:=aa (ab B1.o hb);have Y2:=aa (ab Y1.o hb);clear hb;have BQ:=B2;have YQ:=Y2;obtain⟨q0,q1,q2,q3,q4,-⟩:=(af Y2.o VB.o).c;obtain⟨r0,r1,r2,r3,r4,-⟩:=(af Y2.o WB.o).c;skip)
  |(go_at_call 20;refine(G1.o _ BW.o).mono ?_;rintro e w1 ⟨rfl,hb⟩;have B1:=aa (ab BW.o hb);have Y1:=aa (hb);clear hb;have BQ:=B1;have YQ:=Y1;obtain⟨p0,p1,p2,p3,p4,-⟩:=(af Y1.o WB.o).c;skip))
 clear o0 o1 o2 o3 o4 p0 p1 p2 p3 p4 q0 q1 q2 q3 q4 r0 r1 r2 r3 r4 e1 e2;obtain⟨o0,o1,o2,o3,o4,-⟩:=(af Y4.o VB.o).c;obtain⟨p0,p1,p2,p3,p4,-⟩:=(af Y4.o WB.o).c;have CF:Ll (Calls prog 22 #[.agg #[.int .i64 t.kind,.int .i64 t.n,.string ⟨t.s.toArray⟩,.slice a1 t.keys.length c1,.slice b1 t.l.length d1],.slice la l.length lc,.string ⟨who.toArray⟩,.agg #[.int .i64 LQ.kind,.int .i64 LQ.n,.string ⟨LQ.s.toArray⟩,.slice a2 LQ.keys.length c2,.slice b2 LQ.l.length d2]] w4 fun e w'=>∃ ra rc,e=.returned (.slice ra nf rc)/\w'.ownsRow w4.heap.size 64 2 (.slice ra nf rc) (eu (aV LQ t (au LQ)) who l).length (jV (eu (aV LQ t (au LQ)) who l))/\Below w4.heap.size w4 w'):=aa (by
  refine(Sf w4 _ _ _ t LQ l who _ _ _ (HT.o.bel B4.o) (HL.o.bel B4.o) (HW.o.bel B4.o) HNW.o HA.o HP.o).mono ?_;rintro e w' ⟨r,rfl,h1,h2⟩;obtain⟨a,c,rfl⟩:=TG h1;exact⟨a,c,by rw[NF.o],by rw[<-NF.o];exact h1,h2⟩)
 go_upto_region 4 with (go_at_call 22;refine CF.o.mono ?_;rintro e w5 ⟨ra,rc,rfl,hrow,hb⟩;have B5:=aa (ab B4.o hb);have Y5:=aa (ab Y4.o hb);have ROW:=aa hrow;have S4:=aa (Nat.le_trans SW.o Y4.o.size);clear hb hrow)
 clear o0 o1 o2 o3 o4 p0 p1 p2 p3 p4;go_cut [82] (fun bv wc=>bv=.bool false/\wc=w5)
 case first=>
  rcases qq with q | ⟨q,rfl⟩
  ·go_wp2_with fail
   go_meet
   case rel=>exact⟨rfl,rfl⟩
  ·go_wp2_with fail
   go_meet
   case rel=>exact⟨rfl,rfl⟩
 case rest=>
  obtain⟨rfl,hwc⟩:=hcut;subst hwc;clear qq;have LV:=aa (sp wc _ LQ _ (HW.o.bel B5.o) HNW.o);have S5:Ll (w.heap.size+3<=wc.heap.size):=aa (Nat.le_trans SW.o Y5.o.size);obtain⟨p0,p1,p2,p3,p4,-⟩:=(af Y5.o WB.o).c;go_upto_block 0 with (go_at_call 19;refine LV.o.mono ?_;rintro e w6 ⟨la6,lc6,rfl,hls,hb⟩;have B6:=aa (ab B5.o hb);have Y6:=aa (ab Y5.o hb);have LS:=aa hls;have S6:=aa (Nat.le_trans S5.o hb.size);clear hb hls)
  clear p0 p1 p2 p3 p4 LV;obtain⟨blk,hblk⟩:∃ b,aV LQ t (au LQ)=b:=⟨_,rfl⟩
  have IW:Ll (∀ W,Below w6.heap.size w6 W->∀ q:List UInt8,q.length<=140737488351232->Calls prog 35 #[.agg #[.int .i64 t.kind,.int .i64 t.n,.string ⟨t.s.toArray⟩,.slice a1 t.keys.length c1,.slice b1 t.l.length d1],.agg #[.int .i64 LQ.kind,.int .i64 LQ.n,.string ⟨LQ.s.toArray⟩,.slice a2 LQ.keys.length c2,.slice b2 LQ.l.length d2],.string ⟨q.toArray⟩] W fun e w'=>e=.returned (.bool (blk q))/\Below W.heap.size W w'):=aa (fun W hW q hq=>by
   have:=PN W _ _ t LQ _ _ q (HT.o.bel (ab B6.o hW)) (HW.o.bel (ab B6.o hW)) hq HNW.o;rwa [hblk]at this)
  obtain⟨stays,hst⟩:∃ f:List UInt8->List UInt8->Bool,f=fun n p=>n != who&&!blk p:=⟨_,rfl⟩
  have STY:Ll (∀ n p,stays n p=(n != who&&!blk p)):=aa (by rw[hst];exact fun _ _=>rfl);have OTH:Ll (cG t LQ l who=dV stays l):=aa (by rw[hst,<-hblk];rfl);clear hst hblk;have LI:=aa (HL.o.bel B6.o);have VB6:=aa (af Y6.o VB.o);have WB6:=aa (af Y6.o WB.o);have RIS:Ll (bD (l.map aL.name)):=aa AO.o.rises;have LEN:Ll (l.length<=6):=aa AO.o.len;go_cut [16,18] (fun ov hv wc=>∃ (oa:Option Addr) (oc:Nat) (ha:Option Addr) (hc:Nat),ov=.slice oa (dV stays l).length oc/\hv=.slice ha (cq l who).length hc/\Ll (Below w6.heap.size w6 wc/\fA wc w6.heap.size (dV stays l) (.slice oa (dV stays l).length oc)/\ao w6 (fun k=>ok k/\k < w.heap.size) (cq l who) (.slice ha (cq l who).length hc)))
  case first=>
   as_aux_lemma=>
    have S0:Ll (Below w6.heap.size w6 w6/\fA w6 w6.heap.size (dV stays (l.take 0)) (.slice none 0 0)/\∃ ha1 hc1,(Value.slice none 0 0)=.slice ha1 (cq (l.take 0) who).length hc1/\ao w6 (fun k=>ok k/\k < w.heap.size) (cq (l.take 0) who) (Value.slice none 0 0)):=aa ⟨Below.refl _ _,⟨[],rfl,World.ownsRow_nil _ _ _ _,fun i o v h=>by simp[dV]at h⟩,none,0,rfl,⟨by simp[cq],.inl ⟨rfl,_,rfl⟩⟩⟩;go_wp2_with fail
    go_loopg [90,16,18] l.length (fun gk i ov hv wr=>∃ k:Nat,k<=l.length/\gk=l.length - k/\i=.int .i64 k/\Ll (Below w6.heap.size w6 wr/\fA wr w6.heap.size (dV stays (l.take k)) ov/\∃ ha1 hc1,hv=.slice ha1 (cq (l.take k) who).length hc1/\ao w6 (fun k=>ok k/\k < w.heap.size) (cq (l.take k) who) hv))
    case atStart=>exact⟨0,Nat.zero_le _,rfl,rfl,S0⟩
    case round=>
     obtain⟨k,hk,hgk,rfl,I⟩:=hrel;obtain⟨wo,hwo⟩:∃ W,W=wr:=⟨_,rfl⟩
     rw[<-hwo]at I ⊢;clear hwo;have GK:=aa hgk;clear hgk;obtain⟨oa,oc,hov⟩:=BN I.o.2.1;subst hov;obtain⟨ha,hc,hhv,hhs⟩:=I.o.2.2;have HS:=aa hhs;clear hhs;subst hhv;by_cases hlt:k < l.length
     ·obtain⟨b,off,pa,pc,rfl,hc1,hc2,hn0,hp0,hst,hnl⟩:=LI.o.at hlt;have hn:=ah I.o.1 hn0;have hp:=ah I.o.1 hp0;have w2:(k:Int) < (l.length:Int):=by omega
      have w3:(0:Int)<=(k:Int):=by omega
      have KS:=aa (O9 stays l hlt);have PS:=aa (UD who RIS.o hlt);have LP:=aa (HP.o _ (List.getElem_mem hlt));have PLN:Ll (l[k].paths.length<=4000000):=aa (by have:=HA.o;have:=OP (List.getElem_mem hlt);omega);have KLN:Ll ((dV stays (l.take k)).length<=4000000):=aa (by
       have h1:=SH stays (l.take k);rw[List.length_take]at h1;have:=LEN.o;omega)
      obtain⟨o,ho⟩:∃ o,l[k]=o:=⟨_,rfl⟩
      rw[ho]at hn hp hst hnl KS LP PLN PS;clear ho hn0 hp0;have ST:=aa hst;have pl:=hst.1;unfold maxLen at pl;clear hst;obtain⟨nm,hnm⟩:∃ n,o.name=n:=⟨_,rfl⟩
      rw[hnm]at hn KS PS;have HNM:=aa hnm;clear hnm;obtain⟨K1,hK1⟩:∃ K,dV stays (l.take k)=K:=⟨_,rfl⟩
      rw[hK1]at I KS KLN ⊢;clear hK1;obtain⟨D1,hD1⟩:∃ D,cq (l.take k) who=D:=⟨_,rfl⟩
      rw[hD1]at I PS HS ⊢;clear hD1;obtain⟨W5,hW5⟩:∃ W,W=wo.alloc (.cells #[.string ⟨nm.toArray⟩,.slice pa o.paths.length pc] 47):=⟨_,rfl⟩
      have A5:Ll (Below wo.heap.size wo W5):=aa (by rw[hW5];exact ae _ _);have N5:Ll (W5.cell? ⟨wo.heap.size,0,none⟩=some (.string ⟨nm.toArray⟩)):=aa (by rw[hW5];exact(rl (heap_alloc_new _ _)).1);have P5:Ll (W5.cell? ⟨wo.heap.size,1,none⟩=some (.slice pa o.paths.length pc)):=aa (by rw[hW5];exact(rl (heap_alloc_new _ _)).2);have HW5:=aa hW5;clear hW5;go_upto_region 12 with fail
      rw[<-HW5.o];have n5:=N5.o;have p5:=P5.o;by_cases hwm:nm=who
      ·have e1:(nm == who)=true:=by simp[hwm]
       have FIN:Ll (Below w6.heap.size w6 W5/\fA W5 w6.heap.size (dV stays (l.take (k+1))) (.slice oa K1.length oc)/\∃ ha1 hc1,(Value.slice pa o.paths.length pc)=.slice ha1 (cq (l.take (k+1)) who).length hc1/\ao w6 (fun k=>ok k/\k < w.heap.size) (cq (l.take (k+1)) who) (Value.slice pa o.paths.length pc)):=aa ⟨ab I.o.1 A5.o,by
        have e9:o.paths.filter (stays nm)=[]:=by
         rw[List.filter_eq_nil_iff];intro p _;rw[STY.o,hwm];simp
        rw[KS.o,if_pos e9,List.append_nil];exact I.o.2.1.bel A5.o,pa,pc,by rw[PS.o,if_pos hwm],by
        rw[PS.o,if_pos hwm];exact ST.o⟩
       clear hwm;go_wp2_with fail
       go_roundg (l.length - (k+1))
       case measure=>rw[GK.o];omega
       case rel=>exact⟨k+1,hlt,rfl,by go_num,FIN⟩
      ·have e1:(nm == who)=false:=by rw[beq_eq_false_iff_ne];exact hwm
       have NW:Ll (nm≠who):=aa hwm;clear hwm;obtain⟨W6,hW6⟩:∃ W,W=W5.alloc (.cells #[.string ⟨nm.toArray⟩,.slice none 0 0] 47):=⟨_,rfl⟩
       have A6:Ll (Below W5.heap.size W5 W6):=aa (by rw[hW6];exact ae _ _);have L6:Ll (t6 W5 W5.heap.size nm (o.paths.take 0 |>.filter (stays nm)) (.slice none 0 0) W6):=aa ⟨A6.o,Nat.le_refl _,by rw[hW6];exact heap_alloc_new _ _,World.ownsRow_nil _ _ _ _⟩;have HW6:=aa hW6;clear hW6;go_upto_region 15 with fail
       rw[<-HW6.o];clear n5 p5;have p5:=ah A6.o P5.o;go_wp2_with fail
       clear p5 hn hp e1;have B5L:=aa (ab I.o.1 A5.o);go_loopg [106] o.paths.length (fun gk i wj=>∃ j:Nat,j<=o.paths.length/\gk=o.paths.length - j/\i=.int .i64 j/\Ll (∃ pv,t6 W5 W5.heap.size nm ((o.paths.take j).filter (stays nm)) pv wj))
       case atStart=>exact⟨0,Nat.zero_le _,rfl,rfl,_,L6.o⟩
       case round=>
        obtain⟨j,hj,hgj,rfl,J⟩:=hrel;obtain⟨wj,rfl⟩:∃ W,W=wr:=⟨_,rfl⟩
        have GJ:=aa hgj;clear hgj;obtain⟨pv,hJ⟩:=J.o;obtain⟨C,hC⟩:∃ C,(o.paths.take j).filter (stays nm)=C:=⟨_,rfl⟩
        rw[hC]at hJ;obtain⟨ja,jc,hov⟩:=TG hJ.row;subst hov;have CLN:Ll (C.length<=4000000):=aa (by
         rw[<-hC];have:=List.length_filter_le (stays nm) (o.paths.take j);rw[List.length_take]at this;have:=PLN.o;omega)
        have CME:Ll (∀ x∈C,x.length<=maxLen):=aa (fun x hx=>by
         rw[<-hC]at hx;have:=LP.o x (List.mem_of_mem_take (List.mem_filter.1 hx).1);unfold maxLen;omega)
        have HC:=aa hC;have HJ:=aa hJ;clear hC hJ J;by_cases hjt:j < o.paths.length
        ·obtain⟨pb,po,rfl,hc1',hc2',hcell0⟩:=gQ ST.o hjt;unfold maxLen at hc2';have LV:=ah (ab B5L.o HJ.o.bel) hcell0;have j2:(j:Int) < (o.paths.length:Int):=by omega
         have j3:(0:Int)<=(j:Int):=by omega
         have PL:=aa (LP.o _ (List.getElem_mem hjt));have CS:Ll ((o.paths.take (j+1)).filter (stays nm)=if blk o.paths[j]=true then C else C++[o.paths[j]]):=aa (by
          have e9:stays nm o.paths[j]=!blk o.paths[j]:=by rw[STY.o,bne_iff_ne.2 NW.o,Bool.true_and]
          rw[List.take_succ_eq_append_getElem hjt,List.filter_append,HC.o];cases h:blk o.paths[j] with
          | true=>rw[List.filter_cons_of_neg (by rw[e9,h];simp)];simp
          | false=>rw[List.filter_cons_of_pos (by rw[e9,h];rfl)];simp)
         clear hcell0;obtain⟨p,hp⟩:∃ p,o.paths[j]=p:=⟨_,rfl⟩
         rw[hp]at LV PL CS;clear hp;have IWP:=aa (IW.o wj (ab B5L.o HJ.o.bel) p PL.o);obtain⟨bp,hbp⟩:∃ b,blk p=b:=⟨_,rfl⟩
         rw[hbp]at CS IWP;clear hbp;obtain⟨u0,u1,u2,u3,u4,-⟩:=(af (ab B5L.o HJ.o.bel) VB6.o).c;obtain⟨x0,x1,x2,x3,x4,-⟩:=(af (ab B5L.o HJ.o.bel) WB6.o).c;cases bp with
         | true=>
          have FIN:Ll (∀ W,Below wj.heap.size wj W->∃ pv,t6 W5 W5.heap.size nm ((o.paths.take (j+1)).filter (stays nm)) pv W):=aa (fun W hW=>⟨_,by rw[CS.o,if_pos rfl];exact HJ.o.grow hW⟩);go_wp2_with (go_at_call 35;refine IWP.o.mono ?_;rintro e w7 ⟨rfl,hb⟩;have B7:=aa hb;clear hb)
          go_roundg (o.paths.length - (j+1))
          case measure=>rw[GJ.o];omega
          case rel=>exact⟨j+1,hjt,rfl,by go_num,FIN.o _ B7.o⟩
         | false=>
          go_upto_region 19 with (go_at_call 35;refine IWP.o.mono ?_;rintro e w7 ⟨rfl,hb⟩;have B7:=aa hb;clear hb)
          have HJ2:=aa (HJ.o.grow B7.o);clear u0 u1 u2 u3 u4 x0 x1 x2 x3 x4 LV;obtain⟨g,cap,W',hR,ho,hg,-⟩:=KW (W:=w7.alloc (.cells #[.string ⟨p.toArray⟩] 9)) (B:=W5.heap.size+1) (v:=.slice ja C.length jc) (n:=C.length) (cs:=C.map fun s=>Value.string ⟨s.toArray⟩) (nb:=w7.heap.size) (k:=⟨p.toArray⟩) (bM HJ2.o.row fun g hg=>(ae _ _).block g (bY HJ2.o.row hg).2) (heap_alloc_new _ _) (by have:=CLN.o;omega) (by have h1:=(ae w7 (.cells #[.string ⟨p.toArray⟩] 9)).size;have h2:=(Array.getElem?_eq_some_iff.1 HJ2.o.bx).1;omega) 22;have PU:=aa (HJ2.o.push ho hg);have FIN:Ll (∃ pv,t6 W5 W5.heap.size nm ((o.paths.take (j+1)).filter (stays nm)) pv (W'.setCell ⟨W5.heap.size,1,none⟩ (.slice (some ⟨g,0,none⟩) (C.length+1) cap))):=aa ⟨_,by rw[CS.o,if_neg (by simp)];exact PU.o.1⟩;have HR:=aa hR;have q1:=(rl HJ2.o.bx).2;have q2:=PU.o.2.1;have q3:=PU.o.2.2;have q4:=ah (ae w7 (.cells #[.string ⟨p.toArray⟩] 9)) q1;clear hR ho hg;go_wp2_with (at_builtin;go_must (refine Lib.wpList_append_run _ rfl _ _ _ _ rfl (.slice ja C.length jc) (.slice (some ⟨w7.heap.size,0,none⟩) 1 1) rfl rfl _ _ HR.o ?_);refine Ll.o ?_)
          refine aa ?_;go_wp2_with fail
          go_roundg (o.paths.length - (j+1))
          case measure=>rw[GJ.o];omega
          case rel=>exact⟨j+1,hjt,rfl,by go_num,FIN⟩
        ·have d9:¬(j:Int) < (o.paths.length:Int):=by omega
         have hje:j=o.paths.length:=by omega
         have CC:Ll (o.paths.filter (stays nm)=C):=aa (by rw[<-HC.o,List.take_of_length_le (by omega)]);have KS2:Ll (dV stays (l.take (k+1))=K1++(if C=[] then [] else [⟨nm,C⟩])):=aa (by rw[KS.o,CC.o]);have PE:Ll (cq (l.take (k+1)) who=D1):=aa (by rw[PS.o,if_neg NW.o]);have OB:=aa (ab A5.o HJ.o.bel);have q0:=(rl HJ.o.bx).1;have q1:=(rl HJ.o.bx).2;clear hje;by_cases hC0:C=[]
         ·have e1:¬(0:Int) < (C.length:Int):=by rw[hC0];simp
          have FIN:Ll (Below w6.heap.size w6 wj/\fA wj w6.heap.size (dV stays (l.take (k+1))) (.slice oa K1.length oc)/\∃ ha1 hc1,(Value.slice ha D1.length hc)=.slice ha1 (cq (l.take (k+1)) who).length hc1/\ao w6 (fun k=>ok k/\k < w.heap.size) (cq (l.take (k+1)) who) (Value.slice ha D1.length hc)):=aa ⟨ab I.o.1 OB.o,by
           rw[KS2.o,if_pos hC0,List.append_nil];exact I.o.2.1.bel OB.o,ha,hc,by rw[PE.o],by rw[PE.o];exact HS.o⟩
          clear hC0;go_wp2_with fail
          go_roundg (l.length - (k+1))
          case measure=>rw[GK.o];omega
          case rel=>exact⟨k+1,hlt,rfl,by go_num,FIN⟩
         ·have e1:(0:Int) < (C.length:Int):=by have:=List.length_pos_iff.2 hC0;omega
          have OR:=I.o.2.1.bel OB.o;obtain⟨pvs,h1,h2,h3⟩:=OR;obtain⟨g,cap,W',hR,ho,hg,hf⟩:=mW (W:=wj.alloc (.cells #[.string ⟨nm.toArray⟩,.slice ja C.length jc] 47)) (B:=w6.heap.size) (v:=.slice oa K1.length oc) (n:=K1.length) (cs:=ba (K1) pvs) (nb:=wj.heap.size) (k:=⟨nm.toArray⟩) (pa:=ja) (pn:=C.length) (pc:=jc) (bM h2 fun g hg=>(ae _ _).block g (bY h2 hg).2) (heap_alloc_new _ _) (by have:=KLN.o;omega) (Nat.le_trans (ab I.o.1 OB.o).size (ae wj (.cells #[.string ⟨nm.toArray⟩,.slice ja C.length jc] 47)).size) 26;have SP:Ll (ao wj (fun k=>w6.heap.size<=k/\some k≠(Value.slice oa K1.length oc).ownBlock) C (.slice ja C.length jc)):=aa (R9 HJ.o.row CME.o (by have:=CLN.o;unfold maxLen;omega) (fun k hk=>⟨by have:=B5L.o.size;omega,fun e=>by
           obtain⟨pvs0,-,h20,-⟩:=I.o.2.1;have:=(bY h20 e.symm).2;have:=A5.o.size;omega⟩))
          have FIN:Ll (Below w6.heap.size w6 W'/\fA W' w6.heap.size (dV stays (l.take (k+1))) (.slice (some ⟨g,0,none⟩) (K1.length+1) cap)/\∃ ha1 hc1,(Value.slice ha D1.length hc)=.slice ha1 (cq (l.take (k+1)) who).length hc1/\ao w6 (fun k=>ok k/\k < w.heap.size) (cq (l.take (k+1)) who) (Value.slice ha D1.length hc)):=aa ⟨Jv (ab (ab I.o.1 OB.o) (ae _ _)) hg (fun q hq=>(bY h2 hq).1),by
           rw[KS2.o,if_neg hC0];refine fA.snoc (wr:=wj) (pv:=.slice ja C.length jc) (o:=⟨nm,C⟩) h1 h3 SP.o ho hg ?_;rcases hf with hf | hf
           ·exact .inl hf
           ·right;have:=(ae wj (.cells #[.string ⟨nm.toArray⟩,.slice ja C.length jc] 47)).size;simp at hf;omega,ha,hc,by rw[PE.o],by rw[PE.o];exact HS.o⟩
          have HR:=aa hR;clear hR ho hg hf h1 h2 h3 hC0;go_wp2_with (at_builtin;go_must (refine Lib.wpList_append_run _ rfl _ _ _ _ rfl (.slice oa K1.length oc) (.slice (some ⟨wj.heap.size,0,none⟩) 1 1) rfl rfl _ _ HR.o ?_);refine Ll.o ?_)
          refine aa ?_;go_wp2_with fail
          go_roundg (l.length - (k+1))
          case measure=>rw[GK.o];omega
          case rel=>exact⟨k+1,hlt,rfl,by go_num,FIN⟩
     ·have d9:¬(k:Int) < (l.length:Int):=by omega
      have hkl:l.take k=l:=List.take_of_length_le (by omega);have FIN:Ll (Below w6.heap.size w6 wo/\fA wo w6.heap.size (dV stays l) (.slice oa (dV stays l).length oc)/\ao w6 (fun k=>ok k/\k < w.heap.size) (cq l who) (.slice ha (cq l who).length hc)):=aa ⟨I.o.1,by have h1:=I.o.2.1;rwa [hkl]at h1,by have h1:=HS.o;rwa [hkl]at h1⟩;go_wp2_with fail
      go_meet
      case rel=>exact⟨oa,oc,ha,hc,rfl,rfl,FIN⟩
  case rest=>
   obtain⟨oa,oc,ha,hc,rfl,rfl,HC⟩:=hcut;obtain⟨w23,rfl⟩:∃ W,W=wc:=⟨_,rfl⟩
   have KNM:=aa AO.o.named;have KRIS:=aa AO.o.risesO;rw[OTH.o]at RA KNM KRIS;have KNE:Ll (∀ o∈dV stays l,o.name≠who):=aa (fun o ho e=>by
    obtain⟨x,hx,rfl,hne⟩:=oE ho;refine hne ?_;simp only at e ⊢;rw[List.filter_eq_nil_iff];intro p _;rw[STY.o,e];simp)
   have KP:Ll (∀ o∈dV stays l,∀ x∈o.paths,x.length<=140737488351232):=aa (fun o ho x hx=>by
    obtain⟨y,hy,rfl,-⟩:=oE ho;exact HP.o y hy x (List.mem_filter.1 hx).1)
   have KLEN:Ll ((dV stays l).length<=6):=aa (Nat.le_trans (SH stays l) LEN.o);have RVE:Ll (gO t LQ l who=ed LQ (au LQ) (dj (au LQ) (dV stays l) (cq l who) t)):=aa (by rw[<-OTH.o];rfl);have OI:=aa (HC.o.2.1.owns KNM.o);have HSD:=aa (HC.o.2.2.bel HC.o.1);have PSL0:=aa (LS.o.bel HC.o.1);have B23:=aa (ab B6.o HC.o.1);have Y23:=aa (ab Y6.o HC.o.1);have S23:=aa (Nat.le_trans S6.o HC.o.1.size);have HADF:Ll (∀ p∈cq l who,p.length<=140737488351232/\aw p≠[]):=aa AO.o.had;have LVF:=aa AO.o.lv;have LNN:=aa AO.o.lvn;have HWO:=aa AO.o.obW;have OBT:Ll (fL t/\bN t<=20000/\t.kind=5):=aa ⟨AO.o.obT,AO.o.cT,AO.o.k5⟩;have OI2:Ll (aB w23 (fun k=>w.heap.size+3<=k) (dV stays l) (.slice oa (dV stays l).length oc)):=aa (OI.o.weak fun k hk=>Nat.le_trans S6.o hk);have PSL1:Ll (ao w23 (fun k=>w.heap.size+3<=k) (au LQ) (.slice la6 (au LQ).length lc6)):=aa (PSL0.o.imp fun a x h1 h2=>⟨Nat.le_trans S5.o h1,h2⟩);have MNM:Ll (∀ o∈bP (dV stays l) ⟨who,au LQ⟩,o.name.length<=maxLen):=aa (Us KNM.o (by show who.length<=maxLen;unfold maxLen;omega));clear HC OTH LI VB6 WB6 LS PSL0 IW STY AO LEN RIS KNM CF ROW NF G1 G2 G3 G4 OI;obtain⟨OI,hoi⟩:∃ x,x=OI2:=⟨_,rfl⟩
   obtain⟨PSL,hps⟩:∃ x,x=PSL1:=⟨_,rfl⟩
   clear hoi hps OI2 PSL1;obtain⟨K,hK⟩:∃ K,dV stays l=K:=⟨_,rfl⟩
   rw[hK]at RA KRIS KNE KP KLEN RVE OI MNM ⊢;clear hK;obtain⟨L,hL⟩:∃ L,au LQ=L:=⟨_,rfl⟩
   rw[hL]at RA RVE LVF LNN PSL MNM ⊢;clear hL;obtain⟨had,hhad⟩:∃ L,cq l who=L:=⟨_,rfl⟩
   rw[hhad]at RVE HADF HSD ⊢;clear hhad;obtain⟨RV,hRV⟩:∃ r,gO t LQ l who=r:=⟨_,rfl⟩
   rw[hRV]at RA RVE;clear hRV;obtain⟨CV,hCV⟩:∃ r,dj L K had t=r:=⟨_,rfl⟩
   rw[hCV]at RVE;have HCV:=aa hCV;clear hCV;have hlw:=HSD.o.1;unfold maxLen at hlw;have llw:=PSL.o.1;unfold maxLen at llw;have klw:=OI.o.1;unfold maxLen at klw;have OKH:Ll (∀ k,w23.heap.size<=k->(bg ok w.heap.size (w.heap.size+3)) k):=aa (fun k h=>.inr (Nat.le_trans S23.o h));have WB23:=aa (af Y23.o WB.o);obtain⟨W24,hW24⟩:∃ W,W=w23.alloc (.cells #[.int .i64 t.kind,.int .i64 t.n,.string ⟨t.s.toArray⟩,.slice a1 t.keys.length c1,.slice b1 t.l.length d1] 25):=⟨_,rfl⟩
   have A24:Ll (Below w23.heap.size w23 W24):=aa (by rw[hW24];exact ae _ _);have N0:Ll (Vp w23 (bg ok w.heap.size (w.heap.size+3)) w23.heap.size t a1 b1 c1 d1 W24):=aa ⟨by rw[hW24];exact heap_alloc_new _ _,A24.o,((HT.o.bel B23.o).bel A24.o).weak fun k hk=>⟨.inl hk,by have:=hk.2;have:=B23.o.size;omega⟩⟩;have I0:Ll (CV=dj L K (had.drop 0) t/\fL t/\bN t<=20000/\t.kind=5):=aa ⟨HCV.o.symm,OBT.o⟩;have HW24:=aa hW24;clear hW24;obtain⟨p0,p1,p2,p3,p4,-⟩:=(af Y23.o VB.o).c;go_upto_region 25 with fail
   rw[<-HW24.o];go_upto_block 4 with fail
   clear p0 p1 p2 p3 p4;go_cut [134] (fun _ wc=>Ll (fL CV/\bN CV<=20000/\∃ (a3 b3:Option Addr) (c3 d3:Nat),Vp w23 (bg ok w.heap.size (w.heap.size+3)) w23.heap.size CV a3 b3 c3 d3 wc))
   case first=>
    as_aux_lemma=>
     go_wp2_with fail
     go_loopg [134] had.length (fun gk i wr=>∃ k:Nat,k<=had.length/\gk=had.length - k/\i=.int .i64 k/\∃ (y:V) (a3 b3:Option Addr) (c3 d3:Nat),Ll (CV=dj L K (had.drop k) y/\fL y/\bN y<=20000/\y.kind=5)/\Ll (Vp w23 (bg ok w.heap.size (w.heap.size+3)) w23.heap.size y a3 b3 c3 d3 wr))
     case atStart=>exact⟨0,Nat.zero_le _,rfl,rfl,t,a1,b1,c1,d1,I0,N0⟩
     case round=>
      obtain⟨k,hk,hgk,rfl,y,a3,b3,c3,d3,IY,NX1⟩:=hrel;obtain⟨wy,rfl⟩:∃ W,W=wr:=⟨_,rfl⟩
      have GK:=aa hgk;clear hgk;by_cases hlt:k < had.length
      ·obtain⟨b,off,rfl,j1,j2,hcl⟩:=gQ HSD.o hlt;unfold maxLen at j2;have LV:=ah NX1.o.2.1 hcl;have w2:(k:Int) < (had.length:Int):=by omega
       have w3:(0:Int)<=(k:Int):=by omega
       obtain⟨hp1,hp2⟩:=HADF.o had[k] (List.getElem_mem hlt);have FS:Ll (dj L K (had.drop k) y=dj L K (had.drop (k+1)) (if ((dr (aw had[k]) y).isSome&&!(L.contains had[k] || concF K had[k]))=true then gI (aw had[k]) y else y)):=aa (by rw[List.drop_eq_getElem_cons hlt];rfl);obtain⟨p,hp⟩:∃ p,had[k]=p:=⟨_,rfl⟩
       rw[hp]at LV hp1 hp2 FS;have PL:=aa hp1;have NNE:=aa hp2;clear hp hcl hp1 hp2;have OY:=aa IY.o.2.1;have CY:Ll (bN y<=90000):=aa (by have:=IY.o.2.2.1;omega);obtain⟨o1,ho1⟩:∃ b,L.contains p=b:=⟨_,rfl⟩
       rw[ho1]at FS;have HO1:=aa ho1;obtain⟨fq,hfq⟩:∃ f:List UInt8->Bool,f=fun q=>(p == q || aboveP q p) || aboveP p q:=⟨_,rfl⟩
       have FQ:Ll (∀ q,fq q=((p == q || aboveP q p) || aboveP p q)):=aa (by rw[hfq];exact fun _=>rfl);obtain⟨fc,hfc⟩:∃ f:aL->Bool,f=fun o=>o.paths.any fq:=⟨_,rfl⟩
       have FC:Ll (∀ o,fc o=o.paths.any fq):=aa (by rw[hfc];exact fun _=>rfl);obtain⟨o2,ho2⟩:∃ b,concF K p=b:=⟨_,rfl⟩
       have FCK:Ll (K.any fc=o2):=aa (by rw[hfc,hfq,<-ho2,<-VS]);rw[ho2]at FS;clear ho1 ho2 hfq hfc;go_upto_block 6 with fail
       clear LV;go_cut [27] (fun kv wc=>kv=.bool o1/\Ll (Below wy.heap.size wy wc))
       case first=>
        as_aux_lemma=>
         go_wp2_with fail
         go_loopg [140,27] L.length (fun gk i kv wj=>∃ j:Nat,j<=L.length/\gk=L.length - j/\i=.int .i64 j/\kv=.bool ((L.take j).any fun q=>p == q)/\Ll (Below wy.heap.size wy wj))
         case atStart=>exact⟨0,Nat.zero_le _,rfl,rfl,rfl,Below.refl _ _⟩
         case round=>
          obtain⟨j,hj,hgj,rfl,rfl,BJ⟩:=hrel;have GJ:=aa hgj;clear hgj;obtain⟨kb,hkb⟩:∃ b,((L.take j).any fun q=>p == q)=b:=⟨_,rfl⟩
          rw[hkb];have HKB:=aa hkb;clear hkb;by_cases hjt:j < L.length
          ·obtain⟨pb,po,rfl,hc1',hc2',hcell0⟩:=gQ PSL.o hjt;unfold maxLen at hc2';have hcl2:=ah (ab NX1.o.2.1 BJ.o) hcell0;have j4:(j:Int) < (L.length:Int):=by omega
           have j3:(0:Int)<=(j:Int):=by omega
           have AT:Ll (((L.take (j+1)).any fun q=>p == q)=(kb || (p == L[j]))):=aa (by rw[Ul _ _ hjt,HKB.o]);obtain⟨q,hq⟩:∃ q,L[j]=q:=⟨_,rfl⟩
           rw[hq]at hcl2 AT;clear hq hcell0;have cs:kb=true\/kb=false/\(p == q)=true\/kb=false/\(p == q)=false:=by cases kb <;> cases (p == q) <;> simp
           rcases cs with rfl | ⟨rfl,e1⟩ | ⟨rfl,e1⟩
           ·have AT2:Ll (((L.take (j+1)).any fun q=>p == q)=true):=aa (by rw[AT.o];rfl);go_wp2_with fail
            go_roundg (L.length - (j+1))
            case measure=>rw[GJ.o];omega
            case rel=>exact⟨j+1,hjt,rfl,by go_num,by rw[AT2.o],BJ⟩
           ·have AT2:Ll (((L.take (j+1)).any fun q=>p == q)=true):=aa (by rw[AT.o,e1];rfl);go_wp2_with fail
            go_roundg (L.length - (j+1))
            case measure=>rw[GJ.o];omega
            case rel=>exact⟨j+1,hjt,rfl,by go_num,by rw[AT2.o],BJ⟩
           ·have AT2:Ll (((L.take (j+1)).any fun q=>p == q)=false):=aa (by rw[AT.o,e1];rfl);go_wp2_with fail
            go_roundg (L.length - (j+1))
            case measure=>rw[GJ.o];omega
            case rel=>exact⟨j+1,hjt,rfl,by go_num,by rw[AT2.o],BJ⟩
          ·have d9:¬(j:Int) < (L.length:Int):=by omega
           have E:=aa (show kb=o1 by rw[<-HKB.o,List.take_of_length_le (by omega),VU];exact HO1.o);go_wp2_with fail
           go_meet
           case rel=>exact⟨by rw[E.o],BJ⟩
       case rest=>
        obtain⟨rfl,HCB⟩:=hcut;obtain⟨wk,rfl⟩:∃ W,W=wc:=⟨_,rfl⟩
        go_upto_block 8 with fail
        go_cut [27] (fun kv wc=>kv=.bool (o1 || o2)/\Ll (Below wk.heap.size wk wc))
        case first=>
         as_aux_lemma=>
          go_wp2_with fail
          go_loopg [153,27] K.length (fun gk i kv wj=>∃ j:Nat,j<=K.length/\gk=K.length - j/\i=.int .i64 j/\kv=.bool (o1 || (K.take j).any fc)/\Ll (Below wk.heap.size wk wj))
          case atStart=>exact⟨0,Nat.zero_le _,rfl,rfl,by simp,Below.refl _ _⟩
          case round=>
           obtain⟨j,hj,hgj,rfl,rfl,BJ⟩:=hrel;have GJ:=aa hgj;clear hgj;obtain⟨wj,rfl⟩:∃ W,W=wr:=⟨_,rfl⟩
           obtain⟨kb,hkb⟩:∃ b,(o1 || (K.take j).any fc)=b:=⟨_,rfl⟩
           rw[hkb];have HKB:=aa hkb;clear hkb;by_cases hjt:j < K.length
           ·obtain⟨b2,off2,pa2,pc2,rfl,hc1',hc2',hn0,hp0,hst,hnl⟩:=OI.o.at hjt;have CH:=aa (ab (ab NX1.o.2.1 HCB.o) BJ.o);have hn:=ah CH.o hn0;have hp:=ah CH.o hp0;have j4:(j:Int) < (K.length:Int):=by omega
            have j3:(0:Int)<=(j:Int):=by omega
            have ATO:Ll ((o1 || (K.take (j+1)).any fc)=(kb || K[j].paths.any fq)):=aa (by rw[Ul _ _ hjt,<-Bool.or_assoc,HKB.o,FC.o]);have QL:=aa (KP.o _ (List.getElem_mem hjt));obtain⟨o,ho⟩:∃ o,K[j]=o:=⟨_,rfl⟩
            rw[ho]at hn hp hst ATO QL;have ST:=aa hst;have pl:=hst.1;unfold maxLen at pl;obtain⟨nm,hnm⟩:∃ n,o.name=n:=⟨_,rfl⟩
            rw[hnm]at hn;clear ho hn0 hp0 hst hnl hnm;obtain⟨W5,hW5⟩:∃ W,W=wj.alloc (.cells #[.string ⟨nm.toArray⟩,.slice pa2 o.paths.length pc2] 47):=⟨_,rfl⟩
            have A5:Ll (Below wj.heap.size wj W5):=aa (by rw[hW5];exact ae _ _);have P5:Ll (W5.cell? ⟨wj.heap.size,1,none⟩=some (.slice pa2 o.paths.length pc2)):=aa (by rw[hW5];exact(rl (heap_alloc_new _ _)).2);have HW5:=aa hW5;clear hW5;go_upto_region 37 with fail
            rw[<-HW5.o];have p5:=P5.o;go_wp2_with fail
            clear p5 hn hp;go_loopg [160,27] o.paths.length (fun gk i kv wi=>∃ i2:Nat,i2<=o.paths.length/\gk=o.paths.length - i2/\i=.int .i64 i2/\kv=.bool (kb || (o.paths.take i2).any fq)/\Ll (Below W5.heap.size W5 wi))
            case atStart=>exact⟨0,Nat.zero_le _,rfl,rfl,by simp,Below.refl _ _⟩
            case round=>
             obtain⟨i2,hi2,hgi,rfl,rfl,BI⟩:=hrel;have GI:=aa hgi;clear hgi;obtain⟨wi,rfl⟩:∃ W,W=wr:=⟨_,rfl⟩
             obtain⟨kc,hkc⟩:∃ b,(kb || (o.paths.take i2).any fq)=b:=⟨_,rfl⟩
             rw[hkc];have HKC:=aa hkc;clear hkc;by_cases hit:i2 < o.paths.length
             ·obtain⟨pb,po,rfl,hc1',hc2',hcell0⟩:=gQ ST.o hit;unfold maxLen at hc2';have hcl2:=ah (ab (ab CH.o A5.o) BI.o) hcell0;have i4:(i2:Int) < (o.paths.length:Int):=by omega
              have i3:(0:Int)<=(i2:Int):=by omega
              have AT:Ll ((kb || (o.paths.take (i2+1)).any fq)=(kc || ((p == o.paths[i2] || aboveP o.paths[i2] p) || aboveP p o.paths[i2]))):=aa (by rw[Ul _ _ hit,<-Bool.or_assoc,HKC.o,FQ.o]);have QLQ:=aa (QL.o _ (List.getElem_mem hit));obtain⟨q,hq⟩:∃ q,o.paths[i2]=q:=⟨_,rfl⟩
              rw[hq]at hcl2 AT QLQ;clear hq hcell0;have s1:¬9223372036854775807 < q.length+1:=by have:=QLQ.o;omega
              have s2:¬9223372036854775807 < p.length+1:=by have:=PL.o;omega
              have k1:ByteArray.mk q.toArray++ByteArray.mk #[47]=ByteArray.mk (q++[47]).toArray:=f7 q [47] #[47] rfl;have k2:ByteArray.mk p.toArray++ByteArray.mk #[47]=ByteArray.mk (p++[47]).toArray:=f7 p [47] #[47] rfl;have BG1:Ll (∀ W,Calls prog 36 #[.string ⟨p.toArray⟩,.string ⟨(q++[47]).toArray⟩] W fun e w'=>e=.returned (.bool (aboveP q p))/\w'=W):=aa (fun W=>wF W p (q++[47]) PL.o (by have:=QLQ.o;simp;omega));have BG2:Ll (∀ W,Calls prog 36 #[.string ⟨q.toArray⟩,.string ⟨(p++[47]).toArray⟩] W fun e w'=>e=.returned (.bool (aboveP p q))/\w'=W):=aa (fun W=>wF W q (p++[47]) QLQ.o (by have:=PL.o;simp;omega));obtain⟨x1,hx1⟩:∃ b,aboveP q p=b:=⟨_,rfl⟩
              rw[hx1]at BG1 AT;obtain⟨x2,hx2⟩:∃ b,aboveP p q=b:=⟨_,rfl⟩
              rw[hx2]at BG2 AT;clear hx1 hx2;have cs:kc=true\/kc=false/\(p == q)=true\/kc=false/\(p == q)=false/\x1=true\/kc=false/\(p == q)=false/\x1=false/\x2=true\/kc=false/\(p == q)=false/\x1=false/\x2=false:=by cases kc <;> cases (p == q) <;> cases x1 <;> cases x2 <;> simp
              rcases cs with rfl | ⟨rfl,e1⟩ | ⟨rfl,e1,rfl⟩ | ⟨rfl,e1,rfl,rfl⟩ | ⟨rfl,e1,rfl,rfl⟩
              ·have AT2:Ll ((kb || (o.paths.take (i2+1)).any fq)=true):=aa (by rw[AT.o];rfl);go_wp2_with fail
               go_roundg (o.paths.length - (i2+1))
               case measure=>rw[GI.o];omega
               case rel=>exact⟨i2+1,hit,rfl,by go_num,by rw[AT2.o],BI⟩
              ·have AT2:Ll ((kb || (o.paths.take (i2+1)).any fq)=true):=aa (by rw[AT.o,e1];rfl);go_wp2_with fail
               go_roundg (o.paths.length - (i2+1))
               case measure=>rw[GI.o];omega
               case rel=>exact⟨i2+1,hit,rfl,by go_num,by rw[AT2.o],BI⟩
              ·have AT2:Ll ((kb || (o.paths.take (i2+1)).any fq)=true):=aa (by rw[AT.o,e1];rfl);go_wp2_with (go_at_call 36;first | (refine(BG1.o _).mono ?_;rintro e w7 ⟨rfl,hw7⟩;have hw8:=hw7.symm;subst hw8;clear hw7))
               go_roundg (o.paths.length - (i2+1))
               case measure=>rw[GI.o];omega
               case rel=>exact⟨i2+1,hit,rfl,by go_num,by rw[AT2.o],BI⟩
              ·have AT2:Ll ((kb || (o.paths.take (i2+1)).any fq)=true):=aa (by rw[AT.o,e1];rfl);go_wp2_with (go_at_call 36;first | (refine(BG1.o _).mono ?_;rintro e w7 ⟨rfl,hw7⟩;have hw8:=hw7.symm;subst hw8;clear hw7 BG1) | (refine(BG2.o _).mono ?_;rintro e w7 ⟨rfl,hw7⟩;have hw8:=hw7.symm;subst hw8;clear hw7))
               go_roundg (o.paths.length - (i2+1))
               case measure=>rw[GI.o];omega
               case rel=>exact⟨i2+1,hit,rfl,by go_num,by rw[AT2.o],BI⟩
              ·have AT2:Ll ((kb || (o.paths.take (i2+1)).any fq)=false):=aa (by rw[AT.o,e1];rfl);go_wp2_with (go_at_call 36;first | (refine(BG1.o _).mono ?_;rintro e w7 ⟨rfl,hw7⟩;have hw8:=hw7.symm;subst hw8;clear hw7 BG1) | (refine(BG2.o _).mono ?_;rintro e w7 ⟨rfl,hw7⟩;have hw8:=hw7.symm;subst hw8;clear hw7))
               go_roundg (o.paths.length - (i2+1))
               case measure=>rw[GI.o];omega
               case rel=>exact⟨i2+1,hit,rfl,by go_num,by rw[AT2.o],BI⟩
             ·have d9:¬(i2:Int) < (o.paths.length:Int):=by omega
              have E:=aa (show kc=(o1 || (K.take (j+1)).any fc) by rw[<-HKC.o,List.take_of_length_le (by omega),ATO.o]);have FB:Ll (Below wk.heap.size wk wi):=aa (ab (ab BJ.o A5.o) BI.o);go_wp2_with fail
              go_roundg (K.length - (j+1))
              case measure=>rw[GJ.o];omega
              case rel=>exact⟨j+1,hjt,rfl,by go_num,by rw[E.o],FB⟩
           ·have d9:¬(j:Int) < (K.length:Int):=by omega
            have E:=aa (show kb=(o1 || o2) by rw[<-HKB.o,List.take_of_length_le (by omega),FCK.o]);go_wp2_with fail
            go_meet
            case rel=>exact⟨by rw[E.o],BJ⟩
        case rest=>
         obtain⟨rfl,HCB2⟩:=hcut;obtain⟨wd,rfl⟩:∃ W,W=wc:=⟨_,rfl⟩
         have NX2:=aa (NX1.o.bel (ab HCB.o HCB2.o));obtain⟨kp,hkp⟩:∃ b,(o1 || o2)=b:=⟨_,rfl⟩
         rw[hkp]at FS ⊢;clear hkp;cases kp with
         | true=>
          have IZ:Ll (CV=dj L K (had.drop (k+1)) y/\fL y/\bN y<=20000/\y.kind=5):=aa ⟨by rw[IY.o.1,FS.o,if_neg (by simp)],IY.o.2⟩;go_wp2_with fail
          go_roundg (had.length - (k+1))
          case measure=>rw[GK.o];omega
          case rel=>exact⟨k+1,hlt,rfl,by go_num,y,_,_,_,_,IZ,NX2⟩
         | false=>
          obtain⟨z,hz⟩:∃ z,(if (dr (aw p) y).isSome then gI (aw p) y else y)=z:=⟨_,rfl⟩
          have IZ:Ll (CV=dj L K (had.drop (k+1)) z/\fL z/\bN z<=20000/\z.kind=5):=aa (by
           rw[IY.o.1,FS.o,<-hz];cases hth:(dr (aw p) y).isSome with
           | false=>simpa using IY.o.2
           | true=>
            have THY:=Option.isSome_iff_exists.1 hth;have OUT:=tr (aw p) y OY.o IY.o.2.2.2 THY;refine⟨by simp,by simpa using OUT.1,by simpa using Nat.le_trans (zP _ _ THY) IY.o.2.2.1,?_⟩;rw[if_pos rfl,OUT.2,if_neg NNE.o])
          have HZ:=aa hz;clear hz;go_upto_region 44 with fail
          refine aD (fun wS=>Below wd.heap.size wd wS) [4] (by kernel_rfl) (aC _ 1) (fun LI=>?_);refine WT.out ?_;refine OJ 0 ?_ [3,4] LI ?_ ?_;rotate_left
          ·intro wS LN;obtain⟨u0,u1,u2,u3,u4,-⟩:=(af LN NX2.o.1).c;go_simp;all_goals with_reducible rfl
          simp only[av,List.set];refine OJ 1 ?_ [2,3,4] LI ?_ ?_;rotate_left
          ·intro wS LN;go_simp;all_goals with_reducible rfl
          simp only[av,List.set];repeat' (first
           | exact nl
           |(refine TD 2 (fun K hK=>?_) ?_
             go_simp;refine(oL _ p PL.o).mono ?_;rintro e w2q ⟨na,nc,rfl,hns,hb5⟩;obtain⟨nz,hnl⟩:∃ n,(aw p).length=n:=⟨_,rfl⟩
             rw[hnl]at hns;try rw[hnl]
             refine hK.out _ _ (ab LI hb5) (fun LJ=>?_);have NS:=aa (And.intro hnl hns);clear hb5 hns;clear hK K;replace LI:=LJ;clear LJ;try simp only[Act.put,List.setIfInBounds_toArray,List.set_cons_zero,List.set_cons_succ])
           |(refine TD 3 (fun K hK=>?_) ?_
             go_simp;refine(Vo _ _ _ y (aw p) _ _ (by exact NX2.o.2.2.bel LI) (by exact NS.o.2) NNE.o OY.o CY.o).mono ?_;rintro e w3q ⟨rv,rfl,hr5,hb5⟩;rw[HZ.o]at hr5;obtain⟨a4,b4,c4,d4,rfl⟩:=hr5.form;refine hK.out _ _ (ab LI hb5) (fun LJ=>?_);have ZI:=aa hr5;have HSZ:=aa LI.size;clear hb5 hr5;clear hK K;replace LI:=LJ;clear LJ;try simp only[Act.put,List.setIfInBounds_toArray,List.set_cons_zero,List.set_cons_succ])
           |(refine OO 4 (fun K hK=>?_)
             have NXP:=aa (NX2.o.put (Nat.le_refl _) LI ZI.o HSZ.o OKH.o);obtain⟨n0,n1,n2,n3,n4,m0,m1,m2,m3,m4⟩:=(af LI NX2.o.1).c;go_simp;refine hK.out _ _ ?_;clear hK K;try simp only[Act.put,List.setIfInBounds_toArray,List.set_cons_zero,List.set_cons_succ])
           | refine OL [2] ?_
           | refine OL [3] ?_
           | fail)
          all_goals
           refine dn (by kernel_rfl) ?_;clear n0 n1 n2 n3 n4 m0 m1 m2 m3 m4;go_wp2_with fail
           go_roundg (had.length - (k+1))
           case measure=>rw[GK.o];omega
           case rel=>exact⟨k+1,hlt,rfl,by go_num,z,_,_,_,_,IZ,NXP⟩
      ·have d9:¬(k:Int) < (had.length:Int):=by omega
       have FIN:Ll (fL CV/\bN CV<=20000/\∃ (a3 b3:Option Addr) (c3 d3:Nat),Vp w23 (bg ok w.heap.size (w.heap.size+3)) w23.heap.size CV a3 b3 c3 d3 wy):=aa (by
        have e:CV=y:=by rw[IY.o.1,List.drop_of_length_le (by omega)];rfl
        rw[e];exact⟨IY.o.2.1,IY.o.2.2.1,_,_,_,_,NX1.o⟩)
       go_wp2_with fail
       go_meet
       case rel=>exact FIN
   case rest=>
    obtain⟨OC,CC,a3,b3,c3,d3,NC⟩:=hcut.o;clear hcut N0 I0;have N0:=aa NC;have I0:Ll (RV=ed LQ (L.drop 0) CV/\fL CV/\bN CV<=20000+0 * 300):=aa ⟨RVE.o,OC,by omega⟩;clear NC OC CC;go_upto_block 12 with fail
    go_cut [193] (fun _ wc=>Ll (bN RV<=90000/\∃ (a3 b3:Option Addr) (c3 d3:Nat),Vp w23 (bg ok w.heap.size (w.heap.size+3)) w23.heap.size RV a3 b3 c3 d3 wc))
    case first=>
     as_aux_lemma=>
      go_wp2_with fail
      go_loopg [193] L.length (fun gk i wr=>∃ k:Nat,k<=L.length/\gk=L.length - k/\i=.int .i64 k/\∃ (y:V) (a3 b3:Option Addr) (c3 d3:Nat),Ll (RV=ed LQ (L.drop k) y/\fL y/\bN y<=20000+k * 300)/\Ll (Vp w23 (bg ok w.heap.size (w.heap.size+3)) w23.heap.size y a3 b3 c3 d3 wr))
      case atStart=>exact⟨0,Nat.zero_le _,rfl,rfl,CV,_,_,_,_,I0,N0⟩
      case round=>
       obtain⟨k,hk,hgk,rfl,y,a3,b3,c3,d3,IY,NX1⟩:=hrel;have GK:=aa hgk;clear hgk;by_cases hlt:k < L.length
       ·obtain⟨b,off,rfl,j1,j2,hcl⟩:=gQ PSL.o hlt;unfold maxLen at j2;have LV:=ah NX1.o.2.1 hcl;have w2:(k:Int) < (L.length:Int):=by omega
        have w3:(0:Int)<=(k:Int):=by omega
        obtain⟨hp1,hp2,hp3⟩:=LVF.o L[k] (List.getElem_mem hlt);have FS:Ll (ed LQ (L.drop k) y=ed LQ (L.drop (k+1)) (TF (aw L[k]) y ((dr (aw L[k]) LQ).getD aM))):=aa (by rw[List.drop_eq_getElem_cons hlt];rfl);obtain⟨p,hp⟩:∃ p,L[k]=p:=⟨_,rfl⟩
        rw[hp]at LV hp1 hp2 hp3 FS;clear hp hcl;obtain⟨x,hx⟩:∃ x,(dr (aw p) LQ).getD aM=x:=⟨_,rfl⟩
        obtain⟨th,hth⟩:∃ x,(dr (aw p) LQ).isSome=x:=⟨_,rfl⟩
        rw[hx]at hp3 FS;obtain⟨z,hz⟩:∃ z,TF (aw p) y x=z:=⟨_,rfl⟩
        have HZ:=aa hz;have PL:=aa hp1;have OX:Ll (fL x):=aa (by rw[<-hx];exact jW HWO.o _);have OY:=aa IY.o.2.1;have CY:Ll (bN y<=90000):=aa (by have:=IY.o.2.2;have:=LNN.o;omega);have IZ:Ll (RV=ed LQ (L.drop (k+1)) z/\fL z/\bN z<=20000+(k+1) * 300):=aa ⟨by rw[IY.o.1,FS.o,hz],by rw[<-hz];exact iY _ _ _ OY.o OX.o,by
         have h1:=uY (aw p) y x;have h2:=IY.o.2.2;rw[hz]at h1;omega⟩
        have HX:=aa hx;have HTX:=aa hth;have WBR:=aa (af NX1.o.2.1 WB23.o);have WIR:=aa ((HW.o.bel (ab B23.o NX1.o.2.1)).low);clear hx hth hz hp1 hp2 hp3;go_upto_region 49 with fail
        clear LV;go_cut [36,37] (fun pv bv wc=>∃ (g7:Nat) (a5 b5:Option Addr) (c5 d5:Nat),pv=.pointer (some ⟨g7,0,none⟩)/\bv=.bool th/\ag wc g7 (.int .i64 x.kind) (.int .i64 x.n) (.string ⟨x.s.toArray⟩) (.slice a5 x.keys.length c5) (.slice b5 x.l.length d5)/\Below wr.heap.size wr wc/\In wc (fun k=>(ok k/\k < w.heap.size)/\k < wr.heap.size) x (.agg #[.int .i64 x.kind,.int .i64 x.n,.string ⟨x.s.toArray⟩,.slice a5 x.keys.length c5,.slice b5 x.l.length d5]))
        case first=>
         refine aD (fun wS=>Below wr.heap.size wr wS) [8] (by kernel_rfl) (aC _ 1) (fun LI=>?_);refine WT.out ?_;refine OJ 0 ?_ [3,4,5,6,8,9] LI ?_ ?_;rotate_left
         ·intro wS LN;obtain⟨u0,u1,u2,u3,u4,-⟩:=(af LN WBR.o).c;go_simp;all_goals with_reducible rfl
         simp only[av,List.set];refine OJ 1 ?_ [2,3,4,5,6,8,9] LI ?_ ?_;rotate_left
         ·intro wS LN;go_simp;all_goals with_reducible rfl
         simp only[av,List.set];repeat' (first
          | exact nl
          |(refine TD 2 (fun K hK=>?_) ?_
            go_simp;refine(oL _ p PL.o).mono ?_;rintro e w2q ⟨na,nc,rfl,hns,hb5⟩;obtain⟨nz,hnl⟩:∃ n,(aw p).length=n:=⟨_,rfl⟩
            rw[hnl]at hns;try rw[hnl]
            refine hK.out _ _ (ab LI hb5) (fun LJ=>?_);have NS:=aa (And.intro hnl hns);try replace NB:=aa (af hb5 NB.o)
            clear hb5 hns;clear hK K;replace LI:=LJ;clear LJ;try simp only[Act.put,List.setIfInBounds_toArray,List.set_cons_zero,List.set_cons_succ])
          |(refine TD 3 (fun K hK=>?_) ?_
            go_simp;refine(gv (aw p) _ (fun k=>(ok k/\k < w.heap.size)/\k < wr.heap.size) _ LQ _ _ (by exact WIR.o.bel LI) (by exact NS.o.2)).mono ?_;rintro e w3q ⟨rv,rfl,hb5,hr5⟩;rw[HX.o]at hr5;rw[HTX.o];obtain⟨a5,b5,c5,d5,rfl⟩:=hr5.form;refine hK.out _ _ (ab LI hb5) (fun LJ=>?_);have WI:=aa hr5;try replace NB:=aa (af hb5 NB.o)
            have Ma:Ll True:=aa trivial;clear hb5 hr5;clear hK K;replace LI:=LJ;clear LJ;try simp only[Act.put,List.setIfInBounds_toArray,List.set_cons_zero,List.set_cons_succ])
          |(refine TD 7 (fun K hK=>?_) ?_
            go_simp;refine hK.out _ _ (ab LI (ae _ _)) (fun LJ=>?_);have GEB:=aa LI.size;have NB:=aa (yl LI);try simp only[n9,vc,sk]at NB
            first | (have c9:=Ma.o;clear c9;have FINA:=aa (Um LI WI.o (.int .i64 x.kind) (.int .i64 x.n) (.string ⟨x.s.toArray⟩) (.slice a5 x.keys.length c5) (.slice b5 x.l.length d5))) | skip
            try replace NS:=aa (And.intro NS.o.1 (NS.o.2.bel (ae _ (.cells #[.int .i64 0,.int .i64 0,.string ⟨#[]⟩,.slice none 0 0,.slice none 0 0] 25))))
            clear hK K;replace LI:=LJ;clear LJ;try simp only[Act.put,List.setIfInBounds_toArray,List.set_cons_zero,List.set_cons_succ])
          |(refine OO 8 (fun K hK=>?_)
            obtain⟨n0,n1,n2,n3,n4,m0,m1,m2,m3,m4⟩:=NB.o.c;first | (have c9:=FINA.o;clear c9) | (have FINB:=aa (AD LI NB.o WI.o (by first | exact Nat.le_refl _ | exact GEB.o) (fun k hk=>by exact hk.2) (.int .i64 x.kind) (.int .i64 x.n) (.string ⟨x.s.toArray⟩) (.slice a5 x.keys.length c5) (.slice b5 x.l.length d5)))
            go_simp;refine hK.out _ _ ?_;clear hK K;try simp only[Act.put,List.setIfInBounds_toArray,List.set_cons_zero,List.set_cons_succ])
          |(refine OO 9 (fun K hK=>?_)
            go_simp;refine hK.out _ _ ?_;clear hK K;try simp only[Act.put,List.setIfInBounds_toArray,List.set_cons_zero,List.set_cons_succ])
          |(refine OJ 4 ?_ [5,6,8,9] (by exact LI) ?_ ?_
            rotate_left
            ·intro wS LN;go_simp;all_goals with_reducible rfl
            simp only[av,List.set])
          |(refine OJ 5 ?_ [8,9] (by exact LI) ?_ ?_
            rotate_left
            ·intro wS LN;go_simp;all_goals with_reducible rfl
            simp only[av,List.set])
          |(refine Pm 6 ?_ (by exact LI) ?_ ?_
            rotate_left
            ·intro wS;go_simp;all_goals with_reducible rfl
            simp only[av,List.set])
          | refine OL [2,7] ?_
          | refine OL [3,7] ?_
          | refine OL [7] ?_
          | refine OL [3] ?_
          | refine OL [2] ?_
          | fail)
         all_goals
          refine dn (by kernel_rfl) ?_;go_wp2_with fail
          go_meet
          case rel=>first | exact⟨_,_,_,_,_,rfl,rfl,FINA.o⟩ | exact⟨_,_,_,_,_,rfl,rfl,FINB.o⟩
        case rest=>
         obtain⟨g7,a5,b5,c5,d5,rfl,rfl,hcX,hcB,hcI⟩:=hcut;obtain⟨wd,rfl⟩:∃ W,W=wc:=⟨_,rfl⟩
         have XB:=aa hcX;have NX2:=aa (NX1.o.bel hcB);have XI:Ll (In wd (fun k=>(bg ok w.heap.size (w.heap.size+3)) k/\k≠w23.heap.size) x (.agg #[.int .i64 x.kind,.int .i64 x.n,.string ⟨x.s.toArray⟩,.slice a5 x.keys.length c5,.slice b5 x.l.length d5])):=aa (hcI.weak fun k hk=>⟨.inl hk.1,by have:=hk.1.2;have:=B23.o.size;omega⟩);clear hcX hcB hcI;go_upto_region 50 with fail
         refine aD (fun wS=>Below wd.heap.size wd wS) [5] (by kernel_rfl) (aC _ 1) (fun LI=>?_);refine WT.out ?_;refine OJ 0 ?_ [4,5] LI ?_ ?_;rotate_left
         ·intro wS LN;obtain⟨u0,u1,u2,u3,u4,-⟩:=(af LN NX2.o.1).c;obtain⟨f0,f1,f2,f3,f4,-⟩:=(af LN XB.o).c;go_simp;all_goals with_reducible rfl
         simp only[av,List.set];refine OJ 1 ?_ [2,4,5] LI ?_ ?_;rotate_left
         ·intro wS LN;go_simp;all_goals with_reducible rfl
         simp only[av,List.set];refine OJ 3 ?_ [4,5] LI ?_ ?_;rotate_left
         ·intro wS LN;obtain⟨u0,u1,u2,u3,u4,-⟩:=(af LN NX2.o.1).c;obtain⟨f0,f1,f2,f3,f4,-⟩:=(af LN XB.o).c;go_simp;all_goals with_reducible rfl
         simp only[av,List.set];repeat' (first
          | exact nl
          |(refine TD 2 (fun K hK=>?_) ?_
            go_simp;refine(oL _ p PL.o).mono ?_;rintro e w2q ⟨na,nc,rfl,hns,hb5⟩;obtain⟨nz,hnl⟩:∃ n,(aw p).length=n:=⟨_,rfl⟩
            rw[hnl]at hns;try rw[hnl]
            refine hK.out _ _ (ab LI hb5) (fun LJ=>?_);have NS:=aa (And.intro hnl hns);clear hb5 hns;clear hK K;replace LI:=LJ;clear LJ;try simp only[Act.put,List.setIfInBounds_toArray,List.set_cons_zero,List.set_cons_succ])
          |(refine TD 4 (fun K hK=>?_) ?_
            go_simp;refine(VD (aw p) _ _ _ y x _ _ _ (by exact NX2.o.2.2.bel LI) (by exact XI.o.bel LI) (by exact NS.o.2) OY.o CY.o).mono ?_;rintro e w4q ⟨rv,rfl,hr5,hb5⟩;rw[HZ.o]at hr5;obtain⟨a4,b4,c4,d4,rfl⟩:=hr5.form;refine hK.out _ _ (ab LI hb5) (fun LJ=>?_);have ZI:=aa hr5;have HSZ:=aa LI.size;clear hb5 hr5;clear hK K;replace LI:=LJ;clear LJ;try simp only[Act.put,List.setIfInBounds_toArray,List.set_cons_zero,List.set_cons_succ])
          |(refine OO 5 (fun K hK=>?_)
            have NXP:=aa (NX2.o.put (Nat.le_refl _) LI ZI.o HSZ.o OKH.o);obtain⟨n0,n1,n2,n3,n4,m0,m1,m2,m3,m4⟩:=(af LI NX2.o.1).c;go_simp;refine hK.out _ _ ?_;clear hK K;try simp only[Act.put,List.setIfInBounds_toArray,List.set_cons_zero,List.set_cons_succ])
          | refine OL [2] ?_
          | refine OL [4] ?_
          | fail)
         all_goals
          refine dn (by kernel_rfl) ?_;clear n0 n1 n2 n3 n4 m0 m1 m2 m3 m4;go_wp2_with fail
          go_roundg (L.length - (k+1))
          case measure=>rw[GK.o];omega
          case rel=>exact⟨k+1,hlt,rfl,by go_num,z,_,_,_,_,IZ,NXP⟩
       ·have d9:¬(k:Int) < (L.length:Int):=by omega
        have FIN:Ll (bN RV<=90000/\∃ (a3 b3:Option Addr) (c3 d3:Nat),Vp w23 (bg ok w.heap.size (w.heap.size+3)) w23.heap.size RV a3 b3 c3 d3 wr):=aa (by
         have e:RV=y:=by rw[IY.o.1,List.drop_of_length_le (by omega)];rfl
         rw[e];exact⟨by have:=IY.o.2.2;have:=LNN.o;omega,_,_,_,_,NX1.o⟩)
        go_wp2_with fail
        go_meet
        case rel=>exact FIN
    case rest=>
     obtain⟨CR,a6,b6,c6,d6,NR⟩:=hcut.o;obtain⟨w51,rfl⟩:∃ W,W=wc:=⟨_,rfl⟩
     have CRV:=aa CR;have NXR:=aa NR;clear hcut CR NR N0 I0;have OI51:Ll (aB w51 (fun k=>w.heap.size+3<=k/\k < w51.heap.size) K (.slice oa K.length oc)):=aa (((OI.o.low).bel NXR.o.2.1).weak fun k hk=>⟨hk.1,Nat.lt_of_lt_of_le hk.2 NXR.o.2.1.size⟩);have PL51:Ll (ao w51 (fun k=>w.heap.size+3<=k/\k < w51.heap.size) L (.slice la6 L.length lc6)):=aa (PSL.o.imp fun a x h1 h2=>⟨⟨h1,Nat.lt_of_lt_of_le (World.block_lt_of_cell? _ _ h2) NXR.o.2.1.size⟩,ah NXR.o.2.1 h2⟩);obtain⟨W52,hW52⟩:∃ W,W=w51.alloc (.cells #[.string ⟨who.toArray⟩,.slice la6 L.length lc6] 47):=⟨_,rfl⟩
     have OW0:Ll (T8 w51 who (fun k=>w.heap.size+3<=k/\k < w51.heap.size) (TM who L K 0) (TL who L K 0) (.slice none 0 0) W52):=aa (by
      rw[(UV who L K).1,(UV who L K).2,hW52];exact⟨ae _ _,⟨_,_,heap_alloc_new _ _,PL51.o.bel (ae _ _)⟩,⟨[],rfl,World.ownsRow_nil _ _ _ _,fun i o v h=>by simp at h⟩⟩)
     have HW52:=aa hW52;clear hW52;go_upto_region 53 with fail
     rw[<-HW52.o];go_upto_block 14 with fail
     go_cut [17] (fun ov wc=>∃ ra rc,ov=.slice ra (TM who L K K.length).length rc/\Ll (T8 w51 who (fun k=>w.heap.size+3<=k/\k < w51.heap.size) (TM who L K K.length) (TL who L K K.length) (.slice ra (TM who L K K.length).length rc) wc))
     case first=>
      as_aux_lemma=>
       go_wp2_with fail
       go_loopg [215,17] K.length (fun gk i ov wr=>∃ k:Nat,k<=K.length/\gk=K.length - k/\i=.int .i64 k/\Ll (T8 w51 who (fun k=>w.heap.size+3<=k/\k < w51.heap.size) (TM who L K k) (TL who L K k) ov wr))
       case atStart=>exact⟨0,Nat.zero_le _,rfl,rfl,OW0⟩
       case round=>
        obtain⟨k,hk,hgk,rfl,I⟩:=hrel;have GK:=aa hgk;clear hgk;obtain⟨ra,rc,hov⟩:=I.o.row.form;subst hov;by_cases hlt:k < K.length
        ·obtain⟨b2,off2,pa2,pc2,rfl,hc1',hc2',hn0,hp0,hst,hnl⟩:=OI51.o.at hlt;have hn:=ah I.o.bel hn0;have hp:=ah I.o.bel hp0;have j4:(k:Int) < (K.length:Int):=by omega
         have j3:(0:Int)<=(k:Int):=by omega
         have OY:=aa (fun(h:U5 who L K k=true)=>VQ (L:=L) KRIS.o KNE.o hlt h);have ON:=aa (fun(h:U5 who L K k=false)=>V5 KRIS.o hlt h);have KNN:=aa (KNE.o _ (List.getElem_mem hlt));have OLN:Ll ((TM who L K k).length<=4000000):=aa (by have:=UG who L K k hk;have:=KLEN.o;omega);obtain⟨o,ho⟩:∃ o,K[k]=o:=⟨_,rfl⟩
         rw[ho]at hn hp hst OY ON KNN;obtain⟨nm,ps⟩:=o;simp only at hn hp hst OY ON KNN;have ST:=aa (fun(W:World) (hW:Below w51.heap.size w51 W)=>hst.bel hW);clear ho hn0 hp0 hst hnl;obtain⟨O1,hO1⟩:∃ x,TM who L K k=x:=⟨_,rfl⟩
         obtain⟨Q1,hQ1⟩:∃ x,TL who L K k=x:=⟨_,rfl⟩
         rw[hO1]at I OY ON OLN ⊢;rw[hQ1]at I OY ON;clear hO1 hQ1;obtain⟨oc,hoc⟩:∃ x,U5 who L K k=x:=⟨_,rfl⟩
         rw[hoc]at OY ON;clear hoc;obtain⟨W5,hW5⟩:∃ W,W=wr.alloc (.cells #[.string ⟨nm.toArray⟩,.slice pa2 ps.length pc2] 47):=⟨_,rfl⟩
         have A5:Ll (Below wr.heap.size wr W5):=aa (by rw[hW5];exact ae _ _);have C5:Ll (W5.heap[wr.heap.size]?=some (.cells #[.string ⟨nm.toArray⟩,.slice pa2 ps.length pc2] 47)):=aa (by rw[hW5];exact heap_alloc_new _ _);have HW5:=aa hW5;clear hW5;have I5:=aa (I.o.grow A5.o);obtain⟨sa,sc,LU,hbs⟩:=I5.o.bx;have BX:=aa LU;have BS:=aa hbs;clear LU hbs;have NE9:Ll (wr.heap.size≠w51.heap.size):=aa (by have:=I.o.lt;omega);have NEO:Ll (some wr.heap.size≠(Value.slice ra O1.length rc).ownBlock):=aa (fun e=>by have:=(I.o.own _ e.symm).2;omega);have LT5:Ll (wr.heap.size < W5.heap.size):=aa (Array.getElem?_eq_some_iff.1 C5.o).1;go_upto_region 56 with fail
         rw[<-HW5.o];clear hn hp;obtain⟨n5,p5⟩:=rl C5.o;obtain⟨q0,q1⟩:=rl BX.o;go_cut [233] (fun bv wc=>bv=.bool oc/\wc=W5)
         case first=>
          cases oc with
          | true=>
           obtain⟨-,y1,-,y3,y4⟩:=OY.o rfl;have r1:(0:Int) < (L.length:Int):=by have:=List.length_pos_iff.2 y3;omega
           have r2:(0:Int) < (Q1.length:Int):=by rw[y1];exact r1
           have r3:Op.bytesLess nm who=false:=by
            cases h:Op.bytesLess nm who with
            | false=>rfl
            | true=>have:=cP _ _ _ h y4;rw[TE]at this;cases this
           have r4:(nm == who)=false:=by rw[beq_eq_false_iff_ne];exact KNN.o
           clear y1 y3;go_wp2_with fail
           go_meet
           case rel=>exact⟨rfl,rfl⟩
          | false=>
           obtain⟨-,-,y3⟩:=ON.o rfl;rcases y3 with y3 | ⟨y3,y4⟩ | ⟨y3,y4,y5⟩
           ·have r1:¬(0:Int) < (L.length:Int):=by rw[y3];simp
            clear y3;go_wp2_with fail
            go_meet
            case rel=>exact⟨rfl,rfl⟩
           ·have r1:(0:Int) < (L.length:Int):=by have:=List.length_pos_iff.2 y3;omega
            have r2:¬(0:Int) < (Q1.length:Int):=by rw[y4];simp
            clear y3 y4;go_wp2_with fail
            go_meet
            case rel=>exact⟨rfl,rfl⟩
           ·have r1:(0:Int) < (L.length:Int):=by have:=List.length_pos_iff.2 y3;omega
            have r2:(0:Int) < (Q1.length:Int):=by have:=List.length_pos_iff.2 y4;omega
            have r4:(nm == who)=false:=by rw[beq_eq_false_iff_ne];exact KNN.o
            clear y3 y4;go_wp2_with fail
            go_meet
            case rel=>exact⟨rfl,rfl⟩
         case rest=>
          obtain⟨rfl,hwc⟩:=hcut;have hwc9:=hwc.symm;subst hwc9;clear hwc;obtain⟨M1,hM1⟩:∃ M,(if oc=true then O1++[⟨who,L⟩] else O1)=M:=⟨_,rfl⟩
          obtain⟨Q2,hQ2⟩:∃ Q,TL who L K (k+1)=Q:=⟨_,rfl⟩
          have NXT:Ll (TM who L K (k+1)=M1++[⟨nm,ps⟩]):=aa (by
           rw[<-hM1];cases oc with
           | true=>exact(OY.o rfl).1
           | false=>exact(ON.o rfl).1)
          have MLN:Ll (M1.length<=4000000):=aa (by
           have h:=UG who L K (k+1) hlt;rw[NXT.o,List.length_append]at h;have:=KLEN.o;omega)
          go_upto_if 233 with fail
          go_cut [17] (fun ov wc=>∃ ra1 rc1,ov=.slice ra1 M1.length rc1/\Ll (T8 w51 who (fun k=>w.heap.size+3<=k/\k < w51.heap.size) M1 Q2 (.slice ra1 M1.length rc1) wc/\wc.heap[wr.heap.size]?=some (.cells #[.string ⟨nm.toArray⟩,.slice pa2 ps.length pc2] 47)))
          case first=>
           cases oc with
           | true=>
            rw[if_pos rfl]at hM1;obtain⟨-,y1,y2,-,-⟩:=OY.o rfl;rw[hQ2]at y2;subst y1 y2 hM1;clear hQ2;obtain⟨g,cap,W',hR,hO,hT⟩:=I5.o.push (nm:=who) (ps:=Q1) (fun k h=>h.2) BS.o OLN.o;have HO:=aa hO;have HR:=aa hR;have PB:=aa (hO.bx);clear hR hO;have HOG:=aa (HO.o.gone (fun k h=>h.2));obtain⟨sa2,sc2,t1,-⟩:=PB.o;have t2:=(rl t1).2;have t3:W'.frozen? ⟨w51.heap.size,1,none⟩=false:=by simp[World.frozen?,t1]
            clear t1;have C6:Ll ((W'.setCell ⟨w51.heap.size,1,none⟩ (.slice none 0 0)).heap[wr.heap.size]?=some (.cells #[.string ⟨nm.toArray⟩,.slice pa2 ps.length pc2] 47)):=aa (by
             rw[Below.heap_setCell _ _ _ _ NE9.o,hT _ LT5.o NEO.o];exact C5.o)
            clear hT;go_wp2_with (at_builtin;go_must (refine Lib.wpList_append_run _ rfl _ _ _ _ rfl (.slice ra O1.length rc) (.slice (some ⟨W5.heap.size,0,none⟩) 1 1) rfl rfl _ _ HR.o ?_);refine Ll.o ?_)
            refine aa ?_;go_wp2_with fail
            go_meet
            case rel=>exact⟨some ⟨g,0,none⟩,cap,by rw[List.length_append];rfl,by rw[List.length_append];exact HOG.o,C6.o⟩
           | false=>
            rw[if_neg (by simp)]at hM1;obtain⟨-,y1,-⟩:=ON.o rfl;rw[hQ2]at y1;subst y1 hM1;go_wp2_with fail
            go_meet
            case rel=>exact⟨_,_,rfl,I5.o,C5.o⟩
          case rest=>
           obtain⟨ra1,rc1,rfl,HC⟩:=hcut;obtain⟨wd,rfl⟩:∃ W,W=wc:=⟨_,rfl⟩
           obtain⟨ra,rfl⟩:∃ x,x=ra1:=⟨_,rfl⟩
           obtain⟨rc,rfl⟩:∃ x,x=rc1:=⟨_,rfl⟩
           obtain⟨n6,p6⟩:=rl HC.o.2;obtain⟨g,cap,W',hR,hO,-⟩:=HC.o.1.push (nm:=nm) (ps:=ps) (fun k h=>h.2) (ST.o wd HC.o.1.bel) MLN.o;have HR:=aa hR;have FIN:Ll (T8 w51 who (fun k=>w.heap.size+3<=k/\k < w51.heap.size) (TM who L K (k+1)) (TL who L K (k+1)) (.slice (some ⟨g,0,none⟩) (M1.length+1) cap) W'):=aa (by rw[NXT.o,hQ2];exact hO);clear hR hO n5 p5 q0 q1;go_wp2_with (at_builtin;go_must (refine Lib.wpList_append_run _ rfl _ _ _ _ rfl (.slice ra M1.length rc) (.slice (some ⟨wd.heap.size,0,none⟩) 1 1) rfl rfl _ _ HR.o ?_);refine Ll.o ?_)
           refine aa ?_;go_wp2_with fail
           go_roundg (K.length - (k+1))
           case measure=>rw[GK.o];omega
           case rel=>exact⟨k+1,hlt,rfl,by go_num,FIN⟩
        ·have d9:¬(k:Int) < (K.length:Int):=by omega
         have Mc:k=K.length:=by omega
         subst Mc;go_wp2_with fail
         go_meet
         case rel=>exact⟨_,_,rfl,I⟩
     case rest=>
      obtain⟨ra,rc,rfl,HO⟩:=hcut;obtain⟨w60,rfl⟩:∃ W,W=wc:=⟨_,rfl⟩
      have OE:=aa (VZ who L K);have OLN:Ll ((TM who L K K.length).length<=4000000):=aa (by have:=UG who L K K.length (Nat.le_refl _);have:=KLEN.o;omega);obtain⟨O1,hO1⟩:∃ x,TM who L K K.length=x:=⟨_,rfl⟩
      obtain⟨Q1,hQ1⟩:∃ x,TL who L K K.length=x:=⟨_,rfl⟩
      obtain⟨M,hM⟩:∃ x,bP K ⟨who,L⟩=x:=⟨_,rfl⟩
      rw[hO1]at HO OE OLN ⊢;rw[hQ1]at HO OE;rw[hM]at OE RA MNM;clear hO1 hQ1 hM;obtain⟨sa,sc,LU,hbs⟩:=HO.o.bx;have BX:=aa LU;have BS:=aa hbs;clear LU hbs;obtain⟨q0,q1⟩:=rl BX.o;obtain⟨ob,hob⟩:∃ b,decide (Q1=[])=b:=⟨_,rfl⟩
      have HOB:=aa hob;clear hob;go_upto_region 61 with fail
      go_cut [247] (fun bv wc=>bv=.bool (!ob)/\wc=w60)
      case first=>
       cases ob with
       | true=>
        go_wp2_with fail
        go_meet
        case rel=>exact⟨by rw[of_decide_eq_true HOB.o];rfl,rfl⟩
       | false=>
        go_wp2_with fail
        go_meet
        case rel=>exact⟨congrArg Value.bool (decide_eq_true (List.length_pos_iff.2 (of_decide_eq_false HOB.o))),rfl⟩
      case rest=>
       obtain⟨rfl,hwc⟩:=hcut;have hwc9:=hwc.symm;subst hwc9;clear hwc;go_upto_if 247 with fail
       go_cut [17] (fun ov wc=>∃ ra1 rc1,ov=.slice ra1 M.length rc1/\Ll (∃ Q9,T8 w51 who (fun k=>w.heap.size+3<=k/\k < w51.heap.size) M Q9 (.slice ra1 M.length rc1) wc))
       case first=>
        cases ob with
        | true=>
         have e9:Ll (O1=M):=aa (by have:=OE.o;rwa [if_pos (of_decide_eq_true HOB.o),List.append_nil]at this);have e10:=e9.o;subst e10;go_wp2_with fail
         go_meet
         case rel=>exact⟨_,_,rfl,_,HO.o⟩
        | false=>
         have e9:O1++[⟨who,Q1⟩]=M:=by have:=OE.o;rwa [if_neg (of_decide_eq_false HOB.o)]at this
         obtain⟨g,cap,W',hR,hO,-⟩:=HO.o.push (nm:=who) (ps:=Q1) (fun k h=>h.2) BS.o OLN.o;have HR:=aa hR;have HO2:=aa hO;clear hR hO;subst e9;go_wp2_with (at_builtin;go_must (refine Lib.wpList_append_run _ rfl _ _ _ _ rfl (.slice ra O1.length rc) (.slice (some ⟨w60.heap.size,0,none⟩) 1 1) rfl rfl _ _ HR.o ?_);refine Ll.o ?_)
         refine aa ?_;go_wp2_with fail
         go_meet
         case rel=>exact⟨some ⟨g,0,none⟩,cap,by rw[List.length_append];rfl,Q1,by rw[List.length_append];exact HO2.o⟩
       case rest=>
        obtain⟨ma,mc,rfl,HOM⟩:=hcut;clear q0 q1 HO BX BS OE HOB;as_aux_lemma=>
         obtain⟨wz,rfl⟩:∃ W,W=wc:=⟨_,rfl⟩
         obtain⟨Q9,hQ9⟩:=HOM.o;have OWM:=aa hQ9;clear hQ9 HOM;have NXZ:=aa (NXR.o.bel OWM.o.bel);have BZ:=aa (ab B23.o NXZ.o.2.1);have YZ:=aa (ab Y23.o NXZ.o.2.1);have S51:Ll (w.heap.size+3<=w51.heap.size):=aa (Nat.le_trans S23.o NXR.o.2.1.size);have GR:Ll (Calls prog 20 #[.agg #[.int .i64 RV.kind,.int .i64 RV.n,.string ⟨RV.s.toArray⟩,.slice a6 RV.keys.length c6,.slice b6 RV.l.length d6]] wz fun e w'=>e=.returned (.bool (aE RV))/\Below wz.heap.size wz w'):=aa (rC wz _ RV _ NXZ.o.2.2 (by have:=CRV.o;omega));have OWS:Ll (aB wz (fun k=>(fun k=>w.heap.size+3<=k/\k < w51.heap.size) k\/w51.heap.size+1<=k) M (.slice ma M.length mc)):=aa (OWM.o.row.owns MNM.o);obtain⟨nm9,hnm9⟩:∃ n,M.length=n:=⟨_,rfl⟩
         rw[hnm9]at RA OWS ⊢;obtain⟨p0,p1,p2,p3,p4,-⟩:=NXZ.o.1.c;obtain⟨gr,hgr⟩:∃ b,aE RV=b:=⟨_,rfl⟩
         rw[hgr]at GR RA;clear hgr hnm9;cases gr with
         | false=>
          have R:Ll (A=(t,l,[],2)):=aa (by rw[RA.o,if_neg (by rintro⟨h,-⟩;cases h)]);go_upto_region 64 with (go_at_call 20;refine GR.o.mono ?_;rintro e w70 ⟨rfl,hb⟩;have BQ:=aa (ab BZ.o hb);have YQ:=aa (ab YZ.o hb);have OWQ:=aa (OWS.o.bel hb);have NXQ:=aa (NXZ.o.bel hb);clear hb)
          clear p0 p1 p2 p3 p4;obtain⟨v0,v1,v2,v3,v4,-⟩:=(af YQ.o VB.o).c;obtain⟨n0,n1,n2,n3,n4,m0,m1,m2,m3,m4⟩:=(af YQ.o RB.o).c;have ZB:=aa ((af YQ.o RB.o).set (.int .i64 t.kind) (.int .i64 t.n) (.string ⟨t.s.toArray⟩) (.slice a1 t.keys.length c1) (.slice b1 t.l.length d1));have BF:=aa (aP (g:=(w.heap.size+2)) BQ.o (by omega) (.int .i64 t.kind) (.int .i64 t.n) (.string ⟨t.s.toArray⟩) (.slice a1 t.keys.length c1) (.slice b1 t.l.length d1));go_wp2_with fail
          refine bodyPost_ret (v:=.tuple #[.agg #[.int .i64 t.kind,.int .i64 t.n,.string ⟨t.s.toArray⟩,.slice a1 t.keys.length c1,.slice b1 t.l.length d1],.slice la l.length lc,.slice none 0 0,.int .i64 2]) ?_ rfl ?_
          ·exact T6 _ _ _ _ _ _ _ _ _ _ _ (by rfl) (by rfl) (by rfl) (by rfl) ZB.o
          ·rw[gT,R.o];exact⟨_,_,_,rfl,(HT.o.belB (fun k h=>h.2) BF.o).weak fun k h=>.inl h.1,(HL.o.belB (fun k h=>h.2) BF.o).weak fun k h=>.inl h.1,World.ownsRow_nil _ _ _ _,BF.o⟩
         | true=>
          by_cases h6:nm9<=6
          ·have R:Ll (A=(RV,M,[],0)):=aa (by rw[RA.o,if_pos ⟨rfl,h6⟩]);have q6:¬(6:Int) < (nm9:Int):=by omega
           clear h6;go_upto_region 65 with (go_at_call 20;refine GR.o.mono ?_;rintro e w70 ⟨rfl,hb⟩;have BQ:=aa (ab BZ.o hb);have YQ:=aa (ab YZ.o hb);have OWQ:=aa (OWS.o.bel hb);have NXQ:=aa (NXZ.o.bel hb);clear hb)
           clear p0 p1 p2 p3 p4 q6;obtain⟨v0,v1,v2,v3,v4,-⟩:=NXQ.o.1.c;obtain⟨n0,n1,n2,n3,n4,m0,m1,m2,m3,m4⟩:=(af YQ.o RB.o).c;have ZB:=aa ((af YQ.o RB.o).set (.int .i64 RV.kind) (.int .i64 RV.n) (.string ⟨RV.s.toArray⟩) (.slice a6 RV.keys.length c6) (.slice b6 RV.l.length d6));have BF:=aa (aP (g:=(w.heap.size+2)) BQ.o (by omega) (.int .i64 RV.kind) (.int .i64 RV.n) (.string ⟨RV.s.toArray⟩) (.slice a6 RV.keys.length c6) (.slice b6 RV.l.length d6));have GF:=aa (aI w70 (w.heap.size+2) (.int .i64 RV.kind) (.int .i64 RV.n) (.string ⟨RV.s.toArray⟩) (.slice a6 RV.keys.length c6) (.slice b6 RV.l.length d6));go_wp2_with fail
           refine bodyPost_ret (v:=.tuple #[.agg #[.int .i64 RV.kind,.int .i64 RV.n,.string ⟨RV.s.toArray⟩,.slice a6 RV.keys.length c6,.slice b6 RV.l.length d6],.slice ma nm9 mc,.slice none 0 0,.int .i64 0]) ?_ rfl ?_
           ·exact T6 _ _ _ _ _ _ _ _ _ _ _ (by rfl) (by rfl) (by rfl) (by rfl) ZB.o
           ·rw[gT,R.o];refine⟨_,_,_,rfl,(NXQ.o.2.2.grown GF.o fun k hk=>?_).weak fun k hk=>?_,(OWQ.o.grownR GF.o fun k hk e=>?_).weak fun k hk=>?_,World.ownsRow_nil _ _ _ _,BF.o⟩
            ·rcases hk.1 with h | h
             ·have:=h.2;omega
             ·omega
            ·rcases hk.1 with h | h
             ·exact .inl h.1
             ·exact .inr (by omega)
            ·have h9:=S51.o;cases e;rcases hk with h | h
             ·have:=h.1;omega
             ·omega
            ·have h9:=S51.o;rcases hk with h | h
             ·exact .inr (by have:=h.1;omega)
             ·exact .inr (by omega)
          ·have R:Ll (A=(t,l,[],2)):=aa (by rw[RA.o,if_neg (by rintro⟨-,h⟩;exact h6 h)]);have q6:(6:Int) < (nm9:Int):=by omega
           clear h6;go_upto_region 64 with (go_at_call 20;refine GR.o.mono ?_;rintro e w70 ⟨rfl,hb⟩;have BQ:=aa (ab BZ.o hb);have YQ:=aa (ab YZ.o hb);have OWQ:=aa (OWS.o.bel hb);have NXQ:=aa (NXZ.o.bel hb);clear hb)
           clear p0 p1 p2 p3 p4 q6;obtain⟨v0,v1,v2,v3,v4,-⟩:=(af YQ.o VB.o).c;obtain⟨n0,n1,n2,n3,n4,m0,m1,m2,m3,m4⟩:=(af YQ.o RB.o).c;have ZB:=aa ((af YQ.o RB.o).set (.int .i64 t.kind) (.int .i64 t.n) (.string ⟨t.s.toArray⟩) (.slice a1 t.keys.length c1) (.slice b1 t.l.length d1));have BF:=aa (aP (g:=(w.heap.size+2)) BQ.o (by omega) (.int .i64 t.kind) (.int .i64 t.n) (.string ⟨t.s.toArray⟩) (.slice a1 t.keys.length c1) (.slice b1 t.l.length d1));go_wp2_with fail
           refine bodyPost_ret (v:=.tuple #[.agg #[.int .i64 t.kind,.int .i64 t.n,.string ⟨t.s.toArray⟩,.slice a1 t.keys.length c1,.slice b1 t.l.length d1],.slice la l.length lc,.slice none 0 0,.int .i64 2]) ?_ rfl ?_
           ·exact T6 _ _ _ _ _ _ _ _ _ _ _ (by rfl) (by rfl) (by rfl) (by rfl) ZB.o
           ·rw[gT,R.o];exact⟨_,_,_,rfl,(HT.o.belB (fun k h=>h.2) BF.o).weak fun k h=>.inl h.1,(HL.o.belB (fun k h=>h.2) BF.o).weak fun k h=>.inl h.1,World.ownsRow_nil _ _ _ _,BF.o⟩
theorem Vv(w:World)(ok:Nat->Prop)(t LQ:V)(l:List aL)(who:List UInt8)(force:Bool)(vt vl vw:Value)(ht:In w ok t vt)(hl:aB w ok l vl)(hw:In w ok LQ vw)(hN:bN t<=1000000000000000)(hNW:bN LQ<=1000000000000000)(hA:(bA l).length<=4000000)(hP:∀ o∈l,∀ x∈o.paths,x.length<=140737488351232)(hwho:who.length<=9223372036854775807):Calls prog 8 #[vt,vl,.string ⟨who.toArray⟩,vw,.bool force] w fun e w'=>gT w w' ok (eC t l who LQ force) e:=by
 by_cases hb:(t.kind=5/\aE t=true)/\(LQ.kind=5/\aE LQ=true)/\TC l=true/\bT who=true
 ·obtain⟨⟨h1,h2⟩,⟨h3,h4⟩,h5,h6⟩:=hb;by_cases hf:eu (aV LQ t (au LQ)) who l=[]
  ·exact Ut w ok t LQ l who force vt vl vw ht hl hw hN hNW hA hP hwho h1 h2 h3 h4 h5 h6 (.inl hf)
  ·cases force with
   | true=>exact Ut w ok t LQ l who true vt vl vw ht hl hw hN hNW hA hP hwho h1 h2 h3 h4 h5 h6 (.inr rfl)
   | false=>exact UQ w ok t LQ l who false vt vl vw ht hl hw hN hNW hA hP hwho h1 h2 h3 h4 h5 h6 hf rfl
 ·exact Vc w ok t LQ l who force vt vl vw ht hl hw hN hNW hA hP hwho hb
end
end Go.Proofs.YtbdlfclnkpofaaaGreatDoor
