import Derived.Test.YtbdlfclnkpofaaaGreatDoorG13
import Derived.Test.YtbdlfclnkpofaaaGreatDoorG17
import Derived.Test.YtbdlfclnkpofaaaGreatDoorG18
set_option maxRecDepth 100000
set_option maxHeartbeats 40000000
set_option linter.unusedSimpArgs false
set_option linter.unusedVariables false
namespace Go.Proofs.YtbdlfclnkpofaaaGreatDoor
open Go.RowKit
open _root_.Go.Proofs.Tryz
variable {w w' W:World}
variable {ok:Nat->Prop}
variable {v:Value}
variable {t:V}
variable {g B S:Nat}
section
structure AQ (t LQ:V) (l:List aL) (who:Lz):Prop where
 rises:bD (l.map aL.name)
 len:l.length<=6
 obT:fL t
 obW:fL LQ
 k5:t.kind=5
 cT:bN t<=20000
 had:∀ p∈cq l who,p.length<=140737488351232/\aw p≠[]
 lv:∀ p∈au LQ,p.length<=140737488351232/\aw p≠[]/\(aw p).length+bN ((dr (aw p) LQ).getD aM)<=300
 lvn:(au LQ).length<=200
 named:∀ o∈cG t LQ l who,o.name.length<=maxLen
 risesO:bD ((cG t LQ l who).map aL.name)
 lenO:(cG t LQ l who).length<=4000000
theorem GA{a:LC}(_:La a W):ag (W.alloc (.cells #[.int .i64 0,.int .i64 0,.string ⟨#[]⟩,.slice none 0 0,.slice none 0 0] 25)) W.heap.size (.int .i64 0) (.int .i64 0) (.string ⟨#[]⟩) (.slice none 0 0) (.slice none 0 0):=MN _ _
theorem Ii{W1 W2:LC}{N z0 z1 z2 z3 z4}(nb:ag W1 g z0 z1 z2 z3 z4)(h:In W2 (bQ (fun k=>bQ ok S k/\k < N) W1.heap.size) t v)(hN:N<=g)(hS:S<=W1.heap.size):In W2 (fun k=>bQ ok S k/\k≠g) t v:=
 h.weak fun k hk=>by
  have hl:=(MF.1 nb).1;rcases hk with hk | hk
  ·exact⟨hk.1,by have:=hk.2;omega⟩
  ·exact⟨.inr (MH hS hk),by omega⟩
theorem Ea{W2:LC}{N}(h:In W2 (bQ (fun k=>bQ ok S k/\k < N) B) t v)(hS:S<=B):In W2 (bQ ok S) t v:=
 h.weak fun k hk=>by
  rcases hk with hk | hk
  ·exact hk.1
  ·exact .inr (MH hS hk)
theorem JU(h:In W ok t v)(ob:Obj):In (W.alloc ob) (fun k=>ok k/\k≠W.heap.size) t v:=
 (h.low.bel (ae W ob)).weak fun k hk=>⟨hk.1,by have:=hk.2;omega⟩
theorem E5{W1 W2:LC}{z0 z1 z2 z3 z4}(nb:ag W1 g z0 z1 z2 z3 z4)(h:In W2 (bQ (fun k=>bQ ok S k/\k≠g) W1.heap.size) t v)(hS:S<=W1.heap.size):In W2 (fun k=>bQ ok S k/\k≠g) t v:=
 h.weak fun k hk=>by
  have hl:=(MF.1 nb).1;rcases hk with hk | hk
  ·exact hk
  ·exact⟨.inr (MH hS hk),by omega⟩
theorem Bp{W2:LC}(h:In W2 (bQ (bQ ok S) B) t v)(hS:S<=B):In W2 (bQ ok S) t v:=
 h.weak fun k hk=>by
  rcases hk with hk | hk
  ·exact hk
  ·exact .inr (MH hS hk)
theorem JM{a:LC}{res a9 b9 c9 d9}(h:La a W)(hi:In W ok res (.agg #[.int .i64 res.kind,.int .i64 res.n,.string ⟨res.s.toArray⟩,.slice a9 res.keys.length c9,.slice b9 res.l.length d9])):ag (W.alloc (.cells #[.int .i64 res.kind,.int .i64 res.n,.string ⟨res.s.toArray⟩,.slice a9 res.keys.length c9,.slice b9 res.l.length d9] 25)) W.heap.size (.int .i64 res.kind) (.int .i64 res.n) (.string ⟨res.s.toArray⟩) (.slice a9 res.keys.length c9) (.slice b9 res.l.length d9)/\a.heap.size<=W.heap.size/\La a (W.alloc (.cells #[.int .i64 res.kind,.int .i64 res.n,.string ⟨res.s.toArray⟩,.slice a9 res.keys.length c9,.slice b9 res.l.length d9] 25))/\In (W.alloc (.cells #[.int .i64 res.kind,.int .i64 res.n,.string ⟨res.s.toArray⟩,.slice a9 res.keys.length c9,.slice b9 res.l.length d9] 25)) ok res (.agg #[.int .i64 res.kind,.int .i64 res.n,.string ⟨res.s.toArray⟩,.slice a9 res.keys.length c9,.slice b9 res.l.length d9]):=
 ⟨MN _ _,h.size,ab h (ae _ _),hi.bel (ae _ _)⟩
theorem Js{a:LC}{res a9 b9 c9 d9 e0 e1 e2 e3 e4}(h:La a W)(hg:a.heap.size<=g)(hb:ag W g e0 e1 e2 e3 e4)(hi:In W (fun k=>ok k/\k≠g) res (.agg #[.int .i64 res.kind,.int .i64 res.n,.string ⟨res.s.toArray⟩,.slice a9 res.keys.length c9,.slice b9 res.l.length d9])):ag (ar W g (.int .i64 res.kind) (.int .i64 res.n) (.string ⟨res.s.toArray⟩) (.slice a9 res.keys.length c9) (.slice b9 res.l.length d9)) g (.int .i64 res.kind) (.int .i64 res.n) (.string ⟨res.s.toArray⟩) (.slice a9 res.keys.length c9) (.slice b9 res.l.length d9)/\a.heap.size<=g/\La a (ar W g (.int .i64 res.kind) (.int .i64 res.n) (.string ⟨res.s.toArray⟩) (.slice a9 res.keys.length c9) (.slice b9 res.l.length d9))/\In (ar W g (.int .i64 res.kind) (.int .i64 res.n) (.string ⟨res.s.toArray⟩) (.slice a9 res.keys.length c9) (.slice b9 res.l.length d9)) ok res (.agg #[.int .i64 res.kind,.int .i64 res.n,.string ⟨res.s.toArray⟩,.slice a9 res.keys.length c9,.slice b9 res.l.length d9]):=
 ⟨hb.set _ _ _ _ _,hg,aP h hg _ _ _ _ _,(hi.grown (aI W g _ _ _ _ _) (fun k h9=>by have:=h9.2;simp;omega)).weak fun k h9=>h9.1⟩
theorem Ht{w8:LC}{L}(h:dB w8 (fun k=>bQ ok S k/\k < w8.heap.size) t L v)(hb:La w8 W):dB W (bQ ok S) t L v:=(h.bel hb).weak fun k hk=>hk.1
theorem EC{w8:LC}{L}(h:dB w8 (fun k=>bQ ok S k/\k < w8.heap.size) t L v)(hb:La w8 W)(hg:w8.heap.size<=g):dB W (fun k=>bQ ok S k/\k≠g) t L v:=(h.bel hb).weak fun k hk=>⟨hk.1,by have:=hk.2;omega⟩
attribute [local go_sem ↓] Go.wp_at_zero Go.wp_at_succ
theorem In.grownR{r}(h:In w ok t v)(hg:w.grownBy w' r)(hr:∀ k,ok k->some k≠r):In w' ok t v:=by
 obtain⟨d,h⟩:=h;exact⟨d,h.grown hg hr⟩
theorem aB.grownR{r l}(h:aB w ok l v)(hg:w.grownBy w' r)(hr:∀ k,ok k->some k≠r):aB w' ok l v:=h.imp (eJ hg hr)
theorem fA.bel{os r}(h:fA w B os r)(hb:La w w'):fA w' B os r:=by
 obtain⟨pvs,h1,h2,h3⟩:=h;exact⟨pvs,h1,bM h2 fun g hg=>hb.block g (bY h2 hg).2,fun i o v q1 q2=>⟨(h3 i o v q1 q2).1,(h3 i o v q1 q2).2.bel hb⟩⟩
theorem fA.lt{os r}(h:fA w B os r):∀ g,r.ownBlock=some g->B<=g/\g < w.heap.size:=by
 obtain⟨pvs,h1,h2,h3⟩:=h;exact fun g hg=>bY h2 hg
theorem Bx{L v0 v1 v2 v3 v4 v5}(h:dB w ok t L (.agg #[v0,v1,v2,v3,v4,v5])):ao w ok L v5:=by
 obtain⟨a1,a2,a3,c1,c2,c3,e,-,h2⟩:=h;simp only[Value.agg.injEq,Array.mk.injEq,List.cons.injEq,and_true]at e;rw[e.2.2.2.2.2];exact h2
theorem DL{L}(h:dB w ok t L v):dB w (Lj ok w) t L v:=by
 obtain⟨a1,a2,a3,c1,c2,c3,rfl,h1,h2⟩:=h;exact⟨a1,a2,a3,c1,c2,c3,rfl,h1.low,h2.imp fun a x q1 q2=>⟨⟨q1,World.block_lt_of_cell? _ _ q2⟩,q2⟩⟩
theorem uh(w ok t LQ l who force vt vl vw)(ht:In w ok t vt)(hl:aB w ok l vl)(hw:In w ok LQ vw)(hM:bj w)(hN:(bA l).length<=4000000)(hP:∀ o∈l,∀ x∈o.paths,x.length<=140737488351232)(hwho:who.length<=9223372036854775807)(hg1:(decide (t.kind=5)&&aE t)=true)(hg2:(decide (LQ.kind=5)&&aE LQ)=true)(hg3:TC l=true)(hg4:bT who=true)(hf:eu (aV LQ t (au LQ)) who l=[]\/force=true)(hao:AQ t LQ l who):Calls prog 7 #[vt,vl,.string ⟨who.toArray⟩,vw,.bool force] w fun e w'=>gT w w' ok (eC t l who LQ force) e:=by
 have AO:=aa hao;have CC:Ll (ld t l who LQ=eu (aV LQ t (au LQ)) who l):=aa (by rw[ld,if_pos ⟨by simpa using (Bool.and_eq_true_iff.1 hg1).2,hg3⟩]);obtain⟨nf,hnf⟩:∃ nf,(eu (aV LQ t (au LQ)) who l).length=nf:=⟨_,rfl⟩
 have NF:=aa hnf;obtain⟨A,hA⟩:∃ A,eC t l who LQ force=A:=⟨_,rfl⟩
 have RA:Ll (A=if aE (gO t LQ l who)=true/\(bP (cG t LQ l who) ⟨who,au LQ⟩).length<=6 then (gO t LQ l who,bP (cG t LQ l who) ⟨who,au LQ⟩,[],0) else (t,l,[],2)):=aa (by
  rw[<-hA];unfold eC;rw[if_pos ⟨by simpa using hg1,by simpa using hg2,hg3,hg4⟩,if_neg (by rintro⟨h1,h2⟩;rcases hf with e | e;exact h1 e;rw[e]at h2;exact absurd h2 (by simp))])
 rw[hA];clear hA;have qq:¬(0:Int) < (nf:Int)\/(0:Int) < (nf:Int)/\force=true:=by
  by_cases h0:nf=0
  ·exact .inl (by omega)
  ·exact .inr ⟨by omega,hf.resolve_left fun e=>h0 (by rw[<-hnf,e];rfl)⟩
 clear hnf hao hf;have HT:=aa ht.low;have HL:=aa hl.low;have HW:=aa hw.low;have HM:=aa hM;have HN:=aa hN;have HP:=aa hP;obtain⟨b1,b2,d1,d2,rfl⟩:=ht.form;obtain⟨a1,a2,c1,c2,rfl⟩:=hw.form;obtain⟨la,lc,rfl⟩:=hl.form;have ll:=hl.1;unfold maxLen at ll;clear ht hl hw hM hN hP;obtain⟨W3,hW3⟩:∃ W,W=(((w.alloc (.cells #[.int .i64 t.kind,.int .i64 t.n,.string ⟨t.s.toArray⟩,.slice b1 t.keys.length d1,.slice b2 t.l.length d2] 25)).alloc (.cells #[.string ⟨who.toArray⟩] 9)).alloc (.cells #[.int .i64 LQ.kind,.int .i64 LQ.n,.string ⟨LQ.s.toArray⟩,.slice a1 LQ.keys.length c1,.slice a2 LQ.l.length c2] 25)).alloc (.cells #[.int .i64 0,.int .i64 0,.string ⟨#[]⟩,.slice none 0 0,.slice none 0 0] 25):=⟨_,rfl⟩
 have BW:Ll (La w W3):=aa (by rw[hW3];exact ab (ab (ab (ae _ _) (ae _ _)) (ae _ _)) (ae _ _));have X1:Ll (ag W3 w.heap.size (.int .i64 t.kind) (.int .i64 t.n) (.string ⟨t.s.toArray⟩) (.slice b1 t.keys.length d1) (.slice b2 t.l.length d2)):=aa (by rw[hW3];exact H6 _ _ _ _ _ (lI _ _ _ _));have X2:Ll (W3.heap[w.heap.size+1]?=some (.cells #[.string ⟨who.toArray⟩] 9)):=aa (by rw[hW3];exact H6 _ _ _ _ _ (mE _ _ _ _));have X3:Ll (ag W3 (w.heap.size+2) (.int .i64 LQ.kind) (.int .i64 LQ.n) (.string ⟨LQ.s.toArray⟩) (.slice a1 LQ.keys.length c1) (.slice a2 LQ.l.length c2)):=aa (by rw[hW3];exact H6 _ _ _ _ _ (jI _ _ _ _));have X4:Ll (ag W3 (w.heap.size+3) (.int .i64 0) (.int .i64 0) (.string ⟨#[]⟩) (.slice none 0 0) (.slice none 0 0)):=aa (by rw[hW3];exact JD _ _ _ _ _);have HW3:=aa hW3;clear hW3;have G1:Ll (∀ W,La w W->Calls prog 25 #[.agg #[.int .i64 t.kind,.int .i64 t.n,.string ⟨t.s.toArray⟩,.slice b1 t.keys.length d1,.slice b2 t.l.length d2]] W fun e w'=>e=.returned (.bool (decide (t.kind=5)&&aE t))/\La W w'):=aa (fun W hW=>dq W _ t _ (HT.o.bel hW));have G2:Ll (∀ W,La w W->Calls prog 25 #[.agg #[.int .i64 LQ.kind,.int .i64 LQ.n,.string ⟨LQ.s.toArray⟩,.slice a1 LQ.keys.length c1,.slice a2 LQ.l.length c2]] W fun e w'=>e=.returned (.bool (decide (LQ.kind=5)&&aE LQ))/\La W w'):=aa (fun W hW=>dq W _ LQ _ (HW.o.bel hW));have G3:Ll (∀ W,La w W->Calls prog 15 #[.slice la l.length lc] W fun e w'=>e=.returned (.bool (TC l))/\La W w'):=aa (fun W hW=>eZ W _ l _ (HL.o.bel hW) HP.o (HM.o.bel hW));have G4:Ll (∀ W,La w W->Calls prog 13 #[.string ⟨who.toArray⟩] W fun e w'=>e=.returned (.bool (bT who))/\La W w'):=aa (fun W _=>(lR W who hwho).mono fun e w' h=>⟨h.1,h.2 ▸ MK _ _⟩);have SW:Ll (w.heap.size+4<=W3.heap.size):=aa (by have:=(MF.1 X4.o).1;omega);rw[hg1]at G1;rw[hg2]at G2;rw[hg3]at G3;rw[hg4]at G4;clear hg1 hg2 hg3 hg4;have o0_:=X1.o.c;rcases qq with q0 | ⟨q0,rfl⟩
 all_goals
  go_enter func7,ntmps7;go_upto_region 1 with fail
  rw[<-HW3.o];go_upto_region 3 with (first
   |(go_at_call 13;refine Lk (G4.o _ B3.o) fun w4 hb=>?_;have B4:=aa (ab B3.o hb);have Y4:=aa (ab Y3.o hb);clear hb;skip)
   |(go_at_call 15;refine Lk (G3.o _ B2.o) fun w3 hb=>?_;have B3:=aa (ab B2.o hb);have Y3:=aa (ab Y2.o hb);clear hb;have u0:w3.cell? ⟨w.heap.size+1,0,none⟩=some (.string ⟨who.toArray⟩):=(by have h9:=bR Y3.o X2.o;simp[World.cell?,h9]);skip)
   |(go_at_call 25;refine Lk (G2.o _ B1.o) fun w2 hb=>?_;have B2:=aa (ab B1.o hb);have Y2:=aa (ab Y1.o hb);clear hb;skip)
   |(go_at_call 25;refine Lk (G1.o _ BW.o) fun w1 hb=>?_;have B1:=aa (ab BW.o hb);have Y1:=aa hb;clear hb;have p0_:=(af Y1.o X3.o).c;skip))
  have o0_:=(af Y4.o X1.o).c;have p0_:=(af Y4.o X3.o).c;have u0:w4.cell? ⟨w.heap.size+1,0,none⟩=some (.string ⟨who.toArray⟩):=(by have h9:=bR Y4.o X2.o;simp[World.cell?,h9])
  have CF:Ll (Calls prog 21 #[.agg #[.int .i64 t.kind,.int .i64 t.n,.string ⟨t.s.toArray⟩,.slice b1 t.keys.length d1,.slice b2 t.l.length d2],.slice la l.length lc,.string ⟨who.toArray⟩,.agg #[.int .i64 LQ.kind,.int .i64 LQ.n,.string ⟨LQ.s.toArray⟩,.slice a1 LQ.keys.length c1,.slice a2 LQ.l.length c2]] w4 fun e w'=>∃ ra rc,e=.returned (.slice ra nf rc)/\w'.ownsRow w4.heap.size 64 2 (.slice ra nf rc) (eu (aV LQ t (au LQ)) who l).length (jV (eu (aV LQ t (au LQ)) who l))/\La w4 w'):=aa (by
   refine(lJ w4 _ _ _ t LQ l who _ _ _ (HT.o.bel B4.o) (HL.o.bel B4.o) (HW.o.bel B4.o) (HM.o.bel B4.o) HN.o HP.o).mono ?_;rintro e w' ⟨r,rfl,h1,h2⟩;rw[CC.o]at h1;rcases h1.2 with⟨rfl,h9⟩ | ⟨g,cap,cur,rfl,h9⟩
   ·exact⟨none,0,by rw[<-NF.o,h9],by rw[<-NF.o];rw[h9]at h1 ⊢;exact h1,h2⟩
   ·exact⟨_,_,by rw[NF.o],by rw[<-NF.o];exact h1,h2⟩)
  go_upto_region 6 with (go_at_call 21;refine CF.o.mono ?_;rintro e w5 ⟨ra,rc,rfl,hrow,hb⟩;have B5:=aa (ab B4.o hb);have Y5:=aa (ab Y4.o hb);have ROW:=aa hrow;have S4:=aa (MH (show w.heap.size+4<=W3.heap.size from SW.o) Y4.o.size);clear hb hrow)
  have p0_:=(af Y5.o X3.o).c;have WO:=aa (rQ w5 (Lj ok w) LQ _ (by exact HW.o.bel B5.o) (HM.o.bel B5.o));go_upto_region 7 with (go_at_call 26;refine WO.o.mono ?_;rintro e w6 ⟨r,rfl,hwi,hb⟩;have B6:=aa (ab B5.o hb);have Y6:=aa (ab Y5.o hb);have WI:=aa hwi;have Y56:=aa hb;clear hb;obtain⟨x1,x2,x3,y1,y2,y3,rfl,-,-⟩:=hwi)
  obtain⟨W7,hW7⟩:∃ W,W=w6.alloc (.cells #[.int .i64 LQ.kind,.int .i64 LQ.n,.string ⟨LQ.s.toArray⟩,.slice x1 LQ.keys.length y1,.slice x2 LQ.l.length y2,.slice x3 (au LQ).length y3] 49):=⟨_,rfl⟩
  have Y7:Ll (La w6 W7):=aa (by rw[hW7];exact ae _ _);have X7:Ll (W7.heap[w6.heap.size]?=some (.cells #[.int .i64 LQ.kind,.int .i64 LQ.n,.string ⟨LQ.s.toArray⟩,.slice x1 LQ.keys.length y1,.slice x2 LQ.l.length y2,.slice x3 (au LQ).length y3] 49)):=aa (by rw[hW7];exact MN _ _);have B7:=aa (ab B6.o Y7.o);rw[<-hW7];clear hW7;have CAP:Ll (ri W7 (bQ (Lj ok w) w5.heap.size) (Lj ok w) who LQ t (au LQ) (w.heap.size+1) w6.heap.size w.heap.size x1 x2 x3 b1 b2 y1 y2 y3 d1 d2):=aa ⟨by
   have h9:=bR (ab Y6.o Y7.o) X2.o;simp[World.cell?,h9],X7.o,af (ab Y6.o Y7.o) X1.o,WI.o.bel Y7.o,HT.o.bel B7.o,HM.o.bel B7.o,by have:=AO.o.cT;omega,(TT LQ).1,(TT LQ).2⟩
  have WI7:Ll (dB W7 (fun k=>bQ (Lj ok w) w5.heap.size k/\k < W7.heap.size) LQ (au LQ) (.agg #[.int .i64 LQ.kind,.int .i64 LQ.n,.string ⟨LQ.s.toArray⟩,.slice x1 LQ.keys.length y1,.slice x2 LQ.l.length y2,.slice x3 (au LQ).length y3])):=aa (DL (WI.o.bel Y7.o));have KEPT:=aa (Am W7 (Lj ok w) l _ 28 #[.pointer (some ⟨w.heap.size+1,0,none⟩),.pointer (some ⟨w6.heap.size,0,none⟩),.pointer (some ⟨w.heap.size,0,none⟩)] (fun n p=>n != who&&!aV LQ t (au LQ) p) qT
   (fun W n p hW hnp=>DD W _ _ who LQ t (au LQ) _ _ _ _ _ _ _ _ _ _ _ _ _ n p (CAP.o.bel hW) (by obtain⟨o,ho,-,hx⟩:=kL hnp;exact HP.o o ho _ hx)) (HL.o.bel B7.o) AO.o.rises HN.o (fun o ho x hx=>by have:=HP.o o ho x hx;unfold maxLen;omega))
  rw[show dV (fun n p=>n != who&&!aV LQ t (au LQ) p) l=cG t LQ l who from rfl]at KEPT;go_upto_region 8 with (go_at_call 27;refine KEPT.o.mono ?_;rintro e w8 ⟨oa,oc,rfl,hrow,hb⟩;have Y8:=aa (ab (ab Y6.o Y7.o) hb);have B8:=aa (ab B7.o hb);have ORW:=aa hrow;have B78:=aa hb;clear hb hrow)
  have VB8:=aa (af Y8.o X1.o);have RB8:=aa (af Y8.o X4.o);have XW8:=aa (bR B78.o X7.o);have NC8:Ll (w8.cell? ⟨w.heap.size+1,0,none⟩=some (.string ⟨who.toArray⟩)):=aa (by have h9:=bR Y8.o X2.o;simp[World.cell?,h9]);have OW8:=aa (ORW.o.owns AO.o.named);have WI8:Ll (dB w8 (fun k=>bQ (fun k=>bQ (Lj ok w) w5.heap.size k/\k < W7.heap.size) w8.heap.size k/\k < w8.heap.size) LQ (au LQ) (.agg #[.int .i64 LQ.kind,.int .i64 LQ.n,.string ⟨LQ.s.toArray⟩,.slice x1 LQ.keys.length y1,.slice x2 LQ.l.length y2,.slice x3 (au LQ).length y3])):=aa ((WI7.o.bel B78.o).weak fun k hk=>⟨.inl hk,MI hk.2 B78.o.size⟩);obtain⟨cl,hcl⟩:∃ cl,dj (au LQ) (cG t LQ l who) (cq l who) t=cl:=⟨_,rfl⟩
  have HCL:=aa hcl;obtain⟨res,hres⟩:∃ res,ed LQ (au LQ) cl=res:=⟨_,rfl⟩
  have HRES:=aa hres;have HRF:Ll (gO t LQ l who=res):=aa (by rw[<-hres,<-hcl];rfl);clear hcl hres;go_cut [17] (fun pv wc=>∃ (g7:Nat) (a9 b9:Option Addr) (c9 d9:Nat),pv=.pointer (some ⟨g7,0,none⟩)/\(ag wc g7 (.int .i64 res.kind) (.int .i64 res.n) (.string ⟨res.s.toArray⟩) (.slice a9 res.keys.length c9) (.slice b9 res.l.length d9)/\w8.heap.size<=g7/\La w8 wc/\In wc (bQ (fun k=>bQ (Lj ok w) w5.heap.size k/\k < W7.heap.size) w8.heap.size) res (.agg #[.int .i64 res.kind,.int .i64 res.n,.string ⟨res.s.toArray⟩,.slice a9 res.keys.length c9,.slice b9 res.l.length d9])))
  case first=>
   refine aD (fun wS=>La w8 wS) [10] (by kernel_rfl) (aC _ 1) (fun LI=>?_);refine WT.out ?_;iterate 6
    first
     | refine OJ 0 ?_ [8,10] LI ?_ ?_
     | refine OJ 1 ?_ [7,8,10] LI ?_ ?_
     | refine OJ 2 ?_ [7,8,10] LI ?_ ?_
     | refine OJ 3 ?_ [5,7,8,10] LI ?_ ?_
     | refine OJ 4 ?_ [5,7,8,10] LI ?_ ?_
     | refine OJ 6 ?_ [7,8,10] LI ?_ ?_
    rotate_left
    ·intro wS LN;obtain⟨u0,u1,u2,u3,u4,-⟩:=(af LN VB8.o).c;obtain⟨e0,e1,e2,e3,e4,e5⟩:=lr (bR LN XW8.o);have nm:=ah LN NC8.o;go_simp;all_goals with_reducible rfl
    simp only[av,List.set]
   repeat' (first
    | exact nl
    |(refine TD 5 (fun K hK=>?_) ?_
      go_simp;refine(xU _ (Lj ok w) l _ who (by exact(HL.o.bel B8.o).bel LI) AO.o.rises (by have:=AO.o.len;omega)).mono ?_;rintro e w5q ⟨pa,pc,rfl,hst,hb5⟩;refine hK.out _ _ (ab LI hb5) (fun LJ=>?_);have HADS:=aa hst;try replace NB:=aa (af hb5 NB.o)
      clear hb5 hst;clear hK K;replace LI:=LJ;clear LJ;try simp only[Act.put,Mt,Mu,Mv])
    |(refine TD 7 (fun K hK=>?_) ?_
      go_simp;refine(yY _ (fun k=>bQ (fun k=>bQ (Lj ok w) w5.heap.size k/\k < W7.heap.size) w8.heap.size k/\k < w8.heap.size) (Lj ok w) (fun k=>W7.heap.size<=k) LQ t (au LQ) (cq l who) (cG t LQ l who) _ _ _ _ (by exact WI8.o.bel LI) (by exact((HT.o.bel B8.o).bel LI).weak fun k hk=>⟨.inl ⟨.inl hk,MI hk.2 B7.o.size⟩,MI hk.2 B8.o.size⟩) (by exact HADS.o) (by exact OW8.o.bel LI) (by exact(HM.o.bel B8.o).bel LI) AO.o.obT AO.o.k5 AO.o.had (TT LQ).1 (TT LQ).2 AO.o.cT).mono ?_;rintro e w7q ⟨rv,rfl,hr5,hb5,ho5,hc5,-⟩;rw[HCL.o]at hr5 ho5 hc5;obtain⟨a6,b6,c6,d6,rfl⟩:=hr5.form;have CLO:=aa ho5;have CLC:=aa hc5;have hS5:=LI.size;refine hK.out _ _ (ab LI hb5) (fun LJ=>?_);first | (have CLI:=aa (Ii NB.o hr5 HG.o hS5)) | (have CLI:=aa (Ea hr5 hS5))
      try replace NB:=aa (af hb5 NB.o)
      clear hb5 hr5 ho5 hc5 hS5;clear hK K;replace LI:=LJ;clear LJ;try simp only[Act.put,Mt,Mu,Mv])
    |(refine TD 8 (fun K hK=>?_) ?_
      go_simp;refine(uz _ _ LQ cl (au LQ) _ _ (by first | exact EC WI8.o LI HG.o | exact Ht WI8.o LI) CLI.o (by exact(HM.o.bel B8.o).bel LI) CLO.o AO.o.obW AO.o.lv AO.o.lvn CLC.o).mono ?_;rintro e w8q ⟨rv,rfl,hr5,hb5⟩;rw[HRES.o]at hr5;obtain⟨a9,b9,c9,d9,rfl⟩:=hr5.form;have hS5:=LI.size;refine hK.out _ _ (ab LI hb5) (fun LJ=>?_);first | (have RI:=aa (E5 NB.o hr5 hS5)) | (have RI:=aa (Bp hr5 hS5))
      try replace NB:=aa (af hb5 NB.o)
      have Ma:Ll True:=aa trivial;clear hb5 hr5 hS5;clear hK K;replace LI:=LJ;clear LJ;try simp only[Act.put,Mt,Mu,Mv])
    |(refine TD 9 (fun K hK=>?_) ?_
      go_simp;refine hK.out _ _ (ab LI (ae _ _)) (fun LJ=>?_);have NB:=aa (GA LI);have HG:=aa LI.size;try replace HADS:=aa (HADS.o.bel (ae _ (.cells #[.int .i64 0,.int .i64 0,.string ⟨#[]⟩,.slice none 0 0,.slice none 0 0] 25)))
      first | (have c9:=Ma.o;clear c9;have FINA:=aa (JM LI RI.o)) | (replace CLI:=aa (JU CLI.o (.cells #[.int .i64 0,.int .i64 0,.string ⟨#[]⟩,.slice none 0 0,.slice none 0 0] 25))) | skip
      clear hK K;replace LI:=LJ;clear LJ;try simp only[Act.put,Mt,Mu,Mv])
    |(refine OO 10 (fun K hK=>?_)
      try rw[show (World.drew w8).heap.size=w8.heap.size from rfl]at NB
      have n0_:=NB.o.c;first | (have c9:=FINA.o;clear c9) | (have FINB:=aa (Js LI HG.o NB.o RI.o))
      go_simp;refine hK.out _ _ ?_;clear hK K;try simp only[Act.put,Mt,Mu,Mv])
    | refine OL [5,9] ?_
    | refine OL [7,9] ?_
    | refine OL [8,9] ?_
    | refine OL [9] ?_
    | refine OL [8] ?_
    | refine OL [7] ?_
    | refine OL [5] ?_
    | fail)
   all_goals
    refine dn (by kernel_rfl) ?_;go_wp2
    go_meet
    case rel=>first | exact⟨_,_,_,_,_,rfl,FINA.o⟩ | exact⟨_,_,_,_,_,rfl,FINB.o⟩
  case rest=>
   obtain⟨g7,a9,b9,c9,d9,rfl,hcW,hcG,hcB,hcI⟩:=hcut;have BC:=aa (ab B8.o hcB);have YC:=aa (ab Y8.o hcB);have CI:=aa hcI;have CW:=aa hcW;have CB:=aa hcB;have CG:=aa hcG;clear hcW hcG hcB hcI;have S7:Ll (w.heap.size+4<=w5.heap.size/\w5.heap.size<=W7.heap.size/\W7.heap.size<=w8.heap.size):=aa ⟨MH SW.o Y5.o.size,MH Y56.o.size Y7.o.size,B78.o.size⟩;obtain⟨nw,hnw⟩:∃ nw,(bP (cG t LQ l who) ⟨who,au LQ⟩).length=nw:=⟨_,rfl⟩
   have WOW:Ll (Calls prog 33 #[.slice oa (cG t LQ l who).length oc,.agg #[.string ⟨who.toArray⟩,.slice x3 (au LQ).length y3]] wc fun e w'=>∃ a c,e=.returned (.slice a nw c)/\aB w' (fun k=>W7.heap.size<=k\/(fun k=>bQ (Lj ok w) w5.heap.size k/\k < W7.heap.size) k) (bP (cG t LQ l who) ⟨who,au LQ⟩) (.slice a nw c)/\wc.grownBy w' (Value.ownBlock (.slice oa (cG t LQ l who).length oc))):=aa (by
    have hq:=ue wc W7.heap.size (cG t LQ l who) (.slice oa (cG t LQ l who).length oc) ⟨who,au LQ⟩ x3 y3 (fun k=>bQ (Lj ok w) w5.heap.size k/\k < W7.heap.size) (ORW.o.bel CB.o) AO.o.named AO.o.risesO AO.o.lenO (MH B78.o.size CB.o.size) (by unfold maxLen;show who.length<=_;omega) ((Bx WI7.o).bel B78.o |>.bel CB.o) (fun k hk e=>by have h9:=(ORW.o.lt k e.symm).1;have h8:=hk.2;omega);rw[hnw]at hq;exact hq)
   have HNW:=aa hnw;clear hnw;obtain⟨q0,q1,q2,q3,q4,q5⟩:=lr (bR CB.o XW8.o);have u0:=ah CB.o NC8.o;go_upto_region 10 with (go_at_call 33;refine WOW.o.mono ?_;rintro e w9 ⟨wa,wk,rfl,how,hgw⟩;have OW9:=aa how;have GW:=aa hgw;clear how hgw)
   clear q5;have FAR:Ll (∀ g,Value.ownBlock (.slice oa (cG t LQ l who).length oc)=some g->W7.heap.size<=g/\g < w8.heap.size):=aa (fun g hg=>ORW.o.lt g hg);have Y9:Ll (La W3 w9):=aa (Jv YC.o GW.o fun g hg=>by have h9:=(FAR.o g hg).1;have h8:=S7.o;have h7:=Y5.o.size;omega);have B9:=aa (ab BW.o Y9.o);have RB9:Ll (ag w9 g7 (.int .i64 res.kind) (.int .i64 res.n) (.string ⟨res.s.toArray⟩) (.slice a9 res.keys.length c9) (.slice b9 res.l.length d9)):=aa (by
    have h9:=(MF.1 CW.o).1;exact(GW.o.block g7 h9 fun e=>by have h8:=(FAR.o g7 e.symm).2;have h7:=CG.o;omega).trans CW.o)
   have RI9:Ll (In w9 (bQ (fun k=>bQ (Lj ok w) w5.heap.size k/\k < W7.heap.size) w8.heap.size) res (.agg #[.int .i64 res.kind,.int .i64 res.n,.string ⟨res.s.toArray⟩,.slice a9 res.keys.length c9,.slice b9 res.l.length d9])):=aa (CI.o.grownR GW.o fun k hk e=>by
    have h8:=FAR.o k e.symm;rcases hk with hk | hk
    ·have:=hk.2;omega
    ·omega)
   have OKF:Ll (∀ k,(bQ (fun k=>bQ (Lj ok w) w5.heap.size k/\k < W7.heap.size) w8.heap.size) k->k≠w.heap.size+3):=aa (fun k hk=>by
    have h8:=S7.o;rcases hk with⟨hk | hk,-⟩ | hk
    ·have:=hk.2;omega
    ·omega
    ·omega)
   have OKS:Ll (∀ k,(bQ (fun k=>bQ (Lj ok w) w5.heap.size k/\k < W7.heap.size) w8.heap.size) k->bQ ok w.heap.size k):=aa (fun k hk=>by
    have h8:=S7.o;rcases hk with⟨hk | hk,-⟩ | hk
    ·exact .inl hk.1
    ·exact .inr (by omega)
    ·exact .inr (by omega))
   have OKF2:Ll (∀ k,(W7.heap.size<=k\/(fun k=>bQ (Lj ok w) w5.heap.size k/\k < W7.heap.size) k)->k≠w.heap.size+3):=aa (fun k hk=>by
    have h8:=S7.o;rcases hk with hk | ⟨hk | hk,-⟩
    ·omega
    ·have:=hk.2;omega
    ·omega)
   have OKS2:Ll (∀ k,(W7.heap.size<=k\/(fun k=>bQ (Lj ok w) w5.heap.size k/\k < W7.heap.size) k)->bQ ok w.heap.size k):=aa (fun k hk=>by
    have h8:=S7.o;rcases hk with hk | ⟨hk | hk,-⟩
    ·exact .inr (by omega)
    ·exact .inl hk.1
    ·exact .inr (by omega))
   have GR:Ll (Calls prog 34 #[.agg #[.int .i64 res.kind,.int .i64 res.n,.string ⟨res.s.toArray⟩,.slice a9 res.keys.length c9,.slice b9 res.l.length d9]] w9 fun e w'=>e=.returned (.bool (aE res))/\La w9 w'):=aa (bG w9 _ res _ RI9.o);obtain⟨q0,q1,q2,q3,q4,-⟩:=RB9.o.c;have HRR:Ll (A=if aE res=true/\nw<=6 then (res,bP (cG t LQ l who) ⟨who,au LQ⟩,[],0) else (t,l,[],2)):=aa (by
    rw[RA.o,HRF.o,HNW.o])
   cases hgv:aE res with
   | false=>
    have R:Ll (A=(t,l,[],2)):=aa (by rw[HRR.o,if_neg (by rw[hgv];simp)]);rw[hgv]at GR;clear hgv;go_upto_region 11 with (go_at_call 34;refine GR.o.mono ?_;rintro e w10 ⟨rfl,hb⟩;have Y10:=aa (ab Y9.o hb);have B10:=aa (ab B9.o hb);clear hb)
    have v0_:=(af Y10.o X1.o).c;have n0_:=(af Y10.o X4.o).c;have ZB:=aa ((af Y10.o X4.o).set (.int .i64 t.kind) (.int .i64 t.n) (.string ⟨t.s.toArray⟩) (.slice b1 t.keys.length d1) (.slice b2 t.l.length d2));have BF:=aa (aP (g:=w.heap.size+3) B10.o (by omega) (.int .i64 t.kind) (.int .i64 t.n) (.string ⟨t.s.toArray⟩) (.slice b1 t.keys.length d1) (.slice b2 t.l.length d2));go_wp2
    have z0_:=ZB.o.c;refine MM (v:=.tuple #[.agg #[.int .i64 t.kind,.int .i64 t.n,.string ⟨t.s.toArray⟩,.slice b1 t.keys.length d1,.slice b2 t.l.length d2],.slice la l.length lc,.slice none 0 0,.int .i64 2]) ?_ rfl ?_
    ·simp only[ar]at z0_;simp[results,results7,go_sem,z0_]
    ·rw[gT,R.o];exact⟨_,_,_,rfl,(HT.o.belB (fun k h=>h.2) BF.o).weak fun k h=>.inl h.1,(HL.o.belB (fun k h=>h.2) BF.o).weak fun k h=>.inl h.1,World.ownsRow_nil _ _ _ _,BF.o⟩
   | true=>
    rw[hgv]at GR;by_cases h6:nw<=6
    ·have RR:Ll (A=(res,bP (cG t LQ l who) ⟨who,au LQ⟩,[],0)):=aa (by rw[HRR.o,if_pos ⟨hgv,h6⟩]);have q6:¬(6:Int) < (nw:Int):=by omega
     clear hgv h6;go_upto_region 12 with (go_at_call 34;refine GR.o.mono ?_;rintro e w10 ⟨rfl,hb⟩;have Y10:=aa (ab Y9.o hb);have B10:=aa (ab B9.o hb);have RB10:=aa (af hb RB9.o);have RI10:=aa (RI9.o.bel hb);have OW10:=aa (OW9.o.bel hb);clear hb)
     clear q6;have v0_:=RB10.o.c;have n0_:=(af Y10.o X4.o).c;have ZB:=aa ((af Y10.o X4.o).set (.int .i64 res.kind) (.int .i64 res.n) (.string ⟨res.s.toArray⟩) (.slice a9 res.keys.length c9) (.slice b9 res.l.length d9));have BF:=aa (aP (g:=w.heap.size+3) B10.o (by omega) (.int .i64 res.kind) (.int .i64 res.n) (.string ⟨res.s.toArray⟩) (.slice a9 res.keys.length c9) (.slice b9 res.l.length d9));have GF:=aa (aI w10 (w.heap.size+3) (.int .i64 res.kind) (.int .i64 res.n) (.string ⟨res.s.toArray⟩) (.slice a9 res.keys.length c9) (.slice b9 res.l.length d9));go_wp2
     have z0_:=ZB.o.c;refine MM (v:=.tuple #[.agg #[.int .i64 res.kind,.int .i64 res.n,.string ⟨res.s.toArray⟩,.slice a9 res.keys.length c9,.slice b9 res.l.length d9],.slice wa nw wk,.slice none 0 0,.int .i64 0]) ?_ rfl ?_
     ·simp only[ar]at z0_;simp[results,results7,go_sem,z0_]
     ·rw[gT,RR.o];refine⟨_,_,_,rfl,(RI10.o.grownR GF.o fun k hk e=>?_).weak fun k hk=>?_,(OW10.o.grownR GF.o fun k hk e=>?_).weak fun k hk=>?_,World.ownsRow_nil _ _ _ _,BF.o⟩
      ·cases e;exact OKF.o _ hk rfl
      ·exact OKS.o _ hk
      ·cases e;exact OKF2.o _ hk rfl
      ·exact OKS2.o _ hk
    ·have R:Ll (A=(t,l,[],2)):=aa (by rw[HRR.o,if_neg (by intro h;exact h6 h.2)]);have q6:(6:Int) < (nw:Int):=by omega
     clear hgv h6;go_upto_region 11 with (go_at_call 34;refine GR.o.mono ?_;rintro e w10 ⟨rfl,hb⟩;have Y10:=aa (ab Y9.o hb);have B10:=aa (ab B9.o hb);clear hb)
     clear q6;have v0_:=(af Y10.o X1.o).c;have n0_:=(af Y10.o X4.o).c;have ZB:=aa ((af Y10.o X4.o).set (.int .i64 t.kind) (.int .i64 t.n) (.string ⟨t.s.toArray⟩) (.slice b1 t.keys.length d1) (.slice b2 t.l.length d2));have BF:=aa (aP (g:=w.heap.size+3) B10.o (by omega) (.int .i64 t.kind) (.int .i64 t.n) (.string ⟨t.s.toArray⟩) (.slice b1 t.keys.length d1) (.slice b2 t.l.length d2));go_wp2
     have z0_:=ZB.o.c;refine MM (v:=.tuple #[.agg #[.int .i64 t.kind,.int .i64 t.n,.string ⟨t.s.toArray⟩,.slice b1 t.keys.length d1,.slice b2 t.l.length d2],.slice la l.length lc,.slice none 0 0,.int .i64 2]) ?_ rfl ?_
     ·simp only[ar]at z0_;simp[results,results7,go_sem,z0_]
     ·rw[gT,R.o];exact⟨_,_,_,rfl,(HT.o.belB (fun k h=>h.2) BF.o).weak fun k h=>.inl h.1,(HL.o.belB (fun k h=>h.2) BF.o).weak fun k h=>.inl h.1,World.ownsRow_nil _ _ _ _,BF.o⟩
end
theorem uQ:∀ (ns:List Lz) (v x:V),dr ns v=some x->ns.length+bN x<=bN v
 | [],v,x,h=>by cases h;simp
 | n :: ns,v,x,h=>by
  obtain⟨-,z,hm,hz⟩:=gB h;have h1:=uQ ns z x hz;have h2:=pC (lG hm);have h3:=df v;rw[My];omega
theorem zw{p}(h:oh p=true):p.length<=140737488351232/\aw p≠[]:=by
 simp only[oh,MJ,decide_eq_true_eq,Bool.not_eq_true']at h;refine⟨?_,fun e=>by rw[e]at h;simp at h⟩;have:=(mO (p:=p) (b:=(ax p).1) (by rw[<-h.1])).1;omega
theorem sh{s}(h:bT s=true):s.length<=12:=by
 simp only[bT,MJ,decide_eq_true_eq]at h;exact h.1.2
theorem Ay{LQ l}(who)(h1:t.kind=5)(h2:aE t=true)(h3:LQ.kind=5)(h4:aE LQ=true)(h5:TC l=true):AQ t LQ l who:=by
 obtain⟨g1,g2,g3⟩:=gz h5;obtain⟨k1,k2⟩:=kI (stays:=fun n p=>n != who&&!aV LQ t (au LQ) p) h5;have lo:=mM h3 h4;have c1:=gE (dQ h2);have c2:=gE (dQ h4);refine⟨g3,g1,kg h2,kg h4,h1,by omega,fun p hp=>zw (mm h5 who p hp),fun p hp=>?_,?_,fun o ho=>?_,k2,?_⟩
 ·obtain⟨q1,q2⟩:=zw (lo.good p hp);refine⟨q1,q2,?_⟩;obtain⟨x,hx,-⟩:=Vg 12 LQ (aw p) ((fh h4).ho) h3 ((lo.names _).1 (List.mem_map.2 ⟨p,hp,rfl⟩));rw[hx,Option.getD_some];have:=uQ _ _ _ hx;omega
 ·have e:au LQ=ix ((jK 12 LQ).map aU):=if_pos ⟨h3,h4⟩;rw[e,(fU _).length_eq,List.length_map];have q1:=mB 12 LQ;have q2:=df LQ;omega
 ·have:=sh (k1 o ho).1;unfold maxLen;omega
 ·have:=(r8 (fun n p=>n != who&&!aV LQ t (au LQ) p) l).length_le;simp only[List.length_map]at this;show (dV _ l).length<=_;omega
theorem Fl(w:LC)(ok t LQ l who force vt vl vw)(ht:In w ok t vt)(hl:aB w ok l vl)(hw:In w ok LQ vw)(hM:bj w)(hN:(bA l).length<=4000000)(hP:∀ o∈l,∀ x∈o.paths,x.length<=140737488351232)(hwho:who.length<=9223372036854775807):Calls prog 7 #[vt,vl,.string ⟨who.toArray⟩,vw,.bool force] w fun e w'=>gT w w' ok (eC t l who LQ force) e:=by
 cases hg1:(decide (t.kind=5)&&aE t) with
 | false=>exact kO w ok t LQ l who force vt vl vw ht hl hw hM hN hP hwho (fun h=>by rw[hg1]at h;simp at h)
 | true=>
  cases hg2:(decide (LQ.kind=5)&&aE LQ) with
  | false=>exact kO w ok t LQ l who force vt vl vw ht hl hw hM hN hP hwho (fun h=>by rw[hg2]at h;simp at h)
  | true=>
   cases hg3:TC l with
   | false=>exact kO w ok t LQ l who force vt vl vw ht hl hw hM hN hP hwho (fun h=>by rw[hg3]at h;simp at h)
   | true=>
    cases hg4:bT who with
    | false=>exact kO w ok t LQ l who force vt vl vw ht hl hw hM hN hP hwho (fun h=>by rw[hg4]at h;simp at h)
    | true=>
     have a1:=Bool.and_eq_true_iff.1 hg1;have a2:=Bool.and_eq_true_iff.1 hg2;have AO:=Ay who (of_decide_eq_true a1.1) a1.2 (of_decide_eq_true a2.1) a2.2 hg3;by_cases hf:eu (aV LQ t (au LQ)) who l=[]
     ·exact uh w ok t LQ l who force vt vl vw ht hl hw hM hN hP hwho hg1 hg2 hg3 hg4 (.inl hf) AO
     ·cases hfo:force with
      | false=>exact xC w ok t LQ l who false vt vl vw ht hl hw hM hN hP hwho hg1 hg2 hg3 hg4 hf rfl
      | true=>exact uh w ok t LQ l who true vt vl vw ht hl hw hM hN hP hwho hg1 hg2 hg3 hg4 (.inr rfl) AO
def bO:V:=⟨5,0,[],[[97],[98]],[⟨2,1,[],[],[]⟩,⟨5,0,[],[[99]],[⟨2,2,[],[],[]⟩]⟩]⟩
theorem F5:cW [123,34,97,34,58,49,44,34,98,34,58,123,34,99,34,58,50,125,125]=(bO,0):=by kernel_rfl
theorem og:aE bO=true:=by kernel_rfl
theorem S8:aE jM=true:=by kernel_rfl
theorem pg:au bO=[[47,97],[47,98,47,99]]:=by kernel_rfl
theorem RO:ed bO [[47,97],[47,98,47,99]] jM=bO:=by kernel_rfl
theorem Gl:eC jM [] [109,101] bO false=(bO,[⟨[109,101],[[47,97],[47,98,47,99]]⟩],[],0):=by
 have e1:cG jM bO [] [109,101]=[]:=rfl;have e2:gO jM bO [] [109,101]=bO:=by
  show ed bO (au bO) (dj (au bO) (cG jM bO [] [109,101]) [] jM)=bO;rw[pg];exact RO
 have e3:bP [] ⟨[109,101],[[47,97],[47,98,47,99]]⟩=[⟨[109,101],[[47,97],[47,98,47,99]]⟩]:=rfl;unfold eC;rw[if_pos ⟨⟨rfl,S8⟩,⟨rfl,og⟩,by kernel_rfl,by kernel_rfl⟩,if_neg (fun h=>h.1 rfl),e1,e2,pg,e3,if_pos ⟨og,by simp⟩]
theorem Jj(w:LC)(ok):In w ok jM (.agg #[.int .i64 5,.int .i64 0,.string ⟨#[]⟩,.slice none 0 0,.slice none 0 0]):=⟨1,_,_,rfl,by unfold dW;simp[jM],by unfold dW;simp[jM],by simp[jM,maxLen],⟨by simp[jM,maxLen],.inl ⟨rfl,none,rfl⟩⟩,⟨by simp[jM,maxLen],.inl ⟨rfl,none,rfl⟩⟩⟩
theorem SL(w:LC)(hG:cn w)(hM:bj w):Calls prog 12 #[] w fun e w'=>e=.returned (.bool true)/\La w w':=by
 have HM:=aa hM;have PC:Ll (Calls prog 41 #[.string ⟨#[123,34,97,34,58,49,44,34,98,34,58,123,34,99,34,58,50,125,125]⟩] w fun e w'=>∃ (a7 a8:Option Addr) (c7 c8:Nat),e=.returned (.tuple #[(.agg #[.int .i64 bO.kind,.int .i64 bO.n,.string ⟨bO.s.toArray⟩,.slice a7 bO.keys.length c7,.slice a8 bO.l.length c8]),.int .i64 0])/\In w' (fun _=>True) bO (.agg #[.int .i64 bO.kind,.int .i64 bO.n,.string ⟨bO.s.toArray⟩,.slice a7 bO.keys.length c7,.slice a8 bO.l.length c8])/\La w w'):=aa (by
  refine(FJ w [123,34,97,34,58,49,44,34,98,34,58,123,34,99,34,58,50,125,125] (by simp[maxLen]) hG).mono ?_;rintro e w' ⟨t,ee,a7,a8,c7,c8,rfl,hp,hv,hb⟩;rw[F5]at hp;cases hp;exact⟨a7,a8,c7,c8,rfl,⟨_,hv.imp fun a x _ h=>⟨trivial,h⟩⟩,hb⟩)
 generalize hT:bO=T at PC;have HT:=aa hT;clear hG hM hT;go_enter func12,ntmps12;go_upto_region 2 with (go_at_call 41;refine PC.o.mono ?_;rintro e w1 ⟨a7,a8,c7,c8,rfl,hi,hb⟩;have B1:=aa hb;have I1:=aa hi;clear hi hb)
 obtain⟨W2,hW2⟩:∃ W,W=w1.alloc (.cells #[.int .i64 T.kind,.int .i64 T.n,.string ⟨T.s.toArray⟩,.slice a7 T.keys.length c7,.slice a8 T.l.length c8] 25):=⟨_,rfl⟩
 have Y2:Ll (La w1 W2):=aa (by rw[hW2];exact ae _ _);have X2:Ll (ag W2 w1.heap.size (.int .i64 T.kind) (.int .i64 T.n) (.string ⟨T.s.toArray⟩) (.slice a7 T.keys.length c7) (.slice a8 T.l.length c8)):=aa (by rw[hW2];exact MN _ _);rw[<-hW2];clear hW2;have B2:=aa (ab B1.o Y2.o);have p0_:=X2.o.c;have AP:Ll (Calls prog 7 #[.agg #[.int .i64 5,.int .i64 0,.string ⟨#[]⟩,.slice none 0 0,.slice none 0 0],.slice none 0 0,.string ⟨#[109,101]⟩,.agg #[.int .i64 T.kind,.int .i64 T.n,.string ⟨T.s.toArray⟩,.slice a7 T.keys.length c7,.slice a8 T.l.length c8],.bool false] W2 fun e w'=>∃ (a9 b9:Option Addr) (c9 d9:Nat) (b off oc pb po pc:Nat) (rc:Value),
  e=.returned (.tuple #[.agg #[.int .i64 T.kind,.int .i64 T.n,.string ⟨T.s.toArray⟩,.slice a9 T.keys.length c9,.slice b9 T.l.length d9],.slice (some ⟨b,off,none⟩) 1 oc,rc,.int .i64 0])/\In w' (fun _=>True) T (.agg #[.int .i64 T.kind,.int .i64 T.n,.string ⟨T.s.toArray⟩,.slice a9 T.keys.length c9,.slice b9 T.l.length d9]) /\
  w'.cell? ⟨b,off+1,none⟩=some (.slice (some ⟨pb,po,none⟩) 2 pc)/\w'.cell? ⟨pb,po+1,none⟩=some (.string ⟨#[47,98,47,99]⟩)/\La W2 w'):=aa (by
  refine(Fl W2 (fun _=>True) jM T [] [109,101] false _ _ _ (Jj _ _) (aB.nil _ _) (I1.o.bel Y2.o) (HM.o.bel B2.o) (by simp[bA]) (by simp) (by simp)).mono ?_;rintro e w' ⟨r,ro,rc,rfl,h1,h2,-,hb⟩;rw[<-HT.o,Gl]at h1 h2 ⊢;rw[HT.o]at h1;obtain⟨a9,b9,c9,d9,rfl⟩:=h1.form;obtain⟨oa,oc,rfl⟩:=h2.form;obtain⟨b,off,pa,pc,rfl,-,-,-,k2,k3,-⟩:=h2.at (k:=0) (by simp);obtain⟨pb,po,rfl,-,-,k4⟩:=gQ k3 (k:=1) (by simp);rw[HT.o];exact⟨a9,b9,c9,d9,b,off,oc,pb,po,pc,rc,rfl,h1.weak fun _ _=>trivial,by simpa using k2,k4,hb⟩)
 go_upto_region 3 with (go_at_call 7;refine AP.o.mono ?_;rintro e w3 ⟨a9,b9,c9,d9,b,off,oc,pb,po,pc,rc,rfl,h1,h2,h3,hb⟩;have K2:=aa h2;have K3:=aa h3;have I3:=aa h1;have B3:=aa hb;clear h1 h2 h3 hb)
 obtain⟨W4,hW4⟩:∃ W,W=w3.alloc (.cells #[.int .i64 T.kind,.int .i64 T.n,.string ⟨T.s.toArray⟩,.slice a9 T.keys.length c9,.slice b9 T.l.length d9] 25):=⟨_,rfl⟩
 have Y4:Ll (La w3 W4):=aa (by rw[hW4];exact ae _ _);have X4:Ll (ag W4 w3.heap.size (.int .i64 T.kind) (.int .i64 T.n) (.string ⟨T.s.toArray⟩) (.slice a9 T.keys.length c9) (.slice b9 T.l.length d9)):=aa (by rw[hW4];exact MN _ _);rw[<-hW4];clear hW4;have q0:=ah Y4.o K2.o;have q1:=ah Y4.o K3.o;have p0_:=X4.o.c;have o0_:=(af (ab B3.o Y4.o) X2.o).c;have B4:=aa (ab (ab B2.o B3.o) Y4.o);have SM:=aa (lP W4 _ _ T T _ _ (I3.o.bel Y4.o) (((I1.o.bel Y2.o).bel B3.o).bel Y4.o) (by rw[<-HT.o];have:=gE (dQ og);omega));go_wp2_with (go_at_call 42;refine SM.o.mono ?_;rintro e w5 ⟨r,rfl,hr,hb⟩;have hrt:=hr.2 rfl;subst hrt;have B5:=aa (ab B4.o hb);clear hr hb)
 go_ret;exact⟨rfl,B5.o⟩
variable {k:Nat}
section
theorem O9(stays:Lz->Lz->Bool)(l:List aL)(hk:k < l.length):dV stays (l.take (k+1))=dV stays (l.take k)++(if (l[k].paths.filter (stays l[k].name))=[] then [] else [⟨l[k].name,l[k].paths.filter (stays l[k].name)⟩]):=by
 unfold dV;rw[List.take_succ_eq_append_getElem hk,List.map_append,List.filter_append];congr 1
 simp only[List.map_cons,List.map_nil];split
 ·rename_i h;rw[h];rfl
 ·rename_i h;rw[List.filter_cons_of_pos (by cases hf:l[k].paths.filter (stays l[k].name) with | nil=>exact absurd hf h | cons a b=>rfl)];rfl
theorem O4(a b:List aL):bA (a++b)=bA a++bA b:=by simp[bA]
theorem SH(stays:Lz->Lz->Bool)(l:List aL):(dV stays l).length<=l.length:=by
 unfold dV;exact MH (List.length_filter_le _ _) (by simp)
theorem BN{os:List aL}(h:fA w B os v):∃ a c,v=.slice a os.length c:=by
 obtain⟨pvs,h1,h2,-⟩:=h;exact TG h2
theorem R9{ps:List Lz}{pv:Value}(h:W.ownsRow (g+1) 9 1 pv ps.length (ps.map fun s=>.string ⟨s.toArray⟩))(hl:∀ x∈ps,x.length<=maxLen)(hn:ps.length<=maxLen)(hk:∀ k,g+1<=k->ok k):ao W ok ps pv:=kf (n:=ps.length) rfl h hl hk hn
attribute [local go_sem ↓] Go.wp_at_zero Go.wp_at_succ
theorem VN(w:LC)(ok' okl:Nat->Prop)(t:V)(l:List aL)(vt vl:Value)(ht:In w ok' t vt)(hl:aB w okl l vl)(hA:(bA l).length<=2000000)(hL:l.length<=2000000)(hP:∀ o∈l,∀ x∈o.paths,x.length<=140737488351232):Calls prog 24 #[vt,vl] w fun e w'=>∃ a c,e=.returned (.slice a (dV (fun _ p=>(dr (aw p) t).isSome) l).length c)/\aB w' (fun k=>w.heap.size<=k) (dV (fun _ p=>(dr (aw p) t).isSome) l) (.slice a (dV (fun _ p=>(dr (aw p) t).isSome) l).length c)/\La w w':=by
 obtain⟨ok,hok⟩:∃ ok,ok=fun k=>ok' k/\k < w.heap.size:=⟨_,rfl⟩
 have HT:Ll (In w ok t vt):=aa (by rw[hok];exact ht.low);have HL:=aa hl;have HA:=aa hA;have HLN:=aa hL;have HP:=aa hP;obtain⟨a1,b1,c1,d1,rfl⟩:=ht.form;obtain⟨la,lc,rfl⟩:=hl.form;have ll:=hl.1;unfold maxLen at ll;clear ht hl hA hP hok hL;obtain⟨W2,hW2⟩:∃ W,W=w.alloc (.cells #[.int .i64 t.kind,.int .i64 t.n,.string ⟨t.s.toArray⟩,.slice a1 t.keys.length c1,.slice b1 t.l.length d1] 25):=⟨_,rfl⟩
 have B2:Ll (La w W2):=aa (by rw[hW2];exact ae _ _);have VB2:Ll (ag W2 w.heap.size (.int .i64 t.kind) (.int .i64 t.n) (.string ⟨t.s.toArray⟩) (.slice a1 t.keys.length c1) (.slice b1 t.l.length d1)):=aa (by rw[hW2];exact MN _ _);have HW2:=aa hW2;have TI2:=aa (HT.o.bel B2.o);have LI:=aa (HL.o.bel B2.o);clear hW2;obtain⟨stays,hst⟩:∃ f:Lz->Lz->Bool,f=fun _ p=>(dr (aw p) t).isSome:=⟨_,rfl⟩
 rw[<-hst];have ST9:Ll (∀ n p,stays n p=(dr (aw p) t).isSome):=aa (by rw[hst];exact fun _ _=>rfl);clear hst;have S0:Ll (La W2 W2/\fA W2 W2.heap.size (dV stays (l.take 0)) (.slice none 0 0)):=aa ⟨MK _ _,[],rfl,World.ownsRow_nil _ _ _ _,fun i o v h=>by simp[dV]at h⟩;go_enter func24,ntmps24;go_upto_region 1 with fail
 rw[<-HW2.o];go_wp2_with fail
 go_loopg [15,5] l.length (fun gk i ov wr=>∃ k:Nat,k<=l.length/\gk=l.length - k/\i=.int .i64 k/\Ll (La W2 wr/\fA wr W2.heap.size (dV stays (l.take k)) ov))
 case atStart=>exact⟨0,Nat.zero_le _,rfl,rfl,S0⟩
 case round=>
  obtain⟨k,hk,hgk,rfl,I⟩:=hrel;obtain⟨wo,hwo⟩:∃ W,W=wr:=⟨_,rfl⟩
  rw[<-hwo]at I ⊢;clear hwo;have GK:=aa hgk;clear hgk;obtain⟨oa,oc,hov⟩:=BN I.o.2;subst hov;by_cases hlt:k < l.length
  ·obtain⟨b,off,pa,pc,rfl,hc1,hc2,hn0,hp0,hst,hnl⟩:=LI.o.at hlt;have hn:=ah I.o.1 hn0;have hp:=ah I.o.1 hp0;have w2:(k:Int) < (l.length:Int):=by omega
   have w3:(0:Int)<=(k:Int):=by omega
   have KS:=aa (O9 stays l hlt);have LP:=aa (HP.o _ (List.getElem_mem hlt));have PLN:Ll (l[k].paths.length<=2000000):=aa (by
    have h1:=HA.o;have h2:=lz hlt;have h3:(bA (l.take (k+1))).length<=(bA l).length:=by
     have:bA l=bA (l.take (k+1))++bA (l.drop (k+1)):=by rw[<-O4,List.take_append_drop]
     rw[this,Mx];omega
    rw[h2,Mx,List.length_map]at h3;omega)
   have KLN:Ll ((dV stays (l.take k)).length<=2000000):=aa (by
    have h1:=SH stays (l.take k);rw[MC]at h1;have:=HLN.o;omega)
   obtain⟨o,ho⟩:∃ o,l[k]=o:=⟨_,rfl⟩
   rw[ho]at hn hp hst hnl KS LP PLN;clear ho hn0 hp0;have ST:=aa hst;have pl:=hst.1;unfold maxLen at pl;clear hst;obtain⟨nm,hnm⟩:∃ n,o.name=n:=⟨_,rfl⟩
   rw[hnm]at hn KS;have HNM:=aa hnm;clear hnm;obtain⟨K,hK⟩:∃ K,dV stays (l.take k)=K:=⟨_,rfl⟩
   rw[hK]at I KS KLN ⊢;clear hK;obtain⟨W5,hW5⟩:∃ W,W=wo.alloc (.cells #[.string ⟨nm.toArray⟩,.slice pa o.paths.length pc] 47):=⟨_,rfl⟩
   have A5:Ll (La wo W5):=aa (by rw[hW5];exact ae _ _);have N5:Ll (W5.cell? ⟨wo.heap.size,0,none⟩=some (.string ⟨nm.toArray⟩)):=aa (by rw[hW5];exact(rl (MN _ _)).1);have P5:Ll (W5.cell? ⟨wo.heap.size,1,none⟩=some (.slice pa o.paths.length pc)):=aa (by rw[hW5];exact(rl (MN _ _)).2);have HW5:=aa hW5;clear hW5;go_upto_region 5 with fail
   rw[<-HW5.o];have n5:=N5.o;obtain⟨W6,hW6⟩:∃ W,W=W5.alloc (.cells #[.string ⟨nm.toArray⟩,.slice none 0 0] 47):=⟨_,rfl⟩
   have A6:Ll (La W5 W6):=aa (by rw[hW6];exact ae _ _);have L6:Ll (t6 W5 W5.heap.size nm (o.paths.take 0 |>.filter (stays nm)) (.slice none 0 0) W6):=aa ⟨A6.o,MG _,by rw[hW6];exact MN _ _,World.ownsRow_nil _ _ _ _⟩;have HW6:=aa hW6;clear hW6;go_upto_region 6 with fail
   rw[<-HW6.o];have p5:=ah A6.o P5.o;go_wp2_with fail
   clear n5 p5 hn hp;have B5:=aa (ab I.o.1 A5.o);go_loopg [25] o.paths.length (fun gk i wj=>∃ j:Nat,j<=o.paths.length/\gk=o.paths.length - j/\i=.int .i64 j/\Ll (∃ pv,t6 W5 W5.heap.size nm ((o.paths.take j).filter (stays nm)) pv wj))
   case atStart=>exact⟨0,Nat.zero_le _,rfl,rfl,_,L6.o⟩
   case round=>
    obtain⟨j,hj,hgj,rfl,J⟩:=hrel;have GJ:=aa hgj;clear hgj;obtain⟨pv,hJ⟩:=J.o;obtain⟨C,hC⟩:∃ C,(o.paths.take j).filter (stays nm)=C:=⟨_,rfl⟩
    rw[hC]at hJ;obtain⟨ja,jc,hov⟩:=TG hJ.row;subst hov;have CLN:Ll (C.length<=2000000):=aa (by
     rw[<-hC];have:=List.length_filter_le (stays nm) (o.paths.take j);rw[MC]at this;have:=PLN.o;omega)
    have CME:Ll (∀ x∈C,x.length<=maxLen):=fun x hx=>by
     rw[<-hC]at hx;have:=LP.o x (List.mem_of_mem_take (List.mem_filter.1 hx).1);unfold maxLen;omega
    have HC:=aa hC;have HJ:=aa hJ;clear hC hJ J;by_cases hjt:j < o.paths.length
    ·obtain⟨pb,po,rfl,hc1',hc2',hcell0⟩:=gQ ST.o hjt;unfold maxLen at hc2';have LV:=ah (ab B5.o HJ.o.bel) hcell0;have j2:(j:Int) < (o.paths.length:Int):=by omega
     have j3:(0:Int)<=(j:Int):=by omega
     have PL:=aa (LP.o _ (List.getElem_mem hjt));have CS:Ll ((o.paths.take (j+1)).filter (stays nm)=if stays nm o.paths[j]=true then C++[o.paths[j]] else C):=aa (by
      rw[List.take_succ_eq_append_getElem hjt,List.filter_append,HC.o];cases h:stays nm o.paths[j] with
      | true=>rw[List.filter_cons_of_pos h];simp
      | false=>rw[List.filter_cons_of_neg (by rw[h];simp)];simp)
     clear hcell0;obtain⟨p,hp⟩:∃ p,o.paths[j]=p:=⟨_,rfl⟩
     rw[hp]at LV PL CS;clear hp;rw[ST9.o]at CS;obtain⟨x,hx⟩:∃ x,(dr (aw p) t).getD aM=x:=⟨_,rfl⟩
     obtain⟨tx,htx⟩:∃ x,(dr (aw p) t).isSome=x:=⟨_,rfl⟩
     rw[htx]at CS;have HX:=aa hx;have HTX:=aa htx;have VB:=aa (af (ab B5.o HJ.o.bel) VB2.o);have TI:=aa ((TI2.o.bel (ab B5.o HJ.o.bel)).low);clear hx htx;go_upto_region 9 with fail
     clear LV;go_cut [11,12] (fun pv bv wc=>∃ (g7:Nat) (a3 b3:Option Addr) (c3 d3:Nat),pv=.pointer (some ⟨g7,0,none⟩)/\bv=.bool tx/\ag wc g7 (.int .i64 x.kind) (.int .i64 x.n) (.string ⟨x.s.toArray⟩) (.slice a3 x.keys.length c3) (.slice b3 x.l.length d3)/\La wr wc/\In wc (fun k=>ok k/\k < wr.heap.size) x (.agg #[.int .i64 x.kind,.int .i64 x.n,.string ⟨x.s.toArray⟩,.slice a3 x.keys.length c3,.slice b3 x.l.length d3]))
     case first=>
      refine aD (fun wS=>La wr wS) [8] (by kernel_rfl) (aC _ 1) (fun LI=>?_);refine WT.out ?_;iterate 2
       first
        | refine OJ 0 ?_ [3,4,5,6,8,9] LI ?_ ?_
        | refine OJ 1 ?_ [2,3,4,5,6,8,9] LI ?_ ?_
       rotate_left
       ·intro wS LN;have u0_:=(af LN VB.o).c;go_simp;all_goals with_reducible rfl
       simp only[av,List.set]
      repeat' (first
       | exact nl
       |(refine TD 2 (fun K hK=>?_) ?_
         go_simp;refine(oL _ p PL.o).mono ?_;rintro e w2q ⟨na,nc,rfl,hns,hb5⟩;obtain⟨nz,hnl⟩:∃ n,(aw p).length=n:=⟨_,rfl⟩
         rw[hnl]at hns;try rw[hnl]
         refine hK.out _ _ (ab LI hb5) (fun LJ=>?_);have NS:=aa (And.intro hnl hns);try replace NB:=aa (af hb5 NB.o)
         clear hb5 hns;clear hK K;replace LI:=LJ;clear LJ;try simp only[Act.put,Mt,Mu,Mv])
       |(refine TD 3 (fun K hK=>?_) ?_
         go_simp;refine(gv (aw p) _ (fun k=>ok k/\k < wr.heap.size) _ t _ _ (by exact TI.o.bel LI) (by exact NS.o.2)).mono ?_;rintro e w3q ⟨rv,rfl,hb5,hr5⟩;rw[HX.o]at hr5;rw[HTX.o];obtain⟨a3,b3,c3,d3,rfl⟩:=hr5.form;refine hK.out _ _ (ab LI hb5) (fun LJ=>?_);have WI:=aa hr5;try replace NB:=aa (af hb5 NB.o)
         have Ma:Ll True:=aa trivial;clear hb5 hr5;clear hK K;replace LI:=LJ;clear LJ;try simp only[Act.put,Mt,Mu,Mv])
       |(refine TD 7 (fun K hK=>?_) ?_
         go_simp;refine hK.out _ _ (ab LI (ae _ _)) (fun LJ=>?_);have GEB:=aa LI.size;have NB:=aa (yl LI);try simp only[n9,vc,sk]at NB
         first | (have c9:=Ma.o;clear c9;have FINA:=aa (Um LI WI.o (.int .i64 x.kind) (.int .i64 x.n) (.string ⟨x.s.toArray⟩) (.slice a3 x.keys.length c3) (.slice b3 x.l.length d3))) | skip
         try replace NS:=aa (And.intro NS.o.1 (NS.o.2.bel (ae _ (.cells #[.int .i64 0,.int .i64 0,.string ⟨#[]⟩,.slice none 0 0,.slice none 0 0] 25))))
         clear hK K;replace LI:=LJ;clear LJ;try simp only[Act.put,Mt,Mu,Mv])
       |(refine OO 8 (fun K hK=>?_)
         have n0_:=NB.o.c;first | (have c9:=FINA.o;clear c9) | (have FINB:=aa (AD LI NB.o WI.o (by first | exact MG _ | exact GEB.o) (fun k hk=>by exact hk.2) (.int .i64 x.kind) (.int .i64 x.n) (.string ⟨x.s.toArray⟩) (.slice a3 x.keys.length c3) (.slice b3 x.l.length d3)))
         go_simp;refine hK.out _ _ ?_;clear hK K;try simp only[Act.put,Mt,Mu,Mv])
       |(refine OO 9 (fun K hK=>?_)
         go_simp;refine hK.out _ _ ?_;clear hK K;try simp only[Act.put,Mt,Mu,Mv])
       |(first
          | refine OJ 4 ?_ [5,6,8,9] (by exact LI) ?_ ?_
          | refine OJ 5 ?_ [8,9] (by exact LI) ?_ ?_
         rotate_left
         ·intro wS LN;go_simp;all_goals with_reducible rfl
         simp only[av,List.set])
       |(refine Pm 6 ?_ (by exact LI) ?_ ?_
         rotate_left
         ·intro wS;go_simp;all_goals with_reducible rfl
         simp only[av,List.set])
       | refine OL [2,7] ?_
       | refine OL [3,7] ?_
       | refine OL [7] ?_
       | refine OL [3] ?_
       | refine OL [2] ?_
       | fail)
      all_goals
       refine dn (by kernel_rfl) ?_;go_wp2_with fail
       go_meet
       case rel=>first | exact⟨_,_,_,_,_,rfl,rfl,FINA.o⟩ | exact⟨_,_,_,_,_,rfl,rfl,FINB.o⟩
     case rest=>
      obtain⟨g7,a3,b3,c3,d3,rfl,rfl,-,hcB,-⟩:=hcut;have HJ2:=aa (HJ.o.grow hcB);clear hcB;cases tx with
      | false=>
       have FIN:Ll (∃ pv,t6 W5 W5.heap.size nm ((o.paths.take (j+1)).filter (stays nm)) pv wc):=aa ⟨_,by rw[CS.o,if_neg (by simp)];exact HJ2.o⟩;go_wp2_with fail
       go_roundg (o.paths.length - (j+1))
       case measure=>rw[GJ.o];omega
       case rel=>exact⟨j+1,hjt,rfl,by go_num,FIN⟩
      | true=>
       obtain⟨g,cap,W',hR,ho,hg,-⟩:=KW (W:=wc.alloc (.cells #[.string ⟨p.toArray⟩] 9)) (B:=W5.heap.size+1) (v:=.slice ja C.length jc) (n:=C.length) (cs:=C.map fun s=>Value.string ⟨s.toArray⟩) (nb:=wc.heap.size) (k:=⟨p.toArray⟩) (bM HJ2.o.row fun g hg=>(ae _ _).block g (bY HJ2.o.row hg).2) (MN _ _) (by have:=CLN.o;omega) (by have h1:=(ae wc (.cells #[.string ⟨p.toArray⟩] 9)).size;have h2:=(MF.1 HJ2.o.bx).1;omega) 22;have PU:=aa (HJ2.o.push ho hg);have FIN:Ll (∃ pv,t6 W5 W5.heap.size nm ((o.paths.take (j+1)).filter (stays nm)) pv (W'.setCell ⟨W5.heap.size,1,none⟩ (.slice (some ⟨g,0,none⟩) (C.length+1) cap))):=aa ⟨_,by rw[CS.o,if_pos rfl];exact PU.o.1⟩;have HR:=aa hR;have q1:=(rl HJ2.o.bx).2;have q2:=PU.o.2.1;have q3:=PU.o.2.2;have q4:=ah (ae wc (.cells #[.string ⟨p.toArray⟩] 9)) q1;clear hR ho hg;go_wp2_with (at_builtin;go_must (refine Lib.wpList_append_run _ rfl _ _ _ _ rfl (.slice ja C.length jc) (.slice (some ⟨wc.heap.size,0,none⟩) 1 1) rfl rfl _ _ HR.o ?_);refine Ll.o ?_)
       refine aa ?_;go_wp2_with fail
       go_roundg (o.paths.length - (j+1))
       case measure=>rw[GJ.o];omega
       case rel=>exact⟨j+1,hjt,rfl,by go_num,FIN⟩
    ·have d9:¬(j:Int) < (o.paths.length:Int):=by omega
     have hje:j=o.paths.length:=by omega
     have CC:Ll (o.paths.filter (stays nm)=C):=aa (by rw[<-HC.o,MD (by omega)]);have KS2:Ll (dV stays (l.take (k+1))=K++(if C=[] then [] else [⟨nm,C⟩])):=aa (by rw[KS.o,CC.o]);have OB:=aa (ab A5.o HJ.o.bel);have q0:=(rl HJ.o.bx).1;have q1:=(rl HJ.o.bx).2;clear hje;by_cases hC0:C=[]
     ·have e1:¬(0:Int) < (C.length:Int):=by rw[hC0];simp
      have FIN:Ll (La W2 wr/\fA wr W2.heap.size (dV stays (l.take (k+1))) (.slice oa K.length oc)):=aa ⟨ab I.o.1 OB.o,by
       rw[KS2.o,if_pos hC0,List.append_nil];exact I.o.2.bel OB.o⟩
      clear hC0;go_wp2_with fail
      go_roundg (l.length - (k+1))
      case measure=>rw[GK.o];omega
      case rel=>exact⟨k+1,hlt,rfl,by go_num,FIN⟩
     ·have e1:(0:Int) < (C.length:Int):=by have:=List.length_pos_iff.2 hC0;omega
      have OR:=I.o.2.bel OB.o;obtain⟨pvs,h1,h2,h3⟩:=OR;obtain⟨g,cap,W',hR,ho,hg,hf⟩:=mW (W:=wr.alloc (.cells #[.string ⟨nm.toArray⟩,.slice ja C.length jc] 47)) (B:=W2.heap.size) (v:=.slice oa K.length oc) (n:=K.length) (cs:=ba (K) pvs) (nb:=wr.heap.size) (k:=⟨nm.toArray⟩) (pa:=ja) (pn:=C.length) (pc:=jc) (bM h2 fun g hg=>(ae _ _).block g (bY h2 hg).2) (MN _ _) (by have:=KLN.o;omega) (MH (ab I.o.1 OB.o).size (ae wr (.cells #[.string ⟨nm.toArray⟩,.slice ja C.length jc] 47)).size) 26;have SP:Ll (ao wr (fun k=>W2.heap.size<=k/\some k≠(Value.slice oa K.length oc).ownBlock) C (.slice ja C.length jc)):=R9 HJ.o.row CME.o (by have:=CLN.o;unfold maxLen;omega) (fun k hk=>⟨by have:=B5.o.size;omega,fun e=>by
       obtain⟨pvs0,-,h20,-⟩:=I.o.2;have:=(bY h20 e.symm).2;have:=A5.o.size;omega⟩)
      have FIN:Ll (La W2 W'/\fA W' W2.heap.size (dV stays (l.take (k+1))) (.slice (some ⟨g,0,none⟩) (K.length+1) cap)):=aa ⟨Jv (ab (ab I.o.1 OB.o) (ae _ _)) hg (fun q hq=>(bY h2 hq).1),by
       rw[KS2.o,if_neg hC0];refine fA.snoc (wr:=wr) (pv:=.slice ja C.length jc) (o:=⟨nm,C⟩) h1 h3 SP.o ho hg ?_;rcases hf with hf | hf
       ·exact .inl hf
       ·right;have:=(ae wr (.cells #[.string ⟨nm.toArray⟩,.slice ja C.length jc] 47)).size;simp at hf;omega⟩
      have HR:=aa hR;clear hR ho hg hf h1 h2 h3 hC0;go_wp2_with (at_builtin;go_must (refine Lib.wpList_append_run _ rfl _ _ _ _ rfl (.slice oa K.length oc) (.slice (some ⟨wr.heap.size,0,none⟩) 1 1) rfl rfl _ _ HR.o ?_);refine Ll.o ?_)
      refine aa ?_;go_wp2_with fail
      go_roundg (l.length - (k+1))
      case measure=>rw[GK.o];omega
      case rel=>exact⟨k+1,hlt,rfl,by go_num,FIN⟩
  ·have d9:¬(k:Int) < (l.length:Int):=by omega
   have hkl:l.take k=l:=MD (by omega);have FIN:Ll (aB wo (fun k=>w.heap.size<=k) (dV stays l) (.slice oa (dV stays (l.take k)).length oc)/\La w wo):=aa ⟨by
    have h1:=I.o.2;rw[hkl]at h1 ⊢;exact((h1.base B2.o.size).owns fun o ho=>by
     obtain⟨x,hx,rfl,-⟩:=oE ho;obtain⟨i,hi,rfl⟩:=List.getElem_of_mem hx;obtain⟨_,_,_,_,_,_,_,_,_,_,h9⟩:=LI.o.at hi;unfold maxLen;exact h9),ab B2.o I.o.1⟩
   go_wp2_with fail
   go_ret;rw[hkl]at FIN;exact⟨oa,oc,rfl,FIN.o.1,FIN.o.2⟩
end
section
def f9 (w:LC) (xs:List (Lz × Lz)) (v:Value):Prop:=∃ B,w.ownsRow B 64 2 v xs.length (jV xs)
theorem xg:∀ (xs:List (Lz × Lz)) (k:Nat) (h:k < xs.length),(jV xs)[k * 2]?=some (.string ⟨xs[k].1.toArray⟩)/\(jV xs)[k * 2+1]?=some (.string ⟨xs[k].2.toArray⟩)
 | [],k,h=>by simp at h
 | x :: xs,0,_=>⟨rfl,rfl⟩
 | x :: xs,k+1,h=>by
  have:=xg xs k (by simpa using h);rw[show (k+1) * 2=k * 2+1+1 by omega];exact this
theorem f9.at{xs:List (Lz × Lz)}(h:f9 w xs v)(hk:k < xs.length):∃ g c,v=.slice (some ⟨g,0,none⟩) xs.length c/\xs.length<=c/\c<=9223372036854775807/\w.cell? ⟨g,k * 2,none⟩=some (.string ⟨xs[k].1.toArray⟩)/\w.cell? ⟨g,k * 2+1,none⟩=some (.string ⟨xs[k].2.toArray⟩):=by
 obtain⟨B,h⟩:=h;rcases h.2 with⟨rfl,h0⟩ | ⟨g,cap,cur,rfl,h1,h2,h3,h4,h5,h6⟩
 ·omega
 ·have hn:0 < xs.length:=by omega
  obtain⟨c1,c2⟩:=xg xs k hk;exact⟨g,cap,rfl,h3,h4,(dJ h hn c1).1,(dJ h hn c2).1⟩
open Classical in
attribute [local go_sem ↓] Go.wp_at_zero Go.wp_at_succ
open Classical in
theorem Do(w:LC)(xs ys:List (Lz × Lz))(v u:Value)(h:f9 w xs v)(h':f9 w ys u)(hx:xs.length<=4000000)(hy:ys.length<=4000000):Calls prog 11 #[v,u] w fun e w'=>e=.returned (.bool (decide (xs=ys)))/\La w w':=by
 have H:=aa h;have H':=aa h';obtain⟨a,c,rfl⟩:∃ a c,v=.slice a xs.length c:=by obtain⟨B,h⟩:=h;exact TG h
 obtain⟨a',c',rfl⟩:∃ a c,u=.slice a ys.length c:=by obtain⟨B,h⟩:=h';exact TG h
 clear h h';by_cases hl:xs.length=ys.length
 ·have q0:((xs.length:Int) != (ys.length:Int))=false:=by simp[hl]
  have q00:((xs.length:Int) == (ys.length:Int))=true:=by simp[hl]
  have HLN:=aa hl;rw[<-hl];clear hl;go_enter func11,ntmps11;go_wp2_with fail
  clear q0 q00;go_loopg [13] xs.length (fun gk i wr=>∃ k:Nat,k<=xs.length/\gk=xs.length - k/\i=.int .i64 k/\Ll (xs.take k=ys.take k)/\Ll (La w wr))
  case atStart=>exact⟨0,Nat.zero_le _,rfl,rfl,rfl,MK _ _⟩
  case round=>
   obtain⟨k,hk,hgk,rfl,AL,BL⟩:=hrel;have GK:=aa hgk;clear hgk;by_cases hlt:k < xs.length
   ·have hlt':k < ys.length:=HLN.o ▸ hlt;obtain⟨g,c9,e9,hc1,hc2,k0,k1⟩:=H.o.at hlt;cases e9;obtain⟨g',c8,e8,hc1',hc2',k0',k1'⟩:=H'.o.at hlt';cases e8;have w2:(k:Int) < (xs.length:Int):=by omega
    have w3:(0:Int)<=(k:Int):=by omega
    have TK:Ll (xs[k].1=ys[k].1->xs[k].2=ys[k].2->xs.take (k+1)=ys.take (k+1)):=fun h1 h2=>mx AL.o hlt hlt' (Prod.ext h1 h2);have NE:Ll (¬(xs[k].1=ys[k].1/\xs[k].2=ys[k].2)->decide (xs=ys)=false):=fun h9=>decide_eq_false (fun e=>h9 (by subst e;exact⟨rfl,rfl⟩));obtain⟨x1,hx1⟩:∃ x,xs[k].1=x:=⟨_,rfl⟩
    obtain⟨x2,hx2⟩:∃ x,xs[k].2=x:=⟨_,rfl⟩
    obtain⟨y1,hy1⟩:∃ x,ys[k].1=x:=⟨_,rfl⟩
    obtain⟨y2,hy2⟩:∃ x,ys[k].2=x:=⟨_,rfl⟩
    rw[hx1]at k0 TK NE;rw[hx2]at k1 TK NE;rw[hy1]at k0' TK NE;rw[hy2]at k1' TK NE;clear hx1 hx2 hy1 hy2;replace k0:=ah BL.o k0;replace k1:=ah BL.o k1;replace k0':=ah BL.o k0';replace k1':=ah BL.o k1';have BD:Ll (La w wr.drew):=ab BL.o (aC wr 1);have cs:(x1 == y1)=false\/(x1=y1/\(x2 == y2)=false)\/(x1=y1/\x2=y2):=by
     by_cases h1:x1=y1
     ·by_cases h2:x2=y2
      ·exact .inr (.inr ⟨h1,h2⟩)
      ·exact .inr (.inl ⟨h1,by rw[MO];exact h2⟩)
     ·exact .inl (by rw[MO];exact h1)
    rcases cs with e9 | ⟨e8,e9⟩ | ⟨e8,e9⟩
    ·have R:=aa (NE.o (fun h=>by rw[h.1]at e9;simp at e9));go_wp2_with fail
     go_region
     all_goals
      go_wp2_with fail
      go_ret;exact⟨by rw[R.o];rfl,BD.o⟩
    ·have R:=aa (NE.o (fun h=>by rw[h.2]at e9;simp at e9));subst e8;go_wp2_with fail
     go_region
     all_goals
      go_wp2_with fail
      go_ret;exact⟨by rw[R.o];rfl,BD.o⟩
    ·have T2:=aa (TK.o e8 e9);subst e8;subst e9;clear TK NE;go_wp2_with fail
     go_region
     all_goals
      go_wp2_with fail
      go_roundg (xs.length - (k+1))
      case measure=>rw[GK.o];omega
      case rel=>exact⟨k+1,hlt,rfl,by go_num,T2,BD⟩
   ·have d9:¬(k:Int) < (xs.length:Int):=by omega
    have R:Ll (decide (xs=ys)=true):=decide_eq_true (by
     have:=AL.o;rwa [MD (by omega),MD (by have:=HLN.o;omega)]at this)
    go_wp2_with fail
    go_ret;exact⟨by rw[R.o];rfl,BL.o⟩
 ·have q0:((xs.length:Int) != (ys.length:Int))=true:=by simp;omega
  have q00:((xs.length:Int) == (ys.length:Int))=false:=by rw[MO];omega
  have R:Ll (decide (xs=ys)=false):=decide_eq_false (fun e=>hl (by rw[e]));go_enter func11,ntmps11;go_wp2_with fail
  go_ret;exact⟨by rw[R.o];rfl,MK _ _⟩
end
variable {n:Nat}
section
theorem KO{cs:List Value}{nb:Nat}{k:ByteArray}{pa:Option Addr}{pn pc:Nat}(ho:W.ownsRow B 47 2 v n cs)(hnb:W.heap[nb]?=some (.cells #[.string k,.slice pa pn pc] 47))(hn:n<=4000000)(hB:B<=W.heap.size)(ty:TypeId):∃ v' W',(Builtin.append_ #[26,26] ty #[v,.slice (some ⟨nb,0,none⟩) 1 1]).run prog W=.ok v' W'/\∃ g cap,v'=.slice (some ⟨g,0,none⟩) (n+1) cap/\W'.ownsRow B 47 2 (.slice (some ⟨g,0,none⟩) (n+1) cap) (n+1) (cs++[.string k,.slice pa pn pc])/\W.grownBy W' v.ownBlock/\(v.ownBlock=some g\/W.heap.size=g):=by
 obtain⟨g,cap,W',h1,h2,h3,h4⟩:=mW ho hnb hn hB ty;exact⟨_,W',h1,g,cap,rfl,h2,h3,h4⟩
theorem Ti{a:LC}(_:La a W)(nm:Lz)(pa:Option Addr)(n c:Nat):(W.alloc (.cells #[.string ⟨nm.toArray⟩,.slice pa n c] 47)).heap[W.heap.size]?=some (.cells #[.string ⟨nm.toArray⟩,.slice pa n c] 47):=MN _ _
attribute [local go_sem ↓] Go.wp_at_zero Go.wp_at_succ
theorem T3(w:LC)(okl:Nat->Prop)(l:List aL)(vl:Value)(hl:aB w okl l vl)(hL:l.length<=2000000)(hP:∀ o∈l,o.paths.length<=2000000/\∀ x∈o.paths,x.length<=140737488351232):Calls prog 6 #[vl] w fun e w'=>∃ a c,e=.returned (.slice a l.length c)/\aB w' (fun k=>w.heap.size<=k) l (.slice a l.length c)/\La w w':=by
 have HL:=aa hl;have HLN:=aa hL;have HP:=aa hP;obtain⟨la,lc,rfl⟩:=hl.form;have ll:=hl.1;unfold maxLen at ll;clear hl hP hL;have S0:Ll (La w w/\fA w w.heap.size (l.take 0) (.slice none 0 0)):=aa ⟨MK _ _,[],rfl,World.ownsRow_nil _ _ _ _,fun i o v h=>by simp at h⟩;go_enter func6,ntmps6;go_wp2_with fail
 go_loopg [8,3] l.length (fun gk i ov wr=>∃ k:Nat,k<=l.length/\gk=l.length - k/\i=.int .i64 k/\Ll (La w wr/\fA wr w.heap.size (l.take k) ov))
 case atStart=>exact⟨0,Nat.zero_le _,rfl,rfl,S0⟩
 case round=>
  obtain⟨k,hk,hgk,rfl,I⟩:=hrel;have GK:=aa hgk;clear hgk;obtain⟨oa,oc,hov⟩:=BN I.o.2;subst hov;by_cases hlt:k < l.length
  ·obtain⟨b,off,pa,pc,rfl,hc1,hc2,hn0,hp0,hst,hnl⟩:=HL.o.at hlt;have hn:=ah I.o.1 hn0;have hp:=ah I.o.1 hp0;have w2:(k:Int) < (l.length:Int):=by omega
   have w3:(0:Int)<=(k:Int):=by omega
   have TS0:l.take (k+1)=l.take k++[⟨l[k].name,l[k].paths⟩]:=by rw[List.take_succ_eq_append_getElem hlt]
   have TS:=aa TS0;have PP:=aa (HP.o _ (List.getElem_mem hlt));have KL0:(l.take k).length<=4000000:=by have:=HLN.o;rw[MC];omega
   obtain⟨o,ho⟩:∃ o,l[k]=o:=⟨_,rfl⟩
   rw[ho]at hn hp hst hnl TS PP;clear ho hn0 hp0 TS0;obtain⟨nm,hnm⟩:∃ n,o.name=n:=⟨_,rfl⟩
   obtain⟨ps,hps⟩:∃ n,o.paths=n:=⟨_,rfl⟩
   rw[hnm]at hn TS;rw[hps]at hp hst TS PP;clear hnm hps hnl;have PLN:=aa PP.o.1;have PME:Ll (∀ x∈ps,x.length<=maxLen):=aa (fun x hx=>by have:=PP.o.2 x hx;unfold maxLen;omega);obtain⟨K0,hK0⟩:∃ K,l.take k=K:=⟨_,rfl⟩
   rw[hK0]at I TS KL0 ⊢;clear hK0;have KLN:=aa KL0;have pl:=hst.1;unfold maxLen at pl;obtain⟨W5,hW5⟩:∃ W,W=wr.alloc (.cells #[.string ⟨nm.toArray⟩,.slice pa ps.length pc] 47):=⟨_,rfl⟩
   have A5:Ll (La wr W5):=aa (by rw[hW5];exact ae _ _);have N5:Ll (W5.cell? ⟨wr.heap.size,0,none⟩=some (.string ⟨nm.toArray⟩)):=aa (by rw[hW5];exact(rl (MN _ _)).1);have P5:Ll (W5.cell? ⟨wr.heap.size,1,none⟩=some (.slice pa ps.length pc)):=aa (by rw[hW5];exact(rl (MN _ _)).2);have HW5:=aa hW5;clear hW5;have B5:=aa (ab I.o.1 A5.o);have ST5:=aa (hst.bel B5.o);have OR5:=aa (I.o.2.bel A5.o);have OLD:Ll (∀ q:Nat,(Value.slice oa K0.length oc).ownBlock=some q->q < W5.heap.size):=aa (fun q hq=>by
    obtain⟨pvs,-,h2,-⟩:=OR5.o;exact(bY h2 hq).2)
   clear hst KL0;go_upto_region 5 with fail
   rw[<-HW5.o];clear hn hp;refine aD (fun wS=>La W5 wS) [8] (by kernel_rfl) (aC _ 1) (fun LI=>?_);refine WT.out ?_;iterate 5
    first
     | refine OJ 0 ?_ [8,9] LI ?_ ?_
     | refine OJ 1 ?_ [2,6,7,8,9] LI ?_ ?_
     | refine OJ 2 ?_ [6,7,8,9] LI ?_ ?_
     | refine OJ 3 ?_ [4,5,6,7,8,9] LI ?_ ?_
     | refine OJ 4 ?_ [5,6,7,8,9] LI ?_ ?_
    rotate_left
    ·intro wS LN;have u0:=ah LN N5.o;have u1:=ah LN P5.o;go_simp;all_goals with_reducible rfl
    simp only[av,List.set]
   repeat' (first
    | exact nl
    |(refine ip (i:=5) (o:={ dst:=some 17,op:=Go.Op.call { callee:=Go.Callee.builtin Go.Builtin.append,args:=#[Go.Operand.const (Go.Value.slice none 0 0),Go.Operand.tmp 16],argTypes:=#[22,22] },type:=22,pos:= "high.go:252",after:=#[{ on:=4,ground:=Go.Ground.data }],guard:=none }) rfl (fun K hK=>?_) ?_
      refine m8 (by rfl) (.const (.slice none 0 0)) (.tmp 16) 22 (by rfl) _ _ rfl rfl _ (fun ty=>wC _ _ ps _ (by exact ST5.o.bel LI) (by have:=PLN.o;omega) ty) (fun v6 W6 hR=>?_);obtain⟨hown,hb6⟩:=hR;obtain⟨pa6,pc6,rfl⟩:=TG hown;refine hK.out _ _ (ab LI hb6) (fun LJ=>?_);have OW:=aa (TP hown LI.size);have HB6:=aa LJ;clear hown hb6;clear hK K;replace LI:=LJ;clear LJ;try simp only[Act.put,Mt,Mu,Mv])
    |(refine TD 7 (fun K hK=>?_) ?_
      go_simp;refine hK.out _ _ (ab LI (ae _ _)) (fun LJ=>?_);have NK:=aa (Ti LI nm pa6 ps.length pc6);try simp only[n9,vc,sk]at NK
      have HB7:=aa LJ;clear hK K;replace LI:=LJ;clear LJ;try simp only[Act.put,Mt,Mu,Mv])
    |(refine jZ (i:=8) (o:={ dst:=some 20,op:=Go.Op.call { callee:=Go.Callee.builtin Go.Builtin.append,args:=#[Go.Operand.tmp 12,Go.Operand.tmp 19],argTypes:=#[26,26] },type:=26,pos:= "high.go:252",after:=#[{ on:=0,ground:=Go.Ground.data },{ on:=7,ground:=Go.Ground.data },{ on:=5,ground:=Go.Ground.chain }],guard:=none }) (by decide +kernel) rfl (fun K hK=>?_)
      obtain⟨pvs,h1,h2,h3⟩:=(OR5.o.bel HB6.o)
      refine m8 (by rfl) (.tmp 12) (.tmp 19) 26 (by rfl) _ _ rfl rfl _ (fun ty=>KO (bM h2 fun g hg=>(ae W6 (.cells #[.string ⟨nm.toArray⟩,.slice pa6 ps.length pc6] 47)).block g (bY h2 hg).2) NK.o (by exact KLN.o) (by exact MH B5.o.size HB7.o.size) ty) (fun v8 W8 hR=>?_);obtain⟨g,cap,rfl,hown,hg8,hf8⟩:=hR;have FIN:Ll (La w W8/\fA W8 w.heap.size (l.take (k+1)) (.slice (some ⟨g,0,none⟩) (K0.length+1) cap)):=aa ⟨Jv (ab B5.o HB7.o) hg8 (fun q hq=>(bY h2 hq).1),by
       rw[TS.o];refine fA.snoc (wr:=W6) (pv:=.slice pa6 ps.length pc6) (o:=⟨nm,ps⟩) h1 h3 (kf (n:=ps.length) rfl OW.o PME.o (fun q hq=>⟨by have:=B5.o.size;omega,fun e=>by
        have h8:=OLD.o _ e.symm;omega⟩) (by have:=PLN.o;unfold maxLen;omega)) hown hg8 ?_
       rcases hf8 with hf | hf
       ·exact .inl hf
       ·right;have h8:=sk W6 (.cells #[.string ⟨nm.toArray⟩,.slice pa6 ps.length pc6] 47);omega⟩
      clear hown hg8 hf8 h1 h2 h3;refine hK.out _ _ ?_;clear hK K;try simp only[Act.put,Mt,Mu,Mv])
    |(refine OO 9 (fun K hK=>?_)
      go_simp;refine hK.out _ _ ?_;clear hK K;try simp only[Act.put,Mt,Mu,Mv])
    |(refine OJ 6 ?_ [7,8,9] (by exact LI) ?_ ?_
      rotate_left
      ·intro wS LN;go_simp;all_goals with_reducible rfl
      simp only[av,List.set])
    | refine OL [5] ?_
    | refine OL [7] ?_
    | fail)
   all_goals
    refine dn (by kernel_rfl) ?_;go_wp2_with fail
    go_roundg (l.length - (k+1))
    case measure=>rw[GK.o];omega
    case rel=>exact⟨k+1,hlt,rfl,by go_num,FIN⟩
  ·have d9:¬(k:Int) < (l.length:Int):=by omega
   have hkl:l.take k=l:=MD (by omega);have FIN:Ll (aB wr (fun k=>w.heap.size<=k) l (.slice oa (l.take k).length oc)/\La w wr):=aa ⟨by
    have h1:=I.o.2;rw[hkl]at h1 ⊢;exact h1.owns fun o ho=>by
     obtain⟨i,hi,rfl⟩:=List.getElem_of_mem ho;obtain⟨_,_,_,_,_,_,_,_,_,_,h9⟩:=HL.o.at hi;unfold maxLen;exact h9,I.o.1⟩
   rw[hkl]at FIN;go_wp2_with fail
   go_ret;exact⟨oa,oc,rfl,FIN.o.1,FIN.o.2⟩
end
theorem Ge(W:LC)(ok t)(g:Nat)(a1 b1)(c1 d1:Nat)(n p:Lz)(hb:ag W g (.int .i64 t.kind) (.int .i64 t.n) (.string ⟨t.s.toArray⟩) (.slice a1 t.keys.length c1) (.slice b1 t.l.length d1))(ht:In W ok t (.agg #[.int .i64 t.kind,.int .i64 t.n,.string ⟨t.s.toArray⟩,.slice a1 t.keys.length c1,.slice b1 t.l.length d1]))(hp:p.length<=140737488351232)(hM:bj W):Calls prog 55 #[.string ⟨n.toArray⟩,.string ⟨p.toArray⟩,.pointer (some ⟨g,0,none⟩)] W fun e w'=>e=.returned (.bool (dr (aw p) t).isSome)/\La W w':=by
 have ST:Ll (Calls prog 56 #[.agg #[.int .i64 t.kind,.int .i64 t.n,.string ⟨t.s.toArray⟩,.slice a1 t.keys.length c1,.slice b1 t.l.length d1],.string ⟨p.toArray⟩] W fun e w'=>∃ r,e=.returned (.tuple #[r,.bool (dr (aw p) t).isSome])/\La W w'/\In w' ok ((dr (aw p) t).getD aM) r):=gD W ok t _ p ht hp hM;have v0_:=hb.c;generalize (dr (aw p) t).isSome=o at ST ⊢;generalize (dr (aw p) t).getD aM=z at ST;clear hb ht hp hM;go_enter func55,ntmps55;go_wp2_with (go_at_call 56;refine ST.o.mono ?_;rintro e w1 ⟨r,rfl,hb,hr⟩;obtain⟨a2,b2,c2,d2,rfl⟩:=hr.form;have B1:=aa hb;clear hb hr)
 go_ret;exact⟨rfl,ab B1.o (ae _ _)⟩
theorem sT:∀ args w,(callFunc 55 args).run prog w=.ok (.enter 55 args) w:=enters_of func55 (by kernel_rfl) rfl
theorem Hz(w:LC)(ok t l vt vl)(ht:In w ok t vt)(hl:aB w ok l vl)(hM:bj w)(hN:(bA l).length<=4000000)(hP:∀ o∈l,∀ x∈o.paths,x.length<=140737488351232):Calls prog 23 #[vt,vl] w fun e w'=>∃ a c,e=.returned (.slice a (ir t l).length c)/\aB w' (fun k=>w.heap.size<=k) (ir t l) (.slice a (ir t l).length c)/\La w w':=by
 have HT:=aa ht;have HL:=aa hl;have HM:=aa hM;have HP:=aa hP;have HN:=aa hN;obtain⟨a1,b1,c1,d1,rfl⟩:=ht.form;obtain⟨la,lc,rfl⟩:=hl.form;obtain⟨W1,hW1⟩:∃ W,W=w.alloc (.cells #[.int .i64 t.kind,.int .i64 t.n,.string ⟨t.s.toArray⟩,.slice a1 t.keys.length c1,.slice b1 t.l.length d1] 25):=⟨_,rfl⟩
 have Y1:Ll (La w W1):=aa (by rw[hW1];exact ae _ _);have VB:Ll (ag W1 w.heap.size (.int .i64 t.kind) (.int .i64 t.n) (.string ⟨t.s.toArray⟩) (.slice a1 t.keys.length c1) (.slice b1 t.l.length d1)):=aa (by rw[hW1];exact MN _ _);have HW1:=aa hW1;have JG:Ll (∀ W,La w W->Calls prog 34 #[.agg #[.int .i64 t.kind,.int .i64 t.n,.string ⟨t.s.toArray⟩,.slice a1 t.keys.length c1,.slice b1 t.l.length d1]] W fun e w'=>e=.returned (.bool (aE t))/\La W w'):=fun W hW=>bG W _ t _ (HT.o.bel hW);have OG:Ll (∀ W,La w W->Calls prog 15 #[.slice la l.length lc] W fun e w'=>e=.returned (.bool (TC l))/\La W w'):=fun W hW=>eZ W _ l _ (HL.o.bel hW) HP.o (HM.o.bel hW);clear ht hl hM hN hP hW1;have v0_:=VB.o.c;go_enter func23,ntmps23;go_upto_region 1 with fail
 rw[<-HW1.o];cases hg:aE t with
 | false=>
  have R:Ll (ir t l=[]):=if_neg (by rw[hg];simp);rw[hg]at JG;clear hg;go_wp2_with (go_at_call 34;refine Lk (JG.o _ Y1.o) fun w2 hb=>?_;have B2:=aa hb;clear hb)
  go_ret;exact⟨none,0,by rw[R.o];rfl,by rw[R.o];exact aB.nil _ _,ab Y1.o B2.o⟩
 | true=>
 rw[hg]at JG;cases hq:TC l with
 | false=>
  have R:Ll (ir t l=[]):=if_neg (by rw[hq];simp);rw[hq]at OG;clear hg hq;go_wp2_with (first
   |(go_at_call 15;refine Lk (OG.o _ (ab Y1.o B2.o)) fun w3 hb=>?_;have B3:=aa hb;clear hb)
   |(go_at_call 34;refine Lk (JG.o _ Y1.o) fun w2 hb=>?_;have B2:=aa hb;clear hb))
  go_ret;exact⟨none,0,by rw[R.o];rfl,by rw[R.o];exact aB.nil _ _,ab (ab Y1.o B2.o) B3.o⟩
 | true=>
 rw[hq]at OG;have R:Ll (ir t l=dV (fun _ p=>(dr (aw p) t).isSome) l):=if_pos ⟨hg,hq⟩;obtain⟨g1,g2,g3⟩:=gz hq;have GR:=aa g3;have GN:=aa (kI (stays:=fun _ p=>(dr (aw p) t).isSome) hq).1;clear hg hq g1 g2 g3;go_upto_region 3 with (first
  |(go_at_call 15;refine Lk (OG.o _ (ab Y1.o B2.o)) fun w3 hb=>?_;have B3:=aa hb;clear hb)
  |(go_at_call 34;refine Lk (JG.o _ Y1.o) fun w2 hb=>?_;have B2:=aa hb;clear hb))
 have Y3:=aa (ab (ab Y1.o B2.o) B3.o);have KP:=Am w3 ok l _ 55 #[.pointer (some ⟨w.heap.size,0,none⟩)] (fun _ p=>(dr (aw p) t).isSome) sT
  (fun W n p hW hnp=>Ge W ok t w.heap.size a1 b1 c1 d1 n p (af (ab (ab B2.o B3.o) hW) VB.o) (HT.o.bel (ab Y3.o hW)) (by obtain⟨o,ho,-,hx⟩:=kL hnp;exact HP.o o ho _ hx) (HM.o.bel (ab Y3.o hW)))
  (HL.o.bel Y3.o) GR.o HN.o (fun o ho x hx=>by have:=HP.o o ho x hx;unfold maxLen;omega)
 rw[<-R.o]at KP;have KPT:=aa KP;rw[<-R.o]at GN;clear KP R;go_wp2_with (go_at_call 27;refine KPT.o.mono ?_;rintro e w4 ⟨oa,oc,rfl,hrow,hb⟩;have B4:=aa hb;have ORW:=aa hrow;clear hb hrow)
 go_ret;exact⟨oa,oc,rfl,(ORW.o.owns (fun o ho=>by have:=sh (GN.o o ho).1;unfold maxLen;omega)).weak fun k hk=>MH Y3.o.size hk,ab Y3.o B4.o⟩
section
theorem re(w:LC)(ok ok':Nat->Prop)(a:List Lz)(va vb:Value)(ha:ao w ok a va)(hb:ao w ok' a vb):Calls prog 17 #[va,vb] w fun e w'=>e=.returned (.bool true)/\La w w':=
 (tE w ok ok' a a va vb ha hb).mono fun e w' h=>⟨by rw[h.1,decide_eq_true rfl],h.2⟩
theorem u7(w:LC)(ok ok':Nat->Prop)(xs:List aL)(v u:Value)(h:aB w ok xs v)(h':aB w ok' xs u):Calls prog 10 #[v,u] w fun e w'=>e=.returned (.bool true)/\La w w':=
 (DO w ok ok' xs xs v u h h').mono fun e w' h=>⟨by rw[h.1];simp,h.2⟩
theorem u5(w:LC)(xs:List (Lz × Lz))(v u:Value)(h:f9 w xs v)(h':f9 w xs u)(hx:xs.length<=4000000):Calls prog 11 #[v,u] w fun e w'=>e=.returned (.bool true)/\La w w':=
 (Do w xs xs v u h h' hx hx).mono fun e w' h=>⟨by rw[h.1];simp,h.2⟩
theorem f9.bel{xs:List (Lz × Lz)}(h:f9 w xs v)(hb:La w w'):f9 w' xs v:=by
 obtain⟨B,h⟩:=h;exact⟨B,bM h fun g hg=>hb.block g (bY h hg).2⟩
theorem Tb(w:LC)(ok okl okw:Nat->Prop)(t LQ:V)(l:List aL)(who:Lz)(vt vl vw:Value)(ht:In w ok t vt)(hl:aB w okl l vl)(hw:In w okw LQ vw)(hM:bj w)(hN:(bA l).length<=4000000)(hP:∀ o∈l,∀ x∈o.paths,x.length<=140737488351232)(h1:aE t=true)(h3:TC l=true):Calls prog 21 #[vt,vl,.string ⟨who.toArray⟩,vw] w fun e w'=>∃ a c,e=.returned (.slice a (eu (aV LQ t (au LQ)) who l).length c)/\f9 w' (eu (aV LQ t (au LQ)) who l) (.slice a (eu (aV LQ t (au LQ)) who l).length c)/\La w w':=by
 refine(lJ w ok okl okw t LQ l who vt vl vw ht hl hw hM hN hP).mono ?_;rintro e w' ⟨r,rfl,ho,hb⟩;have e9:ld t l who LQ=eu (aV LQ t (au LQ)) who l:=if_pos ⟨h1,h3⟩;rw[e9]at ho;obtain⟨a,c,rfl⟩:=TG ho;exact⟨a,c,rfl,⟨_,ho⟩,hb⟩
theorem R8(w:LC)(ok okl okw:Nat->Prop)(t LQ:V)(l:List aL)(who:Lz)(vt vl vw:Value)(ht:In w ok t vt)(hl:aB w okl l vl)(hw:In w okw LQ vw)(hN:bN LQ<=1000000000000000)(hA:(bA l).length<=4000000)(hP:∀ o∈l,∀ x∈o.paths,x.length<=140737488351232):Calls prog 22 #[vt,vl,.string ⟨who.toArray⟩,vw] w fun e w'=>∃ a c,e=.returned (.slice a (eu (aV LQ t (au LQ)) who l).length c)/\f9 w' (eu (aV LQ t (au LQ)) who l) (.slice a (eu (aV LQ t (au LQ)) who l).length c)/\La w w':=by
 refine(Sf w ok okl okw t LQ l who vt vl vw ht hl hw hN hA hP).mono ?_;rintro e w' ⟨r,rfl,ho,hb⟩;obtain⟨a,c,rfl⟩:=TG ho;exact⟨a,c,rfl,⟨_,ho⟩,hb⟩
theorem Cs(w:LC)(ok okl t l vt vl)(ht:In w ok t vt)(hl:aB w okl l vl)(hM:bj w)(hN:(bA l).length<=4000000)(hP:∀ o∈l,∀ x∈o.paths,x.length<=140737488351232)(h1:aE t=true)(h3:TC l=true):Calls prog 23 #[vt,vl] w fun e w'=>∃ a c,e=.returned (.slice a (dV (fun _ p=>(dr (aw p) t).isSome) l).length c)/\aB w' (fun k=>w.heap.size<=k) (dV (fun _ p=>(dr (aw p) t).isSome) l) (.slice a (dV (fun _ p=>(dr (aw p) t).isSome) l).length c)/\La w w':=by
 have:=Hz w (fun k=>ok k\/okl k) t l vt vl (ht.weak fun k h=>.inl h) (hl.imp fun a x h hx=>⟨.inr h,hx⟩) hM hN hP;have e9:ir t l=dV (fun _ p=>(dr (aw p) t).isSome) l:=if_pos ⟨h1,h3⟩;rwa [e9]at this
attribute [local go_sem ↓] Go.wp_at_zero Go.wp_at_succ
theorem tells_at(w:LC)(ok okl okw:Nat->Prop)(t LQ:V)(l:List aL)(who:Lz)(vt vl vw:Value)(ht:In w ok t vt)(hl:aB w okl l vl)(hw:In w okw LQ vw)(hG:cn w)(hM:bj w)(hN:bN t<=1000000000000000)(hNW:bN LQ<=1000000000000000)(hL:l.length<=2000000)(hA:(bA l).length<=2000000)(hP:∀ o∈l,o.paths.length<=2000000/\∀ x∈o.paths,x.length<=140737488351232)(hwho:who.length<=9223372036854775807):Calls prog 4 #[vt,vl,.string ⟨who.toArray⟩,vw] w fun e w'=>e=.returned (.bool true)/\La w w':=by
 have HT:=aa ht;have HL:=aa hl;have HW:=aa hw;have HG:=aa hG;have HM:=aa hM;have HN:=aa hN;have HNW:=aa hNW;have LLN:=aa hL;have HA1:=aa hA;have HA4:Ll ((bA l).length<=4000000):=aa (by omega);have HPC:Ll (∀ o∈l,o.paths.length<=2000000/\∀ x∈o.paths,x.length<=140737488351232):=fun o ho=>⟨(hP o ho).1,fun x hx=>by have:=(hP o ho).2 x hx;omega⟩;have HPP:Ll (∀ o∈l,∀ x∈o.paths,x.length<=140737488351232):=fun o ho=>(HPC.o o ho).2;have HPQ:Ll (∀ o∈l,∀ x∈o.paths,x.length<=140737488351232):=fun o ho=>(hP o ho).2;have FLN:Ll ((eu (aV LQ t (au LQ)) who l).length<=4000000):=aa (by have:=TZ (aV LQ t (au LQ)) who l;omega);obtain⟨a1,b1,c1,d1,rfl⟩:=ht.form;obtain⟨a2,b2,c2,d2,rfl⟩:=hw.form;obtain⟨la,lc,rfl⟩:=hl.form;have ll:=hl.1;unfold maxLen at ll;clear ht hl hw hG hM hN hNW hL hA hP;obtain⟨nb,hnb⟩:∃ b,bT who=b:=⟨_,rfl⟩
 obtain⟨go,hgo⟩:∃ b,TC l=b:=⟨_,rfl⟩
 have HNB:=aa hnb;have HGO:=aa hgo;clear hnb hgo;obtain⟨W2,hW2⟩:∃ W,W=(w.alloc (.cells #[.int .i64 t.kind,.int .i64 t.n,.string ⟨t.s.toArray⟩,.slice a1 t.keys.length c1,.slice b1 t.l.length d1] 25)).alloc (.cells #[.int .i64 LQ.kind,.int .i64 LQ.n,.string ⟨LQ.s.toArray⟩,.slice a2 LQ.keys.length c2,.slice b2 LQ.l.length d2] 25):=⟨_,rfl⟩
 have B2:Ll (La w W2):=aa (by rw[hW2];exact ab (ae _ _) (ae _ _));have AVB:Ll (ag W2 w.heap.size (.int .i64 t.kind) (.int .i64 t.n) (.string ⟨t.s.toArray⟩) (.slice a1 t.keys.length c1) (.slice b1 t.l.length d1)):=aa (by rw[hW2];exact fb _ _ _);have AWB:Ll (ag W2 (w.heap.size+1) (.int .i64 LQ.kind) (.int .i64 LQ.n) (.string ⟨LQ.s.toArray⟩) (.slice a2 LQ.keys.length c2) (.slice b2 LQ.l.length d2)):=aa (by rw[hW2];exact et _ _ _);have HW2:=aa hW2;have ATI:=aa (HT.o.bel B2.o);have ALI:=aa (HL.o.bel B2.o);have AHM:=aa (HM.o.bel B2.o);have AHG:=aa (HG.o.grown (r:=none) (aq B2.o) (by simp));clear hW2;go_enter func4,ntmps4;go_upto_region 1 with fail
 rw[<-HW2.o];refine aD (fun wS=>La W2 wS) [] (by kernel_rfl) (aC _ 1) (fun LI=>?_);refine WT.out ?_;iterate 2
  first
   | refine OJ 0 ?_ [] LI ?_ ?_
   | refine OJ 2 ?_ [] LI ?_ ?_
  rotate_left
  ·intro wS LN;go_simp;all_goals with_reducible rfl
  simp only[av,List.set]
 repeat' (first
  | exact nl
  |(refine TD 1 (fun K hK=>?_) ?_
    go_simp;refine(lR _ who hwho).mono ?_;rintro e w1q ⟨rfl,hw9⟩;obtain rfl:=hw9;rw[HNB.o];refine hK.out _ _ (LI) (fun LJ=>?_);clear hK K;replace LI:=LJ;clear LJ;try simp only[Act.put,Mt,Mu,Mv])
  |(refine TD 3 (fun K hK=>?_) ?_
    go_simp;refine Lk (xe _ who hwho) fun w3q hb5=>?_;rw[HNB.o];refine hK.out _ _ (ab LI hb5) (fun LJ=>?_);clear hb5;clear hK K;replace LI:=LJ;clear LJ;try simp only[Act.put,Mt,Mu,Mv])
  |(refine TD 7 (fun K hK=>?_) ?_
    go_simp;refine(T3 _ okl l _ (by exact ALI.o.bel LI) LLN.o HPC.o).mono ?_;rintro e w7q ⟨ca,cc,rfl,hco,hb5⟩;refine hK.out _ _ (ab LI hb5) (fun LJ=>?_);have CO:=aa hco;try replace C1:=aa (C1.o.bel hb5)
    try replace C2:=aa (C2.o.bel hb5)
    clear hb5 hco;clear hK K;replace LI:=LJ;clear LJ;try simp only[Act.put,Mt,Mu,Mv])
  |(refine TD 8 (fun K hK=>?_) ?_
    go_simp;refine Lk (eZ _ _ l _ (by exact CO.o) HPP.o (by exact AHM.o.bel LI)) fun w8q hb5=>?_;rw[HGO.o];refine hK.out _ _ (ab LI hb5) (fun LJ=>?_);clear hb5;clear hK K;replace LI:=LJ;clear LJ;try simp only[Act.put,Mt,Mu,Mv])
  |(refine TD 10 (fun K hK=>?_) ?_
    go_simp;refine Lk (qa _ okl l _ (by exact ALI.o.bel LI) HPP.o) fun w10q hb5=>?_;rw[HGO.o];refine hK.out _ _ (ab LI hb5) (fun LJ=>?_);clear hb5;clear hK K;replace LI:=LJ;clear LJ;try simp only[Act.put,Mt,Mu,Mv])
  |(refine TD 15 (fun K hK=>?_) ?_
    go_simp;refine(Uy _ ok t _ (by exact ATI.o.bel LI) (by exact AHM.o.bel LI)).mono ?_;rintro e w15q ⟨ka,kc,rfl,hls,hb5⟩;refine hK.out _ _ (ab LI hb5) (fun LJ=>?_);have LA:=aa hls;clear hb5 hls;clear hK K;replace LI:=LJ;clear LJ;try simp only[Act.put,Mt,Mu,Mv])
  |(refine TD 17 (fun K hK=>?_) ?_
    go_simp;refine(sp _ ok t _ (by exact ATI.o.bel LI) HN.o).mono ?_;rintro e w17q ⟨ra,rc,rfl,hls,hb5⟩;refine hK.out _ _ (ab LI hb5) (fun LJ=>?_);have LB:=aa hls;replace LA:=aa (LA.o.bel hb5);clear hb5 hls;clear hK K;replace LI:=LJ;clear LJ;try simp only[Act.put,Mt,Mu,Mv])
  |(refine TD 18 (fun K hK=>?_) ?_
    go_simp;refine Lk (re _ _ _ (au t) _ _ (by exact LA.o) (by exact LB.o)) fun w18q hb5=>?_;refine hK.out _ _ (ab LI hb5) (fun LJ=>?_);clear hb5;clear hK K;replace LI:=LJ;clear LJ;try simp only[Act.put,Mt,Mu,Mv])
  |(refine TD 22 (fun K hK=>?_) ?_
    go_simp;refine Lk (SL _ (by exact AHG.o.grown (r:=none) (aq LI) (by simp)) (by exact AHM.o.bel LI)) fun w22q hb5=>?_;refine hK.out _ _ (ab LI hb5) (fun LJ=>?_);clear hb5;clear hK K;replace LI:=LJ;clear LJ;try simp only[Act.put,Mt,Mu,Mv])
  |(first
     | refine OJ 4 ?_ [] (by exact LI) ?_ ?_
     | refine OJ 5 ?_ [] (by exact LI) ?_ ?_
     | refine OJ 6 ?_ [] (by exact LI) ?_ ?_
     | refine OJ 9 ?_ [] (by exact LI) ?_ ?_
     | refine OJ 11 ?_ [] (by exact LI) ?_ ?_
     | refine OJ 12 ?_ [] (by exact LI) ?_ ?_
     | refine OJ 13 ?_ [] (by exact LI) ?_ ?_
     | refine OJ 14 ?_ [] (by exact LI) ?_ ?_
     | refine OJ 16 ?_ [] (by exact LI) ?_ ?_
     | refine OJ 19 ?_ [] (by exact LI) ?_ ?_
     | refine OJ 20 ?_ [] (by exact LI) ?_ ?_
     | refine OJ 21 ?_ [] (by exact LI) ?_ ?_
     | refine OJ 23 ?_ [] (by exact LI) ?_ ?_
     | refine OJ 24 ?_ [] (by exact LI) ?_ ?_
    rotate_left
    ·intro wS LN;have u0_:=(af LN AVB.o).c;have v0_:=(af LN AWB.o).c;go_simp;all_goals with_reducible rfl
    simp only[av,List.set])
  | refine OL [1] ?_
  | refine OL [3] ?_
  | refine OL [7] ?_
  | refine OL [8] ?_
  | refine OL [10] ?_
  | refine OL [15] ?_
  | refine OL [17] ?_
  | refine OL [18] ?_
  | refine OL [22] ?_
  | fail)
 all_goals
  refine dn (by kernel_rfl) ?_;have B3:=aa (ab B2.o LI);have BVB:=aa (af LI AVB.o);have BWB:=aa (af LI AWB.o);have BTI:=aa (HT.o.bel B3.o);have BWI:=aa (HW.o.bel B3.o);have BLI:=aa (HL.o.bel B3.o);clear LI;have GT:=aa (rC w22q ok t _ BTI.o HN.o);have GW:=aa (fun(W:LC) (hW:La w22q W)=>rC W okw LQ _ (BWI.o.bel hW) HNW.o);have GOW:=aa (fun(W:LC) (hW:La w22q W)=>qa W okl l _ (BLI.o.bel hW) HPP.o);rw[HGO.o]at GOW;have u0_:=BVB.o.c;cases hgt:aE t with
  | false=>
   rw[hgt]at GT;clear hgt;go_wp2_with (go_at_call 20;refine GT.o.mono ?_;rintro e w4 ⟨rfl,hb⟩;have q0_:=(af hb BWB.o).c;have hb4:=hb;have B4:=aa (ab B3.o hb);clear hb GT)
   go_ret;exact⟨rfl,B4.o⟩
  | true=>
   rw[hgt]at GT;have HG1:=aa hgt;clear hgt;cases hgw:aE LQ with
   | false=>
    rw[hgw]at GW;clear hgw;go_wp2_with (first | (go_at_call 20;refine GT.o.mono ?_;rintro e w4 ⟨rfl,hb⟩;have q0_:=(af hb BWB.o).c;have hb4:=hb;have B4:=aa (ab B3.o hb);clear hb GT) | (go_at_call 20;refine Lk (GW.o _ hb4) fun w5 hb=>?_;have hb5:=ab hb4 hb;have B5:=aa (ab B4.o hb);clear hb GW))
    go_ret;exact⟨rfl,B5.o⟩
   | true=>
    rw[hgw]at GW;clear hgw;cases go with
    | false=>
     go_wp2_with (first | (go_at_call 20;refine GT.o.mono ?_;rintro e w4 ⟨rfl,hb⟩;have q0_:=(af hb BWB.o).c;have hb4:=hb;have B4:=aa (ab B3.o hb);clear hb GT) | (go_at_call 20;refine Lk (GW.o _ hb4) fun w5 hb=>?_;have hb5:=ab hb4 hb;have B5:=aa (ab B4.o hb);clear hb GW) | (go_at_call 16;refine Lk (GOW.o _ hb5) fun w6 hb=>?_;have hb6:=ab hb5 hb;have B6:=aa (ab B5.o hb);clear hb GOW))
     go_ret;exact⟨rfl,B6.o⟩
    | true=>
     have HG3:Ll (TC l=true):=aa HGO.o;go_upto_region 5 with (first | (go_at_call 20;refine GT.o.mono ?_;rintro e w4 ⟨rfl,hb⟩;have q0_:=(af hb BWB.o).c;have hb4:=hb;have B4:=aa (ab B3.o hb);clear hb GT) | (go_at_call 20;refine Lk (GW.o _ hb4) fun w5 hb=>?_;have hb5:=ab hb4 hb;have B5:=aa (ab B4.o hb);clear hb GW) | (go_at_call 16;refine Lk (GOW.o _ hb5) fun w6 hb=>?_;have hb6:=ab hb5 hb;have B6:=aa (ab B5.o hb);clear hb GOW))
     obtain⟨W3,hW3⟩:∃ W,W=w6:=⟨_,rfl⟩
     rw[<-hW3]at hb6 B6 ⊢;clear hW3;replace B3:=B6;replace BVB:=aa (af hb6 BVB.o);replace BWB:=aa (af hb6 BWB.o);replace BTI:=aa (BTI.o.bel hb6);replace BWI:=aa (BWI.o.bel hb6);replace BLI:=aa (BLI.o.bel hb6);have BHM:=aa (HM.o.bel B3.o);clear hb4 hb5 hb6 B4 B5 B6;refine aD (fun wS=>La W3 wS) [] (by kernel_rfl) (aC _ 1) (fun LI=>?_);refine WT.out ?_;iterate 8
      first
       | refine OJ 0 ?_ [] LI ?_ ?_
       | refine OJ 1 ?_ [] LI ?_ ?_
       | refine OJ 3 ?_ [] LI ?_ ?_
       | refine OJ 4 ?_ [] LI ?_ ?_
       | refine OJ 6 ?_ [] LI ?_ ?_
       | refine OJ 7 ?_ [] LI ?_ ?_
       | refine OJ 8 ?_ [] LI ?_ ?_
       | refine OJ 9 ?_ [] LI ?_ ?_
      rotate_left
      ·intro wS LN;have u0_:=(af LN BVB.o).c;have v0_:=(af LN BWB.o).c;go_simp;all_goals with_reducible rfl
      simp only[av,List.set]
     repeat' (first
      | exact nl
      |(refine TD 2 (fun K hK=>?_) ?_
        go_simp;refine(T3 _ okl l _ (by exact BLI.o.bel LI) LLN.o HPC.o).mono ?_;rintro e w2q ⟨ca,cc,rfl,hco,hb5⟩;refine hK.out _ _ (ab LI hb5) (fun LJ=>?_);have CO:=aa hco;try replace C1:=aa (C1.o.bel hb5)
        try replace C2:=aa (C2.o.bel hb5)
        clear hb5 hco;clear hK K;replace LI:=LJ;clear LJ;try simp only[Act.put,Mt,Mu,Mv])
      |(refine TD 5 (fun K hK=>?_) ?_
        go_simp;refine(Tb _ ok _ okw t LQ l who _ _ _ (by exact BTI.o.bel LI) (by exact CO.o) (by exact BWI.o.bel LI) (by exact BHM.o.bel LI) HA4.o HPP.o HG1.o HG3.o).mono ?_;rintro e w5q ⟨ra,rc,rfl,hc,hb5⟩;refine hK.out _ _ (ab LI hb5) (fun LJ=>?_);have C1:=aa hc;clear hb5 hc;clear hK K;replace LI:=LJ;clear LJ;try simp only[Act.put,Mt,Mu,Mv])
      |(refine TD 10 (fun K hK=>?_) ?_
        go_simp;refine(R8 _ ok okl okw t LQ l who _ _ _ (by exact BTI.o.bel LI) (by exact BLI.o.bel LI) (by exact BWI.o.bel LI) HNW.o HA4.o HPQ.o).mono ?_;rintro e w10q ⟨rb,rd,rfl,hc,hb5⟩;refine hK.out _ _ (ab LI hb5) (fun LJ=>?_);have C2:=aa hc;replace C1:=aa (C1.o.bel hb5);clear hb5 hc;clear hK K;replace LI:=LJ;clear LJ;try simp only[Act.put,Mt,Mu,Mv])
      |(refine TD 11 (fun K hK=>?_) ?_
        go_simp;refine Lk (u5 _ (eu (aV LQ t (au LQ)) who l) _ _ (by exact C1.o) (by exact C2.o) FLN.o) fun w11q hb5=>?_;refine hK.out _ _ (ab LI hb5) (fun LJ=>?_);clear hb5;clear hK K;replace LI:=LJ;clear LJ;try simp only[Act.put,Mt,Mu,Mv])
      |(refine TD 15 (fun K hK=>?_) ?_
        go_simp;refine(T3 _ okl l _ (by exact BLI.o.bel LI) LLN.o HPC.o).mono ?_;rintro e w15q ⟨ca,cc,rfl,hco,hb5⟩;refine hK.out _ _ (ab LI hb5) (fun LJ=>?_);have CO:=aa hco;try replace C1:=aa (C1.o.bel hb5)
        try replace C2:=aa (C2.o.bel hb5)
        clear hb5 hco;clear hK K;replace LI:=LJ;clear LJ;try simp only[Act.put,Mt,Mu,Mv])
      |(refine TD 16 (fun K hK=>?_) ?_
        go_simp;refine(Cs _ ok _ t l _ _ (by exact BTI.o.bel LI) (by exact CO.o) (by exact BHM.o.bel LI) HA4.o HPP.o HG1.o HG3.o).mono ?_;rintro e w16q ⟨ka,kc,rfl,hls,hb5⟩;refine hK.out _ _ (ab LI hb5) (fun LJ=>?_);have KA:=aa hls;clear hb5 hls;clear hK K;replace LI:=LJ;clear LJ;try simp only[Act.put,Mt,Mu,Mv])
      |(refine TD 19 (fun K hK=>?_) ?_
        go_simp;refine(VN _ ok okl t l _ _ (by exact BTI.o.bel LI) (by exact BLI.o.bel LI) HA1.o LLN.o HPP.o).mono ?_;rintro e w19q ⟨kb,kd,rfl,hls,hb5⟩;refine hK.out _ _ (ab LI hb5) (fun LJ=>?_);have KB:=aa hls;replace KA:=aa (KA.o.bel hb5);clear hb5 hls;clear hK K;replace LI:=LJ;clear LJ;try simp only[Act.put,Mt,Mu,Mv])
      |(refine TD 20 (fun K hK=>?_) ?_
        go_simp;refine Lk (u7 _ _ _ _ _ _ (by exact KA.o) (by exact KB.o)) fun w20q hb5=>?_;refine hK.out _ _ (ab LI hb5) (fun LJ=>?_);clear hb5;clear hK K;replace LI:=LJ;clear LJ;try simp only[Act.put,Mt,Mu,Mv])
      |(first
         | refine OJ 12 ?_ [] (by exact LI) ?_ ?_
         | refine OJ 13 ?_ [] (by exact LI) ?_ ?_
         | refine OJ 14 ?_ [] (by exact LI) ?_ ?_
         | refine OJ 17 ?_ [] (by exact LI) ?_ ?_
         | refine OJ 18 ?_ [] (by exact LI) ?_ ?_
         | refine OJ 21 ?_ [] (by exact LI) ?_ ?_
         | refine OJ 22 ?_ [] (by exact LI) ?_ ?_
        rotate_left
        ·intro wS LN;have u0_:=(af LN BVB.o).c;have v0_:=(af LN BWB.o).c;go_simp;all_goals with_reducible rfl
        simp only[av,List.set])
      | refine OL [2] ?_
      | refine OL [5] ?_
      | refine OL [10] ?_
      | refine OL [11] ?_
      | refine OL [15] ?_
      | refine OL [16] ?_
      | refine OL [19] ?_
      | refine OL [20] ?_
      | fail)
     all_goals
      refine dn (by kernel_rfl) ?_;have B9:=aa (ab B3.o LI);clear LI;go_wp2_with fail
      go_ret;exact⟨rfl,B9.o⟩
end
variable {wr w0:World}
variable {y:V}
variable {c d:Nat}
theorem UD{l:List aL}(who:Lz)(hr:bD (l.map aL.name))(hk:k < l.length):cq (l.take (k+1)) who=if l[k].name=who then l[k].paths else cq (l.take k) who:=by
 have e:l.take (k+1)=l.take k++[l[k]]:=by rw[List.take_succ_eq_append_getElem hk]
 unfold cq;rw[e,List.find?_append];by_cases h:l[k].name=who
 ·have hn:(l.take k).find? (fun o=>o.name == who)=none:=by
   rw[List.find?_eq_none];intro o ho he;obtain⟨i,hi,rfl⟩:=List.getElem_of_mem ho;rw[MC]at hi;rw[List.getElem_take]at he;have h1:l[i].name=who:=by simpa using he
   have h2:=List.pairwise_iff_getElem.1 hr i k (by rw[List.length_map];omega) (by rw[List.length_map];omega) (by omega);simp only[List.getElem_map]at h2;rw[h1,h,TE]at h2;cases h2
  rw[hn,if_pos h];simp[h]
 ·rw[if_neg h];have:[l[k]].find? (fun o=>o.name == who)=none:=by simp[h]
  rw[this];cases (l.take k).find? (fun o=>o.name == who) <;> rfl
theorem Ul{α:Type}(f:α->Bool)(L:List α){j:Nat}(hj:j < L.length):(L.take (j+1)).any f=((L.take j).any f || f L[j]):=by
 rw[List.take_succ_eq_append_getElem hj,List.any_append];simp
theorem VU(p:Lz)(L:List Lz):(L.any fun q=>p == q)=L.contains p:=by
 rw[List.contains_eq_any_beq]
theorem VS(os:List aL)(p:Lz):(os.any fun o=>o.paths.any fun q=>(p == q || aboveP q p) || aboveP p q)=concF os p:=by
 unfold concF;congr 1
 funext o
 congr 1
 funext q
 rw[BEq.comm]
def TM (who:Lz) (L:List Lz) (os:List aL) (j:Nat):List aL:=
 if L≠[]/\bB os who < j then os.take (bB os who)++⟨who,L⟩ :: (os.drop (bB os who)).take (j - bB os who) else os.take j
def TL (who:Lz) (L:List Lz) (os:List aL) (j:Nat):List Lz:=if L≠[]/\bB os who < j then [] else L
def U5 (who:Lz) (L:List Lz) (os:List aL) (j:Nat):Bool:=decide (L≠[])&&decide (bB os who=j)
theorem UV(who:Lz)(L:List Lz)(os:List aL):TM who L os 0=[]/\TL who L os 0=L:=by
 unfold TM TL;rw[if_neg (by rintro⟨-,h⟩;omega),if_neg (by rintro⟨-,h⟩;omega)];exact⟨rfl,rfl⟩
theorem VQ{who:Lz}{L:List Lz}{os:List aL}{j:Nat}(hr:bD (os.map aL.name))(hn:∀ o∈os,o.name≠who)(hj:j < os.length)(hc:U5 who L os j=true):TM who L os (j+1)=(TM who L os j++[⟨who,L⟩])++[os[j]]/\TL who L os j=L/\TL who L os (j+1)=[]/\L≠[]/\Op.bytesLess who os[j].name=true:=by
 unfold U5 at hc;rw[MJ,decide_eq_true_eq,decide_eq_true_eq]at hc;obtain⟨h1,h2⟩:=hc;obtain⟨-,h3⟩:=kl os who hr;have hd:os.drop j=os[j] :: os.drop (j+1):=ME hj;have hm:os[j]∈os.drop (bB os who):=by rw[h2,hd];exact List.mem_cons_self
 refine⟨?_,?_,?_,h1,ez _ _ (h3 _ hm) (hn _ (List.getElem_mem hj))⟩
 ·unfold TM;rw[if_pos ⟨h1,by omega⟩,if_neg (by rintro⟨-,h⟩;omega),h2,show j+1 - j=1 by omega,hd,List.take_succ_cons,List.take_zero,List.append_assoc];rfl
 ·unfold TL;rw[if_neg (by rintro⟨-,h⟩;omega)]
 ·unfold TL;rw[if_pos ⟨h1,by omega⟩]
theorem V5{who:Lz}{L:List Lz}{os:List aL}{j:Nat}(hr:bD (os.map aL.name))(hj:j < os.length)(hc:U5 who L os j=false):TM who L os (j+1)=TM who L os j++[os[j]]/\TL who L os (j+1)=TL who L os j/\(L=[]\/L≠[]/\TL who L os j=[]\/L≠[]/\TL who L os j≠[]/\Op.bytesLess os[j].name who=true):=by
 by_cases h1:L=[]
 ·subst h1;refine⟨?_,?_,.inl rfl⟩
  ·unfold TM;rw[if_neg (by rintro⟨h,-⟩;exact h rfl),if_neg (by rintro⟨h,-⟩;exact h rfl),List.take_succ_eq_append_getElem hj]
  ·unfold TL;rw[if_neg (by rintro⟨h,-⟩;exact h rfl),if_neg (by rintro⟨h,-⟩;exact h rfl)]
 ·have h2:bB os who≠j:=by
   intro e;unfold U5 at hc;rw[decide_eq_true h1,decide_eq_true e]at hc;cases hc
  by_cases h3:bB os who < j
  ·refine⟨?_,?_,.inr (.inl ⟨h1,?_⟩)⟩
   ·unfold TM;rw[if_pos ⟨h1,by omega⟩,if_pos ⟨h1,h3⟩,show j+1 - bB os who=(j - bB os who)+1 by omega,List.take_succ_eq_append_getElem (by rw[MB];omega),List.getElem_drop];simp only[List.append_assoc,List.cons_append];congr 4
    simp only[show bB os who+(j - bB os who)=j by omega]
   ·unfold TL;rw[if_pos ⟨h1,by omega⟩,if_pos ⟨h1,h3⟩]
   ·unfold TL;rw[if_pos ⟨h1,h3⟩]
  ·obtain⟨h4,-⟩:=kl os who hr;have hm:os[j]∈os.take (bB os who):=by
    rw[List.mem_take_iff_getElem];exact⟨j,by omega,rfl⟩
   refine⟨?_,?_,.inr (.inr ⟨h1,?_,h4 _ hm⟩)⟩
   ·unfold TM;rw[if_neg (by rintro⟨-,h⟩;omega),if_neg (by rintro⟨-,h⟩;omega),List.take_succ_eq_append_getElem hj]
   ·unfold TL;rw[if_neg (by rintro⟨-,h⟩;omega),if_neg (by rintro⟨-,h⟩;omega)]
   ·unfold TL;rw[if_neg (by rintro⟨-,h⟩;omega)];exact h1
theorem VZ(who:Lz)(L:List Lz)(os:List aL):TM who L os os.length++(if TL who L os os.length=[] then [] else [⟨who,TL who L os os.length⟩])=bP os ⟨who,L⟩:=by
 have hle:=Dy os who;unfold bP;by_cases h1:L=[]
 ·have e1:TM who L os os.length=os:=by
   unfold TM;rw[if_neg (fun h=>h.1 h1),List.take_length]
  have e2:TL who L os os.length=[]:=by
   unfold TL;rw[if_neg (fun h=>h.1 h1)];exact h1
  rw[e1,e2,if_pos rfl,if_pos h1,List.append_nil]
 ·by_cases h3:bB os who < os.length
  ·have e1:TM who L os os.length=os.take (bB os who)++⟨who,L⟩ :: os.drop (bB os who):=by
    have e9:(os.drop (bB os who)).take (os.length - bB os who)=os.drop (bB os who):=MD (by rw[MB];exact MG _);unfold TM;rw[if_pos ⟨h1,h3⟩,e9]
   have e2:TL who L os os.length=[]:=by
    unfold TL;rw[if_pos ⟨h1,h3⟩]
   rw[e1,e2,if_pos rfl,if_neg h1,List.append_nil]
  ·have e1:TM who L os os.length=os:=by
    unfold TM;rw[if_neg (fun h=>h3 h.2),List.take_length]
   have e2:TL who L os os.length=L:=by
    unfold TL;rw[if_neg (fun h=>h3 h.2)]
   have e:bB os who=os.length:=by omega
   rw[e1,e2,if_neg h1,if_neg h1,e,List.take_length,List.drop_length]
theorem Us{os:List aL}{o:aL}(h:∀ x∈os,x.name.length<=maxLen)(ho:o.name.length<=maxLen):∀ x∈bP os o,x.name.length<=maxLen:=by
 intro x hx;unfold bP at hx;split at hx
 ·exact h x hx
 ·rcases List.mem_append.1 hx with hx | hx
  ·exact h x (List.mem_of_mem_take hx)
  ·rcases List.mem_cons.1 hx with rfl | hx
   ·exact ho
   ·exact h x (List.mem_of_mem_drop hx)
theorem UG(who:Lz)(L:List Lz)(os:List aL)(j:Nat)(hj:j<=os.length):(TM who L os j).length<=j+1:=by
 have hle:=Dy os who;unfold TM;split
 ·simp only[Mx,MC,My,MB];omega
 ·rw[MC];omega
def Uo (wr:LC) (B:Nat) (ok:Nat->Prop) (os:List aL) (r:Value):Prop:=∃ pvs,os.length=pvs.length/\wr.ownsRow B 47 2 r os.length (ba os pvs) /\
 ∀ (i:Nat) (o:aL) (v:Value),os[i]?=some o->pvs[i]?=some v->(∃ a c,v=.slice a o.paths.length c)/\ao wr ok o.paths v
theorem Uo.bel{os:List aL}{r:Value}(h:Uo w B ok os r)(hb:La w w'):Uo w' B ok os r:=by
 obtain⟨pvs,h1,h2,h3⟩:=h;exact⟨pvs,h1,bM h2 fun g hg=>hb.block g (bY h2 hg).2,fun i o v q1 q2=>⟨(h3 i o v q1 q2).1,(h3 i o v q1 q2).2.bel hb⟩⟩
theorem Uo.form{os:List aL}{r:Value}(h:Uo w B ok os r):∃ a c,r=.slice a os.length c:=by
 obtain⟨pvs,h1,h2,-⟩:=h;exact TG h2
theorem Uo.push{os:List aL}{ra:Option Addr}{rc:Nat}{nm:Lz}{ps:List Lz}{pa:Option Addr}{pc:Nat}(h:Uo wr B ok os (.slice ra os.length rc))(hk:∀ k,ok k->k < B)(hB:B<=wr.heap.size)(hs:ao wr ok ps (.slice pa ps.length pc))(hn:os.length<=4000000):∃ g cap W',(Builtin.append_ #[26,26] 26 #[.slice ra os.length rc,.slice (some ⟨wr.heap.size,0,none⟩) 1 1]).run prog (wr.alloc (.cells #[.string ⟨nm.toArray⟩,.slice pa ps.length pc] 47))=.ok (.slice (some ⟨g,0,none⟩) (os.length+1) cap) W'/\Uo W' B ok (os++[⟨nm,ps⟩]) (.slice (some ⟨g,0,none⟩) (os.length+1) cap)/\Below B wr W'/\∀ k,k < wr.heap.size->some k≠(Value.slice ra os.length rc).ownBlock->W'.heap[k]?=wr.heap[k]?:=by
 obtain⟨pvs,h1,h2,h3⟩:=h;have ha:=ae wr (.cells #[.string ⟨nm.toArray⟩,.slice pa ps.length pc] 47);obtain⟨g,cap,W',hR,ho,hg,-⟩:=mW (W:=wr.alloc (.cells #[.string ⟨nm.toArray⟩,.slice pa ps.length pc] 47)) (B:=B) (v:=.slice ra os.length rc) (n:=os.length) (cs:=ba os pvs) (nb:=wr.heap.size) (k:=⟨nm.toArray⟩) (pa:=pa) (pn:=ps.length) (pc:=pc) (bM h2 fun g hg=>ha.block g (bY h2 hg).2) (MN _ _) hn (MH hB ha.size) 26;have hb:Below B wr W':=((MK B wr).alloc hB _).grown hg (MH hB ha.size) fun k hk=>(bY h2 hk).1;have key:∀ (a:Addr) (x:Value),ok a.block->wr.cell? a=some x->ok a.block/\W'.cell? a=some x:=fun a x hk1 hx=>⟨hk1,(World.cell?_of_block (hb.block _ (hk _ hk1))).trans hx⟩
 refine⟨g,cap,W',hR,⟨pvs++[.slice pa ps.length pc],by simp[h1],?_,fun i o' v q1 q2=>?_⟩,hb,fun k hk hk2=>(hg.block k (MI hk ha.size) hk2).trans (ha.block k hk)⟩
 ·rw[m6 os pvs ⟨nm,ps⟩ _ h1,Mx];exact ho
 ·by_cases hi:i < os.length
  ·rw[List.getElem?_append_left hi]at q1;rw[List.getElem?_append_left (by rw[<-h1];exact hi)]at q2;exact⟨(h3 i o' v q1 q2).1,(h3 i o' v q1 q2).2.imp key⟩
  ·rw[List.getElem?_append_right (by omega)]at q1;rw[List.getElem?_append_right (by rw[<-h1];omega),<-h1]at q2;cases h8:i - os.length with
   | succ m=>rw[h8]at q1;simp at q1
   | zero=>
    rw[h8]at q1 q2;simp at q1 q2;subst q1 q2;exact⟨⟨_,_,rfl⟩,hs.imp key⟩
theorem Uo.owns{os:List aL}{r:Value}(h:Uo w B ok os r)(hn:∀ o∈os,o.name.length<=maxLen):aB w (fun k=>ok k\/B<=k) os r:=by
 obtain⟨pvs,h1,h2,h3⟩:=h;rcases h2.2 with⟨rfl,h0⟩ | ⟨g,cap,cur,rfl,g1,g2,g3,g4,g5,g6⟩
 ·have e:os=[]:=List.length_eq_zero_iff.1 h0;subst e;exact aB.nil _ _
 ·refine⟨by omega,?_⟩;by_cases h0:os=[]
  ·subst h0;exact .inr ⟨g,0,cap,rfl,g3,g4,fun i x hx=>by simp at hx⟩
  ·refine .inr ⟨g,0,cap,rfl,g3,g4,fun i x hx=>?_⟩;obtain⟨hi,rfl⟩:=Mz.1 hx;obtain⟨v,hv⟩:∃ v,pvs[i]?=some v:=⟨_,Mw (by omega)⟩
   obtain⟨⟨a,c,rfl⟩,hs⟩:=h3 i _ v hx hv;obtain⟨e1,e2⟩:=kN os pvs i _ _ hx hv;have hpos:0 < os.length:=List.length_pos_iff.2 h0;refine⟨a,_,c,hn _ (List.getElem_mem hi),.inr g1,?_,?_,hs.imp fun a x q1 q2=>⟨.inl q1,q2⟩⟩
   ·rw[Nat.zero_add];exact(dJ h2 hpos e1).1
   ·rw[Nat.zero_add];exact(dJ h2 hpos e2).1
structure T8 (w0:LC) (who:Lz) (ok:Nat->Prop) (os:List aL) (G9:List Lz) (ov:Value) (wr:LC):Prop where
 bel:La w0 wr
 bx:∃ sa sc,wr.heap[w0.heap.size]?=some (.cells #[.string ⟨who.toArray⟩,.slice sa G9.length sc] 47)/\ao wr ok G9 (.slice sa G9.length sc)
 row:Uo wr (w0.heap.size+1) ok os ov
theorem T8.lt{who:Lz}{os:List aL}{G9:List Lz}{ov:Value}(h:T8 w0 who ok os G9 ov wr):w0.heap.size < wr.heap.size:=by
 obtain⟨sa,sc,h1,-⟩:=h.bx;exact(MF.1 h1).1
theorem T8.grow{who:Lz}{os:List aL}{G9:List Lz}{ov:Value}(h:T8 w0 who ok os G9 ov wr)(hb:La wr w'):T8 w0 who ok os G9 ov w':=by
 obtain⟨sa,sc,h1,h2⟩:=h.bx;exact⟨ab h.bel hb,⟨sa,sc,bR hb h1,h2.bel hb⟩,h.row.bel hb⟩
theorem T8.push{who:Lz}{os:List aL}{G9:List Lz}{ra:Option Addr}{rc:Nat}{nm:Lz}{ps:List Lz}{pa:Option Addr}{pc:Nat}(h:T8 w0 who ok os G9 (.slice ra os.length rc) wr)(hk:∀ k,ok k->k < w0.heap.size)(hs:ao wr ok ps (.slice pa ps.length pc))(hn:os.length<=4000000):∃ g cap W',(Builtin.append_ #[26,26] 26 #[.slice ra os.length rc,.slice (some ⟨wr.heap.size,0,none⟩) 1 1]).run prog (wr.alloc (.cells #[.string ⟨nm.toArray⟩,.slice pa ps.length pc] 47))=.ok (.slice (some ⟨g,0,none⟩) (os.length+1) cap) W'/\T8 w0 who ok (os++[⟨nm,ps⟩]) G9 (.slice (some ⟨g,0,none⟩) (os.length+1) cap) W'/\∀ k,k < wr.heap.size->some k≠(Value.slice ra os.length rc).ownBlock->W'.heap[k]?=wr.heap[k]?:=by
 obtain⟨g,cap,W',h1,h2,h3,h6⟩:=h.row.push (nm:=nm) (fun k h9=>Nat.lt_succ_of_lt (hk k h9)) h.lt hs hn;obtain⟨sa,sc,h4,h5⟩:=h.bx;exact⟨g,cap,W',h1,⟨h.bel.trans (h3.mono (Nat.le_succ _)),⟨sa,sc,(h3.block _ (Nat.lt_succ_self _)).trans h4,h5.imp fun a x q1 q2=>⟨q1,(World.cell?_of_block (h3.block _ (Nat.lt_succ_of_lt (hk _ q1)))).trans q2⟩⟩,h2⟩,h6⟩
theorem T8.own{who:Lz}{os:List aL}{G9:List Lz}{ov:Value}(h:T8 w0 who ok os G9 ov wr):∀ g,ov.ownBlock=some g->w0.heap.size < g/\g < wr.heap.size:=by
 obtain⟨pvs,-,h2,-⟩:=h.row;exact fun g hg=>⟨(bY h2 hg).1,(bY h2 hg).2⟩
theorem T8.gone{who:Lz}{os:List aL}{G9:List Lz}{ov:Value}(h:T8 w0 who ok os G9 ov wr)(hk:∀ k,ok k->k < w0.heap.size):T8 w0 who ok os [] ov (wr.setCell ⟨w0.heap.size,1,none⟩ (.slice none 0 0)):=by
 obtain⟨sa,sc,h1,h2⟩:=h.bx;have hs:∀ k,k≠w0.heap.size->(wr.setCell ⟨w0.heap.size,1,none⟩ (.slice none 0 0)).heap[k]?=wr.heap[k]?:=fun k hk=>Below.heap_setCell _ _ _ k hk;refine⟨h.bel.setCell (MG _) _,⟨none,0,ak h1 1 _,⟨by simp,.inl ⟨rfl,_,rfl⟩⟩⟩,?_⟩;obtain⟨pvs,g1,g2,g3⟩:=h.row;exact⟨pvs,g1,bM g2 fun g hg=>hs g (by have:=(bY g2 hg).1;omega),fun i o v q1 q2=>⟨(g3 i o v q1 q2).1,(g3 i o v q1 q2).2.imp fun a x e1 e2=>⟨e1,(World.cell?_of_block (hs _ (by have:=hk _ e1;omega))).trans e2⟩⟩⟩
def Vp (w0:LC) (ok:Nat->Prop) (g:Nat) (y:V) (a b:Option Addr) (c d:Nat) (wr:LC):Prop:=ag wr g (.int .i64 y.kind) (.int .i64 y.n) (.string ⟨y.s.toArray⟩) (.slice a y.keys.length c) (.slice b y.l.length d)/\La w0 wr/\In wr (fun k=>ok k/\k≠g) y (.agg #[.int .i64 y.kind,.int .i64 y.n,.string ⟨y.s.toArray⟩,.slice a y.keys.length c,.slice b y.l.length d])
theorem Vp.bel{a b:Option Addr}(h:Vp w0 ok g y a b c d wr)(hb:La wr w'):Vp w0 ok g y a b c d w':=⟨af hb h.1,ab h.2.1 hb,h.2.2.bel hb⟩
theorem Vp.put{z:V}{a b a4 b4:Option Addr}{c4 d4:Nat}(h:Vp w0 ok g y a b c d wr)(hg:w0.heap.size<=g)(hb:La wr W)(hi:In W (bQ (fun k=>ok k/\k≠g) B) z (.agg #[.int .i64 z.kind,.int .i64 z.n,.string ⟨z.s.toArray⟩,.slice a4 z.keys.length c4,.slice b4 z.l.length d4]))(hB:wr.heap.size<=B)(hok:∀ k,w0.heap.size<=k->ok k):Vp w0 ok g z a4 b4 c4 d4 (ar W g (.int .i64 z.kind) (.int .i64 z.n) (.string ⟨z.s.toArray⟩) (.slice a4 z.keys.length c4) (.slice b4 z.l.length d4)):=by
 have hl:=(MF.1 h.1).1;have hi2:In W (fun k=>ok k/\k≠g) z (.agg #[.int .i64 z.kind,.int .i64 z.n,.string ⟨z.s.toArray⟩,.slice a4 z.keys.length c4,.slice b4 z.l.length d4]):=hi.weak fun k hk=>by
  rcases hk with hk | hk
  ·exact hk
  ·exact⟨hok k (by have:=h.2.1.size;omega),by omega⟩
 exact⟨(af hb h.1).set _ _ _ _ _,aP (ab h.2.1 hb) hg _ _ _ _ _,hi2.grown (aI W g _ _ _ _ _) fun k hk=>hk.2⟩
theorem OP{l:List aL}{o:aL}(h:o∈l):o.paths.length<=(bA l).length:=by
 obtain⟨a,b,rfl⟩:=List.append_of_mem h;unfold bA;simp only[List.flatMap_append,List.flatMap_cons,Mx,List.length_map];omega
theorem qc(w:World)(ok0:Nat->Prop)(d0:Nat)(t0:V)(v0:Value)(h0:bu w ok0 d0 t0 v0)(b0:FV t0<=2000000)(ok1:Nat->Prop)(l1:List aL)(v1:Value)(h1:aB w ok1 l1 v1)(hN:(bA l1).length<=2000000)(hP:∀ o∈l1,∀ x∈o.paths,x.length<=140737488351232)(hL:l1.length<=2000000)(who:List UInt8)(hwho:who.length<=140737488351232)(ok3:Nat->Prop)(d3:Nat)(t3:V)(v3:Value)(h3:bu w ok3 d3 t3 v3)(b3:FV t3<=2000000)(hG:cn w)(hM:bj w):Calls Tryz.prog 4 #[v0,v1,aR who,v3] w fun e w'=>e=.returned (.bool true)/\La w w':=
 tells_at w (fun _=>True) (fun _=>True) (fun _=>True) t0 t3 l1 who v0 v1 v3 (h0.is.weak fun _ _=>trivial) (h1.weak fun _ _=>trivial) (h3.is.weak fun _ _=>trivial) hG hM (by have:=Uk t0;omega) (by have:=Uk t3;omega) hL hN (fun o ho=>⟨by have:=OP ho;omega,hP o ho⟩) (by omega)
end Go.Proofs.YtbdlfclnkpofaaaGreatDoor
