import Derived.Test.YtgolnaencepejaaGreatDoorG7
set_option maxRecDepth 100000
set_option maxHeartbeats 40000000
set_option linter.unusedSimpArgs false
set_option linter.unusedVariables false
namespace Go.Proofs.YtgolnaencepejaaGreatDoor
open Go.RowKit
open _root_.Go.Proofs.Tryz
variable {w w':World}
variable {ok:Nat->Prop}
variable {v:Value}
variable {B k:Nat}
def gT (w w':LC) (ok:Nat->Prop) (A:V × List aL × List (Lz × Lz) × Int) (e:Ending):Prop:=∃ r ro rc,e=.returned (.tuple #[r,ro,rc,.int .i64 A.2.2.2])/\In w' (bQ ok w.heap.size) A.1 r/\aB w' (bQ ok w.heap.size) A.2.1 ro/\w'.ownsRow w.heap.size 161 2 rc A.2.2.1.length (jV A.2.2.1)/\La w w'
theorem aB.belB{xs}(h:aB w ok xs v)(hok:∀ k,ok k->k < B)(hb:Below B w w'):aB w' ok xs v:=
 h.imp fun a x h1 h2=>⟨h1,(World.cell?_of_block (hb.block _ (hok _ h1))).trans h2⟩
theorem H6(w:LC)(o1 o2 o3 o4:Obj){o:Obj}(h:(((w.alloc o1).alloc o2).alloc o3).heap[k]?=some o):((((w.alloc o1).alloc o2).alloc o3).alloc o4).heap[k]?=some o:=bR (ae _ _) h
theorem JD(w:LC)(o1 o2 o3 o4:Obj):((((w.alloc o1).alloc o2).alloc o3).alloc o4).heap[w.heap.size+3]?=some o4:=by
 have:=MN (((w.alloc o1).alloc o2).alloc o3) o4;simpa using this
theorem kO(w ok t LQ l who force vt vl vw)(ht:In w ok t vt)(hl:aB w ok l vl)(hw:In w ok LQ vw)(hM:bj w)(hN:(bA l).length<=4000000)(hP:∀ o∈l,∀ x∈o.paths,x.length<=140737488351232)(hwho:who.length<=9223372036854775807)(hbad:¬((decide (t.kind=5)&&aE t)=true/\(decide (LQ.kind=5)&&aE LQ)=true/\bp l=true/\bT who=true)):Calls prog 75 #[vt,vl,.string ⟨who.toArray⟩,vw,.bool force] w fun e w'=>gT w w' ok (eC t l who LQ force) e:=by
 have R:Ll (eC t l who LQ force=(t,l,[],1)):=aa (by unfold eC;rw[if_neg (by intro h;obtain⟨⟨h1,h2⟩,⟨h3,h4⟩,h5,h6⟩:=h;exact hbad ⟨by simp[h1,h2],by simp[h3,h4],h5,h6⟩)]);have HT:=aa ht.low;have HL:=aa hl.low;have HW:=aa hw.low;have HM:=aa hM;have HN:=aa hN;have HP:=aa hP;obtain⟨b1,b2,d1,d2,rfl⟩:=ht.form;obtain⟨a1,a2,c1,c2,rfl⟩:=hw.form;obtain⟨la,lc,rfl⟩:=hl.form;have ll:=hl.1;unfold maxLen at ll;clear ht hl hw hM hN hP;obtain⟨W3,hW3⟩:∃ W,W=(((w.alloc (.cells (KV t b1 d1 b2 d2) 39)).alloc (.cells #[.string ⟨who.toArray⟩] 9)).alloc (.cells (KV LQ a1 c1 a2 c2) 39)).alloc (.cells Lb 39):=⟨_,rfl⟩
 have BW:Ll (La w W3):=aa (by rw[hW3];exact ab (ab (ab (ae _ _) (ae _ _)) (ae _ _)) (ae _ _));have X1:Ll (KY W3 w.heap.size t b1 d1 b2 d2):=aa (by rw[hW3];exact H6 _ _ _ _ _ (lI _ _ _ _));have X2:Ll (W3.heap[w.heap.size+1]?=some (.cells #[.string ⟨who.toArray⟩] 9)):=aa (by rw[hW3];exact H6 _ _ _ _ _ (mE _ _ _ _));have X3:Ll (KY W3 (w.heap.size+2) LQ a1 c1 a2 c2):=aa (by rw[hW3];exact H6 _ _ _ _ _ (jI _ _ _ _));have X4:Ll (Lc W3 (w.heap.size+3)):=aa (by rw[hW3];exact JD _ _ _ _ _);have HW3:=aa hW3;clear hW3;have G1:Ll (∀ W,La w W->Calls prog 91 #[.agg (KV t b1 d1 b2 d2)] W fun e w'=>e=.returned (.bool (decide (t.kind=5)&&aE t))/\La W w'):=fun W hW=>dq W _ t _ (HT.o.bel hW);have G2:Ll (∀ W,La w W->Calls prog 91 #[.agg (KV LQ a1 c1 a2 c2)] W fun e w'=>e=.returned (.bool (decide (LQ.kind=5)&&aE LQ))/\La W w'):=fun W hW=>dq W _ LQ _ (HW.o.bel hW);have G3:Ll (∀ W,La w W->Calls prog 92 #[.slice la l.length lc] W fun e w'=>e=.returned (.bool (bp l))/\La W w'):=fun W hW=>eZ W _ l _ (HL.o.bel hW) HP.o (HM.o.bel hW);have G4:Ll (∀ W,La w W->Calls prog 14 #[.string ⟨who.toArray⟩] W fun e w'=>e=.returned (.bool (bT who))/\La W w'):=fun W _=>(lR W who hwho).mono fun e w' h=>⟨h.1,h.2 ▸ MK _ _⟩;obtain⟨g1,hg1⟩:∃ b,(decide (t.kind=5)&&aE t)=b:=⟨_,rfl⟩
 rw[hg1]at G1 hbad;obtain⟨g2,hg2⟩:∃ b,(decide (LQ.kind=5)&&aE LQ)=b:=⟨_,rfl⟩
 rw[hg2]at G2 hbad;obtain⟨g3,hg3⟩:∃ b,bp l=b:=⟨_,rfl⟩
 rw[hg3]at G3 hbad;obtain⟨g4,hg4⟩:∃ b,bT who=b:=⟨_,rfl⟩
 rw[hg4]at G4 hbad;have gg:g1=false\/g1=true/\g2=false\/g1=true/\g2=true/\g3=false\/g1=true/\g2=true/\g3=true/\g4=false:=by
  cases g1 <;> cases g2 <;> cases g3 <;> cases g4 <;> simp_all
 clear hbad hg1 hg2 hg3 hg4;have o0_:=X1.o.c;rcases gg with rfl | ⟨rfl,rfl⟩ | ⟨rfl,rfl,rfl⟩ | ⟨rfl,rfl,rfl,rfl⟩
 all_goals
  go_enter func75,ntmps75;go_upto_region 1 with fail
  rw[<-HW3.o];go_upto_region 2 with (first
   |(go_at_call 14;refine Lk (G4.o _ B3.o) fun w4 hb=>?_;have B4:=aa (ab B3.o hb);have Y4:=aa (ab Y3.o hb);clear hb;have BQ:=B4;have YQ:=Y4;skip)
   |(go_at_call 92;refine Lk (G3.o _ B2.o) fun w3 hb=>?_;have B3:=aa (ab B2.o hb);have Y3:=aa (ab Y2.o hb);clear hb;have BQ:=B3;have YQ:=Y3;have u0:w3.cell? ⟨w.heap.size+1,0,none⟩=some (.string ⟨who.toArray⟩):=(by have h9:=bR Y3.o X2.o;simp[World.cell?,h9]);skip)
   |(go_at_call 91;refine Lk (G2.o _ B1.o) fun w2 hb=>?_;have B2:=aa (ab B1.o hb);have Y2:=aa (ab Y1.o hb);clear hb;have BQ:=B2;have YQ:=Y2;skip)
   |(go_at_call 91;refine Lk (G1.o _ BW.o) fun w1 hb=>?_;have B1:=aa (ab BW.o hb);have Y1:=aa hb;clear hb;have BQ:=B1;have YQ:=Y1;have p0_:=(af Y1.o X3.o).c;skip))
  have v0_:=(af YQ.o X1.o).c;have n0_:=(af YQ.o X4.o).c;have ZB:=aa ((af YQ.o X4.o).set (.int .i64 t.kind) (.int .i64 t.n) (.string ⟨t.s.toArray⟩) (.slice b1 t.keys.length d1) (.slice b2 t.l.length d2));have BF:=aa (aP (g:=w.heap.size+3) BQ.o (by omega) (.int .i64 t.kind) (.int .i64 t.n) (.string ⟨t.s.toArray⟩) (.slice b1 t.keys.length d1) (.slice b2 t.l.length d2));go_wp2
  have z0_:=ZB.o.c;refine MM (v:=.tuple #[.agg (KV t b1 d1 b2 d2),.slice la l.length lc,.slice none 0 0,.int .i64 1]) ?_ rfl ?_
  ·simp only[ar]at z0_;simp[results,results75,go_sem,z0_]
  ·rw[gT,R.o];exact⟨_,_,_,rfl,(HT.o.belB (fun k h=>h.2) BF.o).weak fun k h=>.inl h.1,(HL.o.belB (fun k h=>h.2) BF.o).weak fun k h=>.inl h.1,World.ownsRow_nil _ _ _ _,BF.o⟩
theorem xC(w:LC)(ok t LQ l who force vt vl vw)(ht:In w ok t vt)(hl:aB w ok l vl)(hw:In w ok LQ vw)(hM:bj w)(hN:(bA l).length<=4000000)(hP:∀ o∈l,∀ x∈o.paths,x.length<=140737488351232)(hwho:who.length<=9223372036854775807)(hg1:(decide (t.kind=5)&&aE t)=true)(hg2:(decide (LQ.kind=5)&&aE LQ)=true)(hg3:bp l=true)(hg4:bT who=true)(hf:eu (aV LQ t (au LQ)) who l≠[])(hfo:force=false):Calls prog 75 #[vt,vl,.string ⟨who.toArray⟩,vw,.bool force] w fun e w'=>gT w w' ok (eC t l who LQ force) e:=by
 have CC:Ll (ld t l who LQ=eu (aV LQ t (au LQ)) who l):=aa (by rw[ld,if_pos ⟨by simpa using (Bool.and_eq_true_iff.1 hg1).2,hg3⟩]);obtain⟨nf,hnf⟩:∃ nf,(eu (aV LQ t (au LQ)) who l).length=nf:=⟨_,rfl⟩
 have NF:=aa hnf;have R:Ll (eC t l who LQ force=(t,l,eu (aV LQ t (au LQ)) who l,5)):=aa (by unfold eC;rw[if_pos ⟨by simpa using hg1,by simpa using hg2,hg3,hg4⟩,if_pos ⟨hf,hfo⟩]);have q0:(0:Int) < (nf:Int):=by
  have:nf≠0:=fun e=>hf (List.length_eq_zero_iff.1 (hnf.trans e));omega
 subst hfo;clear hf hnf;have HT:=aa ht.low;have HL:=aa hl.low;have HW:=aa hw.low;have HM:=aa hM;have HN:=aa hN;have HP:=aa hP;obtain⟨b1,b2,d1,d2,rfl⟩:=ht.form;obtain⟨a1,a2,c1,c2,rfl⟩:=hw.form;obtain⟨la,lc,rfl⟩:=hl.form;have ll:=hl.1;unfold maxLen at ll;clear ht hl hw hM hN hP;obtain⟨W3,hW3⟩:∃ W,W=(((w.alloc (.cells (KV t b1 d1 b2 d2) 39)).alloc (.cells #[.string ⟨who.toArray⟩] 9)).alloc (.cells (KV LQ a1 c1 a2 c2) 39)).alloc (.cells Lb 39):=⟨_,rfl⟩
 have BW:Ll (La w W3):=aa (by rw[hW3];exact ab (ab (ab (ae _ _) (ae _ _)) (ae _ _)) (ae _ _));have X1:Ll (KY W3 w.heap.size t b1 d1 b2 d2):=aa (by rw[hW3];exact H6 _ _ _ _ _ (lI _ _ _ _));have X2:Ll (W3.heap[w.heap.size+1]?=some (.cells #[.string ⟨who.toArray⟩] 9)):=aa (by rw[hW3];exact H6 _ _ _ _ _ (mE _ _ _ _));have X3:Ll (KY W3 (w.heap.size+2) LQ a1 c1 a2 c2):=aa (by rw[hW3];exact H6 _ _ _ _ _ (jI _ _ _ _));have X4:Ll (Lc W3 (w.heap.size+3)):=aa (by rw[hW3];exact JD _ _ _ _ _);have HW3:=aa hW3;clear hW3;have G1:Ll (∀ W,La w W->Calls prog 91 #[.agg (KV t b1 d1 b2 d2)] W fun e w'=>e=.returned (.bool (decide (t.kind=5)&&aE t))/\La W w'):=fun W hW=>dq W _ t _ (HT.o.bel hW);have G2:Ll (∀ W,La w W->Calls prog 91 #[.agg (KV LQ a1 c1 a2 c2)] W fun e w'=>e=.returned (.bool (decide (LQ.kind=5)&&aE LQ))/\La W w'):=fun W hW=>dq W _ LQ _ (HW.o.bel hW);have G3:Ll (∀ W,La w W->Calls prog 92 #[.slice la l.length lc] W fun e w'=>e=.returned (.bool (bp l))/\La W w'):=fun W hW=>eZ W _ l _ (HL.o.bel hW) HP.o (HM.o.bel hW);have G4:Ll (∀ W,La w W->Calls prog 14 #[.string ⟨who.toArray⟩] W fun e w'=>e=.returned (.bool (bT who))/\La W w'):=fun W _=>(lR W who hwho).mono fun e w' h=>⟨h.1,h.2 ▸ MK _ _⟩;have SW:Ll (w.heap.size+4<=W3.heap.size):=aa (by have:=(MF.1 X4.o).1;omega);rw[hg1]at G1;rw[hg2]at G2;rw[hg3]at G3;rw[hg4]at G4;clear hg1 hg2 hg3 hg4;have o0_:=X1.o.c;go_enter func75,ntmps75;go_upto_region 1 with fail
 rw[<-HW3.o];go_upto_region 3 with (first
  |(go_at_call 14;refine Lk (G4.o _ B3.o) fun w4 hb=>?_;have B4:=aa (ab B3.o hb);have Y4:=aa (ab Y3.o hb);clear hb;skip)
  |(go_at_call 92;refine Lk (G3.o _ B2.o) fun w3 hb=>?_;have B3:=aa (ab B2.o hb);have Y3:=aa (ab Y2.o hb);clear hb;have u0:w3.cell? ⟨w.heap.size+1,0,none⟩=some (.string ⟨who.toArray⟩):=(by have h9:=bR Y3.o X2.o;simp[World.cell?,h9]);skip)
  |(go_at_call 91;refine Lk (G2.o _ B1.o) fun w2 hb=>?_;have B2:=aa (ab B1.o hb);have Y2:=aa (ab Y1.o hb);clear hb;skip)
  |(go_at_call 91;refine Lk (G1.o _ BW.o) fun w1 hb=>?_;have B1:=aa (ab BW.o hb);have Y1:=aa hb;clear hb;have p0_:=(af Y1.o X3.o).c;skip))
 clear u0;have o0_:=(af Y4.o X1.o).c;have p0_:=(af Y4.o X3.o).c;have u0:w4.cell? ⟨w.heap.size+1,0,none⟩=some (.string ⟨who.toArray⟩):=(by have h9:=bR Y4.o X2.o;simp[World.cell?,h9])
 have CF:Ll (Calls prog 93 #[.agg (KV t b1 d1 b2 d2),.slice la l.length lc,.string ⟨who.toArray⟩,.agg (KV LQ a1 c1 a2 c2)] w4 fun e w'=>∃ ra rc,e=.returned (.slice ra nf rc)/\w'.ownsRow w4.heap.size 161 2 (.slice ra nf rc) (eu (aV LQ t (au LQ)) who l).length (jV (eu (aV LQ t (au LQ)) who l))/\La w4 w'):=aa (by
  refine(lJ w4 _ _ _ t LQ l who _ _ _ (HT.o.bel B4.o) (HL.o.bel B4.o) (HW.o.bel B4.o) (HM.o.bel B4.o) HN.o HP.o).mono ?_;rintro e w' ⟨r,rfl,h1,h2⟩;rw[CC.o]at h1;rcases h1.2 with⟨rfl,h9⟩ | ⟨g,cap,cur,rfl,h9⟩
  ·exact⟨none,0,by rw[<-NF.o,h9],by rw[<-NF.o];rw[h9]at h1 ⊢;exact h1,h2⟩
  ·exact⟨_,_,by rw[NF.o],by rw[<-NF.o];exact h1,h2⟩)
 go_upto_region 5 with (go_at_call 93;refine CF.o.mono ?_;rintro e w5 ⟨ra,rc,rfl,hrow,hb⟩;have B5:=aa (ab B4.o hb);have Y5:=aa (ab Y4.o hb);have ROW:=aa hrow;have S4:=aa (MH (show w.heap.size+4<=W3.heap.size from SW.o) Y4.o.size);clear hb hrow)
 clear u0;have v0_:=(af Y5.o X1.o).c;have n0_:=(af Y5.o X4.o).c;have ZB:=aa ((af Y5.o X4.o).set (.int .i64 t.kind) (.int .i64 t.n) (.string ⟨t.s.toArray⟩) (.slice b1 t.keys.length d1) (.slice b2 t.l.length d2));have BF:=aa (aP (g:=w.heap.size+3) B5.o (by omega) (.int .i64 t.kind) (.int .i64 t.n) (.string ⟨t.s.toArray⟩) (.slice b1 t.keys.length d1) (.slice b2 t.l.length d2));go_wp2
 have z0_:=ZB.o.c;refine MM (v:=.tuple #[.agg (KV t b1 d1 b2 d2),.slice la l.length lc,.slice ra nf rc,.int .i64 5]) ?_ rfl ?_
 ·simp only[ar]at z0_;simp[results,results75,go_sem,z0_]
 ·rw[gT,R.o];exact⟨_,_,_,rfl,(HT.o.belB (fun k h=>h.2) BF.o).weak fun k h=>.inl h.1,(HL.o.belB (fun k h=>h.2) BF.o).weak fun k h=>.inl h.1,cV (bM ROW.o fun g hg=>(aI _ _ _ _ _ _ _).block g (bY ROW.o hg).2 (by have h8:=(bY ROW.o hg).1;have h9:=S4.o;intro e;cases e;omega)) (by have h9:=S4.o;omega),BF.o⟩
end Go.Proofs.YtgolnaencepejaaGreatDoor
