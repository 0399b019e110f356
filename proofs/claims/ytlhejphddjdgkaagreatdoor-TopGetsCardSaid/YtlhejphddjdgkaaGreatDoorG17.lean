import Derived.Test.YtlhejphddjdgkaaGreatDoorG15
set_option maxRecDepth 100000
set_option maxHeartbeats 40000000
set_option linter.unusedSimpArgs false
set_option linter.unusedVariables false
namespace Go.Proofs.YtlhejphddjdgkaaGreatDoor
open Go.RowKit
open _root_.Go.Proofs.Tryz
theorem xC(w:LC)(ok t want l who force vt vl vw)(ht:In w ok t vt)(hl:aB w ok l vl)(hw:In w ok want vw)(hM:bj w)(hN:(bA l).length<=4000000)(hP:∀ o∈l,∀ x∈o.paths,x.length<=140737488351232)(hwho:who.length<=9223372036854775807)(hg1:(decide (t.kind=5)&&aE t)=true)(hg2:(decide (want.kind=5)&&aE want)=true)(hg3:bp l=true)(hg4:bT who=true)(hf:eu (aV want t (au want)) who l≠[])(hfo:force=false):Calls prog 84 #[vt,vl,.string ⟨who.toArray⟩,vw,.bool force] w fun e w'=>gT w w' ok (eC t l who want force) e:=by
 have CC:Ll (ld t l who want=eu (aV want t (au want)) who l):=aa (by rw[ld,if_pos ⟨by simpa using (Bool.and_eq_true_iff.1 hg1).2,hg3⟩]);obtain⟨nf,hnf⟩:∃ nf,(eu (aV want t (au want)) who l).length=nf:=⟨_,rfl⟩
 have NF:=aa hnf;have R:Ll (eC t l who want force=(t,l,eu (aV want t (au want)) who l,5)):=aa (by unfold eC;rw[if_pos ⟨by simpa using hg1,by simpa using hg2,hg3,hg4⟩,if_pos ⟨hf,hfo⟩]);have q0:(0:Int) < (nf:Int):=by
  have:nf≠0:=fun e=>hf (List.length_eq_zero_iff.1 (hnf.trans e));omega
 subst hfo;clear hf hnf;have HT:=aa ht.low;have HL:=aa hl.low;have HW:=aa hw.low;have HM:=aa hM;have HN:=aa hN;have HP:=aa hP;obtain⟨b1,b2,d1,d2,rfl⟩:=ht.form;obtain⟨a1,a2,c1,c2,rfl⟩:=hw.form;obtain⟨la,lc,rfl⟩:=hl.form;have ll:=hl.1;unfold maxLen at ll;clear ht hl hw hM hN hP;obtain⟨W3,hW3⟩:∃ W,W=(((w.alloc (.cells (KV t b1 d1 b2 d2) 32)).alloc (.cells #[.string ⟨who.toArray⟩] 9)).alloc (.cells (KV want a1 c1 a2 c2) 32)).alloc (.cells Lb 32):=⟨_,rfl⟩
 have BW:Ll (La w W3):=aa (by rw[hW3];exact ab (ab (ab (ae _ _) (ae _ _)) (ae _ _)) (ae _ _));have X1:Ll (KY W3 w.heap.size t b1 d1 b2 d2):=aa (by rw[hW3];exact H6 _ _ _ _ _ (lI _ _ _ _));have X2:Ll (W3.heap[w.heap.size+1]?=some (.cells #[.string ⟨who.toArray⟩] 9)):=aa (by rw[hW3];exact H6 _ _ _ _ _ (mE _ _ _ _));have X3:Ll (KY W3 (w.heap.size+2) want a1 c1 a2 c2):=aa (by rw[hW3];exact H6 _ _ _ _ _ (jI _ _ _ _));have X4:Ll (Lc W3 (w.heap.size+3)):=aa (by rw[hW3];exact JD _ _ _ _ _);have HW3:=aa hW3;clear hW3;have G1:Ll (∀ W,La w W->Calls prog 101 #[.agg (KV t b1 d1 b2 d2)] W fun e w'=>e=.returned (.bool (decide (t.kind=5)&&aE t))/\La W w'):=fun W hW=>dq W _ t _ (HT.o.bel hW);have G2:Ll (∀ W,La w W->Calls prog 101 #[.agg (KV want a1 c1 a2 c2)] W fun e w'=>e=.returned (.bool (decide (want.kind=5)&&aE want))/\La W w'):=fun W hW=>dq W _ want _ (HW.o.bel hW);have G3:Ll (∀ W,La w W->Calls prog 102 #[.slice la l.length lc] W fun e w'=>e=.returned (.bool (bp l))/\La W w'):=fun W hW=>eZ W _ l _ (HL.o.bel hW) HP.o (HM.o.bel hW);have G4:Ll (∀ W,La w W->Calls prog 10 #[.string ⟨who.toArray⟩] W fun e w'=>e=.returned (.bool (bT who))/\La W w'):=fun W _=>(lR W who hwho).mono fun e w' h=>⟨h.1,h.2 ▸ MK _ _⟩;have SW:Ll (w.heap.size+4<=W3.heap.size):=aa (by have:=(MF.1 X4.o).1;omega);rw[hg1]at G1;rw[hg2]at G2;rw[hg3]at G3;rw[hg4]at G4;clear hg1 hg2 hg3 hg4;have o0_:=X1.o.c;go_enter func84,ntmps84;go_upto_region 1 with fail
 rw[<-HW3.o];go_upto_region 3 with (first
  |(go_at_call 10;refine Lk (G4.o _ B3.o) fun w4 hb=>?_;have B4:=aa (ab B3.o hb);have Y4:=aa (ab Y3.o hb);clear hb;skip)
  |(go_at_call 102;refine Lk (G3.o _ B2.o) fun w3 hb=>?_;have B3:=aa (ab B2.o hb);have Y3:=aa (ab Y2.o hb);clear hb;have u0:w3.cell? ⟨w.heap.size+1,0,none⟩=some (.string ⟨who.toArray⟩):=(by have h9:=bR Y3.o X2.o;simp[World.cell?,h9]);skip)
  |(go_at_call 101;refine Lk (G2.o _ B1.o) fun w2 hb=>?_;have B2:=aa (ab B1.o hb);have Y2:=aa (ab Y1.o hb);clear hb;skip)
  |(go_at_call 101;refine Lk (G1.o _ BW.o) fun w1 hb=>?_;have B1:=aa (ab BW.o hb);have Y1:=aa hb;clear hb;have p0_:=(af Y1.o X3.o).c;skip))
 clear u0;have o0_:=(af Y4.o X1.o).c;have p0_:=(af Y4.o X3.o).c;have u0:w4.cell? ⟨w.heap.size+1,0,none⟩=some (.string ⟨who.toArray⟩):=(by have h9:=bR Y4.o X2.o;simp[World.cell?,h9])
 have CF:Ll (Calls prog 103 #[.agg (KV t b1 d1 b2 d2),.slice la l.length lc,.string ⟨who.toArray⟩,.agg (KV want a1 c1 a2 c2)] w4 fun e w'=>∃ ra rc,e=.returned (.slice ra nf rc)/\w'.ownsRow w4.heap.size 174 2 (.slice ra nf rc) (eu (aV want t (au want)) who l).length (jV (eu (aV want t (au want)) who l))/\La w4 w'):=aa (by
  refine(lJ w4 _ _ _ t want l who _ _ _ (HT.o.bel B4.o) (HL.o.bel B4.o) (HW.o.bel B4.o) (HM.o.bel B4.o) HN.o HP.o).mono ?_;rintro e w' ⟨r,rfl,h1,h2⟩;rw[CC.o]at h1;rcases h1.2 with⟨rfl,h9⟩ | ⟨g,cap,cur,rfl,h9⟩
  ·exact⟨none,0,by rw[<-NF.o,h9],by rw[<-NF.o];rw[h9]at h1 ⊢;exact h1,h2⟩
  ·exact⟨_,_,by rw[NF.o],by rw[<-NF.o];exact h1,h2⟩)
 go_upto_region 5 with (go_at_call 103;refine CF.o.mono ?_;rintro e w5 ⟨ra,rc,rfl,hrow,hb⟩;have B5:=aa (ab B4.o hb);have Y5:=aa (ab Y4.o hb);have ROW:=aa hrow;have S4:=aa (MH (show w.heap.size+4<=W3.heap.size from SW.o) Y4.o.size);clear hb hrow)
 clear u0;have v0_:=(af Y5.o X1.o).c;have n0_:=(af Y5.o X4.o).c;have ZB:=aa ((af Y5.o X4.o).set (.int .i64 t.kind) (.int .i64 t.n) (.string ⟨t.s.toArray⟩) (.slice b1 t.keys.length d1) (.slice b2 t.l.length d2));have BF:=aa (aP (g:=w.heap.size+3) B5.o (by omega) (.int .i64 t.kind) (.int .i64 t.n) (.string ⟨t.s.toArray⟩) (.slice b1 t.keys.length d1) (.slice b2 t.l.length d2));go_wp2
 have z0_:=ZB.o.c;refine MM (v:=.tuple #[.agg (KV t b1 d1 b2 d2),.slice la l.length lc,.slice ra nf rc,.int .i64 5]) ?_ rfl ?_
 ·simp only[ar]at z0_;simp[results,results84,go_sem,z0_]
 ·rw[gT,R.o];exact⟨_,_,_,rfl,(HT.o.belB (fun k h=>h.2) BF.o).weak fun k h=>.inl h.1,(HL.o.belB (fun k h=>h.2) BF.o).weak fun k h=>.inl h.1,cV (bM ROW.o fun g hg=>(aI _ _ _ _ _ _ _).block g (bY ROW.o hg).2 (by have h8:=(bY ROW.o hg).1;have h9:=S4.o;intro e;cases e;omega)) (by have h9:=S4.o;omega),BF.o⟩
end Go.Proofs.YtlhejphddjdgkaaGreatDoor
