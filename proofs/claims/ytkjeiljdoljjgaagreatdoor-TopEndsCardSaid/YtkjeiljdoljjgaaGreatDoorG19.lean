import Derived.Test.YtkjeiljdoljjgaaGreatDoorG14
set_option maxRecDepth 100000
set_option maxHeartbeats 40000000
set_option linter.unusedSimpArgs false
set_option linter.unusedVariables false
namespace Go.Proofs.YtkjeiljdoljjgaaGreatDoor
open Go.RowKit
open _root_.Go.Proofs.Tryz
variable {w W:World}
variable {ok:Nat->Prop}
variable {v:Value}
variable {g:Nat}
section
def rD (w:LC) (g:Nat) (d0 d1 d2 d3 d4 d5:Value):LC:=
 (((((w.setCell ⟨g,0,none⟩ d0).setCell ⟨g,1,none⟩ d1).setCell ⟨g,2,none⟩ d2).setCell ⟨g,3,none⟩ d3).setCell ⟨g,4,none⟩ d4).setCell ⟨g,5,none⟩ d5
theorem Kl{a b c d e f}{t:TypeId}(h:w.heap[g]?=some (.cells #[a,b,c,d,e,f] t)):w.cell? ⟨g,0,none⟩=some a/\w.cell? ⟨g,1,none⟩=some b/\w.cell? ⟨g,2,none⟩=some c/\w.cell? ⟨g,3,none⟩=some d/\w.cell? ⟨g,4,none⟩=some e/\w.cell? ⟨g,5,none⟩=some f /\
 w.frozen? ⟨g,0,none⟩=false/\w.frozen? ⟨g,1,none⟩=false/\w.frozen? ⟨g,2,none⟩=false/\w.frozen? ⟨g,3,none⟩=false/\w.frozen? ⟨g,4,none⟩=false/\w.frozen? ⟨g,5,none⟩=false:=by
 refine⟨?_,?_,?_,?_,?_,?_,?_,?_,?_,?_,?_,?_⟩ <;> simp[World.cell?,World.frozen?,h]
theorem E6{a b c d e f}{t:TypeId}(h:w.heap[g]?=some (.cells #[a,b,c,d,e,f] t))(d0 d1 d2 d3 d4 d5):(rD w g d0 d1 d2 d3 d4 d5).heap[g]?=some (.cells #[d0,d1,d2,d3,d4,d5] t):=
 ak (ak (ak (ak (ak (ak h 0 d0) 1 d1) 2 d2) 3 d3) 4 d4) 5 d5
theorem xf(w:LC)(g d0 d1 d2 d3 d4 d5):w.grownBy (rD w g d0 d1 d2 d3 d4 d5) (some g):=
 ap (ap (ap (ap (ap (ap (az _ _) _ _) _ _) _ _) _ _) _ _) _ _
theorem BI{w1}(h:La w w1)(hg:w.heap.size<=g)(d0 d1 d2 d3 d4 d5):La w (rD w1 g d0 d1 d2 d3 d4 d5):=by
 have k:=xf w1 g d0 d1 d2 d3 d4 d5;exact⟨k.os.trans h.os,k.tape.trans h.tape,k.output.trans h.output,MH h.size k.size,fun i hi=>(k.block i (MI hi h.size) (by simp;omega)).trans (h.block i hi)⟩
theorem xu{W2:LC}{L d0 d1 d2 d3 d4}{T:TypeId}(h:ao W (fun k=>W2.heap.size<=k) L v)(hs:((w.alloc (.cells #[d0,d1,d2,d3,d4] 35)).alloc (.cells #[.int .i64 0,.int .i64 0,.string ⟨#[]⟩,.slice none 0 0,.slice none 0 0,.slice none 0 0] 145)).heap.size<=W2.heap.size){e0 e1 e2 e3 e4 e5}(_:(rD W (w.heap.size+1) e0 e1 e2 e3 e4 e5).heap[w.heap.size+1]?=some (.cells #[e0,e1,e2,e3,e4,e5] T)):ao (rD W (w.heap.size+1) e0 e1 e2 e3 e4 e5) (bQ ok w.heap.size) L v:=by
 refine h.imp fun a x h1 h2=>⟨.inr ?_,?_⟩
 ·simp at hs;omega
 ·rw[World.cell?_of_block ((xf W (w.heap.size+1) e0 e1 e2 e3 e4 e5).block _ (World.block_lt_of_cell? _ _ h2) (by simp at hs;simp;omega))];exact h2
attribute [local go_sem ↓] Go.wp_at_zero Go.wp_at_succ
theorem rQ(w:LC)(ok t v)(h:In w ok t v)(hM:bj w):Calls prog 100 #[v] w fun e w'=>∃ r,e=.returned r/\dB w' (bQ ok w.heap.size) t (au t) r/\La w w':=by
 have H:=aa h.low;have HM:=aa hM;obtain⟨a1,a2,c1,c2,rfl⟩:=h.form;clear h hM;have B2:Ll (La w ((w.alloc (.cells (KV t a1 c1 a2 c2) 35)).alloc (.cells #[.int .i64 0,.int .i64 0,.string ⟨#[]⟩,.slice none 0 0,.slice none 0 0,.slice none 0 0] 145))):=ab (ae _ _) (ae _ _);have BV:Ll (KY ((w.alloc (.cells (KV t a1 c1 a2 c2) 35)).alloc (.cells #[.int .i64 0,.int .i64 0,.string ⟨#[]⟩,.slice none 0 0,.slice none 0 0,.slice none 0 0] 145)) w.heap.size t a1 c1 a2 c2):=fb w _ _;have BZ:Ll (((w.alloc (.cells (KV t a1 c1 a2 c2) 35)).alloc (.cells #[.int .i64 0,.int .i64 0,.string ⟨#[]⟩,.slice none 0 0,.slice none 0 0,.slice none 0 0] 145)).heap[w.heap.size+1]?=some (.cells #[.int .i64 0,.int .i64 0,.string ⟨#[]⟩,.slice none 0 0,.slice none 0 0,.slice none 0 0] 145)):=et w _ _;go_enter func100,ntmps100;go_upto_region 1 with fail
 refine aD (fun wS=>Below ((w.alloc (.cells (KV t a1 c1 a2 c2) 35)).alloc (.cells #[.int .i64 0,.int .i64 0,.string ⟨#[]⟩,.slice none 0 0,.slice none 0 0,.slice none 0 0] 145)).heap.size ((w.alloc (.cells (KV t a1 c1 a2 c2) 35)).alloc (.cells #[.int .i64 0,.int .i64 0,.string ⟨#[]⟩,.slice none 0 0,.slice none 0 0,.slice none 0 0] 145)) wS) [4] (by kernel_rfl) (aC _ 1) (fun LI=>?_);refine WT.out ?_;iterate 2
  first
   | refine tk (i:=0) (v:=?_) [3,4] rfl rfl (by decide +kernel) rfl (fun _ _ _ h=>h) LI ?_ ?_
   | refine tk (i:=1) (v:=?_) [2,3,4] rfl rfl (by decide +kernel) rfl (fun _ _ _ h=>h) LI ?_ ?_
  rotate_left
  ·intro wS LN;have u0_:=(af LN BV.o).c;go_simp;all_goals with_reducible rfl
  simp only[av,List.set]
 repeat' (first
  | exact nl
  |(refine ip (i:=2) (o:=_) rfl (fun K hK=>?_) ?_
    go_simp;refine(C6 _ (Lj ok w) t _ (by exact(H.o.bel B2.o).bel LI) (by exact(HM.o.bel B2.o).bel LI)).mono ?_;rintro e w2q ⟨a3,c3,rfl,hst,hb5⟩;refine hK.out _ _ (ab LI hb5) (fun LJ=>?_);have ST:=aa hst;have B5:=aa LJ;have HB5:=aa hb5;have HH:=aa LI;clear hb5 hst;clear hK K;replace LI:=LJ;clear LJ;try simp only[Act.put,Mt,Mu,Mv])
  |(refine jZ (i:=4) (o:=_) (by decide +kernel) rfl (fun K hK=>?_)
    have ZB:=aa (bR LI BZ.o);obtain⟨n0,n1,n2,n3,n4,n5,m0,m1,m2,m3,m4,m5⟩:=Kl ZB.o;have FIN:=aa (E6 ZB.o (.int .i64 t.kind) (.int .i64 t.n) (.string ⟨t.s.toArray⟩) (.slice a1 t.keys.length c1) (.slice a2 t.l.length c2) (.slice a3 (au t).length c3));have FB:=aa (BI (ab B2.o LI) (Nat.le_succ w.heap.size) (.int .i64 t.kind) (.int .i64 t.n) (.string ⟨t.s.toArray⟩) (.slice a1 t.keys.length c1) (.slice a2 t.l.length c2) (.slice a3 (au t).length c3));go_simp;refine hK.out _ _ ?_;clear hK K;try simp only[Act.put,Mt,Mu,Mv])
  |(refine tk (i:=3) (d:=6) (v:=?_) [4] rfl rfl (by decide +kernel) rfl (fun _ _ _ h=>h) (by exact LI) ?_ ?_
    rotate_left
    ·intro wS LN;go_simp;all_goals with_reducible rfl
    simp only[av,List.set])
  | refine gc [2] (by decide +kernel) ?_
  | fail)
 all_goals
  refine dn (by kernel_rfl) ?_;clear n0 n1 n2 n3 n4 n5 m0 m1 m2 m3 m4 m5;go_wp2_with fail
  obtain⟨z0,z1,z2,z3,z4,z5⟩:=lr FIN.o;refine MM (v:=.agg #[.int .i64 t.kind,.int .i64 t.n,.string ⟨t.s.toArray⟩,.slice a1 t.keys.length c1,.slice a2 t.l.length c2,.slice a3 (au t).length c3]) ?_ rfl ?_
  ·simp only[rD]at z0 z1 z2 z3 z4 z5;simp[results,results100,go_sem,z0,z1,z2,z3,z4,z5]
  ·refine⟨_,rfl,⟨a1,a2,a3,c1,c2,c3,rfl,?_,?_⟩,FB.o⟩
   ·exact(H.o.bel FB.o).weak fun k hk=>.inl hk.1
   ·exact xu ST.o HH.o.size FIN.o
end
variable {w0:World}
variable {t:V}
theorem fq(LQ):bD (au LQ)/\(au LQ).length < 4611686018427387904:=by
 by_cases h:LQ.kind=5/\aE LQ=true
 ·exact⟨(mM h.1 h.2).rises,Gb h.1 h.2⟩
 ·have e:au LQ=[]:=if_neg h;rw[e];exact⟨List.Pairwise.nil,by simp⟩
noncomputable def ld (t:V) (l:List aL) (who:Lz) (LQ:V):List (Lz × Lz):=if aE t=true/\bp l=true then eu (aV LQ t (au LQ)) who l else []
theorem D1{okw okv:Nat->Prop}{who:Lz}{LQ:V}{L:List Lz}{g2 g9 g4:Nat}{a1 a2 a3 b1 b2:Option Addr}{c1 c2 c3 d1 d2:Nat}{l:List aL}{vl:Value}(hc:ri w0 okw okv who LQ t L g2 g9 g4 a1 a2 a3 b1 b2 c1 c2 c3 d1 d2)(hl:aB w0 ok l vl)(hok:∀ k,ok k->k < w0.heap.size)(hN:(bA l).length<=4000000)(hP:∀ o∈l,∀ x∈o.paths,x.length<=140737488351232):ES w0 127 #[.pointer (some ⟨g2,0,none⟩),.pointer (some ⟨g9,0,none⟩),.pointer (some ⟨g4,0,none⟩),.pointer (some ⟨w0.heap.size,0,none⟩)] l ok vl (Fw w0 who (aV LQ t L) 0) where
 owns:=hl
 cells d F W hI a x h1 h2:=(World.cell?_of_block (hI.1.1.block _ (hok _ h1))).trans h2
 alloc d F W o hI:=⟨hI.1.alloc o,fun k hk=>by
  have:W.heap.size < (W.alloc o).heap.size:=by simp
  rcases hk with hk | rfl
  ·have:=hI.2 k hk;omega
  ·exact this⟩
 low d F G W hI hg:=⟨hI.1.low hg,fun k hk=>hI.2 k (hg k hk)⟩
 step d F W n p hI hpre:=by
  have hm:(n,p)∈bA l:=hpre.subset (by simp);obtain⟨o,ho,rfl,hp⟩:=kL hm;have LT:=hpre.length_le;rw[Mx]at LT;exact EO w0 W okw okv who LQ t L g2 g9 g4 a1 a2 a3 b1 b2 c1 c2 c3 d1 d2 0 d F o.name p hc hI (by omega) (hP o ho p hp)
theorem lJ(w:LC)(ok okl okw t LQ l who vt vl vw)(ht:In w ok t vt)(hl:aB w okl l vl)(hw:In w okw LQ vw)(hM:bj w)(hN:(bA l).length<=4000000)(hP:∀ o∈l,∀ x∈o.paths,x.length<=140737488351232):Calls prog 99 #[vt,vl,.string ⟨who.toArray⟩,vw] w fun e w'=>∃ r,e=.returned r/\w'.ownsRow w.heap.size 168 2 r (ld t l who LQ).length (jV (ld t l who LQ))/\La w w':=by
 have HT:=aa ht.low;have HL:=aa hl.low;have HW:=aa hw.low;have HM:=aa hM;have HN:=aa hN;have HP:=aa hP;obtain⟨b1,b2,d1,d2,rfl⟩:=ht.form;obtain⟨a1,a2,c1,c2,rfl⟩:=hw.form;obtain⟨la,lc,rfl⟩:=hl.form;have ll:=hl.1;unfold maxLen at ll;clear ht hl hw hM hN hP;obtain⟨W3,hW3⟩:∃ W,W=((w.alloc (.cells (KV t b1 d1 b2 d2) 35)).alloc (.cells #[.string ⟨who.toArray⟩] 9)).alloc (.cells (KV LQ a1 c1 a2 c2) 35):=⟨_,rfl⟩
 have BW:Ll (La w W3):=aa (by rw[hW3];exact ab (ab (ae _ _) (ae _ _)) (ae _ _));have X1:Ll (KY W3 w.heap.size t b1 d1 b2 d2):=aa (by rw[hW3];exact lI _ _ _ _);have X2:Ll (W3.heap[w.heap.size+1]?=some (.cells #[.string ⟨who.toArray⟩] 9)):=aa (by rw[hW3];exact mE _ _ _ _);have X3:Ll (KY W3 (w.heap.size+2) LQ a1 c1 a2 c2):=aa (by rw[hW3];exact jI _ _ _ _);have HW3:=aa hW3;clear hW3;have GT:Ll (∀ W,La w W->Calls prog 50 #[.agg (KV t b1 d1 b2 d2)] W fun e w'=>e=.returned (.bool (aE t))/\La W w'):=fun W hW=>bG W _ t _ (HT.o.bel hW);have GO:Ll (∀ W,La w W->Calls prog 98 #[.slice la l.length lc] W fun e w'=>e=.returned (.bool (bp l))/\La W w'):=fun W hW=>eZ W _ l _ (HL.o.bel hW) HP.o (HM.o.bel hW);have p0_:=X1.o.c;cases hgt:aE t with
 | false=>
  have R:Ll (ld t l who LQ=[]):=if_neg (by rw[hgt];simp);rw[hgt]at GT;clear hgt;go_enter func99,ntmps99;go_upto_region 1 with fail
  rw[<-HW3.o];go_wp2_with (go_at_call 50;refine Lk (GT.o _ BW.o) fun w1 hb=>?_;have B1:=aa (ab BW.o hb);clear hb)
  go_ret;exact⟨_,rfl,by rw[R.o];exact World.ownsRow_nil _ _ _ _,B1.o⟩
 | true=>
  rw[hgt]at GT;have HGT:=aa hgt;clear hgt;cases hgo:bp l with
  | false=>
   have R:Ll (ld t l who LQ=[]):=if_neg (by rw[hgo];simp);rw[hgo]at GO;clear hgo;go_enter func99,ntmps99;go_upto_region 1 with fail
   rw[<-HW3.o];go_wp2_with (first
    |(go_at_call 50;refine Lk (GT.o _ BW.o) fun w1 hb=>?_;have B1:=aa (ab BW.o hb);clear hb)
    |(go_at_call 98;refine Lk (GO.o _ B1.o) fun w2 hb=>?_;have B2:=aa (ab B1.o hb);clear hb))
   go_ret;exact⟨_,rfl,by rw[R.o];exact World.ownsRow_nil _ _ _ _,B2.o⟩
  | true=>
   have R:Ll (ld t l who LQ=jN who (aV LQ t (au LQ)) (bA l)):=aa (by rw[ld,if_pos ⟨HGT.o,hgo⟩,yO]);rw[hgo]at GO;clear hgo;go_enter func99,ntmps99;go_upto_region 1 with fail
   rw[<-HW3.o];go_upto_region 3 with (first
    |(go_at_call 50;refine Lk (GT.o _ BW.o) fun w1 hb=>?_;have B1:=aa (ab BW.o hb);have Y1:=aa hb;clear hb)
    |(go_at_call 98;refine Lk (GO.o _ B1.o) fun w2 hb=>?_;have B2:=aa (ab B1.o hb);have Y2:=aa (ab Y1.o hb);clear hb))
   have p0_:=(af Y2.o X3.o).c;have WO:=aa (rQ w2 (fun k=>okw k/\k < w.heap.size) LQ _ (by exact HW.o.bel B2.o) (HM.o.bel B2.o));go_upto_region 4 with (go_at_call 100;refine WO.o.mono ?_;rintro e w3 ⟨r,rfl,hwi,hb⟩;have B3:=aa (ab B2.o hb);have Y3:=aa (ab Y2.o hb);have WI:=aa hwi;clear hb;obtain⟨x1,x2,x3,y1,y2,y3,rfl,-,-⟩:=hwi)
   obtain⟨W6,hW6⟩:∃ W,W=w3.alloc (.cells #[.int .i64 LQ.kind,.int .i64 LQ.n,.string ⟨LQ.s.toArray⟩,.slice x1 LQ.keys.length y1,.slice x2 LQ.l.length y2,.slice x3 (au LQ).length y3] 145):=⟨_,rfl⟩
   have Y6:Ll (La w3 W6):=aa (by rw[hW6];exact ae _ _);have X6:Ll (W6.heap[w3.heap.size]?=some (.cells #[.int .i64 LQ.kind,.int .i64 LQ.n,.string ⟨LQ.s.toArray⟩,.slice x1 LQ.keys.length y1,.slice x2 LQ.l.length y2,.slice x3 (au LQ).length y3] 145)):=aa (by rw[hW6];exact MN _ _);have B6:=aa (ab B3.o Y6.o);rw[<-hW6];clear hW6;have CAP:Ll (ri W6 (bQ (fun k=>okw k/\k < w.heap.size) w2.heap.size) (Lj ok w) who LQ t (au LQ) (w.heap.size+1) w3.heap.size w.heap.size x1 x2 x3 b1 b2 y1 y2 y3 d1 d2):=aa ⟨by
    have h9:=bR (ab Y3.o Y6.o) X2.o;simp[World.cell?,h9],X6.o,af (ab Y3.o Y6.o) X1.o,WI.o.bel Y6.o,HT.o.bel B6.o,HM.o.bel B6.o,by have:=gE (dQ HGT.o);omega,(fq LQ).1,(fq LQ).2⟩
   have SEES:=aa (D1 CAP.o (HL.o.bel B6.o) (fun k hk=>by have:=B6.o.size;have h9:=hk.2;omega) HN.o HP.o);have CALL:=aa (nW W6 (W6.alloc (.cells #[.slice none 0 0] 128)) _ l _ _ _ _ (fun k=>k < W6.heap.size) tX SEES.o ⟨by simpa [jN,jV] using Cc W6 128 168 2,fun k hk=>by simp;omega⟩);go_upto_region 6 with (go_at_call 126;refine CALL.o.mono ?_;rintro e w7 ⟨rfl,hi7⟩;have I7:=aa hi7;clear hi7)
   obtain⟨r1,fv,r2,r3,r4⟩:=I7.o.1;have c0:w7.cell? ⟨W6.heap.size,0,none⟩=some fv:=by simp[World.cell?,r2]
   obtain⟨sa,sn,sc,hsv⟩:∃ sa sn sc,fv=.slice sa sn sc:=by
    rcases r3.2 with⟨h9,-⟩ | ⟨_,_,_,h9,-⟩
    ·exact⟨_,_,_,h9⟩
    ·exact⟨_,_,_,h9⟩
   subst hsv;have ROW:=aa r3;have BE:=aa (B6.o.trans (r1.mono B6.o.size));have SZ6:=aa B6.o.size;clear r1 r2 r3 r4;go_wp2_with fail
   go_ret;exact⟨_,rfl,by rw[R.o];exact cV ROW.o (by have:=SZ6.o;omega),BE.o⟩
def kv (os:List aL) (n p:Lz):List aL:=
 match os.getLast? with
 | some o=>if o.name=n then os.dropLast++[⟨n,o.paths++[p]⟩] else os++[⟨n,[p]⟩]
 | none=>[⟨n,[p]⟩]
theorem Ev(n p):kv [] n p=[⟨n,[p]⟩]:=rfl
theorem nu(os o p):kv (os++[o]) o.name p=os++[⟨o.name,o.paths++[p]⟩]:=by
 unfold kv;simp
theorem oT(os o n p)(h:o.name≠n):kv (os++[o]) n p=(os++[o])++[⟨n,[p]⟩]:=by
 unfold kv;simp[h]
theorem FT{os n p}(h:∀ x∈os,x.name≠n):kv os n p=os++[⟨n,[p]⟩]:=by
 rcases List.eq_nil_or_concat os with rfl | ⟨r,o,rfl⟩
 ·rfl
 ·rw[List.concat_eq_append]at h ⊢;exact oT _ _ _ _ (h o (by simp))
def Ia (stays:Lz->Lz->Bool) (os:List aL) (c:Lz × Lz):List aL:=if stays c.1 c.2=true then kv os c.1 c.2 else os
def xz (stays:Lz->Lz->Bool) (d:List (Lz × Lz)):List aL:=d.foldl (Ia stays) []
theorem wQ(stays:Lz->Lz->Bool)(d:List (Lz × Lz))(n p):xz stays (d++[(n,p)])=if stays n p=true then kv (xz stays d) n p else xz stays d:=by
 unfold xz;rw[List.foldl_append];rfl
theorem El{stays:Lz->Lz->Bool}{os n}(h:∀ x∈os,x.name≠n):∀ (ps:List Lz),(ps.map fun p=>(n,p)).foldl (Ia stays) os=os++(if ps.filter (stays n)=[] then [] else [⟨n,ps.filter (stays n)⟩]):=by
 have key:∀ (k:Nat) (ps:List Lz),ps.length=k->(ps.map fun p=>(n,p)).foldl (Ia stays) os=os++(if ps.filter (stays n)=[] then [] else [⟨n,ps.filter (stays n)⟩]):=by
  intro k;induction k with
  | zero=>intro ps hp;rw[List.length_eq_zero_iff.1 hp];simp
  | succ k ih=>
   intro ps hp;rcases List.eq_nil_or_concat ps with rfl | ⟨r,p,rfl⟩
   ·simp at hp
   ·rw[List.concat_eq_append]at hp ⊢;rw[List.map_append,List.foldl_append,ih r (by simpa using hp)];simp only[List.map_cons,List.map_nil,List.foldl_cons,List.foldl_nil,Ia,List.filter_append];cases hs:stays n p with
    | false=>simp[hs]
    | true=>
     simp only[if_true,hs,List.filter_cons_of_pos,List.filter_nil];by_cases hf:r.filter (stays n)=[]
     ·rw[if_pos hf,List.append_nil,FT h,hf];simp
     ·rw[if_neg hf];have:=nu os ⟨n,r.filter (stays n)⟩ p;simp only at this;rw[this];simp
 exact fun ps=>key _ ps rfl
theorem Gn{stays:Lz->Lz->Bool}{l}(h:bD (l.map aL.name)):xz stays (bA l)=dV stays l:=by
 have key:∀ k,k<=l.length->xz stays (bA (l.take k))=dV stays (l.take k):=by
  intro k;induction k with
  | zero=>intro _;simp[bA,xz,dV]
  | succ k ih=>
   intro hk;have hlt:k < l.length:=by omega
   have hne:∀ x∈dV stays (l.take k),x.name≠l[k].name:=by
    intro x hx;obtain⟨y,hy,rfl,-⟩:=oE hx;obtain⟨i,hi,rfl⟩:=List.getElem_of_mem hy;rw[MC]at hi;rw[List.getElem_take];have:=List.pairwise_iff_getElem.1 h i k (by simp;omega) (by simpa using hlt) (by omega);rw[List.getElem_map,List.getElem_map]at this;intro e;rw[e,cd]at this;cases this
   rw[lz hlt];unfold xz at ih ⊢;rw[List.foldl_append,ih (by omega),El hne,List.take_succ_eq_append_getElem hlt,vF];congr 1
   unfold dV;simp only[List.map_cons,List.map_nil];split
   ·rename_i hf;rw[hf];rfl
   ·rename_i hf;rw[List.filter_cons_of_pos (by simpa using hf)];rfl
 have:=key l.length (MG _);rwa [List.take_length]at this
def ba:List aL->List Value->List Value
 | o :: os,v :: vs=>.string ⟨o.name.toArray⟩ :: v :: ba os vs
 | _,_=>[]
theorem eG:∀ (os:List aL) (vs:List Value) (o:aL) (v:Value),os.length=vs.length->ba (os++[o]) (vs++[v])=ba os vs++[.string ⟨o.name.toArray⟩,v]
 | [],[],o,v,_=>rfl
 | [],_ :: _,o,v,h=>by simp at h
 | _ :: _,[],o,v,h=>by simp at h
 | o' :: os,v' :: vs,o,v,h=>by
  simp only[List.cons_append,ba,eG os vs o v (by simpa using h)]
theorem fS:∀ (os:List aL) (vs:List Value),os.length=vs.length->(ba os vs).length=os.length * 2
 | [],[],_=>rfl
 | [],_ :: _,h=>by simp at h
 | _ :: _,[],h=>by simp at h
 | o' :: os,v' :: vs,h=>by
  simp only[ba,My,fS os vs (by simpa using h)];omega
def Jx (w0 W:LC) (init:List aL) (ov pl:Value) (pin:List Value):Option aL->Prop
 | none=>init=[]/\pl=.slice none 0 0/\W.ownsRow (w0.heap.size+1) 68 2 ov 0 []
 | some o=>W.ownsRow (w0.heap.size+1) 68 2 ov (init.length+1) (ba (init++[o]) (pin++[pl]))/\W.ownsRow (w0.heap.size+1) 9 1 pl o.paths.length (o.paths.map ji)/\∀ x∈o.paths,x.length<=maxLen
structure gG (w0:LC) (init:List aL) (LZ:Option aL) (F:Nat->Prop) (W:LC) (ov pl:Value) (pin:List Value) (Z:Nat->Prop):Prop where
 low:La w0 W
 box:W.heap[w0.heap.size]?=some (.cells #[ov] 36)
 plen:init.length=pin.length
 ini:∀ (i:Nat) (o:aL) (v:Value),init[i]?=some o->pin[i]?=some v->(∃ a c,v=.slice a o.paths.length c)/\ao W Z o.paths v
 last:Jx w0 W init ov pl pin LZ
 off:∀ (g:Nat),ov.ownBlock=some g->pl.ownBlock≠some g
 zlow:∀ (k:Nat),Z k->w0.heap.size+1<=k
 keep:∀ (k:Nat),(F k\/Z k)->k < W.heap.size/\k≠w0.heap.size/\some k≠ov.ownBlock/\some k≠pl.ownBlock
def D4 (w0:LC) (os:List aL) (F:Nat->Prop) (W:LC):Prop:=∃ init LZ ov pl pin Z,os=init++LZ.toList/\gG w0 init LZ F W ov pl pin Z
theorem gG.rows{init}{LZ:Option aL}{F ov pl pin Z}(h:gG w0 init LZ F W ov pl pin Z):(∀ g,ov.ownBlock=some g->w0.heap.size+1<=g/\g < W.heap.size)/\(∀ g,pl.ownBlock=some g->w0.heap.size+1<=g/\g < W.heap.size):=by
 have hl:=h.last;cases LZ with
 | none=>
  obtain⟨-,rfl,h2⟩:=hl;exact⟨fun g hg=>bY h2 hg,fun g hg=>by cases hg⟩
 | some o=>exact⟨fun g hg=>bY hl.1 hg,fun g hg=>bY hl.2.1 hg⟩
theorem gG.bel{init:List aL}{LZ:Option aL}{F:Nat->Prop}{W':LC}{ov pl:Value}{pin:List Value}{Z:Nat->Prop}(h:gG w0 init LZ F W ov pl pin Z)(hb:La W W'):gG w0 init LZ F W' ov pl pin Z where
 low:=h.low.trans (hb.mono h.low.size)
 box:=bR hb h.box
 plen:=h.plen
 ini i o v h1 h2:=⟨(h.ini i o v h1 h2).1,(h.ini i o v h1 h2).2.imp fun a x g1 g2=>⟨g1,ah hb g2⟩⟩
 last:=by
  have hl:=h.last;have hr:=h.rows;cases LZ with
  | none=>exact⟨hl.1,hl.2.1,bM hl.2.2 fun g hg=>hb.block g (hr.1 g hg).2⟩
  | some o=>exact⟨bM hl.1 fun g hg=>hb.block g (hr.1 g hg).2,bM hl.2.1 fun g hg=>hb.block g (hr.2 g hg).2,hl.2.2⟩
 off:=h.off
 zlow:=h.zlow
 keep k hk:=⟨MI (h.keep k hk).1 hb.size,(h.keep k hk).2⟩
theorem gG.alloc{init}{LZ:Option aL}{F ov pl pin Z}(h:gG w0 init LZ F W ov pl pin Z)(o:Obj):gG w0 init LZ (fun k=>F k\/k=W.heap.size) (W.alloc o) ov pl pin Z:=by
 have h2:=h.bel (ae W o);have hr:=h.rows;refine { h2 with keep:=fun k hk=>?_ };rcases hk with (hk | rfl) | hk
 ·exact h2.keep k (.inl hk)
 ·have LU:=(MF.1 h.box).1;exact⟨by simp,by omega,fun e=>by have:=(hr.1 _ e.symm).2;omega,fun e=>by have:=(hr.2 _ e.symm).2;omega⟩
 ·exact h2.keep k (.inr hk)
theorem gG.lower{init}{LZ:Option aL}{F G ov pl pin Z}(h:gG w0 init LZ F W ov pl pin Z)(hg:∀ k,G k->F k):gG w0 init LZ G W ov pl pin Z:=
 { h with keep:=fun k hk=>h.keep k (hk.imp (hg k) id) }
theorem A0(w0:LC):gG w0 [] none (fun k=>k < w0.heap.size) (w0.alloc (.cells #[.slice none 0 0] 36)) (.slice none 0 0) (.slice none 0 0) [] (fun _=>False) where
 low:=ae _ _
 box:=MN _ _
 plen:=rfl
 ini i o v h:=by simp at h
 last:=⟨rfl,rfl,World.ownsRow_nil _ _ _ _⟩
 off g hg:=by cases hg
 zlow k hk:=hk.elim
 keep k hk:=by
  rcases hk with hk | hk
  ·exact⟨by simp;omega,by omega,by simp[Value.ownBlock],by simp[Value.ownBlock]⟩
  ·exact hk.elim
variable {B n:Nat}
theorem jQ{e:TypeId}{size cap xs}(h:w.ownsRow B e size (.slice (some ⟨g,0,none⟩) n cap) n xs)(hn:0 < n)(i v):(w.setCell ⟨g,i,none⟩ v).ownsRow B e size (.slice (some ⟨g,0,none⟩) n cap) n (xs.set i v):=by
 refine⟨by simpa using h.1,?_⟩;rcases h.2 with⟨h0,-⟩ | ⟨g',cap',cur,e1,h1,h2,h3,h4,h5,h6⟩
 ·cases h0
 ·cases e1;refine .inr ⟨g,cap,cur.setIfInBounds i v,rfl,h1,ak h2 i v,h3,h4,by simpa using h5,?_⟩;rw[Array.toList_setIfInBounds,List.take_set,h6]
theorem wx{init pin o o' pl pl'}(h:init.length=pin.length)(hn:o'.name=o.name):(ba (init++[o]) (pin++[pl])).set (init.length * 2+1) pl'=ba (init++[o']) (pin++[pl']):=by
 rw[eG _ _ _ _ h,eG _ _ _ _ h,hn,List.set_append_right _ _ (by rw[fS _ _ h];omega),fS _ _ h];rw[show init.length * 2+1 - init.length * 2=1 by omega];rfl
theorem sA{ps}(h:w.ownsRow B 9 1 v ps.length (ps.map ji))(hl:∀ x∈ps,x.length<=maxLen)(hok:∀ g,v.ownBlock=some g->ok g):(∃ a c,v=.slice a ps.length c)/\ao w ok ps v:=by
 rcases h.2 with⟨rfl,h0⟩ | ⟨g,cap,cur,rfl,h1,h2,h3,h4,h5,h6⟩
 ·have hL:ps=[]:=List.length_eq_zero_iff.1 h0;subst hL;exact⟨⟨none,0,rfl⟩,by simp[maxLen],.inl ⟨rfl,none,rfl⟩⟩
 ·refine⟨⟨_,_,rfl⟩,by omega,.inr ⟨g,0,cap,rfl,h3,h4,fun i x hx=>⟨hl x (List.mem_of_getElem? hx),hok g rfl,?_⟩⟩⟩;obtain⟨hi,rfl⟩:=Mz.1 hx;have e:=congrArg (fun l=>l[i]?) h6;simp only[Nat.mul_one,List.getElem?_take,List.getElem?_map,Mw hi,Option.map_some]at e;rw[if_pos hi]at e;have e2:cur[i]?=some (ji ps[i]):=by simpa using e
  simp[World.cell?,h2,e2,ji,aR]
theorem AI{init}{LZ:Option aL}{F wc W' ov pl pin Z}{ob:Obj}{n N cap cells}(h:gG w0 init LZ F wc ov pl pin Z)(hN:N=(init++LZ.toList).length)(Mb:cells=ba (init++LZ.toList) (pin++(LZ.toList.map fun _=>pl)))(ho:W'.ownsRow (w0.heap.size+1) 68 2 (.slice (some ⟨g,0,none⟩) (N+1) cap) (N+1) (cells++[.string ⟨n.toArray⟩,.slice none 0 0]))(hg:(wc.alloc ob).grownBy W' ov.ownBlock)(hf:ov.ownBlock=some g\/(wc.alloc ob).heap.size=g):gG w0 (init++LZ.toList) (some ⟨n,[]⟩) F (W'.setCell ⟨w0.heap.size,0,none⟩ (.slice (some ⟨g,0,none⟩) (N+1) cap)) (.slice (some ⟨g,0,none⟩) (N+1) cap) (.slice none 0 0) (pin++(LZ.toList.map fun _=>pl)) (fun k=>Z k\/pl.ownBlock=some k) /\
 wc.heap.size<=(W'.setCell ⟨w0.heap.size,0,none⟩ (.slice (some ⟨g,0,none⟩) (N+1) cap)).heap.size/\∀ k,F k->k < wc.heap.size->(W'.setCell ⟨w0.heap.size,0,none⟩ (.slice (some ⟨g,0,none⟩) (N+1) cap)).heap[k]?=wc.heap[k]?:=by
 have ha:=ae wc ob;have hr:=h.rows;have hgo:=(bY ho (g:=g) rfl).1;have hgl:w0.heap.size < wc.heap.size:=(MF.1 h.box).1;have hW:∀ k,k < wc.heap.size->some k≠ov.ownBlock->W'.heap[k]?=wc.heap[k]?:=fun k hk hn=>by
  rw[hg.block k (MI hk ha.size) hn,ha.block k hk]
 have hbox:W'.heap[w0.heap.size]?=some (.cells #[ov] 36):=by
  rw[hW _ hgl (fun e=>by have:=(hr.1 _ e.symm).1;omega),h.box]
 obtain⟨W2,hW2⟩:∃ W,W=W'.setCell ⟨w0.heap.size,0,none⟩ (.slice (some ⟨g,0,none⟩) (N+1) cap):=⟨_,rfl⟩
 have hset:∀ k,k≠w0.heap.size->W2.heap[k]?=W'.heap[k]?:=fun k hk=>by rw[hW2];exact Below.heap_setCell W' ⟨w0.heap.size,0,none⟩ _ k hk
 have L9:wc.heap.size<=W2.heap.size:=by
  have h1:=ha.size;have h2:=hg.size;rw[hW2];simp only[World.setCell,Array.size_modify];omega
 have hos:W2.os=W'.os/\W2.tape=W'.tape/\W2.output=W'.output:=by rw[hW2];exact⟨rfl,rfl,rfl⟩
 have hfix:∀ k,k < wc.heap.size->k≠w0.heap.size->some k≠ov.ownBlock->W2.heap[k]?=wc.heap[k]?:=fun k h1 h2 h3=>by rw[hset k h2,hW k h1 h3]
 have hlo:La w0 W2:=⟨by rw[hos.1,hg.os,ha.os,h.low.os],by rw[hos.2.1,hg.tape,ha.tape,h.low.tape],by rw[hos.2.2,hg.output,ha.output,h.low.output],MH h.low.size L9,fun k hk=>by rw[hfix k (by omega) (by omega) (fun e=>by have:=(hr.1 _ e.symm).1;omega),h.low.block k hk]⟩
 have hb2:W2.heap[w0.heap.size]?=some (.cells #[.slice (some ⟨g,0,none⟩) (N+1) cap] 36):=by rw[hW2];exact ak hbox 0 _
 rw[<-hW2];have hpn:(init++LZ.toList).length=(pin++(LZ.toList.map fun _=>pl)).length:=by simp[h.plen]
 have hgf:∀ k,k < wc.heap.size->some k≠ov.ownBlock->k≠g:=fun k hk hne e=>by
  rcases hf with hf | hf
  ·exact hne (by rw[hf,e])
  ·have:=ha.size;omega
 refine⟨{ low:=hlo,box:=hb2,plen:=hpn,ini:=fun i o v h1 h2=>?_,last:=?_,off:=fun g' hg'=>by simp[Value.ownBlock],zlow:=fun k hk=>hk.elim (h.zlow k) (fun e=>(hr.2 k e).1),keep:=fun k hk=>?_ },L9,fun k hk hlt=>?_⟩
 ·by_cases hi:i < init.length
  ·rw[List.getElem?_append_left hi]at h1;rw[List.getElem?_append_left (by rw[<-h.plen];exact hi)]at h2;obtain⟨g1,g2⟩:=h.ini i o v h1 h2;refine⟨g1,g2.imp fun a x q1 q2=>⟨.inl q1,?_⟩⟩;have hk:=h.keep a.block (.inr q1);exact(World.cell?_of_block (hfix _ hk.1 hk.2.1 hk.2.2.1)).trans q2
  ·rw[List.getElem?_append_right (by omega)]at h1;rw[List.getElem?_append_right (by rw[<-h.plen];omega)]at h2;have hl:=h.last;cases LZ with
   | none=>simp at h1
   | some o9=>
    rw[<-h.plen]at h2;cases h8:i - init.length with
    | succ m=>rw[h8]at h1;simp at h1
    | zero=>
     rw[h8]at h1 h2;simp at h1 h2;subst h1;subst h2;refine sA (bM hl.2.1 fun g' hg'=>?_) hl.2.2 fun g' hg'=>.inr hg';exact hfix _ (hr.2 _ hg').2 (fun e=>by have:=(hr.2 _ hg').1;omega) (fun e=>h.off g' e.symm hg')
 ·refine⟨?_,⟨rfl,.inl ⟨rfl,rfl⟩⟩,fun x hx=>by cases hx⟩;rw[eG _ _ _ _ hpn,<-Mb,<-hN];refine bM ho fun g' hg'=>hset g' ?_;have e9:g=g':=by simpa [Value.ownBlock] using hg'
  omega
 ·rcases hk with hk | hk | hk
  ·have h9:=h.keep k (.inl hk);exact⟨MI h9.1 L9,h9.2.1,by have:=hgf k h9.1 h9.2.2.1;simp[Value.ownBlock];omega,by simp[Value.ownBlock]⟩
  ·have h9:=h.keep k (.inr hk);exact⟨MI h9.1 L9,h9.2.1,by have:=hgf k h9.1 h9.2.2.1;simp[Value.ownBlock];omega,by simp[Value.ownBlock]⟩
  ·have h9:=hr.2 k hk;have h8:some k≠ov.ownBlock:=fun e=>h.off k e.symm hk;exact⟨MI h9.2 L9,by omega,by have:=hgf k h9.2 h8;simp[Value.ownBlock];omega,by simp[Value.ownBlock]⟩
 ·have h9:=h.keep k (.inl hk);exact hfix k h9.1 h9.2.1 h9.2.2.1
theorem oW{init o F wc W' gb ocap pl pin Z}{ob:Obj}{p cap}(h:gG w0 init (some o) F wc (.slice (some ⟨gb,0,none⟩) (init.length+1) ocap) pl pin Z)(hp:p.length<=maxLen)(ho:W'.ownsRow (w0.heap.size+1) 9 1 (.slice (some ⟨g,0,none⟩) (o.paths.length+1) cap) (o.paths.length+1) (o.paths.map ji++[.string ⟨p.toArray⟩]))(hg:(wc.alloc ob).grownBy W' pl.ownBlock)(hf:pl.ownBlock=some g\/(wc.alloc ob).heap.size=g):gG w0 init (some ⟨o.name,o.paths++[p]⟩) F (W'.setCell ⟨gb,init.length * 2+1,none⟩ (.slice (some ⟨g,0,none⟩) (o.paths.length+1) cap)) (.slice (some ⟨gb,0,none⟩) (init.length+1) ocap) (.slice (some ⟨g,0,none⟩) (o.paths.length+1) cap) pin Z /\
 wc.heap.size<=(W'.setCell ⟨gb,init.length * 2+1,none⟩ (.slice (some ⟨g,0,none⟩) (o.paths.length+1) cap)).heap.size/\∀ k,F k->k < wc.heap.size->(W'.setCell ⟨gb,init.length * 2+1,none⟩ (.slice (some ⟨g,0,none⟩) (o.paths.length+1) cap)).heap[k]?=wc.heap[k]?:=by
 have ha:=ae wc ob;have hr:=h.rows;have hgb:=hr.1 gb rfl;have hgo:=bY ho (g:=g) rfl;obtain⟨l1,l2,l3⟩:=h.last;have hgl:w0.heap.size < wc.heap.size:=(MF.1 h.box).1;have hW:∀ k,k < wc.heap.size->some k≠pl.ownBlock->W'.heap[k]?=wc.heap[k]?:=fun k hk hn=>by
  rw[hg.block k (MI hk ha.size) hn,ha.block k hk]
 have hgne:g≠gb:=fun e=>by
  rcases hf with hf | hf
  ·exact h.off gb rfl (by rw[hf,e])
  ·have:=ha.size;omega
 have l1':W'.ownsRow (w0.heap.size+1) 68 2 (.slice (some ⟨gb,0,none⟩) (init.length+1) ocap) (init.length+1) (ba (init++[o]) (pin++[pl])):=bM l1 fun g' hg'=>by
  have e9:gb=g':=by simpa [Value.ownBlock] using hg'
  subst e9;exact hW gb hgb.2 (fun e=>h.off gb rfl e.symm)
 have l1'':=jQ l1' (by omega) (init.length * 2+1) (.slice (some ⟨g,0,none⟩) (o.paths.length+1) cap);rw[wx (o:=o) (o':=⟨o.name,o.paths++[p]⟩) h.plen rfl]at l1'';obtain⟨W2,hW2⟩:∃ W,W=W'.setCell ⟨gb,init.length * 2+1,none⟩ (.slice (some ⟨g,0,none⟩) (o.paths.length+1) cap):=⟨_,rfl⟩
 rw[<-hW2]at l1'' ⊢;have hset:∀ k,k≠gb->W2.heap[k]?=W'.heap[k]?:=fun k hk=>by rw[hW2];exact Below.heap_setCell W' ⟨gb,init.length * 2+1,none⟩ _ k hk
 have L9:wc.heap.size<=W2.heap.size:=by
  have h1:=ha.size;have h2:=hg.size;rw[hW2];simp only[World.setCell,Array.size_modify];omega
 have hos:W2.os=W'.os/\W2.tape=W'.tape/\W2.output=W'.output:=by rw[hW2];exact⟨rfl,rfl,rfl⟩
 have hfix:∀ k,k < wc.heap.size->k≠gb->some k≠pl.ownBlock->W2.heap[k]?=wc.heap[k]?:=fun k h1 h2 h3=>by rw[hset k h2,hW k h1 h3]
 have hgf:∀ k,k < wc.heap.size->some k≠pl.ownBlock->k≠g:=fun k hk hne e=>by
  rcases hf with hf | hf
  ·exact hne (by rw[hf,e])
  ·have:=ha.size;omega
 refine⟨{ low:=⟨by rw[hos.1,hg.os,ha.os,h.low.os],by rw[hos.2.1,hg.tape,ha.tape,h.low.tape],by rw[hos.2.2,hg.output,ha.output,h.low.output],MH h.low.size L9,fun k hk=>by rw[hfix k (by omega) (by omega) (fun e=>by have:=(hr.2 _ e.symm).1;omega),h.low.block k hk]⟩,box:=?_,plen:=h.plen,ini:=fun i o v h1 h2=>?_,last:=?_,off:=fun g' hg'=>?_,zlow:=h.zlow,keep:=fun k hk=>?_ },L9,fun k hk hlt=>?_⟩
 ·rw[hfix _ hgl (by omega) (fun e=>by have:=(hr.2 _ e.symm).1;omega)];exact h.box
 ·obtain⟨g1,g2⟩:=h.ini i o v h1 h2;refine⟨g1,g2.imp fun a x q1 q2=>⟨q1,?_⟩⟩;have hk:=h.keep a.block (.inr q1);exact(World.cell?_of_block (hfix _ hk.1 (fun e=>hk.2.2.1 (by rw[e];rfl)) hk.2.2.2)).trans q2
 ·refine⟨l1'',?_,fun x hx=>?_⟩
  ·have:W'.ownsRow (w0.heap.size+1) 9 1 (.slice (some ⟨g,0,none⟩) (o.paths.length+1) cap) (o.paths++[p]).length ((o.paths++[p]).map ji):=by simpa [ji] using ho
   refine bM this fun g' hg'=>hset g' ?_;have e9:g=g':=by simpa [Value.ownBlock] using hg'
   omega
  ·rcases List.mem_append.1 hx with hx | hx
   ·exact l3 x hx
   ·rw[List.mem_singleton]at hx;rw[hx];exact hp
 ·have e9:gb=g':=by simpa [Value.ownBlock] using hg'
  simp[Value.ownBlock];omega
 ·have h9:=h.keep k hk;exact⟨MI h9.1 L9,h9.2.1,h9.2.2.1,by have:=hgf k h9.1 h9.2.2.2;simp[Value.ownBlock];omega⟩
 ·have h9:=h.keep k (.inl hk);exact hfix k h9.1 (fun e=>h9.2.2.1 (by rw[e];rfl)) h9.2.2.2
variable {w':World}
variable {i:Nat}
section
theorem ng{ops:Array Oper}{o:Oper}{a}{K:Act->LC->Prop}{Q:Exit->Act->LC->Prop}{E:Prop}(hgd:o.guard=none)(s x:Operand)(t:TypeId)(ho:o.op=.call { callee:=.builtin .append,args:=#[s,x],argTypes:=#[t,t] })(v u)(hs:a.eval s=v)(hx:a.eval x=u)(R:Value->LC->Prop)(hr:∀ ty,∃ v' w',(Builtin.append_ #[t,t] ty #[v,u]).run prog w=.ok v' w'/\R v' w')(hK:∀ v' w',R v' w'->K (a.put o.dst v') w'):if Region.wanted o (yielded ops a.tmps)=true then Oper.wp prog o a w K Q else E:=by
 have hw:Region.wanted o (yielded ops a.tmps)=true:=by simp[Region.wanted,hgd]
 rw[if_pos hw];obtain⟨v',w',h1,h2⟩:=hr o.type;unfold Oper.wp execOp;simp only[ho,resolve,invoke,builtin,Sem.run_bind,Sem.run_pure,Result.andThen_ok,List.map_toArray,List.map_cons,List.map_nil,hs,hx,h1];exact hK v' w' h2
theorem F6{e:TypeId}{size xs}(h:w.ownsRow B e size v n xs)(hh:w'.heap=w.heap):w'.ownsRow B e size v n xs:=bM h fun g _=>by rw[hh]
theorem pP{wq:LC}{cs k}(hh:W.heap=(wq.alloc (.cells #[.string k] 9)).heap)(h1:W.os=wq.os)(h2:W.tape=wq.tape)(h3:W.output=wq.output)(ho:wq.ownsRow B 9 1 v n cs)(hn:n<=4000000)(hB:B<=wq.heap.size)(ty:TypeId):∃ v' w',(Builtin.append_ #[32,32] ty #[v,.slice (some ⟨wq.heap.size,0,none⟩) 1 1]).run prog W=.ok v' w'/\(∃ g cap,v'=.slice (some ⟨g,0,none⟩) (n+1) cap/\w'.ownsRow B 9 1 (.slice (some ⟨g,0,none⟩) (n+1) cap) (n+1) (cs++[.string k])/\(wq.alloc (.cells #[.string k] 9)).grownBy w' v.ownBlock/\(v.ownBlock=some g\/(wq.alloc (.cells #[.string k] 9)).heap.size=g)):=by
 obtain⟨i0,hi,hz0,hz1,hz2⟩:=info_parts wG;have hnb:W.heap[wq.heap.size]?=some (.cells #[.string k] 9):=by rw[hh];exact MN _ _
 have hoW:W.ownsRow B 9 1 v n cs:=F6 (bM ho fun g hg=>(ae wq (.cells #[.string k] 9)).block g (bY ho hg).2) hh;obtain⟨g,cap,W',hr,g1,g2,g3,-⟩:=run_append_lies (P:=prog) W 32 ty B 9 i0 _ 1 16 underlying32 hi hz0 hz1 hz2 rfl (by decide) v n cs hoW ⟨wq.heap.size,0,none⟩ 1 1 [.string k] rfl
  (World.news_of_block (cs:=#[.string k]) hnb) (by intro u hu;simp only[List.mem_cons,List.not_mem_nil,or_false]at hu;subst hu;rfl) (by decide) (by unfold maxLen;omega) (by omega) (by rw[hh];have:=(ae wq (.cells #[.string k] 9)).size;omega) W.heap.size rfl
 exact⟨_,W',hr,g,cap,rfl,g1,⟨g2.os.trans h1,g2.tape.trans h2,g2.output.trans h3,by rw[<-hh];exact g2.size,fun i hi hr=>by rw[<-hh]at hi ⊢;exact g2.block i hi hr⟩,g3.imp id fun e=>by rw[<-hh];exact e.symm⟩
theorem dJ{e:TypeId}{size cap xs}(h:w.ownsRow B e size (.slice (some ⟨g,0,none⟩) n cap) n xs)(hn:0 < n)(hi:xs[i]?=some v):w.cell? ⟨g,i,none⟩=some v/\w.frozen? ⟨g,i,none⟩=false:=by
 rcases h.2 with⟨h0,-⟩ | ⟨g',cap',cur,e1,h1,h2,h3,h4,h5,h6⟩
 ·cases h0
 ·cases e1;have e9:=congrArg (fun l=>l[i]?) h6;simp only[hi,List.getElem?_take]at e9;split at e9
  ·have:cur[i]?=some v:=by simpa using e9
   exact⟨by simp[World.cell?,h2,this],by simp[World.frozen?,h2]⟩
  ·cases e9
theorem iX{init o F gb oc pl pin Z}(h:gG w0 init (some o) F W (.slice (some ⟨gb,0,none⟩) (init.length+1) oc) pl pin Z):W.cell? ⟨gb,init.length * 2+1,none⟩=some pl/\W.cell? ⟨gb,init.length * 2,none⟩=some (.string ⟨o.name.toArray⟩):=by
 have hl:=h.last.1;have LT:=fS init pin h.plen;refine⟨(dJ hl (by omega) ?_).1,(dJ hl (by omega) ?_).1⟩
 ·rw[eG _ _ _ _ h.plen,List.getElem?_append_right (by omega),LT,show init.length * 2+1 - init.length * 2=1 by omega];rfl
 ·rw[eG _ _ _ _ h.plen,List.getElem?_append_right (by omega),LT,Nat.sub_self];rfl
theorem qg{init o F W9}{ob:Obj}{gb oc pl pin Z}(h:gG w0 init (some o) F W (.slice (some ⟨gb,0,none⟩) (init.length+1) oc) pl pin Z)(hg:(W.alloc ob).grownBy W9 pl.ownBlock):W9.cell? ⟨gb,init.length * 2+1,none⟩=some pl/\W9.frozen? ⟨gb,init.length * 2+1,none⟩=false:=by
 have hl:=h.last.1;have hr:=h.rows.1 gb rfl;have LT:=fS init pin h.plen;refine dJ (bM hl fun g' hg'=>?_) (by omega) ?_
 ·have e9:gb=g':=by simpa [Value.ownBlock] using hg'
  subst e9;have ha:=ae W ob;rw[hg.block gb (MI hr.2 ha.size) (fun e=>h.off gb rfl e.symm),ha.block gb hr.2]
 ·rw[eG _ _ _ _ h.plen,List.getElem?_append_right (by omega),LT,show init.length * 2+1 - init.length * 2=1 by omega];rfl
theorem Fi{init o F ov pl pin Z}(h:gG w0 init (some o) F W ov pl pin Z):∃ gb oc,ov=.slice (some ⟨gb,0,none⟩) (init.length+1) oc:=by
 rcases h.last.1.2 with⟨-,h0⟩ | ⟨g,cap,cur,e,-⟩
 ·omega
 ·exact⟨g,cap,e⟩
attribute [local go_sem ↓] Go.wp_at_zero Go.wp_at_succ
theorem Eg(w0 W gs g)(lb:Array Value)(stays:Lz->Lz->Bool)(os F n p)(eg:∀ args w,(callFunc g args).run prog w=.ok (.enter g args) w)(hI:D4 w0 os F W)(hgs:w0.cell? ⟨gs,0,none⟩=some (.func (.func g) #[] lb))(hp:p.length<=maxLen)(hst:Calls prog g (#[.string ⟨n.toArray⟩,.string ⟨p.toArray⟩]++lb) W fun e w'=>e=.returned (.bool (stays n p))/\La W w')(hN:os.length<=4000000)(hP:∀ o∈os,o.paths.length<=4000000):Calls prog 129 #[.string ⟨n.toArray⟩,.string ⟨p.toArray⟩,.pointer (some ⟨gs,0,none⟩),.pointer (some ⟨w0.heap.size,0,none⟩)] W fun e w'=>e=.returned (.tuple #[])/\D4 w0 (if stays n p=true then kv os n p else os) F w'/\W.heap.size<=w'.heap.size/\∀ k,F k->k < W.heap.size->w'.heap[k]?=W.heap[k]?:=by
 obtain⟨init,LZ,ov,pl,pin,Z,hos,hK⟩:=hI;have PLX:=aa hp;have c0:=ah hK.low hgs;have KK:=aa hK;have ST:=aa hst;clear hK hgs hp hst;obtain⟨b,hb⟩:∃ b,stays n p=b:=⟨_,rfl⟩
 rw[hb]at ST ⊢;clear hb;cases b with
 | false=>
  go_enter func129,ntmps129;go_wp2_with (go_at_fn g;refine ST.o.mono ?_;rintro e w1 ⟨rfl,hb⟩;have B1:=aa hb;clear hb)
  try simp only[Exit.inBlock,Exit.then]
  refine MM (results_none rfl _ _ _) rfl ?_;exact⟨rfl,⟨init,LZ,ov,pl,pin,Z,(by first | rfl | (simp[hos])),KK.o.bel B1.o⟩,B1.o.size,fun k hk hlt=>B1.o.block k hlt⟩
 | true=>
  rw[if_pos rfl];go_enter func129,ntmps129;go_upto_region 1 with (go_at_fn g;refine ST.o.mono ?_;rintro e w1 ⟨rfl,hb⟩;have B1:=aa hb;clear hb)
  clear c0;have K1:=aa (KK.o.bel B1.o);have c1:w1.cell? ⟨w0.heap.size,0,none⟩=some ov:=by have h9:=K1.o.box;simp[World.cell?,h9]
  have FR:Ll (∀ w',D4 w0 (kv os n p) F w'/\w1.heap.size<=w'.heap.size/\(∀ k,F k->k < w1.heap.size->w'.heap[k]?=w1.heap[k]?)->D4 w0 (kv os n p) F w'/\W.heap.size<=w'.heap.size/\∀ k,F k->k < W.heap.size->w'.heap[k]?=W.heap[k]?):=aa (fun w' h=>⟨h.1,MH B1.o.size h.2.1,fun k hk hlt=>by rw[h.2.2 k hk (MI hlt B1.o.size),B1.o.block k hlt]⟩);clear KK B1;cases LZ with
  | none=>
   obtain⟨hin,hpl,hrow⟩:=K1.o.last;subst hin;subst hpl;have hpn:pin=[]:=List.length_eq_zero_iff.1 K1.o.plen.symm;subst hpn;have hoe:os=[]:=by simpa using hos
   obtain⟨oa,oc,hov⟩:∃ oa oc,ov=.slice oa 0 oc:=by
    rcases hrow.2 with⟨h9,-⟩ | ⟨g9,c9,_,h9,-⟩
    ·exact⟨_,_,h9⟩
    ·exact⟨_,_,h9⟩
   subst hov;have ADD:Ll (kv os n p=[⟨n,[]++[p]⟩]):=aa (by rw[hoe];rfl);have PLN:Ll ((([]:List Lz)).length<=4000000):=aa (by simp);clear hos hP hN hoe;obtain⟨g7,c7,W7,hR,ho7,hg7,hf7⟩:=mW (W:=w1.alloc (.cells #[.string ⟨n.toArray⟩,.slice none 0 0] 68)) (B:=w0.heap.size+1) (v:=.slice oa 0 oc) (n:=0) (cs:=[]) (nb:=w1.heap.size) (k:=⟨n.toArray⟩) (pa:=none) (pn:=0) (pc:=0) (bM hrow fun g hg=>(ae _ _).block g (bY hrow hg).2) (MN _ _) (by omega) (by have:=(ae w1 (.cells #[.string ⟨n.toArray⟩,.slice none 0 0] 68)).size;have:=(MF.1 K1.o.box).1;omega) 36;have KN:=aa (AI (n:=n) (N:=0) (cells:=[]) K1.o (by simp) rfl ho7 hg7 hf7);have HR:=aa hR;have hgl:w0.heap.size < w1.heap.size:=(MF.1 K1.o.box).1;have c0a:∀ o,(w1.alloc o).cell? ⟨w0.heap.size,0,none⟩=some (.slice oa 0 oc):=fun o=>ah (ae _ _) c1;have hb7:W7.heap[w0.heap.size]?=some (.cells #[.slice oa 0 oc] 36):=by
    rw[hg7.block _ (MI hgl (ae w1 _).size) (fun e=>by have:=(bY hrow e.symm).1;omega),(ae w1 _).block _ hgl,K1.o.box]
   have c7a:W7.cell? ⟨w0.heap.size,0,none⟩=some (.slice oa 0 oc):=by simp[World.cell?,hb7]
   have c7f:W7.frozen? ⟨w0.heap.size,0,none⟩=false:=by simp[World.frozen?,hb7]
   clear hR ho7 hg7 hf7 hb7 hrow;go_wp2_with (at_builtin;go_must (refine Lib.wpList_append_run _ rfl _ _ _ _ rfl (.slice oa 0 oc) (.slice (some ⟨w1.heap.size,0,none⟩) 1 1) rfl rfl _ _ HR.o ?_);refine Ll.o ?_)
   refine aa ?_;go_upto_region 5 with fail
   obtain⟨wq,hwq⟩:∃ wq,wq=W7.setCell ⟨w0.heap.size,0,none⟩ (.slice (some ⟨g7,0,none⟩) (0+1) c7):=⟨_,rfl⟩
   rw[<-hwq]at KN ⊢;clear hwq c1 c0a c7a c7f;obtain⟨in2,hin2⟩:∃ i:List aL,[]=i:=⟨_,rfl⟩
   have LT:in2.length=0:=by rw[<-hin2];rfl
   obtain⟨pin2,hpin2⟩:∃ i:List Value,[]=i:=⟨_,rfl⟩
   obtain⟨Z2,hZ2⟩:∃ i,(fun k=>Z k\/(Value.slice none 0 0).ownBlock=some k)=i:=⟨_,rfl⟩
   have KQ:Ll (gG w0 in2 (some ⟨n,[]⟩) F wq (.slice (some ⟨g7,0,none⟩) (in2.length+1) c7) (.slice none 0 0) pin2 Z2):=aa (by
    rw[LT,<-hin2,<-hpin2,<-hZ2];exact KN.o.1)
   have FK:=aa KN.o.2;have HLEN:=aa LT;have FINAL:Ll (∀ w' pl',gG w0 in2 (some ⟨n,[]++[p]⟩) F w' (.slice (some ⟨g7,0,none⟩) (in2.length+1) c7) pl' pin2 Z2/\wq.heap.size<=w'.heap.size/\(∀ k,F k->k < wq.heap.size->w'.heap[k]?=wq.heap[k]?)->D4 w0 (kv os n p) F w'/\W.heap.size<=w'.heap.size/\∀ k,F k->k < W.heap.size->w'.heap[k]?=W.heap[k]?):=aa (fun w' pl' h=>FR.o w' ⟨⟨in2,some ⟨n,[]++[p]⟩,_,pl',pin2,Z2,by rw[ADD.o,<-hin2];rfl,h.1⟩,MH FK.o.1 h.2.1,fun k hk hlt=>by rw[h.2.2 k hk (MI hlt FK.o.1),FK.o.2 k hk hlt]⟩);clear LT KN K1 hin2 hpin2 hZ2;obtain⟨pl9,hpl9⟩:∃ x:Value,x=.slice none 0 0:=⟨_,rfl⟩
   rw[<-hpl9]at KQ;clear hpl9;have C0:Ll (wq.cell? ⟨w0.heap.size,0,none⟩=some (.slice (some ⟨g7,0,none⟩) (0+1) c7)):=aa (by have h9:=KQ.o.box;rw[HLEN.o]at h9;simp[World.cell?,h9]);have N0:Ll (some w0.heap.size≠pl9.ownBlock):=aa (fun e=>by have:=(KQ.o.rows.2 _ e.symm).1;omega);have C1:Ll (wq.cell? ⟨g7,0 * 2+1,none⟩=some pl9):=aa (by have h9:=(iX KQ.o).1;rw[HLEN.o]at h9;exact h9);have N1:Ll (some g7≠pl9.ownBlock):=aa (fun e=>KQ.o.off g7 rfl e.symm);have PLF:=KQ.o.last.2.1;obtain⟨sa,sn,sc,hsv⟩:∃ sa sn sc,pl9=.slice sa sn sc:=by
    rcases PLF.2 with⟨h9,-⟩ | ⟨_,_,_,h9,-⟩
    ·exact⟨_,_,_,h9⟩
    ·exact⟨_,_,_,h9⟩
   subst hsv;clear PLF;refine aD (fun wS=>World.grownBy wq wS (Value.slice sa sn sc).ownBlock) [12] (by kernel_rfl) (oD (az _ _)) (fun LI=>?_);refine WT.out ?_;iterate 8
    first
     | refine tk (i:=0) (v:=?_) [10,11,12] rfl rfl (by decide +kernel) rfl (fun _ _ _ h=>h) LI ?_ ?_
     | refine tk (i:=1) (v:=?_) [10,11,12] rfl rfl (by decide +kernel) rfl (fun _ _ _ h=>h) LI ?_ ?_
     | refine tk (i:=2) (v:=?_) [4,5,6,9,10,11,12] rfl rfl (by decide +kernel) rfl (fun _ _ _ h=>h) LI ?_ ?_
     | refine tk (i:=3) (v:=?_) [4,5,6,9,10,11,12] rfl rfl (by decide +kernel) rfl (fun _ _ _ h=>h) LI ?_ ?_
     | refine tk (i:=4) (v:=?_) [5,6,9,10,11,12] rfl rfl (by decide +kernel) rfl (fun _ _ _ h=>h) LI ?_ ?_
     | refine tk (i:=5) (v:=?_) [6,9,10,11,12] rfl rfl (by decide +kernel) rfl (fun _ _ _ h=>h) LI ?_ ?_
     | refine tk (i:=6) (v:=?_) [9,10,11,12] rfl rfl (by decide +kernel) rfl (fun _ _ _ h=>h) LI ?_ ?_
     | refine tk (i:=7) (v:=?_) [8,9,10,11,12] rfl rfl (by decide +kernel) rfl (fun _ _ _ h=>h) LI ?_ ?_
    rotate_left
    ·intro wS LN;have u0:=LN.cell C0.o N0.o;have u1:=LN.cell C1.o N1.o;go_simp;all_goals with_reducible rfl
    simp only[av,List.set]
   repeat' (first
    | exact nl
    |(refine ip (i:=8) (o:=_) rfl (fun K hK=>?_) ?_
      go_simp;refine hK.out _ _ (bd LI _) (fun LJ=>?_);clear hK K;replace LI:=LJ;clear LJ;try simp only[Act.put,Mt,Mu,Mv])
    |(refine ip (i:=9) (o:={ dst:=some 42,op:=Go.Op.call { callee:=Go.Callee.builtin Go.Builtin.append,args:=#[Go.Operand.tmp 39,Go.Operand.tmp 41],argTypes:=#[32,32] },type:=32,pos:= "owner.go:130",after:=#[{ on:=6,ground:=Go.Ground.data },{ on:=8,ground:=Go.Ground.data }],guard:=none }) rfl (fun K hK=>?_) ?_
      refine ng (by rfl) (.tmp 39) (.tmp 41) 32 (by rfl) _ _ (by rfl) (by rfl) _ (fun ty=>pP (wq:=wq) (by rfl) (by rfl) (by rfl) (by rfl) KQ.o.last.2.1 PLN.o (by have:=(MF.1 KQ.o.box).1;omega) ty) (fun v9 W9 hR=>?_);obtain⟨g9,c9,rfl,ho9,hg9,hf9⟩:=hR;have FIN:=aa (oW KQ.o PLX.o ho9 hg9 hf9);have ROWS:=aa (qg KQ.o hg9);refine hK.out _ _ (am (World.grownBy_alloc wq _ _) hg9) (fun LJ=>?_);clear ho9 hg9 hf9;clear hK K;replace LI:=LJ;clear LJ;try simp only[Act.put,Mt,Mu,Mv])
    |(refine jZ (i:=12) (o:=_) (by decide +kernel) rfl (fun K hK=>?_)
      obtain⟨n0,m0⟩:=ROWS.o;rw[HLEN.o]at n0 m0;have FIN2:=FINAL.o _ _ FIN.o;rw[HLEN.o]at FIN2;have FIN3:=aa FIN2;clear FIN2;go_simp;refine hK.out _ _ ?_;clear hK K;try simp only[Act.put,Mt,Mu,Mv])
    |(first
       | refine tk (i:=10) (v:=?_) [11,12] rfl rfl (by decide +kernel) rfl (fun _ _ _ h=>h) (by exact LI) ?_ ?_
       | refine tk (i:=11) (v:=?_) [12] rfl rfl (by decide +kernel) rfl (fun _ _ _ h=>h) (by exact LI) ?_ ?_
      rotate_left
      ·intro wS LN;go_simp;all_goals with_reducible rfl
      simp only[av,List.set])
    | refine gc [8] (by decide +kernel) ?_
    | refine gc [9] (by decide +kernel) ?_
    | fail)
   all_goals
    refine dn (by kernel_rfl) ?_;clear n0 m0;go_wp2_with fail
    go_end0
    exact⟨rfl,FIN3.o⟩
  | some o=>
   obtain⟨gb,oc,hov⟩:=Fi K1.o;subst hov;by_cases hn:o.name=n
   ·subst hn;have ADD:Ll (kv os o.name p=init++[⟨o.name,o.paths++[p]⟩]):=aa (by rw[hos];exact nu init o p);have c2:=(iX K1.o).2;have PLN:Ll (o.paths.length<=4000000):=aa (hP o (by rw[hos];simp));have hnl:init.length+1<=4000000:=by rw[hos]at hN;simpa using hN
    clear hos hP hN;obtain⟨wq,hwq⟩:∃ wq,wq=w1:=⟨_,rfl⟩
    subst hwq;have FINAL:Ll (∀ w' pl',gG w0 init (some ⟨o.name,o.paths++[p]⟩) F w' (.slice (some ⟨gb,0,none⟩) (init.length+1) oc) pl' pin Z/\wq.heap.size<=w'.heap.size/\(∀ k,F k->k < wq.heap.size->w'.heap[k]?=wq.heap[k]?)->D4 w0 (kv os o.name p) F w'/\W.heap.size<=w'.heap.size/\∀ k,F k->k < W.heap.size->w'.heap[k]?=W.heap[k]?):=aa (fun w' pl' h=>FR.o w' ⟨⟨init,some ⟨o.name,o.paths++[p]⟩,_,pl',pin,Z,by rw[ADD.o];rfl,h.1⟩,h.2⟩);have KQ:=K1;clear K1;go_upto_region 5 with fail
    clear c1 c2;have C0:Ll (wq.cell? ⟨w0.heap.size,0,none⟩=some (.slice (some ⟨gb,0,none⟩) (init.length+1) oc)):=aa (by have h9:=KQ.o.box;simp[World.cell?,h9]);have N0:Ll (some w0.heap.size≠pl.ownBlock):=aa (fun e=>by have:=(KQ.o.rows.2 _ e.symm).1;omega);have C1:Ll (wq.cell? ⟨gb,init.length * 2+1,none⟩=some pl):=aa (by have h9:=(iX KQ.o).1;exact h9);have N1:Ll (some gb≠pl.ownBlock):=aa (fun e=>KQ.o.off gb rfl e.symm);have PLF:=KQ.o.last.2.1;obtain⟨sa,sn,sc,hsv⟩:∃ sa sn sc,pl=.slice sa sn sc:=by
     rcases PLF.2 with⟨h9,-⟩ | ⟨_,_,_,h9,-⟩
     ·exact⟨_,_,_,h9⟩
     ·exact⟨_,_,_,h9⟩
    subst hsv;clear PLF;refine aD (fun wS=>World.grownBy wq wS (Value.slice sa sn sc).ownBlock) [12] (by kernel_rfl) (oD (az _ _)) (fun LI=>?_);refine WT.out ?_;iterate 8
     first
      | refine tk (i:=0) (v:=?_) [10,11,12] rfl rfl (by decide +kernel) rfl (fun _ _ _ h=>h) LI ?_ ?_
      | refine tk (i:=1) (v:=?_) [10,11,12] rfl rfl (by decide +kernel) rfl (fun _ _ _ h=>h) LI ?_ ?_
      | refine tk (i:=2) (v:=?_) [4,5,6,9,10,11,12] rfl rfl (by decide +kernel) rfl (fun _ _ _ h=>h) LI ?_ ?_
      | refine tk (i:=3) (v:=?_) [4,5,6,9,10,11,12] rfl rfl (by decide +kernel) rfl (fun _ _ _ h=>h) LI ?_ ?_
      | refine tk (i:=4) (v:=?_) [5,6,9,10,11,12] rfl rfl (by decide +kernel) rfl (fun _ _ _ h=>h) LI ?_ ?_
      | refine tk (i:=5) (v:=?_) [6,9,10,11,12] rfl rfl (by decide +kernel) rfl (fun _ _ _ h=>h) LI ?_ ?_
      | refine tk (i:=6) (v:=?_) [9,10,11,12] rfl rfl (by decide +kernel) rfl (fun _ _ _ h=>h) LI ?_ ?_
      | refine tk (i:=7) (v:=?_) [8,9,10,11,12] rfl rfl (by decide +kernel) rfl (fun _ _ _ h=>h) LI ?_ ?_
     rotate_left
     ·intro wS LN;have u0:=LN.cell C0.o N0.o;have u1:=LN.cell C1.o N1.o;go_simp;all_goals with_reducible rfl
     simp only[av,List.set]
    repeat' (first
     | exact nl
     |(refine ip (i:=8) (o:=_) rfl (fun K hK=>?_) ?_
       go_simp;refine hK.out _ _ (bd LI _) (fun LJ=>?_);clear hK K;replace LI:=LJ;clear LJ;try simp only[Act.put,Mt,Mu,Mv])
     |(refine ip (i:=9) (o:={ dst:=some 42,op:=Go.Op.call { callee:=Go.Callee.builtin Go.Builtin.append,args:=#[Go.Operand.tmp 39,Go.Operand.tmp 41],argTypes:=#[32,32] },type:=32,pos:= "owner.go:130",after:=#[{ on:=6,ground:=Go.Ground.data },{ on:=8,ground:=Go.Ground.data }],guard:=none }) rfl (fun K hK=>?_) ?_
       refine ng (by rfl) (.tmp 39) (.tmp 41) 32 (by rfl) _ _ (by rfl) (by rfl) _ (fun ty=>pP (wq:=wq) (by rfl) (by rfl) (by rfl) (by rfl) KQ.o.last.2.1 PLN.o (by have:=(MF.1 KQ.o.box).1;omega) ty) (fun v9 W9 hR=>?_);obtain⟨g9,c9,rfl,ho9,hg9,hf9⟩:=hR;have FIN:=aa (oW KQ.o PLX.o ho9 hg9 hf9);have ROWS:=aa (qg KQ.o hg9);refine hK.out _ _ (am (World.grownBy_alloc wq _ _) hg9) (fun LJ=>?_);clear ho9 hg9 hf9;clear hK K;replace LI:=LJ;clear LJ;try simp only[Act.put,Mt,Mu,Mv])
     |(refine jZ (i:=12) (o:=_) (by decide +kernel) rfl (fun K hK=>?_)
       obtain⟨n0,m0⟩:=ROWS.o;have FIN3:=aa (FINAL.o _ _ FIN.o);go_simp;refine hK.out _ _ ?_;clear hK K;try simp only[Act.put,Mt,Mu,Mv])
     |(first
        | refine tk (i:=10) (v:=?_) [11,12] rfl rfl (by decide +kernel) rfl (fun _ _ _ h=>h) (by exact LI) ?_ ?_
        | refine tk (i:=11) (v:=?_) [12] rfl rfl (by decide +kernel) rfl (fun _ _ _ h=>h) (by exact LI) ?_ ?_
       rotate_left
       ·intro wS LN;go_simp;all_goals with_reducible rfl
       simp only[av,List.set])
     | refine gc [8] (by decide +kernel) ?_
     | refine gc [9] (by decide +kernel) ?_
     | fail)
    all_goals
     refine dn (by kernel_rfl) ?_;clear n0 m0;go_wp2_with fail
     go_end0
     exact⟨rfl,FIN3.o⟩
   ·have e9:(o.name == n)=false:=by simpa using hn
    have i9:(0:Int)<=(init.length:Int)+1:=by omega
    have ADD:Ll (kv os n p=(init++[o])++[⟨n,[]++[p]⟩]):=aa (by rw[hos];exact oT init o n p hn);have c2:=(iX K1.o).2;have hnl:init.length+1<=4000000:=by rw[hos]at hN;simpa using hN
    have PLN:Ll ((([]:List Lz)).length<=4000000):=aa (by simp);clear hos hP hN;obtain⟨g7,c7,W7,hR,ho7,hg7,hf7⟩:=mW (W:=w1.alloc (.cells #[.string ⟨n.toArray⟩,.slice none 0 0] 68)) (B:=w0.heap.size+1) (v:=.slice (some ⟨gb,0,none⟩) (init.length+1) oc) (n:=init.length+1) (cs:=ba (init++[o]) (pin++[pl])) (nb:=w1.heap.size) (k:=⟨n.toArray⟩) (pa:=none) (pn:=0) (pc:=0) (bM K1.o.last.1 fun g hg=>(ae _ _).block g (bY K1.o.last.1 hg).2) (MN _ _) hnl (by have:=(ae w1 (.cells #[.string ⟨n.toArray⟩,.slice none 0 0] 68)).size;have:=(MF.1 K1.o.box).1;omega) 36;have KN:=aa (AI (n:=n) (N:=init.length+1) (cells:=ba (init++[o]) (pin++[pl])) K1.o (by simp) rfl ho7 hg7 hf7);have HR:=aa hR;have hgl:w0.heap.size < w1.heap.size:=(MF.1 K1.o.box).1;have c0a:∀ o,(w1.alloc o).cell? ⟨w0.heap.size,0,none⟩=some (.slice (some ⟨gb,0,none⟩) (init.length+1) oc):=fun o=>ah (ae _ _) c1;have hb7:W7.heap[w0.heap.size]?=some (.cells #[.slice (some ⟨gb,0,none⟩) (init.length+1) oc] 36):=by
     rw[hg7.block _ (MI hgl (ae w1 _).size) (fun e=>by have:=(bY K1.o.last.1 e.symm).1;omega),(ae w1 _).block _ hgl,K1.o.box]
    have c7a:W7.cell? ⟨w0.heap.size,0,none⟩=some (.slice (some ⟨gb,0,none⟩) (init.length+1) oc):=by simp[World.cell?,hb7]
    have c7f:W7.frozen? ⟨w0.heap.size,0,none⟩=false:=by simp[World.frozen?,hb7]
    clear hR ho7 hg7 hf7 hb7;go_wp2_with (at_builtin;go_must (refine Lib.wpList_append_run _ rfl _ _ _ _ rfl (.slice (some ⟨gb,0,none⟩) (init.length+1) oc) (.slice (some ⟨w1.heap.size,0,none⟩) 1 1) rfl rfl _ _ HR.o ?_);refine Ll.o ?_)
    refine aa ?_;go_upto_region 5 with fail
    obtain⟨wq,hwq⟩:∃ wq,wq=W7.setCell ⟨w0.heap.size,0,none⟩ (.slice (some ⟨g7,0,none⟩) (init.length+1+1) c7):=⟨_,rfl⟩
    rw[<-hwq]at KN ⊢;clear hwq c1 c2 c0a c7a c7f;obtain⟨in2,hin2⟩:∃ i,init++[o]=i:=⟨_,rfl⟩
    have LT:in2.length=init.length+1:=by rw[<-hin2];simp
    obtain⟨pin2,hpin2⟩:∃ i,pin++[pl]=i:=⟨_,rfl⟩
    obtain⟨Z2,hZ2⟩:∃ i,(fun k=>Z k\/pl.ownBlock=some k)=i:=⟨_,rfl⟩
    have KQ:Ll (gG w0 in2 (some ⟨n,[]⟩) F wq (.slice (some ⟨g7,0,none⟩) (in2.length+1) c7) (.slice none 0 0) pin2 Z2):=aa (by
     rw[LT,<-hin2,<-hpin2,<-hZ2];exact KN.o.1)
    have FK:=aa KN.o.2;have HLEN:=aa LT;have FINAL:Ll (∀ w' pl',gG w0 in2 (some ⟨n,[]++[p]⟩) F w' (.slice (some ⟨g7,0,none⟩) (in2.length+1) c7) pl' pin2 Z2/\wq.heap.size<=w'.heap.size/\(∀ k,F k->k < wq.heap.size->w'.heap[k]?=wq.heap[k]?)->D4 w0 (kv os n p) F w'/\W.heap.size<=w'.heap.size/\∀ k,F k->k < W.heap.size->w'.heap[k]?=W.heap[k]?):=aa (fun w' pl' h=>FR.o w' ⟨⟨in2,some ⟨n,[]++[p]⟩,_,pl',pin2,Z2,by rw[ADD.o,hin2];rfl,h.1⟩,MH FK.o.1 h.2.1,fun k hk hlt=>by rw[h.2.2 k hk (MI hlt FK.o.1),FK.o.2 k hk hlt]⟩);clear LT KN K1 hin2 hpin2 hZ2;obtain⟨pl9,hpl9⟩:∃ x:Value,x=.slice none 0 0:=⟨_,rfl⟩
    rw[<-hpl9]at KQ;clear hpl9;have C0:Ll (wq.cell? ⟨w0.heap.size,0,none⟩=some (.slice (some ⟨g7,0,none⟩) (init.length+1+1) c7)):=aa (by have h9:=KQ.o.box;rw[HLEN.o]at h9;simp[World.cell?,h9]);have N0:Ll (some w0.heap.size≠pl9.ownBlock):=aa (fun e=>by have:=(KQ.o.rows.2 _ e.symm).1;omega);have C1:Ll (wq.cell? ⟨g7,(init.length+1) * 2+1,none⟩=some pl9):=aa (by have h9:=(iX KQ.o).1;rw[HLEN.o]at h9;exact h9);have N1:Ll (some g7≠pl9.ownBlock):=aa (fun e=>KQ.o.off g7 rfl e.symm);have PLF:=KQ.o.last.2.1;obtain⟨sa,sn,sc,hsv⟩:∃ sa sn sc,pl9=.slice sa sn sc:=by
     rcases PLF.2 with⟨h9,-⟩ | ⟨_,_,_,h9,-⟩
     ·exact⟨_,_,_,h9⟩
     ·exact⟨_,_,_,h9⟩
    subst hsv;clear PLF;refine aD (fun wS=>World.grownBy wq wS (Value.slice sa sn sc).ownBlock) [12] (by kernel_rfl) (oD (az _ _)) (fun LI=>?_);refine WT.out ?_;iterate 8
     first
      | refine tk (i:=0) (v:=?_) [10,11,12] rfl rfl (by decide +kernel) rfl (fun _ _ _ h=>h) LI ?_ ?_
      | refine tk (i:=1) (v:=?_) [10,11,12] rfl rfl (by decide +kernel) rfl (fun _ _ _ h=>h) LI ?_ ?_
      | refine tk (i:=2) (v:=?_) [4,5,6,9,10,11,12] rfl rfl (by decide +kernel) rfl (fun _ _ _ h=>h) LI ?_ ?_
      | refine tk (i:=3) (v:=?_) [4,5,6,9,10,11,12] rfl rfl (by decide +kernel) rfl (fun _ _ _ h=>h) LI ?_ ?_
      | refine tk (i:=4) (v:=?_) [5,6,9,10,11,12] rfl rfl (by decide +kernel) rfl (fun _ _ _ h=>h) LI ?_ ?_
      | refine tk (i:=5) (v:=?_) [6,9,10,11,12] rfl rfl (by decide +kernel) rfl (fun _ _ _ h=>h) LI ?_ ?_
      | refine tk (i:=6) (v:=?_) [9,10,11,12] rfl rfl (by decide +kernel) rfl (fun _ _ _ h=>h) LI ?_ ?_
      | refine tk (i:=7) (v:=?_) [8,9,10,11,12] rfl rfl (by decide +kernel) rfl (fun _ _ _ h=>h) LI ?_ ?_
     rotate_left
     ·intro wS LN;have u0:=LN.cell C0.o N0.o;have u1:=LN.cell C1.o N1.o;go_simp;all_goals with_reducible rfl
     simp only[av,List.set]
    repeat' (first
     | exact nl
     |(refine ip (i:=8) (o:=_) rfl (fun K hK=>?_) ?_
       go_simp;refine hK.out _ _ (bd LI _) (fun LJ=>?_);clear hK K;replace LI:=LJ;clear LJ;try simp only[Act.put,Mt,Mu,Mv])
     |(refine ip (i:=9) (o:={ dst:=some 42,op:=Go.Op.call { callee:=Go.Callee.builtin Go.Builtin.append,args:=#[Go.Operand.tmp 39,Go.Operand.tmp 41],argTypes:=#[32,32] },type:=32,pos:= "owner.go:130",after:=#[{ on:=6,ground:=Go.Ground.data },{ on:=8,ground:=Go.Ground.data }],guard:=none }) rfl (fun K hK=>?_) ?_
       refine ng (by rfl) (.tmp 39) (.tmp 41) 32 (by rfl) _ _ (by rfl) (by rfl) _ (fun ty=>pP (wq:=wq) (by rfl) (by rfl) (by rfl) (by rfl) KQ.o.last.2.1 PLN.o (by have:=(MF.1 KQ.o.box).1;omega) ty) (fun v9 W9 hR=>?_);obtain⟨g9,c9,rfl,ho9,hg9,hf9⟩:=hR;have FIN:=aa (oW KQ.o PLX.o ho9 hg9 hf9);have ROWS:=aa (qg KQ.o hg9);refine hK.out _ _ (am (World.grownBy_alloc wq _ _) hg9) (fun LJ=>?_);clear ho9 hg9 hf9;clear hK K;replace LI:=LJ;clear LJ;try simp only[Act.put,Mt,Mu,Mv])
     |(refine jZ (i:=12) (o:=_) (by decide +kernel) rfl (fun K hK=>?_)
       obtain⟨n0,m0⟩:=ROWS.o;rw[HLEN.o]at n0 m0;have FIN2:=FINAL.o _ _ FIN.o;rw[HLEN.o]at FIN2;have FIN3:=aa FIN2;clear FIN2;go_simp;refine hK.out _ _ ?_;clear hK K;try simp only[Act.put,Mt,Mu,Mv])
     |(first
        | refine tk (i:=10) (v:=?_) [11,12] rfl rfl (by decide +kernel) rfl (fun _ _ _ h=>h) (by exact LI) ?_ ?_
        | refine tk (i:=11) (v:=?_) [12] rfl rfl (by decide +kernel) rfl (fun _ _ _ h=>h) (by exact LI) ?_ ?_
       rotate_left
       ·intro wS LN;go_simp;all_goals with_reducible rfl
       simp only[av,List.set])
     | refine gc [8] (by decide +kernel) ?_
     | refine gc [9] (by decide +kernel) ?_
     | fail)
    all_goals
     refine dn (by kernel_rfl) ?_;clear n0 m0;go_wp2_with fail
     go_end0
     exact⟨rfl,FIN3.o⟩
end
def fA (w:LC) (B:Nat) (os:List aL) (r:Value):Prop:=∃ pvs,os.length=pvs.length/\w.ownsRow B 68 2 r os.length (ba os pvs) /\
 ∀ (i:Nat) (o:aL) (v:Value),os[i]?=some o->pvs[i]?=some v->(∃ a c,v=.slice a o.paths.length c)/\ao w (fun k=>B<=k/\some k≠r.ownBlock) o.paths v
theorem kN:∀ (os:List aL) (vs:List Value) (i:Nat) (o:aL) (v:Value),os[i]?=some o->vs[i]?=some v->(ba os vs)[i * 2]?=some (.string ⟨o.name.toArray⟩)/\(ba os vs)[i * 2+1]?=some v
 | [],_,i,o,v,h,_=>by simp at h
 | _ :: _,[],i,o,v,_,h=>by simp at h
 | o' :: os,v' :: vs,0,o,v,h1,h2=>by simp at h1 h2;subst h1;subst h2;exact⟨rfl,rfl⟩
 | o' :: os,v' :: vs,i+1,o,v,h1,h2=>by
  have:=kN os vs i o v (by simpa using h1) (by simpa using h2);rw[show (i+1) * 2=i * 2+1+1 by omega];exact this
theorem fA.owns{os r}(h:fA w B os r)(hn:∀ o∈os,o.name.length<=maxLen):aB w (fun k=>B<=k) os r:=by
 obtain⟨pvs,h1,h2,h3⟩:=h;rcases h2.2 with⟨rfl,h0⟩ | ⟨g,cap,cur,rfl,g1,g2,g3,g4,g5,g6⟩
 ·have e:os=[]:=List.length_eq_zero_iff.1 h0;subst e;exact aB.nil _ _
 ·refine⟨by omega,?_⟩;by_cases h0:os=[]
  ·subst h0;have:cap=cap:=rfl;refine .inr ⟨g,0,cap,rfl,g3,g4,fun i x hx=>by simp at hx⟩
  ·refine .inr ⟨g,0,cap,rfl,g3,g4,fun i x hx=>?_⟩;obtain⟨hi,rfl⟩:=Mz.1 hx;obtain⟨v,hv⟩:∃ v,pvs[i]?=some v:=⟨_,Mw (by omega)⟩
   obtain⟨⟨a,c,rfl⟩,hs⟩:=h3 i _ v hx hv;obtain⟨e1,e2⟩:=kN os pvs i _ _ hx hv;have hpos:0 < os.length:=List.length_pos_iff.2 h0;refine⟨a,_,c,hn _ (List.getElem_mem hi),g1,?_,?_,hs.imp fun a x q1 q2=>⟨q1.1,q2⟩⟩
   ·rw[Nat.zero_add];exact(dJ h2 hpos e1).1
   ·rw[Nat.zero_add];exact(dJ h2 hpos e2).1
theorem fA.base{B' os r}(h:fA w B os r)(hb:B'<=B):fA w B' os r:=by
 obtain⟨pvs,h1,h2,h3⟩:=h;exact⟨pvs,h1,cV h2 hb,fun i o v g1 g2=>⟨(h3 i o v g1 g2).1,(h3 i o v g1 g2).2.imp fun a x q1 q2=>⟨⟨MH hb q1.1,q1.2⟩,q2⟩⟩⟩
theorem D4.row{os F}(h:D4 w0 os F W):∃ ov,W.heap[w0.heap.size]?=some (.cells #[ov] 36)/\fA W (w0.heap.size+1) os ov:=by
 obtain⟨init,LZ,ov,pl,pin,Z,rfl,h⟩:=h;refine⟨ov,h.box,?_⟩;have hl:=h.last;have hr:=h.rows;have hZ:∀ k,Z k->w0.heap.size+1<=k/\some k≠ov.ownBlock:=fun k hk=>⟨h.zlow k hk,(h.keep k (.inr hk)).2.2.1⟩
 cases LZ with
 | none=>
  obtain⟨rfl,-,hrow⟩:=hl;exact⟨[],rfl,hrow,fun i o v h1=>by simp at h1⟩
 | some o=>
  refine⟨pin++[pl],by simp[h.plen],by simpa using hl.1,fun i o' v h1 h2=>?_⟩;by_cases hi:i < init.length
  ·rw[List.getElem?_append_left hi]at h1;rw[List.getElem?_append_left (by rw[<-h.plen];exact hi)]at h2;obtain⟨g1,g2⟩:=h.ini i o' v h1 h2;exact⟨g1,g2.imp fun a x q1 q2=>⟨hZ _ q1,q2⟩⟩
  ·rw[List.getElem?_append_right (by omega)]at h1;rw[List.getElem?_append_right (by rw[<-h.plen];omega),<-h.plen]at h2;cases h8:i - init.length with
   | succ m=>rw[h8]at h1;simp at h1
   | zero=>
    rw[h8]at h1 h2;simp at h1 h2;subst h1;subst h2;exact sA hl.2.1 hl.2.2 fun g' hg'=>⟨(hr.2 g' hg').1,fun e=>h.off g' e.symm hg'⟩
theorem Hp(stays:Lz->Lz->Bool)(d:List (Lz × Lz)):(xz stays d).length<=d.length/\∀ o∈xz stays d,o.paths.length<=d.length:=by
 have key:∀ (k:Nat) (d:List (Lz × Lz)),d.length=k->(xz stays d).length<=d.length/\∀ o∈xz stays d,o.paths.length<=d.length:=by
  intro k;induction k with
  | zero=>intro d hd;rw[List.length_eq_zero_iff.1 hd];simp[xz]
  | succ k ih=>
   intro d hd;rcases List.eq_nil_or_concat d with rfl | ⟨r,c,rfl⟩
   ·simp at hd
   ·rw[List.concat_eq_append]at hd ⊢;obtain⟨n,p⟩:=c;obtain⟨h1,h2⟩:=ih r (by simpa using hd);rw[wQ,Mx,List.length_singleton];split
    ·rcases List.eq_nil_or_concat (xz stays r) with h9 | ⟨q,o,h9⟩
     ·rw[h9,Ev];refine⟨by simp,fun o ho=>?_⟩;rw[List.mem_singleton]at ho;rw[ho];simp
     ·rw[List.concat_eq_append]at h9;rw[h9]at h1 h2 ⊢;by_cases hn:o.name=n
      ·subst hn;rw[nu];refine⟨by simp at h1 ⊢;omega,fun x hx=>?_⟩;rcases List.mem_append.1 hx with hx | hx
       ·have:=h2 x (by simp[hx]);omega
       ·rw[List.mem_singleton]at hx;have:=h2 o (by simp);rw[hx];simp;omega
      ·rw[oT _ _ _ _ hn];refine⟨by simp at h1 ⊢;omega,fun x hx=>?_⟩;rcases List.mem_append.1 hx with hx | hx
       ·have:=h2 x hx;omega
       ·rw[List.mem_singleton]at hx;rw[hx];simp
    ·exact⟨by omega,fun o ho=>by have:=h2 o ho;omega⟩
 exact key _ d rfl
theorem sS:∀ args w,(callFunc 129 args).run prog w=.ok (.enter 129 args) w:=enters_of func129 (by kernel_rfl) rfl
theorem DQ{l:List aL}{vl:Value}{gs:Nat}{lb:Array Value}{stays:Lz->Lz->Bool}(eg:∀ args w,(callFunc g args).run prog w=.ok (.enter g args) w)(hgs:w0.cell? ⟨gs,0,none⟩=some (.func (.func g) #[] lb))(hst:∀ W n p,La w0 W->(n,p)∈bA l->Calls prog g (#[.string ⟨n.toArray⟩,.string ⟨p.toArray⟩]++lb) W fun e w'=>e=.returned (.bool (stays n p))/\La W w')(hl:aB w0 ok l vl)(hok:∀ k,ok k->k < w0.heap.size)(hN:(bA l).length<=4000000)(hP:∀ o∈l,∀ x∈o.paths,x.length<=maxLen):ES w0 129 #[.pointer (some ⟨gs,0,none⟩),.pointer (some ⟨w0.heap.size,0,none⟩)] l ok vl (fun d F W=>D4 w0 (xz stays d) F W) where
 owns:=hl
 cells d F W hI a x h1 h2:=by
  obtain⟨_,_,_,_,_,_,-,h⟩:=hI;exact(World.cell?_of_block (h.low.block _ (hok _ h1))).trans h2
 alloc d F W o hI:=by
  obtain⟨a1,a2,a3,a4,a5,a6,e,h⟩:=hI;exact⟨a1,a2,a3,a4,a5,a6,e,h.alloc o⟩
 low d F G W hI hg:=by
  obtain⟨a1,a2,a3,a4,a5,a6,e,h⟩:=hI;exact⟨a1,a2,a3,a4,a5,a6,e,h.lower hg⟩
 step d F W n p hI hpre:=by
  have hm:(n,p)∈bA l:=hpre.subset (by simp);obtain⟨o,ho,rfl,hp⟩:=kL hm;have LT:=hpre.length_le;rw[Mx]at LT;have hlow:La w0 W:=by
   obtain⟨_,_,_,_,_,_,-,h⟩:=hI;exact h.low
  obtain⟨g1,g2⟩:=Hp stays d;have:=Eg w0 W gs g lb stays (xz stays d) F o.name p eg hI hgs (hP o ho p hp) (hst W o.name p hlow hm) (by omega) (fun x hx=>by have:=g2 x hx;omega);rw[<-wQ]at this;exact this
theorem Am(w:LC)(ok l vl g)(lb:Array Value)(stays:Lz->Lz->Bool)(eg:∀ args w,(callFunc g args).run prog w=.ok (.enter g args) w)(hst:∀ W n p,La w W->(n,p)∈bA l->Calls prog g (#[.string ⟨n.toArray⟩,.string ⟨p.toArray⟩]++lb) W fun e w'=>e=.returned (.bool (stays n p))/\La W w')(hl:aB w ok l vl)(hr:bD (l.map aL.name))(hN:(bA l).length<=4000000)(hP:∀ o∈l,∀ x∈o.paths,x.length<=maxLen):Calls prog 101 #[vl,.func (.func g) #[] lb] w fun e w'=>∃ a c,e=.returned (.slice a (dV stays l).length c)/\fA w' w.heap.size (dV stays l) (.slice a (dV stays l).length c)/\La w w':=by
 have HL:=aa hl.low;obtain⟨la,lc,rfl⟩:=hl.form;have ll:=hl.1;unfold maxLen at ll;have HR:=aa (Gn (stays:=stays) hr);obtain⟨W1,hW1⟩:∃ W,W=w.alloc (.cells #[.func (.func g) #[] lb] 149):=⟨_,rfl⟩
 have B1:Ll (La w W1):=aa (by rw[hW1];exact ae _ _);have CS:Ll (W1.cell? ⟨w.heap.size,0,none⟩=some (.func (.func g) #[] lb)):=aa (by
  have h9:W1.heap[w.heap.size]?=some (.cells #[.func (.func g) #[] lb] 149):=by rw[hW1];exact MN _ _
  simp[World.cell?,h9])
 have SZ:Ll (W1.heap.size=w.heap.size+1):=aa (by rw[hW1];simp);have SEES:=aa (DQ (w0:=W1) (gs:=w.heap.size) (stays:=stays) eg CS.o (fun W n p hb hm=>hst W n p (B1.o.trans (hb.mono B1.o.size)) hm) (HL.o.bel B1.o) (fun k hk=>by have:=hk.2;have:=SZ.o;omega) hN hP);have CALL:=aa (nW W1 (W1.alloc (.cells #[.slice none 0 0] 36)) _ l _ _ _ _ (fun k=>k < W1.heap.size) sS SEES.o ⟨[],none,_,_,[],_,rfl,A0 W1⟩);have HW1:=aa hW1;clear hl hr hN hP hst hW1;go_enter func101,ntmps101;go_upto_region 1 with fail
 rw[<-HW1.o];go_upto_region 3 with (go_at_call 126;refine CALL.o.mono ?_;rintro e w7 ⟨rfl,hi7⟩;have I7:=aa hi7;clear hi7)
 obtain⟨ov,r1,r2⟩:=D4.row I7.o;rw[HR.o]at r2;have c0:w7.cell? ⟨W1.heap.size,0,none⟩=some ov:=by simp[World.cell?,r1]
 obtain⟨sa,sc,hsv⟩:∃ sa sc,ov=.slice sa (dV stays l).length sc:=by
  obtain⟨pvs,-,h2,-⟩:=r2;rcases h2.2 with⟨h9,h8⟩ | ⟨_,_,_,h9,-⟩
  ·exact⟨none,0,by rw[h8];exact h9⟩
  ·exact⟨_,_,h9⟩
 subst hsv;have ROW:=aa r2;have LOW:Ll (La w w7):=aa (by
  obtain⟨_,_,_,_,_,_,-,h⟩:=I7.o;exact B1.o.trans (h.low.mono B1.o.size))
 have S1:=aa B1.o.size;clear r1 r2;go_wp2_with fail
 go_ret;exact⟨sa,sc,rfl,ROW.o.base (by have:=S1.o;omega),LOW.o⟩
theorem kR(w)(ty:TypeId)(g o dLen dCap a sLen sCap)(cur:Array Value)(t:TypeId)(cs)(hg:w.heap[g]?=some (.cells cur t (0,0)))(hn:cs.length=Nat.min sLen dLen * 2)(hsrc:∀ j v,cs[j]?=some v->w.cell? (a.add j)=some v)(hfit:o+cs.length<=cur.size)(h1:∀ v∈cs,v.oneCell'=true):(Builtin.copy_ #[36,36] ty #[.slice (some ⟨g,o,none⟩) dLen dCap,.slice (some a) sLen sCap]).run prog w =
 .ok (goInt (Nat.min sLen dLen)) (w.setRow g (cur.toList.take o++cs++cur.toList.drop (o+cs.length)).toArray):=by
 have hl:=run_loadCells_list (P:=prog) w a cs hsrc;have hst:=run_storeCells_at prog g o t cs 0 cur w hg (by simpa using hfit) h1;obtain⟨i0,hi,hz0,hz1,hz2⟩:=info_parts ua;simp[Builtin.copy_,run_underlying underlying36,Builtin.lenOf,Builtin.firstCells,sizeOf,typeInfo,hi,hz1,<-hn,hl,hst]
theorem nC:∀ (os:List aL) (vs:List Value) (i:Nat),os.length=vs.length->ba (os.take i) (vs.take i)=(ba os vs).take (i * 2)
 | [],[],i,_=>by simp[ba]
 | [],_ :: _,i,h=>by simp at h
 | _ :: _,[],i,h=>by simp at h
 | o :: os,v :: vs,0,_=>by simp[ba]
 | o :: os,v :: vs,i+1,h=>by
  rw[List.take_succ_cons,List.take_succ_cons,ba,ba,nC os vs i (by simpa using h),show (i+1) * 2=i * 2+1+1 by omega,List.take_succ_cons,List.take_succ_cons]
theorem nS:∀ (os:List aL) (vs:List Value) (i:Nat),os.length=vs.length->ba (os.drop i) (vs.drop i)=(ba os vs).drop (i * 2)
 | [],[],i,_=>by simp[ba]
 | [],_ :: _,i,h=>by simp at h
 | _ :: _,[],i,h=>by simp at h
 | o :: os,v :: vs,0,_=>by simp
 | o :: os,v :: vs,i+1,h=>by
  rw[List.drop_succ_cons,List.drop_succ_cons,ba,nS os vs i (by simpa using h),show (i+1) * 2=i * 2+1+1 by omega,List.drop_succ_cons,List.drop_succ_cons]
theorem kY:∀ (a:List aL) (va:List Value) (b:List aL) (vb:List Value),a.length=va.length->ba (a++b) (va++vb)=ba a va++ba b vb
 | [],[],b,vb,_=>rfl
 | [],_ :: _,b,vb,h=>by simp at h
 | _ :: _,[],b,vb,h=>by simp at h
 | o :: a,v :: va,b,vb,h=>by simp only[List.cons_append,ba,kY a va b vb (by simpa using h)]
theorem xG{os vs o}(h:os.length=vs.length):ba (os.take i++o :: os.drop i) (vs.take i++v :: vs.drop i)=(ba os vs).take (i * 2)++[.string ⟨o.name.toArray⟩,v]++(ba os vs).drop (i * 2):=by
 rw[kY _ _ _ _ (by simp[h]),nC _ _ _ h];simp only[ba,nS _ _ _ h];simp
theorem oZ:∀ (os:List aL) (vs:List Value),(∀ v∈vs,v.oneCell'=true)->∀ u∈ba os vs,u.oneCell'=true
 | [],_,_,u,hu=>by simp[ba]at hu
 | _ :: _,[],_,u,hu=>by simp[ba]at hu
 | o :: os,v :: vs,h,u,hu=>by
  simp only[ba,List.mem_cons]at hu;rcases hu with rfl | rfl | hu
  ·rfl
  ·exact h _ (by simp)
  ·exact oZ os vs (fun x hx=>h x (by simp[hx])) u hu
theorem ux(w vb b off lb cb)(tA tB:TypeId)(kA kB)(hne:vb≠b)(hsa:w.shape? vb=some (tA,kA))(hsb:w.shape? b=some (tB,kB))(hkB:kB≠0)(hfa:w.frozen? ⟨vb,0,none⟩=false)(hfe:w.frozen? ⟨vb,kA,none⟩=false):(callFunc 172 #[.slice (some ⟨vb,0,none⟩) 1 1,.slice (some ⟨b,off,none⟩) lb cb]).run prog w=.ok (.value (.bool false)) w:=by
 rw[run_callFunc_extern func172 (by kernel_rfl) (by kernel_rfl) (by kernel_rfl) (e:=Extern.SlicesOverlaps.overlaps #[36,36] #[4]) (by kernel_rfl),
  Lib.run_overlaps_apart w 36 4 68 underlying36 2 Tryz.sizeOf68 ⟨vb,0,none⟩ ⟨b,off,none⟩ 1 1 lb cb hne tA tB kA kB hsa hsb hkB hfa hfe]
 rfl
variable {c:Nat}
theorem zQ(n i)(h:i < n):Nat.min 1 (n+1 - i)=1:=by simp only[Nat.min_def];split <;> omega
theorem Dm{cur:List Value}{cells two:List Value}(hs:cur.length=c * 2)(hx:cur.take (n * 2)=cells)(hl:cells.length=n * 2)(h2:two.length=2)(hi:i < n)(hroom:n+1<=c):let a1:=cur.take ((i+1) * 2)++cells.drop (i * 2)++cur.drop ((i+1) * 2+(cells.drop (i * 2)).length)
 let a2:=a1.take (i * 2)++two++a1.drop (i * 2+two.length)
 a1.length=c * 2/\a2.length=c * 2/\a2.take ((n+1) * 2)=cells.take (i * 2)++two++cells.drop (i * 2):=by
 intro a1 a2;have e1:(cur.take ((i+1) * 2)).length=(i+1) * 2:=by rw[MC];omega
 have e2:(cells.drop (i * 2)).length=n * 2 - i * 2:=by rw[MB,hl]
 have l1:a1.length=c * 2:=by simp only[a1,Mx,MB,e1,hs,hl];omega
 have t1:a1.take (i * 2)=cells.take (i * 2):=by
  simp only[a1];rw[List.append_assoc,List.take_append_of_le_length (by rw[e1];omega),List.take_take,<-hx,List.take_take,Nat.min_eq_left (by omega),Nat.min_eq_left (by omega)]
 have t2:a1.drop (i * 2+two.length)=cells.drop (i * 2)++cur.drop ((i+1) * 2+(cells.drop (i * 2)).length):=by
  simp only[a1];rw[h2,List.append_assoc,show i * 2+2=(cur.take ((i+1) * 2)).length by rw[e1];omega,List.drop_left]
 have l2:a2.length=c * 2:=by
  simp only[a2,t1,t2,Mx,MC,MB,hl,hs,h2];omega
 refine⟨l1,l2,?_⟩;simp only[a2,t1,t2];rw[<-List.append_assoc,List.take_append_of_le_length (by simp only[Mx,MC,MB,hl,h2];omega),MD (by simp only[Mx,MC,MB,hl,h2];omega)]
theorem wy(w:LC)(B g n c i vb:Nat)(cur:Array Value)(cells)(name:Lz)(pa)(pn pc:Nat)(hi:i < n)(hroom:n+1<=c)(hc:c<=maxLen)(hBg:B<=g)(hg:w.heap[g]?=some (.cells cur 68 (0,0)))(hs:cur.size=c * 2)(hx:cur.toList.take (n * 2)=cells)(hl:cells.length=n * 2)(hv:w.heap[vb]?=some (.cells #[Value.string ⟨name.toArray⟩,Value.slice pa pn pc] 68))(hvb:vb≠g)(h1:∀ u∈cells,u.oneCell'=true):Calls prog 140 #[.slice (some ⟨g,0,none⟩) n c,.int .i64 i,.slice (some ⟨vb,0,none⟩) 1 1] w fun e w'=>e=.returned (.slice (some ⟨g,0,none⟩) (n+1) c)/\w'.ownsRow B 68 2 (.slice (some ⟨g,0,none⟩) (n+1) c) (n+1) (cells.take (i * 2)++[Value.string ⟨name.toArray⟩,Value.slice pa pn pc]++cells.drop (i * 2))/\w.grownBy w' (some g):=by
 have hov:=fun off lb cb=>ux w vb g off lb cb _ _ 2 (c * 2) hvb (by simp[World.shape?,hv];rfl) (by simp[World.shape?,hg,hs];rfl) (by omega) (by simp[World.frozen?,hv]) (by simp[World.frozen?,hv]);obtain⟨l1,l2,l3⟩:=Dm (cur:=cur.toList) (two:=[Value.string ⟨name.toArray⟩,Value.slice pa pn pc]) (by simpa using hs) hx hl rfl hi hroom;have hcp1:∀ ty dc sc,(Builtin.copy_ #[36,36] ty #[.slice (some ⟨g,(i+1) * 2,none⟩) (n - i) dc,.slice (some ⟨g,i * 2,none⟩) (n+1 - i) sc]).run prog w.drew=.ok (goInt (Nat.min (n+1 - i) (n - i))) (w.drew.setRow g (cur.toList.take ((i+1) * 2)++cells.drop (i * 2)++cur.toList.drop ((i+1) * 2+(cells.drop (i * 2)).length)).toArray):=fun ty dc sc=>
  kR w.drew ty g ((i+1) * 2) (n - i) dc ⟨g,i * 2,none⟩ (n+1 - i) sc cur _ (cells.drop (i * 2)) hg (by rw[MB,hl];simp only[Nat.min_def];split <;> omega)
   (fun j v hj=>by
    rw[List.getElem?_drop,<-hx,List.getElem?_take]at hj;split at hj
    ·rw[Addr.add_lit];simp only[World.cell?,show w.drew.heap=w.heap from rfl,hg];simpa using hj
    ·cases hj)
   (by rw[MB,hl];omega) (fun v hv=>h1 v (List.mem_of_mem_drop hv))
 obtain⟨A1,hA1⟩:∃ A1,A1=(cur.toList.take ((i+1) * 2)++cells.drop (i * 2)++cur.toList.drop ((i+1) * 2+(cells.drop (i * 2)).length)):=⟨_,rfl⟩
 rw[<-hA1]at hcp1 l1 l2 l3;have hgW:(w.drew.setRow g A1.toArray).heap[g]?=some (.cells A1.toArray 68 (0,0)):=setRow_heap w.drew g cur _ _ _ hg;have hvW:(w.drew.setRow g A1.toArray).heap[vb]?=some (.cells #[Value.string ⟨name.toArray⟩,Value.slice pa pn pc] 68):=(setRow_other w.drew g vb _ hvb).trans hv;have hcp2:∀ (W:LC),(∀ k,W.heap[k]?=(w.drew.setRow g A1.toArray).heap[k]?)->∀ ty dc,(Builtin.copy_ #[36,36] ty #[.slice (some ⟨g,i * 2,none⟩) (n+1 - i) dc,.slice (some ⟨vb,0,none⟩) 1 1]).run prog W=.ok (goInt (Nat.min 1 (n+1 - i))) (W.setRow g (A1.take (i * 2)++[Value.string ⟨name.toArray⟩,Value.slice pa pn pc]++A1.drop (i * 2+2)).toArray):=fun W hW ty dc=>
  kR W ty g (i * 2) (n+1 - i) dc ⟨vb,0,none⟩ 1 1 A1.toArray _ [Value.string ⟨name.toArray⟩,Value.slice pa pn pc] ((hW g).trans hgW) (by rw[zQ n i hi];rfl)
   (fun j v hj=>by
    rw[Addr.add_lit];simp only[World.cell?,hW,hvW];simpa using hj)
   (by simp only[My,List.length_nil,List.size_toArray,l1];omega) (by intro u hu;simp only[List.mem_cons,List.not_mem_nil,or_false]at hu;rcases hu with rfl | rfl <;> rfl)
 have HF:Ll (∀ W:LC,W=(w.drew.setRow g A1.toArray).drew.setRow g (A1.take (i * 2)++[Value.string ⟨name.toArray⟩,Value.slice pa pn pc]++A1.drop (i * 2+2)).toArray\/W=(w.drew.setRow g A1.toArray).setRow g (A1.take (i * 2)++[Value.string ⟨name.toArray⟩,Value.slice pa pn pc]++A1.drop (i * 2+2)).toArray->W.ownsRow B 68 2 (.slice (some ⟨g,0,none⟩) (n+1) c) (n+1) (cells.take (i * 2)++[Value.string ⟨name.toArray⟩,Value.slice pa pn pc]++cells.drop (i * 2))/\w.grownBy W (some g)):=aa (by
  intro W hW;have e0:W.heap[g]?=some (.cells (A1.take (i * 2)++[Value.string ⟨name.toArray⟩,Value.slice pa pn pc]++A1.drop (i * 2+2)).toArray 68 (0,0)):=by
   rcases hW with rfl | rfl
   ·exact setRow_heap _ g _ _ _ _ hgW
   ·exact setRow_heap _ g _ _ _ _ hgW
  refine⟨⟨?_,.inr ⟨g,c,_,rfl,hBg,e0,hroom,hc,by simpa using l2,by simpa using l3⟩⟩,?_⟩
  ·simp only[Mx,MC,MB,hl,My,List.length_nil];omega
  ·rcases hW with rfl | rfl <;> refine⟨rfl,rfl,rfl,by simp[World.setRow],fun k hk hne=>?_⟩
   ·have:k≠g:=fun e=>hne (by rw[e]);exact(setRow_other _ g k _ this).trans (setRow_other w.drew g k _ this)
   ·have:k≠g:=fun e=>hne (by rw[e]);exact(setRow_other _ g k _ this).trans (setRow_other w.drew g k _ this))
 have q0:((i:Int) == (n:Int))=false:=by rw[MO];omega
 have q1:(0:Int)<=(i:Int):=by omega
 have q2:(i:Int)<=(n:Int):=by omega
 have q3:¬(c:Int) < (n:Int)+1:=by omega
 have q4:(n:Int)+1<=(c:Int):=by omega
 have q5:(0:Int)<=(n:Int)+1:=by omega
 have q6:(i:Int)+1<=(n:Int)+1:=by omega
 have q7:(0:Int)<=(i:Int)+1:=by omega
 unfold maxLen at hc;have hcl:(c:Int)<=9223372036854775807:=by omega
 have hw1:IntKind.i64.wrap ((i:Int)+1)=(i:Int)+1:=by rw[IntKind.wrap_i64];omega
 have htn:((i:Int)+1).toNat=i+1:=by omega
 have q8:(i:Int)<=(n:Int)+1:=by omega
 have hc1:=hcp1 3 (c - (i+1)) (c - i);have hc2:=hcp2 (w.drew.setRow g A1.toArray) (fun _=>rfl) 3 (c - i);have z1:¬(c=i):=by omega
 have z2:¬(c=i+1):=by omega
 clear hcp1 hcp2 hgW hvW l1 l2 l3 hA1 hx hl h1 hv hg hs;go_enter func140,ntmps140;go_wp2_with (simp only[hov])
 go_region
 go_wp2_with (simp only[hc2])
 go_ret;exact⟨rfl,HF.o _ (.inr (by simp))⟩
theorem Cf{R cells two Z:List Value}{G:Nat}(hR:R=cells.take (i * 2)++Z)(hZ:Z.length=(G - i) * 2)(hl:cells.length=n * 2)(h2:two.length=2)(hi:i < n)(hG:n+1<=G):let a1:=R.take (i * 2)++two++R.drop (i * 2+two.length)
 let a2:=a1.take ((i+1) * 2)++cells.drop (i * 2)++a1.drop ((i+1) * 2+(cells.drop (i * 2)).length)
 R.length=G * 2/\a1.length=G * 2/\a2.length=G * 2/\a2.take ((n+1) * 2)=cells.take (i * 2)++two++cells.drop (i * 2):=by
 intro a1 a2;have e1:(cells.take (i * 2)).length=i * 2:=by rw[MC];omega
 have l0:R.length=G * 2:=by rw[hR,Mx,e1,hZ];omega
 have t1:R.take (i * 2)=cells.take (i * 2):=by rw[hR,List.take_append_of_le_length (by omega),MD (by omega)]
 have l1:a1.length=G * 2:=by simp only[a1,t1,Mx,MB,e1,l0,h2];omega
 have t2:a1.take ((i+1) * 2)=cells.take (i * 2)++two:=by
  simp only[a1,t1];rw[List.take_append_of_le_length (by rw[Mx];omega),MD (by rw[Mx];omega)]
 have l2:a2.length=G * 2:=by simp only[a2,t2,Mx,MB,e1,h2,l1,hl];omega
 refine⟨l0,l1,l2,?_⟩;simp only[a2,t2];rw[List.take_append_of_le_length (by simp only[Mx,MB,e1,hl,h2];omega),MD (by simp only[Mx,MB,e1,hl,h2];omega)]
theorem uy(w:LC)(B g n c i vb:Nat)(cur:Array Value)(cells)(name:Lz)(pa)(pn pc:Nat)(hi:i < n)(hnc:n<=c)(hroom:c < n+1)(hn:n<=4000000)(hB:B<=w.heap.size)(hg:w.heap[g]?=some (.cells cur 68 (0,0)))(hx:cur.toList.take (n * 2)=cells)(hl:cells.length=n * 2)(hv:w.heap[vb]?=some (.cells #[.string ⟨name.toArray⟩,.slice pa pn pc] 68))(h1:∀ u∈cells,u.oneCell'=true):Calls prog 140 #[.slice (some ⟨g,0,none⟩) n c,.int .i64 i,.slice (some ⟨vb,0,none⟩) 1 1] w fun e w'=>∃ G,e=.returned (.slice (some ⟨w.heap.size,0,none⟩) (n+1) G)/\w'.ownsRow B 68 2 (.slice (some ⟨w.heap.size,0,none⟩) (n+1) G) (n+1) (cells.take (i * 2)++[Value.string ⟨name.toArray⟩,Value.slice pa pn pc]++cells.drop (i * 2))/\w.grownBy w' none:=by
 obtain⟨i0,hi0,hz0,hz1,hz2⟩:=info_parts ua;have hgl:=(MF.1 hg).1;have hvl:=(MF.1 hv).1;have LV:∀ j v,cells[j]?=some v->w.cell? ⟨g,j,none⟩=some v:=fun j v hj=>by
  rw[<-hx,List.getElem?_take]at hj;split at hj
  ·simp only[World.cell?,hg];simpa using hj
  ·cases hj
 have hold:(Builtin.firstCells i0.size i (.slice (some ⟨g,0,none⟩) i c)).run prog w.drew=.ok (cells.take (i * 2)).toArray w.drew:=by
  rw[hz1];exact run_firstCells_some w.drew 2 i ⟨g,0,none⟩ i c (cells.take (i * 2)) (by rw[MC];omega) (fun j v hj=>by
   rw[Addr.add_lit,Nat.zero_add];rw[List.getElem?_take]at hj;split at hj
   ·exact LV j v hj
   ·cases hj)
 have hik:i+(n+1 - i)=n+1:=by omega
 have hkk:(n:Int)+1 - (i:Int)=((n+1 - i:Nat):Int):=by omega
 have hrz:=Lib.run_append_grow_zeros w 36 3 36 68 i0 _ .i64 .i64 underlying36 underlying3 hi0 hz0 (some ⟨g,0,none⟩) i c (cells.take (i * 2)) hold (n+1 - i) (by omega) (by omega) (by omega) (by omega) (by rw[hz2];omega) (by rw[hz2,hik];exact growslice_fits hroom (by omega));rw[hik,<-hkk]at hrz;have hGn:=grownCap_ge w (n+1) c 68;have hGm:=grownCap_le_maxLen w (n+1) c 68 (by unfold maxLen;omega);obtain⟨G,hG⟩:∃ G,G=grownCap w (n+1) c 68:=⟨_,rfl⟩
 rw[<-hG]at hrz hGn hGm;obtain⟨Z,hZ,hZl⟩:∃ Z:List Value,(Builtin.zeroCells (Value.agg #[.string ⟨#[]⟩,.slice none 0 0]).cells (n+1 - i)).toList++(Builtin.zeroCells (Value.agg #[.string ⟨#[]⟩,.slice none 0 0]).cells (G - (n+1))).toList=Z/\Z.length=(G - i) * 2:=⟨_,rfl,by
  simp only[Mx,Array.length_toList,size_zeroCells];have:(Value.agg #[.string ⟨#[]⟩,.slice none 0 0]).cells.size=2:=by rfl
  rw[this];omega⟩
 obtain⟨R,hR⟩:∃ R:List Value,R=cells.take (i * 2)++Z:=⟨_,rfl⟩
 obtain⟨l0,l1,l2,l3⟩:=Cf (two:=[Value.string ⟨name.toArray⟩,Value.slice pa pn pc]) hR hZl hl rfl hi hGn;have hRR:(cells.take (i * 2)).toArray++Builtin.zeroCells (Value.agg #[.string ⟨#[]⟩,.slice none 0 0]).cells (n+1 - i)++Builtin.zeroCells (Value.agg #[.string ⟨#[]⟩,.slice none 0 0]).cells (G - (n+1))=R.toArray:=by
  apply Array.toList_inj.1;rw[hR,<-hZ];simp
 rw[hRR]at hrz;obtain⟨A1,hA1⟩:∃ A1,A1=R.take (i * 2)++[Value.string ⟨name.toArray⟩,Value.slice pa pn pc]++R.drop (i * 2+2):=⟨_,rfl⟩
 have e2:[Value.string ⟨name.toArray⟩,Value.slice pa pn pc].length=2:=rfl;rw[e2,<-hA1]at l1 l2 l3;have hgW:∀ k,k < w.heap.size->(w.drew.alloc (.cells R.toArray 68)).heap[k]?=w.heap[k]?:=fun k hk=>heap_alloc_old w.drew _ hk;have hnW:(w.drew.alloc (.cells R.toArray 68)).heap[w.heap.size]?=some (.cells R.toArray 68 (0,0)):=MN w.drew _;have hcpA:∀ (W:LC),(∀ k,W.heap[k]?=(w.drew.alloc (.cells R.toArray 68)).heap[k]?)->∀ ty dc,(Builtin.copy_ #[36,36] ty #[.slice (some ⟨w.heap.size,i * 2,none⟩) (n+1 - i) dc,.slice (some ⟨vb,0,none⟩) 1 1]).run prog W=.ok (goInt (Nat.min 1 (n+1 - i))) (W.setRow w.heap.size A1.toArray):=fun W hW ty dc=>by
  rw[hA1];exact kR W ty w.heap.size (i * 2) (n+1 - i) dc ⟨vb,0,none⟩ 1 1 R.toArray _ [.string ⟨name.toArray⟩,.slice pa pn pc] ((hW _).trans hnW) (by rw[zQ n i hi];rfl)
   (fun j v hj=>by
    rw[Addr.add_lit];simp only[World.cell?,hW,hgW vb hvl,hv];simpa using hj)
   (by simp only[My,List.length_nil,List.size_toArray,l0];omega) (by intro u hu;simp only[List.mem_cons,List.not_mem_nil,or_false]at hu;rcases hu with rfl | rfl <;> rfl)
 have hcpB:∀ (W W0:LC),(∀ k,W0.heap[k]?=(w.drew.alloc (.cells R.toArray 68)).heap[k]?)->(∀ k,W.heap[k]?=(W0.setRow w.heap.size A1.toArray).heap[k]?)->∀ ty dc sc,(Builtin.copy_ #[36,36] ty #[.slice (some ⟨w.heap.size,(i+1) * 2,none⟩) (n - i) dc,.slice (some ⟨g,i * 2,none⟩) (n - i) sc]).run prog W=.ok (goInt (Nat.min (n - i) (n - i))) (W.setRow w.heap.size (A1.take ((i+1) * 2)++cells.drop (i * 2)++A1.drop ((i+1) * 2+(cells.drop (i * 2)).length)).toArray):=fun W W0 hW0 hW ty dc sc=>
  kR W ty w.heap.size ((i+1) * 2) (n - i) dc ⟨g,i * 2,none⟩ (n - i) sc A1.toArray _ (cells.drop (i * 2)) ((hW _).trans (setRow_heap W0 _ R.toArray _ _ _ ((hW0 _).trans hnW))) (by rw[MB,hl];simp only[Nat.min_def];split <;> omega)
   (fun j v hj=>by
    rw[List.getElem?_drop]at hj;have:=LV _ v hj;rw[Addr.add_lit];simp only[World.cell?]at this ⊢;rw[hW,setRow_other W0 w.heap.size g _ (Nat.ne_of_lt hgl),hW0,hgW g hgl];exact this)
   (by simp only[MB,hl,List.size_toArray,l1];omega) (fun v hv=>h1 v (List.mem_of_mem_drop hv))
 have HF:Ll (∀ (W W0 W1:LC),(∀ k,W0.heap[k]?=(w.drew.alloc (.cells R.toArray 68)).heap[k]?)->(∀ k,W1.heap[k]?=(W0.setRow w.heap.size A1.toArray).heap[k]?)->W=W1.setRow w.heap.size (A1.take ((i+1) * 2)++cells.drop (i * 2)++A1.drop ((i+1) * 2+(cells.drop (i * 2)).length)).toArray->w.os=W.os->w.tape=W.tape->w.output=W.output->w.heap.size<=W.heap.size->W.ownsRow B 68 2 (.slice (some ⟨w.heap.size,0,none⟩) (n+1) G) (n+1) (cells.take (i * 2)++[Value.string ⟨name.toArray⟩,Value.slice pa pn pc]++cells.drop (i * 2))/\w.grownBy W none):=aa (by
  intro W W0 W1 hW0 hW1 hW g1 g2 g3 g4;have e1:=(hW1 w.heap.size).trans (setRow_heap W0 w.heap.size R.toArray A1.toArray _ _ ((hW0 _).trans hnW));have e0:=setRow_heap W1 w.heap.size A1.toArray (A1.take ((i+1) * 2)++cells.drop (i * 2)++A1.drop ((i+1) * 2+(cells.drop (i * 2)).length)).toArray _ _ e1;rw[<-hW]at e0;refine⟨⟨?_,.inr ⟨w.heap.size,G,_,rfl,hB,e0,hGn,hGm,by simpa using l2,by simpa using l3⟩⟩,⟨g1.symm,g2.symm,g3.symm,g4,fun k hk _=>?_⟩⟩
  ·simp only[Mx,MC,MB,hl,My,List.length_nil];omega
  ·have:k≠w.heap.size:=by omega
   rw[hW,setRow_other W1 _ k _ this,hW1,setRow_other W0 _ k _ this,hW0,hgW k hk])
 unfold maxLen at hGm;have HA:=aa hcpA;have HB2:=aa hcpB;have q0:((i:Int) == (n:Int))=false:=by rw[MO];omega
 have q1:(0:Int)<=(i:Int):=by omega
 have q2:(i:Int)<=(n:Int):=by omega
 have q3:(c:Int) < (n:Int)+1:=by omega
 have q8:(i:Int)<=(c:Int):=by omega
 have hw1:IntKind.i64.wrap ((i:Int)+1)=(i:Int)+1:=by rw[IntKind.wrap_i64];omega
 have hw2:IntKind.i64.wrap ((n:Int)+1 - (i:Int))=(n:Int)+1 - (i:Int):=by rw[IntKind.wrap_i64];omega
 have htn:((i:Int)+1).toNat=i+1:=by omega
 have q6:(i:Int)+1<=(n:Int)+1:=by omega
 have q7:(0:Int)<=(i:Int)+1:=by omega
 have q9:(i:Int)<=(n:Int)+1:=by omega
 have hGi:¬(G=i):=by omega
 have hGim:¬(G=i+1):=by omega
 have hci:¬(c=i):=by omega
 have hcl:(c:Int)<=9223372036854775807:=by omega
 have hrz2:=aa hrz;clear hcpA hcpB hA1 hR hRR hZ hZl l0 l1 l2 l3 e2 hgW hnW hx hl h1 hg hv hold hik hkk hz0 hz1 hz2 hi0 LV hrz hG;go_enter func140,ntmps140;go_wp2_with (at_builtin;refine Lib.wpList_append_run _ rfl _ _ _ _ rfl (.slice (some ⟨g,0,none⟩) i c) (.int .i64 ((n:Int)+1 - (i:Int))) rfl rfl _ _ hrz2.o ?_)
 have hA:=HA.o ((w.alloc (.cells R.toArray 68)).drew) (fun _=>rfl) 3 (G - i);go_wp2_with (simp only[hA])
 have hB9:=HB2.o (((w.alloc (.cells R.toArray 68)).drew.setRow w.heap.size A1.toArray).drew) _ (fun _=>rfl) (fun _=>rfl) 3 (G - (i+1)) (c - i);go_region
 go_wp2_with fail
 go_ret;exact⟨G,rfl,HF.o _ ((w.alloc (.cells R.toArray 68)).drew) (((w.alloc (.cells R.toArray 68)).drew.setRow w.heap.size A1.toArray).drew) (fun _=>rfl) (fun _=>rfl) (by simp) rfl rfl rfl (by simp[World.setRow])⟩
theorem yz(w:LC)(B n vb:Nat)(r cells)(name:Lz)(pa)(pn pc:Nat)(h:w.ownsRow B 68 2 r n cells)(hv:w.heap[vb]?=some (.cells #[.string ⟨name.toArray⟩,.slice pa pn pc] 68))(hn:n<=4000000)(hB:B<=w.heap.size):Calls prog 140 #[r,.int .i64 n,.slice (some ⟨vb,0,none⟩) 1 1] w fun e w'=>∃ g cap,e=.returned (.slice (some ⟨g,0,none⟩) (n+1) cap)/\w'.ownsRow B 68 2 (.slice (some ⟨g,0,none⟩) (n+1) cap) (n+1) (cells++[.string ⟨name.toArray⟩,.slice pa pn pc])/\w.grownBy w' r.ownBlock/\(r.ownBlock=some g\/w.heap.size=g):=by
 obtain⟨g,cap,W',hR,ho,hg,hgg⟩:=mW h hv hn hB 36;have HR:=aa hR;have HO:=aa ho;have HG:=aa hg;have HH:=aa hgg;have q1:((n:Int) == (n:Int))=true:=by simp
 rcases h.2 with⟨rfl,h0⟩ | ⟨g0,c0,cur,rfl,h1,h2,h3,h4,h5,h6⟩
 ·subst h0;clear hR ho hg h hgg;go_enter func140,ntmps140;go_wp2_with (at_builtin;go_must (refine Lib.wpList_append_run _ rfl _ _ _ _ rfl (.slice none 0 0) (.slice (some ⟨vb,0,none⟩) 1 1) rfl rfl _ _ HR.o ?_);refine Ll.o ?_)
  refine aa ?_;go_wp2_with fail
  go_ret;exact⟨g,cap,rfl,HO.o,HG.o,HH.o⟩
 ·unfold maxLen at h4;have x1:(n:Int)<=(c0:Int):=by omega
  have x2:(0:Int)<=(n:Int):=by omega
  have x3:(n:Int)<=9223372036854775807:=by omega
  clear hR ho hg h h1 h2 h5 h6 hgg;go_enter func140,ntmps140;go_wp2_with (at_builtin;go_must (refine Lib.wpList_append_run _ rfl _ _ _ _ rfl (.slice (some ⟨g0,0,none⟩) n c0) (.slice (some ⟨vb,0,none⟩) 1 1) rfl rfl _ _ HR.o ?_);refine Ll.o ?_)
  all_goals
   refine aa ?_;go_wp2_with fail
   go_ret;exact⟨g,cap,rfl,HO.o,HG.o,HH.o⟩
theorem BJ(w:World)(B n i vb:Nat)(r cells)(name:List UInt8)(pa)(pn pc:Nat)(h:w.ownsRow B 68 2 r n cells)(hv:w.heap[vb]?=some (.cells #[.string ⟨name.toArray⟩,.slice pa pn pc] 68))(hi:i<=n)(hn:n<=4000000)(hB:B<=w.heap.size)(hvb:∀ g,r.ownBlock=some g->vb≠g)(h1:∀ u∈cells,u.oneCell'=true):Calls prog 140 #[r,.int .i64 i,.slice (some ⟨vb,0,none⟩) 1 1] w fun e w'=>∃ g cap,e=.returned (.slice (some ⟨g,0,none⟩) (n+1) cap)/\w'.ownsRow B 68 2 (.slice (some ⟨g,0,none⟩) (n+1) cap) (n+1) (cells.take (i * 2)++[Value.string ⟨name.toArray⟩,Value.slice pa pn pc]++cells.drop (i * 2))/\w.grownBy w' r.ownBlock:=by
 by_cases he:i=n
 ·subst he;refine(yz w B i vb r cells name pa pn pc h hv hn hB).mono ?_;rintro e w' ⟨g,cap,rfl,h2,h3,-⟩;refine⟨g,cap,rfl,?_,h3⟩;rw[MD (by rw[h.1];omega),List.drop_eq_nil_of_le (by rw[h.1];omega),List.append_nil];exact h2
 ·rcases h.2 with⟨rfl,h0⟩ | ⟨g,c,cur,rfl,g1,g2,g3,g4,g5,g6⟩
  ·omega
  ·by_cases hroom:n+1<=c
   ·refine(wy w B g n c i vb cur cells name pa pn pc (by omega) hroom g4 g1 g2 g5 g6 h.1 hv (hvb g rfl) h1).mono ?_;rintro e w' ⟨rfl,h2,h3⟩;exact⟨g,c,rfl,h2,h3⟩
   ·refine(uy w B g n c i vb cur cells name pa pn pc (by omega) g3 (by omega) hn hB g2 g6 h.1 hv h1).mono ?_;rintro e w' ⟨G,rfl,h2,h3⟩;exact⟨_,G,rfl,h2,h3.os,h3.tape,h3.output,h3.size,fun k hk _=>h3.block k hk (by simp)⟩
theorem Ds{os:List aL}{pvs:List Value}{i:Nat}{o:aL}{v}{P:aL->Value->Prop}(hl:os.length=pvs.length)(hi:i<=os.length)(hP:∀ (j:Nat) (x:aL) (u:Value),os[j]?=some x->pvs[j]?=some u->P x u)(ho:P o v):∀ (j:Nat) (x:aL) (u:Value),(os.take i++o :: os.drop i)[j]?=some x->(pvs.take i++v :: pvs.drop i)[j]?=some u->P x u:=by
 intro j x u hx hu;have e1:(os.take i).length=i:=by rw[MC];omega
 have e2:(pvs.take i).length=i:=by rw[MC];omega
 by_cases h1:j < i
 ·rw[List.getElem?_append_left (by omega),List.getElem?_take_of_lt h1]at hx hu;exact hP j x u hx hu
 ·rw[List.getElem?_append_right (by omega)]at hx hu;rw[e1]at hx;rw[e2]at hu;rcases hd:j - i with _ | d
  ·rw[hd]at hx hu;simp only[List.getElem?_cons_zero,Option.some.injEq]at hx hu;subst hx;subst hu;exact ho
  ·rw[hd]at hx hu;simp only[List.getElem?_cons_succ,List.getElem?_drop]at hx hu;exact hP _ x u hx hu
theorem zB{w w':World}{B i g cap:Nat}{os:List aL}{pvs:List Value}{r:Value}{o:aL}{pa:Option Addr}{pc:Nat}{okp:Nat->Prop}(h1:os.length=pvs.length)(h3:∀ (i:Nat) (o:aL) (v:Value),os[i]?=some o->pvs[i]?=some v->(∃ a c,v=.slice a o.paths.length c)/\ao w (fun k=>B<=k/\some k≠r.ownBlock) o.paths v)(hi:i<=os.length)(hn:∀ o∈os,o.name.length<=maxLen)(hno:o.name.length<=maxLen)(ho:ao w okp o.paths (.slice pa o.paths.length pc))(hoff:∀ k,okp k->some k≠r.ownBlock)(hrow:w'.ownsRow B 68 2 (.slice (some ⟨g,0,none⟩) (os.length+1) cap) (os.length+1) ((ba os pvs).take (i * 2)++[Value.string ⟨o.name.toArray⟩,Value.slice pa o.paths.length pc]++(ba os pvs).drop (i * 2)))(hg:w.grownBy w' r.ownBlock):aB w' (fun k=>B<=k\/okp k) (os.take i++o :: os.drop i) (.slice (some ⟨g,0,none⟩) (os.take i++o :: os.drop i).length cap):=by
 have LT:(os.take i++o :: os.drop i).length=os.length+1:=by simp only[Mx,My,MC,MB];omega
 have hlenv:(pvs.take i++.slice pa o.paths.length pc :: pvs.drop i).length=os.length+1:=by simp only[Mx,My,MC,MB];omega
 have hp:=Ds (P:=fun x u=>x.name.length<=maxLen/\(∃ a c,u=.slice a x.paths.length c)/\ao w' (fun k=>B<=k\/okp k) x.paths u) (o:=o) (v:=.slice pa o.paths.length pc) h1 hi
  (fun j x u hx hu=>⟨hn x (List.mem_of_getElem? hx),(h3 j x u hx hu).1,(h3 j x u hx hu).2.imp fun a y q1 q2=>⟨.inl q1.1,hg.cell q2 q1.2⟩⟩)
  ⟨hno,⟨_,_,rfl⟩,ho.imp fun a y q1 q2=>⟨.inr q1,hg.cell q2 (hoff _ q1)⟩⟩
 rw[<-xG h1]at hrow;obtain⟨g1,g3,g4⟩:B<=g/\os.length+1<=cap/\cap<=maxLen:=by
  rcases hrow.2 with⟨h0,-⟩ | ⟨g',cap',cur,e,q1,q2,q3,q4,q5,q6⟩
  ·cases h0
  ·cases e;exact⟨q1,q3,q4⟩
 refine⟨by rw[LT];omega,.inr ⟨g,0,cap,rfl,by rw[LT];exact g3,g4,fun j x hx=>?_⟩⟩;obtain⟨hj,-⟩:=Mz.1 hx;obtain⟨u,hu⟩:∃ u,(pvs.take i++.slice pa o.paths.length pc :: pvs.drop i)[j]?=some u:=⟨_,Mw (by omega)⟩
 obtain⟨p1,⟨a,c,rfl⟩,p3⟩:=hp j x u hx hu;obtain⟨e1,e2⟩:=kN _ _ j _ _ hx hu;refine⟨a,_,c,p1,.inl g1,?_,?_,p3⟩
 ·rw[Nat.zero_add];exact(dJ hrow (by omega) e1).1
 ·rw[Nat.zero_add];exact(dJ hrow (by omega) e2).1
theorem Dy(os p):bB os p<=os.length:=by
 unfold bB;exact List.countP_le_length
theorem JW{w:World}{B:Nat}{os:List aL}{pvs:List Value}{ok}(h1:os.length=pvs.length)(h3:∀ (i:Nat) (o:aL) (v:Value),os[i]?=some o->pvs[i]?=some v->(∃ a c,v=.slice a o.paths.length c)/\ao w ok o.paths v):∀ v∈pvs,v.oneCell'=true:=by
 intro v hv;obtain⟨i,hi,rfl⟩:=List.getElem_of_mem hv;obtain⟨⟨a,c,e⟩,-⟩:=h3 i _ _ (Mw (by omega)) (Mw hi);rw[e];rfl
theorem ue(w:World)(B os r o pa pc okp)(h:fA w B os r)(hn:∀ o∈os,o.name.length<=maxLen)(hr:bD (os.map aL.name))(LT:os.length<=4000000)(hB:B<=w.heap.size)(hno:o.name.length<=maxLen)(ho:ao w okp o.paths (.slice pa o.paths.length pc))(hoff:∀ k,okp k->some k≠r.ownBlock):Calls prog 107 #[r,.agg #[.string ⟨o.name.toArray⟩,.slice pa o.paths.length pc]] w fun e w'=>∃ a c,e=.returned (.slice a (bP os o).length c)/\aB w' (fun k=>B<=k\/okp k) (bP os o) (.slice a (bP os o).length c)/\w.grownBy w' r.ownBlock:=by
 have OW:=aa (h.owns hn);obtain⟨ra,rc,hform⟩:=(h.owns hn).form;by_cases hp0:o.paths=[]
 ·have E:Ll (bP os o=os):=aa (by unfold bP;rw[if_pos hp0]);have z0:o.paths.length=0:=by rw[hp0];rfl
  rw[z0];subst hform;have GB:Ll (∀ o,w.grownBy (w.alloc o) (Value.slice ra os.length rc).ownBlock):=aa (fun o=>aq (ae w o));clear hp0 z0 ho h hn hr;go_enter func107,ntmps107;go_wp2_with fail
  go_ret;exact⟨ra,rc,by rw[E.o];rfl,by rw[E.o];exact(OW.o.bel (ae w _)).weak fun k hk=>.inl hk,GB.o _⟩
 ·have E:Ll (bP os o=os.take (bB os o.name)++o :: os.drop (bB os o.name)):=aa (by unfold bP;rw[if_neg hp0]);have z0:((o.paths.length:Int) == 0)=false:=by
   rw[MO];have:o.paths.length≠0:=fun e=>hp0 (List.length_eq_zero_iff.1 e);omega
  obtain⟨pvs,h1,h2,h3⟩:=h;have FI:Ll (∀ W,La w W->Calls prog 139 #[r,.string ⟨o.name.toArray⟩] W fun e w'=>e=.returned (.tuple #[.int .i64 (bB os o.name:Nat),.bool ((os.map aL.name).contains o.name)])/\La W w'):=aa (fun W hW=>qo W _ os r o.name (OW.o.bel hW) hr (by omega));obtain⟨i,hie⟩:∃ i,bB os o.name=i:=⟨_,rfl⟩
  have hi:i<=os.length:=hie ▸ Dy os o.name;have IN:Ll (∀ W vb,La w W->w.heap.size<=vb->W.heap[vb]?=some (.cells #[.string ⟨o.name.toArray⟩,.slice pa o.paths.length pc] 68)->Calls prog 140 #[r,.int .i64 i,.slice (some ⟨vb,0,none⟩) 1 1] W fun e w'=>∃ g cap,e=.returned (.slice (some ⟨g,0,none⟩) (os.length+1) cap)/\aB w' (fun k=>B<=k\/okp k) (os.take i++o :: os.drop i) (.slice (some ⟨g,0,none⟩) (os.take i++o :: os.drop i).length cap)/\w.grownBy w' r.ownBlock):=aa (fun W vb hW hvb hv=>by
   refine(BJ W B os.length i vb r (ba os pvs) o.name pa o.paths.length pc (bM h2 fun g hg=>hW.block g (bY h2 hg).2) hv hi LT (by have:=hW.size;omega) (fun g hg=>by have:=(bY h2 hg).2;omega) (oZ os pvs (JW (B:=B) h1 h3))).mono ?_;rintro e w' ⟨g,cap,rfl,q1,q2⟩;have q3:=am (aq hW) q2;exact⟨g,cap,rfl,zB h1 h3 hi hn hno ho hoff q1 q3,q3⟩)
  obtain⟨bb,LW⟩:∃ bb,(os.map aL.name).contains o.name=bb:=⟨_,rfl⟩
  rw[LW]at FI;rw[hie]at E FI;clear hie LW hp0 h1 h2 h3 hn hr ho OW;subst hform;have B0:Ll (∀ o,La w (w.alloc o)):=aa (fun o=>ae w o);have A1:Ll (∀ w1,La (w.alloc (.cells #[.string ⟨o.name.toArray⟩,.slice pa o.paths.length pc] 68)) w1->w1.cell? ⟨w.heap.size,0,none⟩=some (.string ⟨o.name.toArray⟩)/\w1.cell? ⟨w.heap.size,1,none⟩=some (.slice pa o.paths.length pc)/\w.heap.size<=w1.heap.size/\∀ o,La w (w1.alloc o)):=aa (fun w1 hb=>by
   refine⟨ah hb (by rw[World.cell?_alloc_at _ _ _ _ rfl];rfl),ah hb (by rw[World.cell?_alloc_at _ _ _ _ rfl];rfl),?_,fun o=>?_⟩
   ·have:=hb.size;simp at this;omega
   ·have b1:=(ae w _).trans (hb.mono (by simp));exact b1.trans ((ae w1 o).mono b1.size))
  have NB:Ll (∀ (w1:World) o,(w1.alloc o).heap[w1.heap.size]?=some o):=aa (fun w1 o=>MN w1 o);go_enter func107,ntmps107;go_wp2_with (first
   |(go_at_call 139;go_must (refine(FI.o _ (B0.o _)).mono ?_);rintro e w1 ⟨rfl,hb⟩;obtain⟨c0,c1,s1,b1⟩:=A1.o _ hb;have S1:=aa s1;have B1:=aa b1;clear hb s1 b1)
   |(go_at_call 140;go_must (refine(IN.o _ _ (B1.o _) S1.o (NB.o _ _)).mono ?_);rintro e w3 ⟨g,cap,rfl,p1,p2⟩;have P1:=aa p1;have P2:=aa p2;clear p1 p2))
  go_ret;refine⟨some ⟨g,0,none⟩,cap,?_,?_,P2.o⟩
  ·rw[E.o];have:(os.take i++o :: os.drop i).length=os.length+1:=by simp only[Mx,My,MC,MB];omega
   rw[this];rfl
  ·rw[E.o];exact P1.o
section
attribute [local go_sem ↓] Go.wp_at_zero Go.wp_at_succ
theorem yY(w:LC)(ok okh oko LQ t L had LX wv v hv ov)(h:dB w ok LQ L wv)(ht:In w ok t v)(hh:ao w okh had hv)(ho:aB w oko LX ov)(hM:bj w)(hob:fL t)(hk5:t.kind=5)(hL:∀ p∈had,p.length<=140737488351232/\aw p≠[])(hr:bD L)(hn:L.length < 4611686018427387904)(hc:fa t<=20000):Calls prog 105 #[wv,v,hv,ov] w fun e w'=>∃ r,e=.returned r/\In w' (bQ ok w.heap.size) (dj L LX had t) r/\La w w'/\fL (dj L LX had t)/\fa (dj L LX had t)<=20000/\(dj L LX had t).kind=5:=by
 have HWI:=aa h;obtain⟨a5,b5,la,c5,d5,lc,rfl,h1,h2⟩:=h;obtain⟨a1,b1,c1,d1,rfl⟩:=ht.form;obtain⟨oa,oc,rfl⟩:=ho.form;obtain⟨ha,hcp,rfl⟩:=hh.form;have HT:=aa ht.low;have HHS:=aa hh;have HOS:=aa ho;have GM:Ll (∀ W,La w W->bj W):=fun W hW=>hM.bel hW;have HL:=aa hL;have HR:=aa hr;have HN:=aa hn;have ll:=h2.1;unfold maxLen at ll;have lh:=hh.1;unfold maxLen at lh;have I0:Ll (∃ (y:V) (a2 b2:Option Addr) (c2 d2:Nat),Ll (dj L LX had t=dj L LX (had.drop 0) y/\fL y/\fa y<=20000/\y.kind=5)/\Ll (jG w ok LQ L la a5 b5 lc c5 d5 y a2 b2 c2 d2 (((w.alloc (.cells #[.int .i64 LQ.kind,.int .i64 LQ.n,.string ⟨LQ.s.toArray⟩,.slice a5 LQ.keys.length c5,.slice b5 LQ.l.length d5,.slice la L.length lc] 145)).alloc (.cells (KV t a1 c1 b1 d1) 35)).alloc (.cells Lb 35)))):=aa ⟨t,a1,b1,c1,d1,aa ⟨rfl,hob,hc,hk5⟩,aa ⟨lI _ _ _ _,mE _ _ _ _,jI _ _ _ _,ab (ab (ae _ _) (ae _ _)) (ae _ _),(Ft HT.o).bel (ab (ab (ae _ _) (ae _ _)) (ae _ _))⟩⟩;clear h1 h2 ht hM hob hL hn hc hk5 hr hh ho;go_enter func105,ntmps105;go_upto_region 2 with fail
 go_loopg [15] had.length (fun gk i wr=>∃ k:Nat,k<=had.length/\gk=had.length - k/\i=.int .i64 k/\∃ (y:V) (a2 b2:Option Addr) (c2 d2:Nat),Ll (dj L LX had t=dj L LX (had.drop k) y/\fL y/\fa y<=20000/\y.kind=5)/\Ll (jG w ok LQ L la a5 b5 lc c5 d5 y a2 b2 c2 d2 wr))
 case atStart=>exact⟨0,Nat.zero_le _,rfl,rfl,I0.o⟩
 case round=>
  obtain⟨k,hk,hgk,rfl,y,a2,b2,c2,d2,IY,KR⟩:=hrel;have GK:=aa hgk;clear hgk;by_cases hlt:k < had.length
  ·obtain⟨b,off,rfl,j1,j2,hcl⟩:=gQ HHS.o hlt;unfold maxLen at j2;have LV:=ah KR.o.2.2.2.1 hcl;have w2:(k:Int) < (had.length:Int):=by omega
   have w3:(0:Int)<=(k:Int):=by omega
   obtain⟨hp1,hp2⟩:=HL.o had[k] (List.getElem_mem hlt);have FS:Ll (dj L LX (had.drop k) y=dj L LX (had.drop (k+1)) (if ((dr (aw had[k]) y).isSome&&!(L.contains had[k] || concF LX had[k]))=true then gI (aw had[k]) y else y)):=aa (by rw[ME hlt];rfl);obtain⟨p,hp⟩:∃ p,had[k]=p:=⟨_,rfl⟩
   rw[hp]at LV hp1 hp2 FS;clear hp hcl;have HPL:=aa hp1;have NNE:=aa hp2;have OY:=aa IY.o.2.1;have CY:Ll (fa y<=90000):=aa (by have:=IY.o.2.2.1;omega);have HD:=aa IY.o.1;have ST:=aa (gD wr (bg ok w.heap.size (w.heap.size+3)) y (.agg (KV y a2 c2 b2 d2)) p (by exact KR.o.2.2.2.2) hp1 (GM.o _ KR.o.2.2.2.1));obtain⟨x,hx⟩:∃ x,(dr (aw p) y).getD aM=x:=⟨_,rfl⟩
   obtain⟨th,hth⟩:∃ x,(dr (aw p) y).isSome=x:=⟨_,rfl⟩
   rw[hx,hth]at ST;rw[hth]at FS;have HTH:=aa hth;have HLF:Ll (∀ W,La w W->Calls prog 130 #[.agg #[.int .i64 LQ.kind,.int .i64 LQ.n,.string ⟨LQ.s.toArray⟩,.slice a5 LQ.keys.length c5,.slice b5 LQ.l.length d5,.slice la L.length lc],.string ⟨p.toArray⟩] W fun e w'=>e=.returned (.bool (L.contains p))/\La W w'):=fun W hW=>pN W ok LQ L _ p (HWI.o.bel hW) HR.o HN.o;have HCO:Ll (∀ W,La w W->Calls prog 137 #[.slice oa LX.length oc,.string ⟨p.toArray⟩] W fun e w'=>e=.returned (.bool (concF LX p))/\La W w'):=fun W hW=>tH W oko LX _ p (HOS.o.bel hW);generalize L.contains p=o1 at FS HLF;generalize concF LX p=o2 at FS HCO;clear hx hth hp1 hp2;have v0_:=KR.o.2.1.c;go_upto_region 5 with (go_at_call 112;refine ST.o.mono ?_;rintro e w4 ⟨r,rfl,hb4,hr4⟩;obtain⟨a3,b3,c3,d3,rfl⟩:=hr4.form;have B4:=aa hb4;clear hb4 hr4)
   obtain⟨WX,hWX⟩:∃ W,W=w4.alloc (.cells (KV x a3 c3 b3 d3) 35):=⟨_,rfl⟩
   have BX:Ll (La wr WX):=aa (by rw[hWX];exact ab B4.o (ae _ _));have KA:=aa (KR.o.bel BX.o);rw[<-hWX];clear hWX LV;obtain⟨q0,q1,q2,q3,q4,q5⟩:=lr KA.o.1;cases th with
   | false=>
    have COND:Ll (¬(false&&!(o1 || o2))=true):=aa (by simp);go_wp2_with fail
    go_roundg (had.length - (k+1))
    case measure=>rw[GK.o];omega
    case rel=>exact⟨k+1,hlt,rfl,by go_num,y,_,_,_,_,aa ⟨by rw[HD.o,FS.o,if_neg COND.o],OY.o,IY.o.2.2.1,IY.o.2.2.2⟩,KA⟩
   | true=>
    cases o1 with
    | true=>
     have COND:Ll (¬(true&&!(true || o2))=true):=aa (by simp);go_wp2_with (go_at_call 130;refine Lk (HLF.o _ KA.o.2.2.2.1) fun w5 hb5=>?_;have K5:=aa (KA.o.bel hb5);clear hb5)
     go_roundg (had.length - (k+1))
     case measure=>rw[GK.o];omega
     case rel=>exact⟨k+1,hlt,rfl,by go_num,y,_,_,_,_,aa ⟨by rw[HD.o,FS.o,if_neg COND.o],OY.o,IY.o.2.2.1,IY.o.2.2.2⟩,K5⟩
    | false=>
     cases o2 with
     | true=>
      have COND:Ll (¬(true&&!(false || true))=true):=aa (by simp);go_wp2_with (first
       |(go_at_call 130;refine Lk (HLF.o _ KA.o.2.2.2.1) fun w5 hb5=>?_;have K5:=aa (KA.o.bel hb5);clear hb5)
       |(go_at_call 137;refine Lk (HCO.o _ K5.o.2.2.2.1) fun w6 hb6=>?_;have K6:=aa (K5.o.bel hb6);clear hb6))
      go_roundg (had.length - (k+1))
      case measure=>rw[GK.o];omega
      case rel=>exact⟨k+1,hlt,rfl,by go_num,y,_,_,_,_,aa ⟨by rw[HD.o,FS.o,if_neg COND.o],OY.o,IY.o.2.2.1,IY.o.2.2.2⟩,K6⟩
     | false=>
      have COND:Ll ((true&&!(false || false))=true):=aa (by simp);have THY:Ll (∃ y9,dr (aw p) y=some y9):=Option.isSome_iff_exists.1 HTH.o;obtain⟨z,hz⟩:∃ z,gI (aw p) y=z:=⟨_,rfl⟩
      have HZ:=aa hz;have OUT:=tr (aw p) y OY.o IY.o.2.2.2 THY.o;have OZ:Ll (fL z):=aa (by rw[<-hz];exact OUT.1);have KZ:Ll (z.kind=5):=aa (by rw[<-hz,OUT.2,if_neg NNE.o]);have CZ:Ll (fa z<=20000):=aa (by rw[<-hz];exact MH (zP _ _ THY.o) IY.o.2.2.1);clear OUT hz;go_upto_region 6 with (first
       |(go_at_call 130;refine Lk (HLF.o _ KA.o.2.2.2.1) fun w5 hb5=>?_;have K5:=aa (KA.o.bel hb5);clear hb5)
       |(go_at_call 137;refine Lk (HCO.o _ K5.o.2.2.2.1) fun w6 hb6=>?_;have KX:=aa (K5.o.bel hb6);clear hb6))
      clear q0 q1 q2 q3 q4 q5;refine aD (fun wS=>La w6 wS) [4] (by kernel_rfl) (aC _ 1) (fun LI=>?_);refine WT.out ?_;iterate 2
       first
        | refine tk (i:=0) (v:=?_) [3,4] rfl rfl (by decide +kernel) rfl (fun _ _ _ h=>h) LI ?_ ?_
        | refine tk (i:=1) (v:=?_) [2,3,4] rfl rfl (by decide +kernel) rfl (fun _ _ _ h=>h) LI ?_ ?_
       rotate_left
       ·intro wS LN;have u0_:=(KX.o.bel LN).2.1.c;go_simp;all_goals with_reducible rfl
       simp only[av,List.set]
      repeat' (first
       | exact nl
       |(refine ip (i:=2) (o:=_) rfl (fun K hK=>?_) ?_
         go_simp;refine(lH _ p HPL.o (GM.o _ (ab KX.o.2.2.2.1 LI))).mono ?_;rintro e w2q ⟨na,nc,rfl,hns,hb5⟩;refine hK.out _ _ (ab LI hb5) (fun LJ=>?_);have NS:=aa hns;clear hb5 hns;clear hK K;replace LI:=LJ;clear LJ;try simp only[Act.put,Mt,Mu,Mv])
       |(refine ip (i:=3) (o:=_) rfl (fun K hK=>?_) ?_
         go_simp;refine(xw (aw p) _ (bg ok w.heap.size (w.heap.size+3)) _ y _ _ (by exact KX.o.2.2.2.2.bel LI) (by exact NS.o) NNE.o OY.o THY.o CY.o).mono ?_;rintro e w3q ⟨rv,rfl,hr5,hb5⟩;rw[HZ.o]at hr5;obtain⟨a4,b4,c4,d4,rfl⟩:=hr5.form;refine hK.out _ _ (ab LI hb5) (fun LJ=>?_);have ZI:=aa (Ka hr5 (MH KX.o.size LI.size));clear hb5 hr5;clear hK K;replace LI:=LJ;clear LJ;try simp only[Act.put,Mt,Mu,Mv])
       |(refine jZ (i:=4) (o:=_) (by decide +kernel) rfl (fun K hK=>?_)
         have K8:=aa (KX.o.bel LI);have n0_:=K8.o.2.1.c;have K9:=aa (K8.o.put ZI.o);go_simp;refine hK.out _ _ ?_;clear hK K;try simp only[Act.put,Mt,Mu,Mv])
       | refine gc [2] (by decide +kernel) ?_
       | refine gc [3] (by decide +kernel) ?_
       | fail)
      all_goals
       refine dn (by kernel_rfl) ?_;go_wp2_with fail
       go_roundg (had.length - (k+1))
       case measure=>rw[GK.o];omega
       case rel=>exact⟨k+1,hlt,rfl,by go_num,z,_,_,_,_,aa ⟨by rw[HD.o,FS.o,if_pos COND.o,HZ.o],OZ.o,CZ.o,KZ.o⟩,K9⟩
  ·have d9:¬(k:Int) < (had.length:Int):=by omega
   have RES:Ll (dj L LX had t=y):=aa (by rw[IY.o.1,List.drop_eq_nil_of_le (by omega)];rfl);have v0_:=KR.o.2.1.c;have n0_:=KR.o.2.2.1.c;have ZB:=aa (LH KR.o.2.2.1.set y a2 c2 b2 d2);have Z:=aa (cY (w:=w) (ok:=ok) (C:=w.heap.size+3) (g:=w.heap.size+2) KR.o.2.2.2.2 KR.o.2.2.2.1 (by omega) (by omega));go_wp2_with fail
   have z0_:=ZB.o.c;refine MM (v:=.agg (KV y a2 c2 b2 d2)) ?_ rfl ?_
   ·simp only[ar]at z0_;simp[results,results105,go_sem,z0_]
   ·exact⟨_,rfl,by rw[RES.o];exact Z.o.2,Z.o.1,by rw[RES.o];exact IY.o.2⟩
end
theorem DD(W:LC)(ok ok' who LQ t L g2 g9 g4 a1 a2 a3 b1 b2 c1 c2 c3 d1 d2 n p)(hc:ri W ok ok' who LQ t L g2 g9 g4 a1 a2 a3 b1 b2 c1 c2 c3 d1 d2)(hp:p.length<=140737488351232):Calls prog 102 #[.string ⟨n.toArray⟩,.string ⟨p.toArray⟩,.pointer (some ⟨g2,0,none⟩),.pointer (some ⟨g9,0,none⟩),.pointer (some ⟨g4,0,none⟩)] W fun e w'=>e=.returned (.bool (n != who&&!aV LQ t L p))/\La W w':=by
 have BK:=aa (hc.blocked p hp);have q9:=hc.who;obtain⟨x0,x1,x2,x3,x4,x5⟩:=lr hc.wish;have y0_:=hc.val.c;clear hc;generalize aV LQ t L p=o at BK ⊢;by_cases hn:n=who
 ·have R:Ll ((n != who&&!o)=false):=aa (by simp[hn]);subst hn;go_enter func102,ntmps102;go_wp2_with fail
  go_ret;exact⟨by rw[R.o];first | done | rfl | simp,MK _ _⟩
 ·have e9:(n == who)=false:=by simpa using hn
  have R:Ll ((n != who&&!o)=!o):=aa (by simp[hn]);go_enter func102,ntmps102;go_wp2_with (go_at_call 103;refine BK.o.mono ?_;rintro e w1 ⟨rfl,hb⟩;have B1:=aa hb;clear hb)
  go_ret;exact⟨by rw[R.o];first | done | rfl | simp,B1.o⟩
theorem qT:∀ args w,(callFunc 102 args).run prog w=.ok (.enter 102 args) w:=enters_of func102 (by kernel_rfl) rfl
variable {k:Nat}
def gT (w w':LC) (ok:Nat->Prop) (A:V × List aL × List (Lz × Lz) × Int) (e:Ending):Prop:=∃ r ro rc,e=.returned (.tuple #[r,ro,rc,.int .i64 A.2.2.2])/\In w' (bQ ok w.heap.size) A.1 r/\aB w' (bQ ok w.heap.size) A.2.1 ro/\w'.ownsRow w.heap.size 168 2 rc A.2.2.1.length (jV A.2.2.1)/\La w w'
theorem aB.belB{xs}(h:aB w ok xs v)(hok:∀ k,ok k->k < B)(hb:Below B w w'):aB w' ok xs v:=
 h.imp fun a x h1 h2=>⟨h1,(World.cell?_of_block (hb.block _ (hok _ h1))).trans h2⟩
theorem H6(w:LC)(o1 o2 o3 o4:Obj){o:Obj}(h:(((w.alloc o1).alloc o2).alloc o3).heap[k]?=some o):((((w.alloc o1).alloc o2).alloc o3).alloc o4).heap[k]?=some o:=bR (ae _ _) h
theorem JD(w:LC)(o1 o2 o3 o4:Obj):((((w.alloc o1).alloc o2).alloc o3).alloc o4).heap[w.heap.size+3]?=some o4:=by
 have:=MN (((w.alloc o1).alloc o2).alloc o3) o4;simpa using this
theorem kO(w ok t LQ l who force vt vl vw)(ht:In w ok t vt)(hl:aB w ok l vl)(hw:In w ok LQ vw)(hM:bj w)(hN:(bA l).length<=4000000)(hP:∀ o∈l,∀ x∈o.paths,x.length<=140737488351232)(hwho:who.length<=9223372036854775807)(hbad:¬((decide (t.kind=5)&&aE t)=true/\(decide (LQ.kind=5)&&aE LQ)=true/\bp l=true/\bT who=true)):Calls prog 81 #[vt,vl,.string ⟨who.toArray⟩,vw,.bool force] w fun e w'=>gT w w' ok (eC t l who LQ force) e:=by
 have R:Ll (eC t l who LQ force=(t,l,[],1)):=aa (by unfold eC;rw[if_neg (by intro h;obtain⟨⟨h1,h2⟩,⟨h3,h4⟩,h5,h6⟩:=h;exact hbad ⟨by simp[h1,h2],by simp[h3,h4],h5,h6⟩)]);have HT:=aa ht.low;have HL:=aa hl.low;have HW:=aa hw.low;have HM:=aa hM;have HN:=aa hN;have HP:=aa hP;obtain⟨b1,b2,d1,d2,rfl⟩:=ht.form;obtain⟨a1,a2,c1,c2,rfl⟩:=hw.form;obtain⟨la,lc,rfl⟩:=hl.form;have ll:=hl.1;unfold maxLen at ll;clear ht hl hw hM hN hP;obtain⟨W3,hW3⟩:∃ W,W=(((w.alloc (.cells (KV t b1 d1 b2 d2) 35)).alloc (.cells #[.string ⟨who.toArray⟩] 9)).alloc (.cells (KV LQ a1 c1 a2 c2) 35)).alloc (.cells Lb 35):=⟨_,rfl⟩
 have BW:Ll (La w W3):=aa (by rw[hW3];exact ab (ab (ab (ae _ _) (ae _ _)) (ae _ _)) (ae _ _));have X1:Ll (KY W3 w.heap.size t b1 d1 b2 d2):=aa (by rw[hW3];exact H6 _ _ _ _ _ (lI _ _ _ _));have X2:Ll (W3.heap[w.heap.size+1]?=some (.cells #[.string ⟨who.toArray⟩] 9)):=aa (by rw[hW3];exact H6 _ _ _ _ _ (mE _ _ _ _));have X3:Ll (KY W3 (w.heap.size+2) LQ a1 c1 a2 c2):=aa (by rw[hW3];exact H6 _ _ _ _ _ (jI _ _ _ _));have X4:Ll (Lc W3 (w.heap.size+3)):=aa (by rw[hW3];exact JD _ _ _ _ _);have HW3:=aa hW3;clear hW3;have G1:Ll (∀ W,La w W->Calls prog 97 #[.agg (KV t b1 d1 b2 d2)] W fun e w'=>e=.returned (.bool (decide (t.kind=5)&&aE t))/\La W w'):=fun W hW=>dq W _ t _ (HT.o.bel hW);have G2:Ll (∀ W,La w W->Calls prog 97 #[.agg (KV LQ a1 c1 a2 c2)] W fun e w'=>e=.returned (.bool (decide (LQ.kind=5)&&aE LQ))/\La W w'):=fun W hW=>dq W _ LQ _ (HW.o.bel hW);have G3:Ll (∀ W,La w W->Calls prog 98 #[.slice la l.length lc] W fun e w'=>e=.returned (.bool (bp l))/\La W w'):=fun W hW=>eZ W _ l _ (HL.o.bel hW) HP.o (HM.o.bel hW);have G4:Ll (∀ W,La w W->Calls prog 22 #[.string ⟨who.toArray⟩] W fun e w'=>e=.returned (.bool (bT who))/\La W w'):=fun W _=>(lR W who hwho).mono fun e w' h=>⟨h.1,h.2 ▸ MK _ _⟩;obtain⟨g1,hg1⟩:∃ b,(decide (t.kind=5)&&aE t)=b:=⟨_,rfl⟩
 rw[hg1]at G1 hbad;obtain⟨g2,hg2⟩:∃ b,(decide (LQ.kind=5)&&aE LQ)=b:=⟨_,rfl⟩
 rw[hg2]at G2 hbad;obtain⟨g3,hg3⟩:∃ b,bp l=b:=⟨_,rfl⟩
 rw[hg3]at G3 hbad;obtain⟨g4,hg4⟩:∃ b,bT who=b:=⟨_,rfl⟩
 rw[hg4]at G4 hbad;have gg:g1=false\/g1=true/\g2=false\/g1=true/\g2=true/\g3=false\/g1=true/\g2=true/\g3=true/\g4=false:=by
  cases g1 <;> cases g2 <;> cases g3 <;> cases g4 <;> simp_all
 clear hbad hg1 hg2 hg3 hg4;have o0_:=X1.o.c;rcases gg with rfl | ⟨rfl,rfl⟩ | ⟨rfl,rfl,rfl⟩ | ⟨rfl,rfl,rfl,rfl⟩
 all_goals
  go_enter func81,ntmps81;go_upto_region 1 with fail
  rw[<-HW3.o];go_upto_region 2 with (first
   |(go_at_call 22;refine Lk (G4.o _ B3.o) fun w4 hb=>?_;have B4:=aa (ab B3.o hb);have Y4:=aa (ab Y3.o hb);clear hb;have BQ:=B4;have YQ:=Y4;skip)
   |(go_at_call 98;refine Lk (G3.o _ B2.o) fun w3 hb=>?_;have B3:=aa (ab B2.o hb);have Y3:=aa (ab Y2.o hb);clear hb;have BQ:=B3;have YQ:=Y3;have u0:w3.cell? ⟨w.heap.size+1,0,none⟩=some (.string ⟨who.toArray⟩):=(by have h9:=bR Y3.o X2.o;simp[World.cell?,h9]);skip)
   |(go_at_call 97;refine Lk (G2.o _ B1.o) fun w2 hb=>?_;have B2:=aa (ab B1.o hb);have Y2:=aa (ab Y1.o hb);clear hb;have BQ:=B2;have YQ:=Y2;skip)
   |(go_at_call 97;refine Lk (G1.o _ BW.o) fun w1 hb=>?_;have B1:=aa (ab BW.o hb);have Y1:=aa hb;clear hb;have BQ:=B1;have YQ:=Y1;have p0_:=(af Y1.o X3.o).c;skip))
  have v0_:=(af YQ.o X1.o).c;have n0_:=(af YQ.o X4.o).c;have ZB:=aa ((af YQ.o X4.o).set (.int .i64 t.kind) (.int .i64 t.n) (.string ⟨t.s.toArray⟩) (.slice b1 t.keys.length d1) (.slice b2 t.l.length d2));have BF:=aa (aP (g:=w.heap.size+3) BQ.o (by omega) (.int .i64 t.kind) (.int .i64 t.n) (.string ⟨t.s.toArray⟩) (.slice b1 t.keys.length d1) (.slice b2 t.l.length d2));go_wp2_with fail
  have z0_:=ZB.o.c;refine MM (v:=.tuple #[.agg (KV t b1 d1 b2 d2),.slice la l.length lc,.slice none 0 0,.int .i64 1]) ?_ rfl ?_
  ·simp only[ar]at z0_;simp[results,results81,go_sem,z0_]
  ·rw[gT,R.o];exact⟨_,_,_,rfl,(HT.o.belB (fun k h=>h.2) BF.o).weak fun k h=>.inl h.1,(HL.o.belB (fun k h=>h.2) BF.o).weak fun k h=>.inl h.1,World.ownsRow_nil _ _ _ _,BF.o⟩
theorem xC(w:LC)(ok t LQ l who force vt vl vw)(ht:In w ok t vt)(hl:aB w ok l vl)(hw:In w ok LQ vw)(hM:bj w)(hN:(bA l).length<=4000000)(hP:∀ o∈l,∀ x∈o.paths,x.length<=140737488351232)(hwho:who.length<=9223372036854775807)(hg1:(decide (t.kind=5)&&aE t)=true)(hg2:(decide (LQ.kind=5)&&aE LQ)=true)(hg3:bp l=true)(hg4:bT who=true)(hf:eu (aV LQ t (au LQ)) who l≠[])(hfo:force=false):Calls prog 81 #[vt,vl,.string ⟨who.toArray⟩,vw,.bool force] w fun e w'=>gT w w' ok (eC t l who LQ force) e:=by
 have CC:Ll (ld t l who LQ=eu (aV LQ t (au LQ)) who l):=aa (by rw[ld,if_pos ⟨by simpa using (Bool.and_eq_true_iff.1 hg1).2,hg3⟩]);obtain⟨nf,hnf⟩:∃ nf,(eu (aV LQ t (au LQ)) who l).length=nf:=⟨_,rfl⟩
 have NF:=aa hnf;have R:Ll (eC t l who LQ force=(t,l,eu (aV LQ t (au LQ)) who l,5)):=aa (by unfold eC;rw[if_pos ⟨by simpa using hg1,by simpa using hg2,hg3,hg4⟩,if_pos ⟨hf,hfo⟩]);have q0:(0:Int) < (nf:Int):=by
  have:nf≠0:=fun e=>hf (List.length_eq_zero_iff.1 (hnf.trans e));omega
 subst hfo;clear hf hnf;have HT:=aa ht.low;have HL:=aa hl.low;have HW:=aa hw.low;have HM:=aa hM;have HN:=aa hN;have HP:=aa hP;obtain⟨b1,b2,d1,d2,rfl⟩:=ht.form;obtain⟨a1,a2,c1,c2,rfl⟩:=hw.form;obtain⟨la,lc,rfl⟩:=hl.form;have ll:=hl.1;unfold maxLen at ll;clear ht hl hw hM hN hP;obtain⟨W3,hW3⟩:∃ W,W=(((w.alloc (.cells (KV t b1 d1 b2 d2) 35)).alloc (.cells #[.string ⟨who.toArray⟩] 9)).alloc (.cells (KV LQ a1 c1 a2 c2) 35)).alloc (.cells Lb 35):=⟨_,rfl⟩
 have BW:Ll (La w W3):=aa (by rw[hW3];exact ab (ab (ab (ae _ _) (ae _ _)) (ae _ _)) (ae _ _));have X1:Ll (KY W3 w.heap.size t b1 d1 b2 d2):=aa (by rw[hW3];exact H6 _ _ _ _ _ (lI _ _ _ _));have X2:Ll (W3.heap[w.heap.size+1]?=some (.cells #[.string ⟨who.toArray⟩] 9)):=aa (by rw[hW3];exact H6 _ _ _ _ _ (mE _ _ _ _));have X3:Ll (KY W3 (w.heap.size+2) LQ a1 c1 a2 c2):=aa (by rw[hW3];exact H6 _ _ _ _ _ (jI _ _ _ _));have X4:Ll (Lc W3 (w.heap.size+3)):=aa (by rw[hW3];exact JD _ _ _ _ _);have HW3:=aa hW3;clear hW3;have G1:Ll (∀ W,La w W->Calls prog 97 #[.agg (KV t b1 d1 b2 d2)] W fun e w'=>e=.returned (.bool (decide (t.kind=5)&&aE t))/\La W w'):=fun W hW=>dq W _ t _ (HT.o.bel hW);have G2:Ll (∀ W,La w W->Calls prog 97 #[.agg (KV LQ a1 c1 a2 c2)] W fun e w'=>e=.returned (.bool (decide (LQ.kind=5)&&aE LQ))/\La W w'):=fun W hW=>dq W _ LQ _ (HW.o.bel hW);have G3:Ll (∀ W,La w W->Calls prog 98 #[.slice la l.length lc] W fun e w'=>e=.returned (.bool (bp l))/\La W w'):=fun W hW=>eZ W _ l _ (HL.o.bel hW) HP.o (HM.o.bel hW);have G4:Ll (∀ W,La w W->Calls prog 22 #[.string ⟨who.toArray⟩] W fun e w'=>e=.returned (.bool (bT who))/\La W w'):=fun W _=>(lR W who hwho).mono fun e w' h=>⟨h.1,h.2 ▸ MK _ _⟩;have SW:Ll (w.heap.size+4<=W3.heap.size):=aa (by have:=(MF.1 X4.o).1;omega);rw[hg1]at G1;rw[hg2]at G2;rw[hg3]at G3;rw[hg4]at G4;clear hg1 hg2 hg3 hg4;have o0_:=X1.o.c;go_enter func81,ntmps81;go_upto_region 1 with fail
 rw[<-HW3.o];go_upto_region 3 with (first
  |(go_at_call 22;refine Lk (G4.o _ B3.o) fun w4 hb=>?_;have B4:=aa (ab B3.o hb);have Y4:=aa (ab Y3.o hb);clear hb;skip)
  |(go_at_call 98;refine Lk (G3.o _ B2.o) fun w3 hb=>?_;have B3:=aa (ab B2.o hb);have Y3:=aa (ab Y2.o hb);clear hb;have u0:w3.cell? ⟨w.heap.size+1,0,none⟩=some (.string ⟨who.toArray⟩):=(by have h9:=bR Y3.o X2.o;simp[World.cell?,h9]);skip)
  |(go_at_call 97;refine Lk (G2.o _ B1.o) fun w2 hb=>?_;have B2:=aa (ab B1.o hb);have Y2:=aa (ab Y1.o hb);clear hb;skip)
  |(go_at_call 97;refine Lk (G1.o _ BW.o) fun w1 hb=>?_;have B1:=aa (ab BW.o hb);have Y1:=aa hb;clear hb;have p0_:=(af Y1.o X3.o).c;skip))
 clear u0;have o0_:=(af Y4.o X1.o).c;have p0_:=(af Y4.o X3.o).c;have u0:w4.cell? ⟨w.heap.size+1,0,none⟩=some (.string ⟨who.toArray⟩):=(by have h9:=bR Y4.o X2.o;simp[World.cell?,h9])
 have CF:Ll (Calls prog 99 #[.agg (KV t b1 d1 b2 d2),.slice la l.length lc,.string ⟨who.toArray⟩,.agg (KV LQ a1 c1 a2 c2)] w4 fun e w'=>∃ ra rc,e=.returned (.slice ra nf rc)/\w'.ownsRow w4.heap.size 168 2 (.slice ra nf rc) (eu (aV LQ t (au LQ)) who l).length (jV (eu (aV LQ t (au LQ)) who l))/\La w4 w'):=aa (by
  refine(lJ w4 _ _ _ t LQ l who _ _ _ (HT.o.bel B4.o) (HL.o.bel B4.o) (HW.o.bel B4.o) (HM.o.bel B4.o) HN.o HP.o).mono ?_;rintro e w' ⟨r,rfl,h1,h2⟩;rw[CC.o]at h1;rcases h1.2 with⟨rfl,h9⟩ | ⟨g,cap,cur,rfl,h9⟩
  ·exact⟨none,0,by rw[<-NF.o,h9],by rw[<-NF.o];rw[h9]at h1 ⊢;exact h1,h2⟩
  ·exact⟨_,_,by rw[NF.o],by rw[<-NF.o];exact h1,h2⟩)
 go_upto_region 5 with (go_at_call 99;refine CF.o.mono ?_;rintro e w5 ⟨ra,rc,rfl,hrow,hb⟩;have B5:=aa (ab B4.o hb);have Y5:=aa (ab Y4.o hb);have ROW:=aa hrow;have S4:=aa (MH (show w.heap.size+4<=W3.heap.size from SW.o) Y4.o.size);clear hb hrow)
 clear u0;have v0_:=(af Y5.o X1.o).c;have n0_:=(af Y5.o X4.o).c;have ZB:=aa ((af Y5.o X4.o).set (.int .i64 t.kind) (.int .i64 t.n) (.string ⟨t.s.toArray⟩) (.slice b1 t.keys.length d1) (.slice b2 t.l.length d2));have BF:=aa (aP (g:=w.heap.size+3) B5.o (by omega) (.int .i64 t.kind) (.int .i64 t.n) (.string ⟨t.s.toArray⟩) (.slice b1 t.keys.length d1) (.slice b2 t.l.length d2));go_wp2_with fail
 have z0_:=ZB.o.c;refine MM (v:=.tuple #[.agg (KV t b1 d1 b2 d2),.slice la l.length lc,.slice ra nf rc,.int .i64 5]) ?_ rfl ?_
 ·simp only[ar]at z0_;simp[results,results81,go_sem,z0_]
 ·rw[gT,R.o];exact⟨_,_,_,rfl,(HT.o.belB (fun k h=>h.2) BF.o).weak fun k h=>.inl h.1,(HL.o.belB (fun k h=>h.2) BF.o).weak fun k h=>.inl h.1,cV (bM ROW.o fun g hg=>(aI _ _ _ _ _ _ _).block g (bY ROW.o hg).2 (by have h8:=(bY ROW.o hg).1;have h9:=S4.o;intro e;cases e;omega)) (by have h9:=S4.o;omega),BF.o⟩
variable {S:Nat}
section
structure AQ (t LQ:V) (l:List aL) (who:Lz):Prop where
 rises:bD (l.map aL.name)
 len:l.length<=6
 obT:fL t
 obW:fL LQ
 k5:t.kind=5
 cT:fa t<=20000
 had:∀ p∈cq l who,p.length<=140737488351232/\aw p≠[]
 lv:∀ p∈au LQ,p.length<=140737488351232/\aw p≠[]/\(aw p).length+fa ((dr (aw p) LQ).getD aM)<=300
 lvn:(au LQ).length<=200
 named:∀ o∈cG t LQ l who,o.name.length<=maxLen
 risesO:bD ((cG t LQ l who).map aL.name)
 lenO:(cG t LQ l who).length<=4000000
theorem GA{a:LC}(_:La a W):Lc (W.alloc (.cells Lb 35)) W.heap.size:=MN _ _
theorem Ii{W1 W2:LC}{N z0 z1 z2 z3 z4}(nb:ag W1 g z0 z1 z2 z3 z4)(h:In W2 (bQ (fun k=>bQ ok S k/\k < N) W1.heap.size) t v)(hN:N<=g)(hS:S<=W1.heap.size):In W2 (fun k=>bQ ok S k/\k≠g) t v:=
 h.weak fun k hk=>by
  have hl:=(MF.1 nb).1;rcases hk with hk | hk
  ·exact⟨hk.1,by have:=hk.2;omega⟩
  ·exact⟨.inr (MH hS hk),by omega⟩
theorem Ea{W2:LC}{N}(h:In W2 (bQ (fun k=>bQ ok S k/\k < N) B) t v)(hS:S<=B):In W2 (bQ ok S) t v:=
 h.weak fun k hk=>by
  rcases hk with hk | hk
  ·exact hk.1
  ·exact .inr (MH hS hk)
theorem JU(h:In W ok t v)(ob:Obj):In (W.alloc ob) (fun k=>ok k/\k≠W.heap.size) t v:=
 (h.low.bel (ae W ob)).weak fun k hk=>⟨hk.1,by have:=hk.2;omega⟩
theorem E5{W1 W2:LC}{z0 z1 z2 z3 z4}(nb:ag W1 g z0 z1 z2 z3 z4)(h:In W2 (bQ (fun k=>bQ ok S k/\k≠g) W1.heap.size) t v)(hS:S<=W1.heap.size):In W2 (fun k=>bQ ok S k/\k≠g) t v:=
 h.weak fun k hk=>by
  have hl:=(MF.1 nb).1;rcases hk with hk | hk
  ·exact hk
  ·exact⟨.inr (MH hS hk),by omega⟩
theorem Bp{W2:LC}(h:In W2 (bQ (bQ ok S) B) t v)(hS:S<=B):In W2 (bQ ok S) t v:=
 h.weak fun k hk=>by
  rcases hk with hk | hk
  ·exact hk
  ·exact .inr (MH hS hk)
theorem JM{a:LC}{res a9 b9 c9 d9}(h:La a W)(hi:In W ok res (.agg (KV res a9 c9 b9 d9))):KY (W.alloc (.cells (KV res a9 c9 b9 d9) 35)) W.heap.size res a9 c9 b9 d9/\a.heap.size<=W.heap.size/\La a (W.alloc (.cells (KV res a9 c9 b9 d9) 35))/\In (W.alloc (.cells (KV res a9 c9 b9 d9) 35)) ok res (.agg (KV res a9 c9 b9 d9)):=
 ⟨MN _ _,h.size,ab h (ae _ _),hi.bel (ae _ _)⟩
theorem Js{a:LC}{res a9 b9 c9 d9 e0 e1 e2 e3 e4}(h:La a W)(hg:a.heap.size<=g)(hb:ag W g e0 e1 e2 e3 e4)(hi:In W (fun k=>ok k/\k≠g) res (.agg (KV res a9 c9 b9 d9))):KY (LG W g res a9 c9 b9 d9) g res a9 c9 b9 d9/\a.heap.size<=g/\La a (LG W g res a9 c9 b9 d9)/\In (LG W g res a9 c9 b9 d9) ok res (.agg (KV res a9 c9 b9 d9)):=
 ⟨hb.set _ _ _ _ _,hg,aP h hg _ _ _ _ _,(hi.grown (aI W g _ _ _ _ _) (fun k h9=>by have:=h9.2;simp;omega)).weak fun k h9=>h9.1⟩
theorem Ht{w8:LC}{L}(h:dB w8 (fun k=>bQ ok S k/\k < w8.heap.size) t L v)(hb:La w8 W):dB W (bQ ok S) t L v:=(h.bel hb).weak fun k hk=>hk.1
theorem EC{w8:LC}{L}(h:dB w8 (fun k=>bQ ok S k/\k < w8.heap.size) t L v)(hb:La w8 W)(hg:w8.heap.size<=g):dB W (fun k=>bQ ok S k/\k≠g) t L v:=(h.bel hb).weak fun k hk=>⟨hk.1,by have:=hk.2;omega⟩
attribute [local go_sem ↓] Go.wp_at_zero Go.wp_at_succ
theorem In.grownR{r}(h:In w ok t v)(hg:w.grownBy w' r)(hr:∀ k,ok k->some k≠r):In w' ok t v:=by
 obtain⟨d,h⟩:=h;exact⟨d,h.grown hg hr⟩
theorem aB.grownR{r l}(h:aB w ok l v)(hg:w.grownBy w' r)(hr:∀ k,ok k->some k≠r):aB w' ok l v:=h.imp (eJ hg hr)
theorem fA.bel{os r}(h:fA w B os r)(hb:La w w'):fA w' B os r:=by
 obtain⟨pvs,h1,h2,h3⟩:=h;exact⟨pvs,h1,bM h2 fun g hg=>hb.block g (bY h2 hg).2,fun i o v q1 q2=>⟨(h3 i o v q1 q2).1,(h3 i o v q1 q2).2.bel hb⟩⟩
theorem fA.lt{os r}(h:fA w B os r):∀ g,r.ownBlock=some g->B<=g/\g < w.heap.size:=by
 obtain⟨pvs,h1,h2,h3⟩:=h;exact fun g hg=>bY h2 hg
theorem Bx{L v0 v1 v2 v3 v4 v5}(h:dB w ok t L (.agg #[v0,v1,v2,v3,v4,v5])):ao w ok L v5:=by
 obtain⟨a1,a2,a3,c1,c2,c3,e,-,h2⟩:=h;simp only[Value.agg.injEq,Array.mk.injEq,List.cons.injEq,and_true]at e;rw[e.2.2.2.2.2];exact h2
theorem DL{L}(h:dB w ok t L v):dB w (Lj ok w) t L v:=by
 obtain⟨a1,a2,a3,c1,c2,c3,rfl,h1,h2⟩:=h;exact⟨a1,a2,a3,c1,c2,c3,rfl,h1.low,h2.imp fun a x q1 q2=>⟨⟨q1,World.block_lt_of_cell? _ _ q2⟩,q2⟩⟩
theorem uh(w ok t LQ l who force vt vl vw)(ht:In w ok t vt)(hl:aB w ok l vl)(hw:In w ok LQ vw)(hM:bj w)(hN:(bA l).length<=4000000)(hP:∀ o∈l,∀ x∈o.paths,x.length<=140737488351232)(hwho:who.length<=9223372036854775807)(hg1:(decide (t.kind=5)&&aE t)=true)(hg2:(decide (LQ.kind=5)&&aE LQ)=true)(hg3:bp l=true)(hg4:bT who=true)(hf:eu (aV LQ t (au LQ)) who l=[]\/force=true)(hao:AQ t LQ l who):Calls prog 81 #[vt,vl,.string ⟨who.toArray⟩,vw,.bool force] w fun e w'=>gT w w' ok (eC t l who LQ force) e:=by
 have AO:=aa hao;have CC:Ll (ld t l who LQ=eu (aV LQ t (au LQ)) who l):=aa (by rw[ld,if_pos ⟨by simpa using (Bool.and_eq_true_iff.1 hg1).2,hg3⟩]);obtain⟨nf,hnf⟩:∃ nf,(eu (aV LQ t (au LQ)) who l).length=nf:=⟨_,rfl⟩
 have NF:=aa hnf;obtain⟨A,hA⟩:∃ A,eC t l who LQ force=A:=⟨_,rfl⟩
 have RA:Ll (A=if aE (gO t LQ l who)=true/\(bP (cG t LQ l who) ⟨who,au LQ⟩).length<=6 then (gO t LQ l who,bP (cG t LQ l who) ⟨who,au LQ⟩,[],0) else (t,l,[],2)):=aa (by
  rw[<-hA];unfold eC;rw[if_pos ⟨by simpa using hg1,by simpa using hg2,hg3,hg4⟩,if_neg (by rintro⟨h1,h2⟩;rcases hf with e | e;exact h1 e;rw[e]at h2;exact absurd h2 (by simp))])
 rw[hA];clear hA;have qq:¬(0:Int) < (nf:Int)\/(0:Int) < (nf:Int)/\force=true:=by
  by_cases h0:nf=0
  ·exact .inl (by omega)
  ·exact .inr ⟨by omega,hf.resolve_left fun e=>h0 (by rw[<-hnf,e];rfl)⟩
 clear hnf hao hf;have HT:=aa ht.low;have HL:=aa hl.low;have HW:=aa hw.low;have HM:=aa hM;have HN:=aa hN;have HP:=aa hP;obtain⟨b1,b2,d1,d2,rfl⟩:=ht.form;obtain⟨a1,a2,c1,c2,rfl⟩:=hw.form;obtain⟨la,lc,rfl⟩:=hl.form;have ll:=hl.1;unfold maxLen at ll;clear ht hl hw hM hN hP;obtain⟨W3,hW3⟩:∃ W,W=(((w.alloc (.cells (KV t b1 d1 b2 d2) 35)).alloc (.cells #[.string ⟨who.toArray⟩] 9)).alloc (.cells (KV LQ a1 c1 a2 c2) 35)).alloc (.cells Lb 35):=⟨_,rfl⟩
 have BW:Ll (La w W3):=aa (by rw[hW3];exact ab (ab (ab (ae _ _) (ae _ _)) (ae _ _)) (ae _ _));have X1:Ll (KY W3 w.heap.size t b1 d1 b2 d2):=aa (by rw[hW3];exact H6 _ _ _ _ _ (lI _ _ _ _));have X2:Ll (W3.heap[w.heap.size+1]?=some (.cells #[.string ⟨who.toArray⟩] 9)):=aa (by rw[hW3];exact H6 _ _ _ _ _ (mE _ _ _ _));have X3:Ll (KY W3 (w.heap.size+2) LQ a1 c1 a2 c2):=aa (by rw[hW3];exact H6 _ _ _ _ _ (jI _ _ _ _));have X4:Ll (Lc W3 (w.heap.size+3)):=aa (by rw[hW3];exact JD _ _ _ _ _);have HW3:=aa hW3;clear hW3;have G1:Ll (∀ W,La w W->Calls prog 97 #[.agg (KV t b1 d1 b2 d2)] W fun e w'=>e=.returned (.bool (decide (t.kind=5)&&aE t))/\La W w'):=aa (fun W hW=>dq W _ t _ (HT.o.bel hW));have G2:Ll (∀ W,La w W->Calls prog 97 #[.agg (KV LQ a1 c1 a2 c2)] W fun e w'=>e=.returned (.bool (decide (LQ.kind=5)&&aE LQ))/\La W w'):=aa (fun W hW=>dq W _ LQ _ (HW.o.bel hW));have G3:Ll (∀ W,La w W->Calls prog 98 #[.slice la l.length lc] W fun e w'=>e=.returned (.bool (bp l))/\La W w'):=aa (fun W hW=>eZ W _ l _ (HL.o.bel hW) HP.o (HM.o.bel hW));have G4:Ll (∀ W,La w W->Calls prog 22 #[.string ⟨who.toArray⟩] W fun e w'=>e=.returned (.bool (bT who))/\La W w'):=aa (fun W _=>(lR W who hwho).mono fun e w' h=>⟨h.1,h.2 ▸ MK _ _⟩);have SW:Ll (w.heap.size+4<=W3.heap.size):=aa (by have:=(MF.1 X4.o).1;omega);rw[hg1]at G1;rw[hg2]at G2;rw[hg3]at G3;rw[hg4]at G4;clear hg1 hg2 hg3 hg4;have o0_:=X1.o.c;rcases qq with q0 | ⟨q0,rfl⟩
 all_goals
  go_enter func81,ntmps81;go_upto_region 1 with fail
  rw[<-HW3.o];go_upto_region 3 with (first
   |(go_at_call 22;refine Lk (G4.o _ B3.o) fun w4 hb=>?_;have B4:=aa (ab B3.o hb);have Y4:=aa (ab Y3.o hb);clear hb;skip)
   |(go_at_call 98;refine Lk (G3.o _ B2.o) fun w3 hb=>?_;have B3:=aa (ab B2.o hb);have Y3:=aa (ab Y2.o hb);clear hb;have u0:w3.cell? ⟨w.heap.size+1,0,none⟩=some (.string ⟨who.toArray⟩):=(by have h9:=bR Y3.o X2.o;simp[World.cell?,h9]);skip)
   |(go_at_call 97;refine Lk (G2.o _ B1.o) fun w2 hb=>?_;have B2:=aa (ab B1.o hb);have Y2:=aa (ab Y1.o hb);clear hb;skip)
   |(go_at_call 97;refine Lk (G1.o _ BW.o) fun w1 hb=>?_;have B1:=aa (ab BW.o hb);have Y1:=aa hb;clear hb;have p0_:=(af Y1.o X3.o).c;skip))
  have o0_:=(af Y4.o X1.o).c;have p0_:=(af Y4.o X3.o).c;have u0:w4.cell? ⟨w.heap.size+1,0,none⟩=some (.string ⟨who.toArray⟩):=(by have h9:=bR Y4.o X2.o;simp[World.cell?,h9])
  have CF:Ll (Calls prog 99 #[.agg (KV t b1 d1 b2 d2),.slice la l.length lc,.string ⟨who.toArray⟩,.agg (KV LQ a1 c1 a2 c2)] w4 fun e w'=>∃ ra rc,e=.returned (.slice ra nf rc)/\w'.ownsRow w4.heap.size 168 2 (.slice ra nf rc) (eu (aV LQ t (au LQ)) who l).length (jV (eu (aV LQ t (au LQ)) who l))/\La w4 w'):=aa (by
   refine(lJ w4 _ _ _ t LQ l who _ _ _ (HT.o.bel B4.o) (HL.o.bel B4.o) (HW.o.bel B4.o) (HM.o.bel B4.o) HN.o HP.o).mono ?_;rintro e w' ⟨r,rfl,h1,h2⟩;rw[CC.o]at h1;rcases h1.2 with⟨rfl,h9⟩ | ⟨g,cap,cur,rfl,h9⟩
   ·exact⟨none,0,by rw[<-NF.o,h9],by rw[<-NF.o];rw[h9]at h1 ⊢;exact h1,h2⟩
   ·exact⟨_,_,by rw[NF.o],by rw[<-NF.o];exact h1,h2⟩)
  go_upto_region 6 with (go_at_call 99;refine CF.o.mono ?_;rintro e w5 ⟨ra,rc,rfl,hrow,hb⟩;have B5:=aa (ab B4.o hb);have Y5:=aa (ab Y4.o hb);have ROW:=aa hrow;have S4:=aa (MH (show w.heap.size+4<=W3.heap.size from SW.o) Y4.o.size);clear hb hrow)
  have p0_:=(af Y5.o X3.o).c;have WO:=aa (rQ w5 (Lj ok w) LQ _ (by exact HW.o.bel B5.o) (HM.o.bel B5.o));go_upto_region 7 with (go_at_call 100;refine WO.o.mono ?_;rintro e w6 ⟨r,rfl,hwi,hb⟩;have B6:=aa (ab B5.o hb);have Y6:=aa (ab Y5.o hb);have WI:=aa hwi;have Y56:=aa hb;clear hb;obtain⟨x1,x2,x3,y1,y2,y3,rfl,-,-⟩:=hwi)
  obtain⟨W7,hW7⟩:∃ W,W=w6.alloc (.cells #[.int .i64 LQ.kind,.int .i64 LQ.n,.string ⟨LQ.s.toArray⟩,.slice x1 LQ.keys.length y1,.slice x2 LQ.l.length y2,.slice x3 (au LQ).length y3] 145):=⟨_,rfl⟩
  have Y7:Ll (La w6 W7):=aa (by rw[hW7];exact ae _ _);have X7:Ll (W7.heap[w6.heap.size]?=some (.cells #[.int .i64 LQ.kind,.int .i64 LQ.n,.string ⟨LQ.s.toArray⟩,.slice x1 LQ.keys.length y1,.slice x2 LQ.l.length y2,.slice x3 (au LQ).length y3] 145)):=aa (by rw[hW7];exact MN _ _);have B7:=aa (ab B6.o Y7.o);rw[<-hW7];clear hW7;have CAP:Ll (ri W7 (bQ (Lj ok w) w5.heap.size) (Lj ok w) who LQ t (au LQ) (w.heap.size+1) w6.heap.size w.heap.size x1 x2 x3 b1 b2 y1 y2 y3 d1 d2):=aa ⟨by
   have h9:=bR (ab Y6.o Y7.o) X2.o;simp[World.cell?,h9],X7.o,af (ab Y6.o Y7.o) X1.o,WI.o.bel Y7.o,HT.o.bel B7.o,HM.o.bel B7.o,by have:=AO.o.cT;omega,(fq LQ).1,(fq LQ).2⟩
  have WI7:Ll (dB W7 (fun k=>bQ (Lj ok w) w5.heap.size k/\k < W7.heap.size) LQ (au LQ) (.agg #[.int .i64 LQ.kind,.int .i64 LQ.n,.string ⟨LQ.s.toArray⟩,.slice x1 LQ.keys.length y1,.slice x2 LQ.l.length y2,.slice x3 (au LQ).length y3])):=aa (DL (WI.o.bel Y7.o));have KEPT:=aa (Am W7 (Lj ok w) l _ 102 #[.pointer (some ⟨w.heap.size+1,0,none⟩),.pointer (some ⟨w6.heap.size,0,none⟩),.pointer (some ⟨w.heap.size,0,none⟩)] (fun n p=>n != who&&!aV LQ t (au LQ) p) qT
   (fun W n p hW hnp=>DD W _ _ who LQ t (au LQ) _ _ _ _ _ _ _ _ _ _ _ _ _ n p (CAP.o.bel hW) (by obtain⟨o,ho,-,hx⟩:=kL hnp;exact HP.o o ho _ hx)) (HL.o.bel B7.o) AO.o.rises HN.o (fun o ho x hx=>by have:=HP.o o ho x hx;unfold maxLen;omega))
  rw[show dV (fun n p=>n != who&&!aV LQ t (au LQ) p) l=cG t LQ l who from rfl]at KEPT;go_upto_region 8 with (go_at_call 101;refine KEPT.o.mono ?_;rintro e w8 ⟨oa,oc,rfl,hrow,hb⟩;have Y8:=aa (ab (ab Y6.o Y7.o) hb);have B8:=aa (ab B7.o hb);have ORW:=aa hrow;have B78:=aa hb;clear hb hrow)
  have VB8:=aa (af Y8.o X1.o);have RB8:=aa (af Y8.o X4.o);have XW8:=aa (bR B78.o X7.o);have NC8:Ll (w8.cell? ⟨w.heap.size+1,0,none⟩=some (.string ⟨who.toArray⟩)):=aa (by have h9:=bR Y8.o X2.o;simp[World.cell?,h9]);have OW8:=aa (ORW.o.owns AO.o.named);have WI8:Ll (dB w8 (fun k=>bQ (fun k=>bQ (Lj ok w) w5.heap.size k/\k < W7.heap.size) w8.heap.size k/\k < w8.heap.size) LQ (au LQ) (.agg #[.int .i64 LQ.kind,.int .i64 LQ.n,.string ⟨LQ.s.toArray⟩,.slice x1 LQ.keys.length y1,.slice x2 LQ.l.length y2,.slice x3 (au LQ).length y3])):=aa ((WI7.o.bel B78.o).weak fun k hk=>⟨.inl hk,MI hk.2 B78.o.size⟩);obtain⟨cl,hcl⟩:∃ cl,dj (au LQ) (cG t LQ l who) (cq l who) t=cl:=⟨_,rfl⟩
  have HCL:=aa hcl;obtain⟨res,hres⟩:∃ res,ed LQ (au LQ) cl=res:=⟨_,rfl⟩
  have HRES:=aa hres;have HRF:Ll (gO t LQ l who=res):=aa (by rw[<-hres,<-hcl];rfl);clear hcl hres;go_cut [17] (fun pv wc=>∃ (g7:Nat) (a9 b9:Option Addr) (c9 d9:Nat),pv=.pointer (some ⟨g7,0,none⟩)/\(KY wc g7 res a9 c9 b9 d9/\w8.heap.size<=g7/\La w8 wc/\In wc (bQ (fun k=>bQ (Lj ok w) w5.heap.size k/\k < W7.heap.size) w8.heap.size) res (.agg (KV res a9 c9 b9 d9))))
  case first=>
   refine aD (fun wS=>La w8 wS) [10] (by kernel_rfl) (aC _ 1) (fun LI=>?_);refine WT.out ?_;iterate 6
    first
     | refine tk (i:=0) (v:=?_) [8,10] rfl rfl (by decide +kernel) rfl (fun _ _ _ h=>h) LI ?_ ?_
     | refine tk (i:=1) (v:=?_) [7,8,10] rfl rfl (by decide +kernel) rfl (fun _ _ _ h=>h) LI ?_ ?_
     | refine tk (i:=2) (v:=?_) [7,8,10] rfl rfl (by decide +kernel) rfl (fun _ _ _ h=>h) LI ?_ ?_
     | refine tk (i:=3) (v:=?_) [5,7,8,10] rfl rfl (by decide +kernel) rfl (fun _ _ _ h=>h) LI ?_ ?_
     | refine tk (i:=4) (v:=?_) [5,7,8,10] rfl rfl (by decide +kernel) rfl (fun _ _ _ h=>h) LI ?_ ?_
     | refine tk (i:=6) (v:=?_) [7,8,10] rfl rfl (by decide +kernel) rfl (fun _ _ _ h=>h) LI ?_ ?_
    rotate_left
    ·intro wS LN;obtain⟨u0,u1,u2,u3,u4,-⟩:=(af LN VB8.o).c;obtain⟨e0,e1,e2,e3,e4,e5⟩:=lr (bR LN XW8.o);have nm:=ah LN NC8.o;go_simp;all_goals with_reducible rfl
    simp only[av,List.set]
   repeat' (first
    | exact nl
    |(refine ip (i:=5) (o:=_) rfl (fun K hK=>?_) ?_
      go_simp;refine(xU _ (Lj ok w) l _ who (by exact(HL.o.bel B8.o).bel LI) AO.o.rises (by have:=AO.o.len;omega)).mono ?_;rintro e w5q ⟨pa,pc,rfl,hst,hb5⟩;refine hK.out _ _ (ab LI hb5) (fun LJ=>?_);have HADS:=aa hst;try replace NB:=aa (af hb5 NB.o)
      clear hb5 hst;clear hK K;replace LI:=LJ;clear LJ;try simp only[Act.put,Mt,Mu,Mv])
    |(refine ip (i:=7) (o:=_) rfl (fun K hK=>?_) ?_
      go_simp;refine(yY _ (fun k=>bQ (fun k=>bQ (Lj ok w) w5.heap.size k/\k < W7.heap.size) w8.heap.size k/\k < w8.heap.size) (Lj ok w) (fun k=>W7.heap.size<=k) LQ t (au LQ) (cq l who) (cG t LQ l who) _ _ _ _ (by exact WI8.o.bel LI) (by exact((HT.o.bel B8.o).bel LI).weak fun k hk=>⟨.inl ⟨.inl hk,MI hk.2 B7.o.size⟩,MI hk.2 B8.o.size⟩) (by exact HADS.o) (by exact OW8.o.bel LI) (by exact(HM.o.bel B8.o).bel LI) AO.o.obT AO.o.k5 AO.o.had (fq LQ).1 (fq LQ).2 AO.o.cT).mono ?_;rintro e w7q ⟨rv,rfl,hr5,hb5,ho5,hc5,-⟩;rw[HCL.o]at hr5 ho5 hc5;obtain⟨a6,b6,c6,d6,rfl⟩:=hr5.form;have CLO:=aa ho5;have CLC:=aa hc5;have hS5:=LI.size;refine hK.out _ _ (ab LI hb5) (fun LJ=>?_);first | (have CLI:=aa (Ii NB.o hr5 HG.o hS5)) | (have CLI:=aa (Ea hr5 hS5))
      try replace NB:=aa (af hb5 NB.o)
      clear hb5 hr5 ho5 hc5 hS5;clear hK K;replace LI:=LJ;clear LJ;try simp only[Act.put,Mt,Mu,Mv])
    |(refine ip (i:=8) (o:=_) rfl (fun K hK=>?_) ?_
      go_simp;refine(uz _ _ LQ cl (au LQ) _ _ (by first | exact EC WI8.o LI HG.o | exact Ht WI8.o LI) CLI.o (by exact(HM.o.bel B8.o).bel LI) CLO.o AO.o.obW AO.o.lv AO.o.lvn CLC.o).mono ?_;rintro e w8q ⟨rv,rfl,hr5,hb5⟩;rw[HRES.o]at hr5;obtain⟨a9,b9,c9,d9,rfl⟩:=hr5.form;have hS5:=LI.size;refine hK.out _ _ (ab LI hb5) (fun LJ=>?_);first | (have RI:=aa (E5 NB.o hr5 hS5)) | (have RI:=aa (Bp hr5 hS5))
      try replace NB:=aa (af hb5 NB.o)
      have Ma:Ll True:=aa trivial;clear hb5 hr5 hS5;clear hK K;replace LI:=LJ;clear LJ;try simp only[Act.put,Mt,Mu,Mv])
    |(refine ip (i:=9) (o:=_) rfl (fun K hK=>?_) ?_
      go_simp;refine hK.out _ _ (ab LI (ae _ _)) (fun LJ=>?_);have NB:=aa (GA LI);have HG:=aa LI.size;try replace HADS:=aa (HADS.o.bel (ae _ (.cells Lb 35)))
      first | (have c9:=Ma.o;clear c9;have FINA:=aa (JM LI RI.o)) | (replace CLI:=aa (JU CLI.o (.cells Lb 35))) | skip
      clear hK K;replace LI:=LJ;clear LJ;try simp only[Act.put,Mt,Mu,Mv])
    |(refine jZ (i:=10) (o:=_) (by decide +kernel) rfl (fun K hK=>?_)
      try rw[show (World.drew w8).heap.size=w8.heap.size from rfl]at NB
      have n0_:=NB.o.c;first | (have c9:=FINA.o;clear c9) | (have FINB:=aa (Js LI HG.o NB.o RI.o))
      go_simp;refine hK.out _ _ ?_;clear hK K;try simp only[Act.put,Mt,Mu,Mv])
    | refine gc [5,9] (by decide +kernel) ?_
    | refine gc [7,9] (by decide +kernel) ?_
    | refine gc [8,9] (by decide +kernel) ?_
    | refine gc [9] (by decide +kernel) ?_
    | refine gc [8] (by decide +kernel) ?_
    | refine gc [7] (by decide +kernel) ?_
    | refine gc [5] (by decide +kernel) ?_
    | fail)
   all_goals
    refine dn (by kernel_rfl) ?_;go_wp2_with fail
    go_meet
    case rel=>first | exact⟨_,_,_,_,_,rfl,FINA.o⟩ | exact⟨_,_,_,_,_,rfl,FINB.o⟩
  case rest=>
   obtain⟨g7,a9,b9,c9,d9,rfl,hcW,hcG,hcB,hcI⟩:=hcut;have BC:=aa (ab B8.o hcB);have YC:=aa (ab Y8.o hcB);have CI:=aa hcI;have CW:=aa hcW;have CB:=aa hcB;have CG:=aa hcG;clear hcW hcG hcB hcI;have S7:Ll (w.heap.size+4<=w5.heap.size/\w5.heap.size<=W7.heap.size/\W7.heap.size<=w8.heap.size):=aa ⟨MH SW.o Y5.o.size,MH Y56.o.size Y7.o.size,B78.o.size⟩;obtain⟨nw,hnw⟩:∃ nw,(bP (cG t LQ l who) ⟨who,au LQ⟩).length=nw:=⟨_,rfl⟩
   have WOW:Ll (Calls prog 107 #[.slice oa (cG t LQ l who).length oc,.agg #[.string ⟨who.toArray⟩,.slice x3 (au LQ).length y3]] wc fun e w'=>∃ a c,e=.returned (.slice a nw c)/\aB w' (fun k=>W7.heap.size<=k\/(fun k=>bQ (Lj ok w) w5.heap.size k/\k < W7.heap.size) k) (bP (cG t LQ l who) ⟨who,au LQ⟩) (.slice a nw c)/\wc.grownBy w' (Value.ownBlock (.slice oa (cG t LQ l who).length oc))):=aa (by
    have hq:=ue wc W7.heap.size (cG t LQ l who) (.slice oa (cG t LQ l who).length oc) ⟨who,au LQ⟩ x3 y3 (fun k=>bQ (Lj ok w) w5.heap.size k/\k < W7.heap.size) (ORW.o.bel CB.o) AO.o.named AO.o.risesO AO.o.lenO (MH B78.o.size CB.o.size) (by unfold maxLen;show who.length<=_;omega) ((Bx WI7.o).bel B78.o |>.bel CB.o) (fun k hk e=>by have h9:=(ORW.o.lt k e.symm).1;have h8:=hk.2;omega);rw[hnw]at hq;exact hq)
   have HNW:=aa hnw;clear hnw;obtain⟨q0,q1,q2,q3,q4,q5⟩:=lr (bR CB.o XW8.o);have u0:=ah CB.o NC8.o;go_upto_region 10 with (go_at_call 107;refine WOW.o.mono ?_;rintro e w9 ⟨wa,wk,rfl,how,hgw⟩;have OW9:=aa how;have GW:=aa hgw;clear how hgw)
   clear q5;have FAR:Ll (∀ g,Value.ownBlock (.slice oa (cG t LQ l who).length oc)=some g->W7.heap.size<=g/\g < w8.heap.size):=aa (fun g hg=>ORW.o.lt g hg);have Y9:Ll (La W3 w9):=aa (Jv YC.o GW.o fun g hg=>by have h9:=(FAR.o g hg).1;have h8:=S7.o;have h7:=Y5.o.size;omega);have B9:=aa (ab BW.o Y9.o);have RB9:Ll (KY w9 g7 res a9 c9 b9 d9):=aa (by
    have h9:=(MF.1 CW.o).1;exact(GW.o.block g7 h9 fun e=>by have h8:=(FAR.o g7 e.symm).2;have h7:=CG.o;omega).trans CW.o)
   have RI9:Ll (In w9 (bQ (fun k=>bQ (Lj ok w) w5.heap.size k/\k < W7.heap.size) w8.heap.size) res (.agg (KV res a9 c9 b9 d9))):=aa (CI.o.grownR GW.o fun k hk e=>by
    have h8:=FAR.o k e.symm;rcases hk with hk | hk
    ·have:=hk.2;omega
    ·omega)
   have OKF:Ll (∀ k,(bQ (fun k=>bQ (Lj ok w) w5.heap.size k/\k < W7.heap.size) w8.heap.size) k->k≠w.heap.size+3):=aa (fun k hk=>by
    have h8:=S7.o;rcases hk with⟨hk | hk,-⟩ | hk
    ·have:=hk.2;omega
    ·omega
    ·omega)
   have OKS:Ll (∀ k,(bQ (fun k=>bQ (Lj ok w) w5.heap.size k/\k < W7.heap.size) w8.heap.size) k->bQ ok w.heap.size k):=aa (fun k hk=>by
    have h8:=S7.o;rcases hk with⟨hk | hk,-⟩ | hk
    ·exact .inl hk.1
    ·exact .inr (by omega)
    ·exact .inr (by omega))
   have OKF2:Ll (∀ k,(W7.heap.size<=k\/(fun k=>bQ (Lj ok w) w5.heap.size k/\k < W7.heap.size) k)->k≠w.heap.size+3):=aa (fun k hk=>by
    have h8:=S7.o;rcases hk with hk | ⟨hk | hk,-⟩
    ·omega
    ·have:=hk.2;omega
    ·omega)
   have OKS2:Ll (∀ k,(W7.heap.size<=k\/(fun k=>bQ (Lj ok w) w5.heap.size k/\k < W7.heap.size) k)->bQ ok w.heap.size k):=aa (fun k hk=>by
    have h8:=S7.o;rcases hk with hk | ⟨hk | hk,-⟩
    ·exact .inr (by omega)
    ·exact .inl hk.1
    ·exact .inr (by omega))
   have GR:Ll (Calls prog 50 #[.agg (KV res a9 c9 b9 d9)] w9 fun e w'=>e=.returned (.bool (aE res))/\La w9 w'):=aa (bG w9 _ res _ RI9.o);obtain⟨q0,q1,q2,q3,q4,-⟩:=RB9.o.c;have HRR:Ll (A=if aE res=true/\nw<=6 then (res,bP (cG t LQ l who) ⟨who,au LQ⟩,[],0) else (t,l,[],2)):=aa (by
    rw[RA.o,HRF.o,HNW.o])
   cases hgv:aE res with
   | false=>
    have R:Ll (A=(t,l,[],2)):=aa (by rw[HRR.o,if_neg (by rw[hgv];simp)]);rw[hgv]at GR;clear hgv;go_upto_region 11 with (go_at_call 50;refine GR.o.mono ?_;rintro e w10 ⟨rfl,hb⟩;have Y10:=aa (ab Y9.o hb);have B10:=aa (ab B9.o hb);clear hb)
    have v0_:=(af Y10.o X1.o).c;have n0_:=(af Y10.o X4.o).c;have ZB:=aa ((af Y10.o X4.o).set (.int .i64 t.kind) (.int .i64 t.n) (.string ⟨t.s.toArray⟩) (.slice b1 t.keys.length d1) (.slice b2 t.l.length d2));have BF:=aa (aP (g:=w.heap.size+3) B10.o (by omega) (.int .i64 t.kind) (.int .i64 t.n) (.string ⟨t.s.toArray⟩) (.slice b1 t.keys.length d1) (.slice b2 t.l.length d2));go_wp2_with fail
    have z0_:=ZB.o.c;refine MM (v:=.tuple #[.agg (KV t b1 d1 b2 d2),.slice la l.length lc,.slice none 0 0,.int .i64 2]) ?_ rfl ?_
    ·simp only[ar]at z0_;simp[results,results81,go_sem,z0_]
    ·rw[gT,R.o];exact⟨_,_,_,rfl,(HT.o.belB (fun k h=>h.2) BF.o).weak fun k h=>.inl h.1,(HL.o.belB (fun k h=>h.2) BF.o).weak fun k h=>.inl h.1,World.ownsRow_nil _ _ _ _,BF.o⟩
   | true=>
    rw[hgv]at GR;by_cases h6:nw<=6
    ·have RR:Ll (A=(res,bP (cG t LQ l who) ⟨who,au LQ⟩,[],0)):=aa (by rw[HRR.o,if_pos ⟨hgv,h6⟩]);have q6:¬(6:Int) < (nw:Int):=by omega
     clear hgv h6;go_upto_region 12 with (go_at_call 50;refine GR.o.mono ?_;rintro e w10 ⟨rfl,hb⟩;have Y10:=aa (ab Y9.o hb);have B10:=aa (ab B9.o hb);have RB10:=aa (af hb RB9.o);have RI10:=aa (RI9.o.bel hb);have OW10:=aa (OW9.o.bel hb);clear hb)
     clear q6;have v0_:=RB10.o.c;have n0_:=(af Y10.o X4.o).c;have ZB:=aa ((af Y10.o X4.o).set (.int .i64 res.kind) (.int .i64 res.n) (.string ⟨res.s.toArray⟩) (.slice a9 res.keys.length c9) (.slice b9 res.l.length d9));have BF:=aa (aP (g:=w.heap.size+3) B10.o (by omega) (.int .i64 res.kind) (.int .i64 res.n) (.string ⟨res.s.toArray⟩) (.slice a9 res.keys.length c9) (.slice b9 res.l.length d9));have GF:=aa (LH (aI w10 (w.heap.size+3)) res a9 c9 b9 d9);go_wp2_with fail
     have z0_:=ZB.o.c;refine MM (v:=.tuple #[.agg (KV res a9 c9 b9 d9),.slice wa nw wk,.slice none 0 0,.int .i64 0]) ?_ rfl ?_
     ·simp only[ar]at z0_;simp[results,results81,go_sem,z0_]
     ·rw[gT,RR.o];refine⟨_,_,_,rfl,(RI10.o.grownR GF.o fun k hk e=>?_).weak fun k hk=>?_,(OW10.o.grownR GF.o fun k hk e=>?_).weak fun k hk=>?_,World.ownsRow_nil _ _ _ _,BF.o⟩
      ·cases e;exact OKF.o _ hk rfl
      ·exact OKS.o _ hk
      ·cases e;exact OKF2.o _ hk rfl
      ·exact OKS2.o _ hk
    ·have R:Ll (A=(t,l,[],2)):=aa (by rw[HRR.o,if_neg (by intro h;exact h6 h.2)]);have q6:(6:Int) < (nw:Int):=by omega
     clear hgv h6;go_upto_region 11 with (go_at_call 50;refine GR.o.mono ?_;rintro e w10 ⟨rfl,hb⟩;have Y10:=aa (ab Y9.o hb);have B10:=aa (ab B9.o hb);clear hb)
     clear q6;have v0_:=(af Y10.o X1.o).c;have n0_:=(af Y10.o X4.o).c;have ZB:=aa ((af Y10.o X4.o).set (.int .i64 t.kind) (.int .i64 t.n) (.string ⟨t.s.toArray⟩) (.slice b1 t.keys.length d1) (.slice b2 t.l.length d2));have BF:=aa (aP (g:=w.heap.size+3) B10.o (by omega) (.int .i64 t.kind) (.int .i64 t.n) (.string ⟨t.s.toArray⟩) (.slice b1 t.keys.length d1) (.slice b2 t.l.length d2));go_wp2_with fail
     have z0_:=ZB.o.c;refine MM (v:=.tuple #[.agg (KV t b1 d1 b2 d2),.slice la l.length lc,.slice none 0 0,.int .i64 2]) ?_ rfl ?_
     ·simp only[ar]at z0_;simp[results,results81,go_sem,z0_]
     ·rw[gT,R.o];exact⟨_,_,_,rfl,(HT.o.belB (fun k h=>h.2) BF.o).weak fun k h=>.inl h.1,(HL.o.belB (fun k h=>h.2) BF.o).weak fun k h=>.inl h.1,World.ownsRow_nil _ _ _ _,BF.o⟩
end
theorem uQ:∀ (ns:List Lz) (v x:V),dr ns v=some x->ns.length+fa x<=fa v
 | [],v,x,h=>by cases h;simp
 | n :: ns,v,x,h=>by
  obtain⟨-,z,hm,hz⟩:=gB h;have h1:=uQ ns z x hz;have h2:=pC (lG hm);have h3:=df v;rw[My];omega
theorem zw{p}(h:oh p=true):p.length<=140737488351232/\aw p≠[]:=by
 simp only[oh,MJ,decide_eq_true_eq,Bool.not_eq_true']at h;refine⟨?_,fun e=>by rw[e]at h;simp at h⟩;have:=(mO (p:=p) (b:=(ax p).1) (by rw[<-h.1])).1;omega
theorem sh{s}(h:bT s=true):s.length<=12:=by
 simp only[bT,MJ,decide_eq_true_eq]at h;exact h.1.2
theorem Ay{LQ l}(who)(h1:t.kind=5)(h2:aE t=true)(h3:LQ.kind=5)(h4:aE LQ=true)(h5:bp l=true):AQ t LQ l who:=by
 obtain⟨g1,g2,g3⟩:=gz h5;obtain⟨k1,k2⟩:=kI (stays:=fun n p=>n != who&&!aV LQ t (au LQ) p) h5;have lo:=mM h3 h4;have c1:=gE (dQ h2);have c2:=gE (dQ h4);refine⟨g3,g1,kg h2,kg h4,h1,by omega,fun p hp=>zw (lB h5 who p hp),fun p hp=>?_,?_,fun o ho=>?_,k2,?_⟩
 ·obtain⟨q1,q2⟩:=zw (lo.good p hp);refine⟨q1,q2,?_⟩;obtain⟨x,hx,-⟩:=AM 12 LQ (aw p) ((fh h4).ho) h3 ((lo.names _).1 (List.mem_map.2 ⟨p,hp,rfl⟩));rw[hx,Option.getD_some];have:=uQ _ _ _ hx;omega
 ·have e:au LQ=ix ((jK 12 LQ).map aU):=if_pos ⟨h3,h4⟩;rw[e,(fU _).length_eq,List.length_map];have q1:=mB 12 LQ;have q2:=df LQ;omega
 ·have:=sh (k1 o ho).1;unfold maxLen;omega
 ·have:=(qB (fun n p=>n != who&&!aV LQ t (au LQ) p) l).length_le;simp only[List.length_map]at this;show (dV _ l).length<=_;omega
theorem Fl(w:LC)(ok t LQ l who force vt vl vw)(ht:In w ok t vt)(hl:aB w ok l vl)(hw:In w ok LQ vw)(hM:bj w)(hN:(bA l).length<=4000000)(hP:∀ o∈l,∀ x∈o.paths,x.length<=140737488351232)(hwho:who.length<=9223372036854775807):Calls prog 81 #[vt,vl,.string ⟨who.toArray⟩,vw,.bool force] w fun e w'=>gT w w' ok (eC t l who LQ force) e:=by
 cases hg1:(decide (t.kind=5)&&aE t) with
 | false=>exact kO w ok t LQ l who force vt vl vw ht hl hw hM hN hP hwho (fun h=>by rw[hg1]at h;simp at h)
 | true=>
  cases hg2:(decide (LQ.kind=5)&&aE LQ) with
  | false=>exact kO w ok t LQ l who force vt vl vw ht hl hw hM hN hP hwho (fun h=>by rw[hg2]at h;simp at h)
  | true=>
   cases hg3:bp l with
   | false=>exact kO w ok t LQ l who force vt vl vw ht hl hw hM hN hP hwho (fun h=>by rw[hg3]at h;simp at h)
   | true=>
    cases hg4:bT who with
    | false=>exact kO w ok t LQ l who force vt vl vw ht hl hw hM hN hP hwho (fun h=>by rw[hg4]at h;simp at h)
    | true=>
     have a1:=Bool.and_eq_true_iff.1 hg1;have a2:=Bool.and_eq_true_iff.1 hg2;have AO:=Ay who (of_decide_eq_true a1.1) a1.2 (of_decide_eq_true a2.1) a2.2 hg3;by_cases hf:eu (aV LQ t (au LQ)) who l=[]
     ·exact uh w ok t LQ l who force vt vl vw ht hl hw hM hN hP hwho hg1 hg2 hg3 hg4 (.inl hf) AO
     ·cases hfo:force with
      | false=>exact xC w ok t LQ l who false vt vl vw ht hl hw hM hN hP hwho hg1 hg2 hg3 hg4 hf rfl
      | true=>exact uh w ok t LQ l who true vt vl vw ht hl hw hM hN hP hwho hg1 hg2 hg3 hg4 (.inr rfl) AO
end Go.Proofs.YtkjeiljdoljjgaaGreatDoor
