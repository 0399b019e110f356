import Derived.Test.YtkjeiljdoljjgaaGreatDoorG28
import Derived.Test.YtkjeiljdoljjgaaGreatDoorG29
set_option maxRecDepth 100000
set_option maxHeartbeats 40000000
set_option linter.unusedSimpArgs false
set_option linter.unusedVariables false
namespace Go.Proofs.YtkjeiljdoljjgaaGreatDoor
open Go.RowKit
open _root_.Go.Proofs.Tryz
variable {w w':World}
variable {v:Value}
variable {S:Nat}
theorem Jj(w:LC)(ok):In w ok jM (.agg #[.int .i64 5,.int .i64 0,.string ⟨#[]⟩,.slice none 0 0,.slice none 0 0]):=⟨1,_,_,rfl,by unfold dW;simp[jM],by unfold dW;simp[jM],by simp[jM,maxLen],⟨by simp[jM,maxLen],.inl ⟨rfl,none,rfl⟩⟩,⟨by simp[jM,maxLen],.inl ⟨rfl,none,rfl⟩⟩⟩
theorem nO{time ver t}{a:cm}(h:(al time ver t a).2.2≠0):(al time ver t a).2.1=ver:=by
 unfold al at h ⊢;split
 ·rfl
 ·rename_i h1;rw[if_neg h1]at h;split
  ·rfl
  ·rename_i h2;rw[if_neg h2]at h;exact absurd rfl h
theorem kS.row{a}(k:kS a w S v)(h:w.grownBy w' v.ownBlock):kS a w' S v:=⟨h.os.trans k.os,h.tape.trans k.tape,h.output.trans k.output,MH k.size h.size,fun j hj h1 h2=>(h.block j (MI hj k.size) fun e=>h2 e.symm).trans (k.block j hj h1 h2)⟩
noncomputable def iF (s:ex) (i:Nat) (a:cm):ex × uf:=
 if (al s.time s.ver (eT a.name) a).2.2≠0 then (s,bz (al s.time s.ver (eT a.name) a).2.2)
 else ({ s with ths:=s.ths.take i++(al s.time s.ver (eT a.name) a).1 :: s.ths.drop i,ver:=(al s.time s.ver (eT a.name) a).2.1 },⟨0,(al s.time s.ver (eT a.name) a).1.ver,[]⟩)
theorem FN(w ok S v)(st:ex)(i)(q:cm)(h:bo w ok S v st)(hv:0<=st.ver/\st.ver<=1000)(hi:i<=st.ths.length)(h8:st.ths.length<=8)(hG:cn w)(hM:bj w)(hW:di w)(hn:q.name.length<=9223372036854775807)(hq:q.body.length<=9223372036854775807)(hw:q.who.length<=9223372036854775807):Calls prog 35 #[.pointer (some ⟨S,0,none⟩),.int .i64 i,.agg (Lf q)] w fun e w'=>∃ v',e=.returned (fX (iF st i q).2)/\bo w' (Fa ok w.heap.size S v') S v' (iF st i q).1/\(∀ g,v'.ownBlock=some g->v.ownBlock=some g\/w.heap.size<=g)/\kS w w' S v:=by
 obtain⟨W2,hW2⟩:∃ W,W=(w.alloc (.cells (Lf q) 28)).alloc (.cells #[.int .i64 0,.int .i64 0,.string ⟨#[]⟩] 31):=⟨_,rfl⟩
 have Y2:Ll (La w W2):=aa (by rw[hW2];exact ab (ae _ _) (ae _ _));have AB:Ll (jC W2 w.heap.size q):=aa (by rw[hW2];exact fb _ _ _);have RB:Ll (dK W2 (w.heap.size+1) 0 0 []):=aa (by rw[hW2];exact et _ _ _);have HW2:=aa hW2;have S2:=aa (h.low.bel Y2.o);have NO:=aa h.no;have HNE:=aa (fun g (hg:v.ownBlock=some g)=>h.ne hg);have SLT:Ll (S < w.heap.size):=aa h.blk.lt;obtain⟨x,xv,xe,hx⟩:∃ x xv xe,al st.time st.ver (eT q.name) q=(x,xv,xe):=⟨_,_,_,rfl⟩
 obtain⟨W3,hW3⟩:∃ W,W=W2.alloc (.cells #[.string ⟨q.name.toArray⟩,.int .i64 5,.int .i64 0,.string ⟨#[]⟩,.slice none 0 0,.slice none 0 0,.slice none 0 0,.int .i64 0,.int .i64 0,.string ⟨#[]⟩,.string ⟨#[]⟩,.int .i64 0,.int .i64 0,.int .i64 0,.int .i64 0] 40):=⟨_,rfl⟩
 have A3:Ll (La W2 W3):=aa (by rw[hW3];exact ae _ _);have NB:Ll (fN W3 W2.heap.size (eT q.name) none none 0 0 none 0):=aa (by rw[hW3];exact MN _ _);have HW3:=aa hW3;have Y3:=aa (ab Y2.o A3.o);have S3:=aa (S2.o.bel A3.o);have WR0:=pI W3 (Lj ok w) S v st.time st.ver st.acts (eT q.name) none none 0 0 none 0 q S3.o.blk (fun hk=>(NO.o S hk.1).1 rfl) hv ⟨Int.le_refl _,by show (0:Int)<=1000;decide⟩ ⟨hn,Jj _ _,⟨by simp[eT,maxLen],.inl ⟨rfl,none,rfl⟩⟩⟩ (hG.grown (r:=none) (aq Y3.o) (by simp)) (hM.bel Y3.o) (hW.bel Y3.o) (by simp[eT,bA]) (by intro o ho;cases ho) hq hw;rw[hx]at WR0;have WRIT:=aa WR0;have HX:=aa hx;have H8:=aa h8;have HI:=aa hi;clear WR0 hx hW2 hW3 h hv hi h8 hG hM hW hn hq hw;have q0_:=AB.o.c;go_enter func35,ntmps35;go_upto_region 1 with fail
 rw[<-HW2.o];go_upto_region 2 with fail
 rw[<-HW3.o];have q0_:=(AB.o.bel A3.o).c;obtain⟨t0,t1,t2,t3,t4,t5,t6,t7,t8,t9,t10,t11,t12,t13,t14⟩:=NB.o.c;go_upto_region 3 with (go_at_call 47;refine WRIT.o.mono ?_;rintro e w4 ⟨a9,b9,c9,d9,oa9,oc9,rfl,h1,h2,h3⟩;have K4:=aa h1;have SB4:=aa h2;have G4:=aa h3;clear h1 h2 h3)
 obtain⟨W5,hW5⟩:∃ W,W=w4.alloc (.cells (Ld x a9 c9 b9 d9 oa9 oc9) 40):=⟨_,rfl⟩
 have A5:Ll (La w4 W5):=aa (by rw[hW5];exact ae _ _);have XB:Ll (fN W5 w4.heap.size x a9 b9 c9 d9 oa9 oc9):=aa (by rw[hW5];exact MN _ _);rw[<-hW5];clear hW5;have S5:=aa ((S3.o.grS G4.o SB4.o).bel A5.o);have F5:=aa (((eE (S:=S) (v:=v) Y3.o).gb G4.o (.inl rfl)).bel A5.o);have RB5:Ll (dK W5 (w.heap.size+1) 0 0 []):=aa (dK.bel (MF.1 (RB.o.bel A3.o) |>.1 |> fun hl=>(G4.o.block _ hl (fun e=>by cases e;have:=SLT.o;omega)).trans (RB.o.bel A3.o)) A5.o);by_cases hxe:xe=0
 rotate_left
 ·have e0:(xe != 0)=true:=by simpa using hxe
  have e1:(xe == 0)=false:=by rw[MO];exact hxe
  have R:Ll (iF st i q=(st,bz xe)):=aa (by unfold iF;rw[HX.o,if_pos hxe]);have hxv:xv=st.ver:=by
   have:=nO (time:=st.time) (ver:=st.ver) (t:=eT q.name) (a:=q) (by rw[HX.o];exact hxe);rw[HX.o]at this;exact this
  rw[hxv]at S5;clear hxe hxv;have RF:=aa (dh W5 xe);go_wp2_with (go_at_call 20;refine RF.o.mono ?_;rintro e w5 ⟨rfl,hb⟩;have B5:=aa hb;clear hb;have n0_:=(RB5.o.bel B5.o).c;have Z9:=aa ((RB5.o.bel B5.o).set (bz xe)))
  have z0_:=Z9.o.c;have S9:=aa (((S5.o.bel B5.o).new (a:=w) (cE _ _ (bz xe)) SLT.o (fun k hk=>(HNE.o k hk).2) (Nat.le_succ _)).o);have F9:=aa ((F5.o.bel B5.o).gb (cE w5 (w.heap.size+1) (bz xe)) (.inr (.inr (Nat.le_succ _))));refine MM (v:=.agg #[.int .i64 xe,.int .i64 0,.string ⟨#[]⟩]) ?_ rfl ?_
  ·simp only[fE,bz]at z0_;simp[results,results35,go_sem,z0_]
  ·rw[R.o];first
    | exact⟨rfl,_,S9.o,fun k hk=>.inl hk,F9.o⟩
    | exact⟨_,rfl,S9.o,fun k hk=>.inl hk,F9.o⟩
 subst hxe;have R:Ll (iF st i q=({ st with ths:=st.ths.take i++x :: st.ths.drop i,ver:=xv },⟨0,x.ver,[]⟩)):=aa (by unfold iF;rw[HX.o,if_neg (by simp)]);obtain⟨ra,rc,hform⟩:=S5.o.row.form;have SZ:Ll (w.heap.size+2<=W3.heap.size/\W3.heap.size<=w4.heap.size/\w4.heap.size < W5.heap.size):=aa (by have h1:=NB.o.lt;have h2:=(MF.1 RB.o).1;have h3:=A3.o.size;have h4:=G4.o.size;have h5:=XB.o.lt;omega);have HOK:Ll (∀ k,(bQ (Lj ok w) W3.heap.size k/\k < W5.heap.size)->IT S v k):=aa (by
  rintro k ⟨hk | hk,-⟩
  ·exact NO.o k hk.1
  ·have h1:=SZ.o;have h2:=SLT.o;exact⟨by omega,fun e=>by have:=HNE.o k e;omega⟩)
 have T5:=aa (S5.o.row.weak (ok':=fun k=>bQ (Lj ok w) W3.heap.size k/\k < W5.heap.size) fun k hk=>⟨.inl hk,by have:=SZ.o;have:=hk.2;omega⟩);have K5:Ll (cQ W5 (fun k=>bQ (Lj ok w) W3.heap.size k/\k < W5.heap.size) x a9 b9 c9 d9 oa9 oc9):=aa ((K4.o.low.weak fun k hk=>⟨hk.1,by have:=SZ.o;have:=hk.2;omega⟩).bel A5.o);have INS:Ll (∀ W vb,La W5 W->W5.heap.size<=vb->W.heap[vb]?=some (.cells (Ld x a9 c9 b9 d9 oa9 oc9) 40)->Calls prog 48 #[v,.int .i64 i,.slice (some ⟨vb,0,none⟩) 1 1] W fun e w'=>∃ g cap,e=.returned (.slice (some ⟨g,0,none⟩) (st.ths.length+1) cap)/\dm w' (S+1) (fun k=>bQ (Lj ok w) W3.heap.size k/\k < W5.heap.size) (st.ths.take i++x :: st.ths.drop i) (.slice (some ⟨g,0,none⟩) (st.ths.length+1) cap)/\W5.grownBy w' v.ownBlock/\(v.ownBlock=some g\/W5.heap.size<=g)):=aa (by
  intro W vb hb hvb hW;refine(dm.ins W (S+1) _ st.ths v i vb x a9 b9 c9 d9 oa9 oc9 (T5.o.bel hb) hW (K5.o.bel hb) HI.o (by have:=H8.o;omega) (by have:=SLT.o;have:=SZ.o;have:=hb.size;omega) (fun g hg e=>by have:=HNE.o g hg;have:=SZ.o;omega) (fun k hk=>(HOK.o k hk).2)).mono ?_;rintro e w' ⟨g,cap,rfl,p1,p2,p3⟩;exact⟨g,cap,rfl,p1,am (aq hb) p2,p3.imp id fun h9=>MH hb.size h9⟩)
 have BW:Ll (∀ o,La W5 (W5.drew.alloc o)):=aa (fun o=>ab (aC _ 1) (ae _ _));have NW:Ll (∀ (W:LC) o,(W.alloc o).heap[W.heap.size]?=some o):=aa (fun W o=>MN W o);subst hform;obtain⟨s0,s1,s2,s3⟩:=S5.o.blk.c;obtain⟨t0,t1,t2,t3,t4,t5,t6,t7,t8,t9,t10,t11,t12,t13,t14⟩:=XB.o.c;go_upto_region 5 with fail
 refine aD (fun wS=>W5.grownBy wS (Value.slice ra st.ths.length rc).ownBlock) [11] (by kernel_rfl) (cJ (az _ _) 1) (fun LI=>?_);refine WT.out ?_;iterate 7
  first
   | refine tk (i:=0) (v:=?_) [9,10,11] rfl rfl (by decide +kernel) rfl (fun _ _ _ h=>h) LI ?_ ?_
   | refine tk (i:=1) (v:=?_) [2,3,4,8,9,10,11] rfl rfl (by decide +kernel) rfl (fun _ _ _ h=>h) LI ?_ ?_
   | refine tk (i:=2) (v:=?_) [3,4,8,9,10,11] rfl rfl (by decide +kernel) rfl (fun _ _ _ h=>h) LI ?_ ?_
   | refine tk (i:=3) (v:=?_) [4,8,9,10,11] rfl rfl (by decide +kernel) rfl (fun _ _ _ h=>h) LI ?_ ?_
   | refine tk (i:=4) (v:=?_) [8,9,10,11] rfl rfl (by decide +kernel) rfl (fun _ _ _ h=>h) LI ?_ ?_
   | refine tk (i:=5) (v:=?_) [8,9,10,11] rfl rfl (by decide +kernel) rfl (fun _ _ _ h=>h) LI ?_ ?_
   | refine tk (i:=6) (v:=?_) [7,8,9,10,11] rfl rfl (by decide +kernel) rfl (fun _ _ _ h=>h) LI ?_ ?_
  rotate_left
  ·intro wS LN;obtain⟨s0,s1,s2,s3⟩:=(S5.o.blk.gr LN (fun e=>by have:=HNE.o S e.symm;omega)).c;obtain⟨t0,t1,t2,t3,t4,t5,t6,t7,t8,t9,t10,t11,t12,t13,t14⟩:=(XB.o.gr LN (fun e=>by have:=HNE.o w4.heap.size e.symm;have:=SZ.o;omega)).c;go_simp;all_goals with_reducible rfl
  simp only[av,List.set]
 repeat' (first
  | exact nl
  |(refine ip (i:=7) (o:=_) rfl (fun K hK=>?_) ?_
    go_simp;refine hK.out _ _ (bd LI _) (fun LJ=>?_);clear hK K;replace LI:=LJ;clear LJ;try simp only[Act.put,Mt,Mu,Mv])
  |(refine ip (i:=8) (o:=_) rfl (fun K hK=>?_) ?_
    go_simp;refine(INS.o _ _ (BW.o _) (MG _) (NW.o _ _)).mono ?_;rintro e w8q ⟨g,cap,rfl,h1,h2,h3⟩;refine hK.out _ _ (h2) (fun LJ=>?_);have T6:=aa h1;have G6:=aa h2;have N6:=aa h3;clear h1 h2 h3;clear hK K;replace LI:=LJ;clear LJ;try simp only[Act.put,Mt,Mu,Mv])
  |(refine jZ (i:=11) (o:=_) (by decide +kernel) rfl (fun K hK=>?_)
    obtain⟨s0,s1,s2,s3⟩:=(S5.o.blk.gr G6.o (fun e=>by have:=HNE.o S e.symm;omega)).c;obtain⟨f0,f1,f2,f3⟩:=(S5.o.blk.gr G6.o (fun e=>by have:=HNE.o S e.symm;omega)).f;go_simp;refine hK.out _ _ ?_;clear hK K;try simp only[Act.put,Mt,Mu,Mv])
  |(first
     | refine tk (i:=9) (v:=?_) [10,11] rfl rfl (by decide +kernel) rfl (fun _ _ _ h=>h) (by exact LI) ?_ ?_
     | refine tk (i:=10) (v:=?_) [11] rfl rfl (by decide +kernel) rfl (fun _ _ _ h=>h) (by exact LI) ?_ ?_
    rotate_left
    ·intro wS LN;go_simp;all_goals with_reducible rfl
    simp only[av,List.set])
  | refine gc [7] (by decide +kernel) ?_
  | refine gc [8] (by decide +kernel) ?_
  | fail)
 all_goals
  refine dn (by kernel_rfl) ?_;obtain⟨W7,hW7⟩:∃ W,W=w8q.setCell ⟨S,0,none⟩ (.slice (some ⟨g,0,none⟩) (st.ths.length+1) cap):=⟨_,rfl⟩
  have G7:Ll (w8q.grownBy W7 (some S)):=aa (by rw[hW7];exact ap (az _ _) _ _);have SB7:Ll (eF W7 S (.slice (some ⟨g,0,none⟩) (st.ths.length+1) cap) st.time xv st.acts):=aa (by rw[hW7];exact ak (S5.o.blk.gr G6.o (fun e=>by have:=HNE.o S e.symm;omega)) 0 _);rw[<-hW7];clear hW7 f0 f1 f2 f3;have GN:Ll (S < g/\g≠w.heap.size+1/\(∀ k,(bQ (Lj ok w) W3.heap.size k/\k < W5.heap.size)->k≠g)):=aa (by
   have h1:=SZ.o;have h2:=SLT.o;rcases N6.o with h9 | h9
   ·have h3:=HNE.o g h9;exact⟨h3.1,by omega,fun k hk e=>(HOK.o k hk).2 (by rw[e];exact h9)⟩
   ·exact⟨by omega,by omega,fun k hk e=>by have:=hk.2;omega⟩)
  have S7:Ll (bo W7 (fun k=>bQ (Lj ok w) W3.heap.size k/\k < W5.heap.size) S (.slice (some ⟨g,0,none⟩) (st.ths.length+1) cap) { st with ths:=st.ths.take i++x :: st.ths.drop i,ver:=xv }):=aa ⟨SB7.o,T6.o.gr G7.o (fun k hk e=>by cases e;exact(HOK.o S hk).1 rfl) (fun k hk e=>by have h5:some g=some k:=hk;cases e;cases h5;exact Nat.lt_irrefl _ GN.o.1),fun k hk=>⟨(HOK.o k hk).1,fun e=>by have h5:some g=some k:=e;cases h5;exact GN.o.2.2 g hk rfl⟩⟩;have F7:=aa ((F5.o.row G6.o).gb G7.o (.inl rfl));have RB7:Ll (dK W7 (w.heap.size+1) 0 0 []):=aa ((G7.o.block _ (MI (MF.1 RB5.o).1 G6.o.size) (by intro e;cases e;have:=SLT.o;omega)).trans ((G6.o.block _ (MF.1 RB5.o).1 (fun e=>by have:=HNE.o _ e.symm;omega)).trans RB5.o));have XB7:=aa ((XB.o.gr G6.o (fun e=>by have:=HNE.o w4.heap.size e.symm;have:=SZ.o;omega)).gr G7.o (by intro e;cases e;have:=SLT.o;have:=SZ.o;omega));obtain⟨t0,t1,t2,t3,t4,t5,t6,t7,t8,t9,t10,t11,t12,t13,t14⟩:=XB7.o.c;have n0_:=RB7.o.c;have Z9:=aa (RB7.o.set ⟨0,x.ver,[]⟩);have S9:=aa ((S7.o.gr (cE _ (w.heap.size+1) ⟨0,x.ver,[]⟩) (by have:=SLT.o;omega) (fun e=>by have h5:some g=some (w.heap.size+1):=e;cases h5;exact GN.o.2.1 rfl) (by rintro k ⟨hk | hk,-⟩;have:=hk.2;omega;have:=SZ.o;omega)).imp (ok':=Fa ok w.heap.size S (.slice (some ⟨g,0,none⟩) (st.ths.length+1) cap)) (fun k hk=>⟨hk.1.imp (fun h9=>h9.1) (fun h9=>by have:=SZ.o;omega),S7.o.no k hk⟩) fun _ hk=>hk.2);have F9:=aa (F7.o.gb (cE W7 (w.heap.size+1) ⟨0,x.ver,[]⟩) (.inr (.inr (Nat.le_succ _))));go_wp2_with fail
  have z0_:=Z9.o.c;refine MM (v:=.agg #[.int .i64 0,.int .i64 x.ver,.string ⟨#[]⟩]) ?_ rfl ?_
  ·simp only[fE]at z0_;simp[results,results35,go_sem,z0_]
  ·rw[R.o];have V9:∀ k,(Value.slice (some ⟨g,0,none⟩) (st.ths.length+1) cap).ownBlock=some k->(Value.slice ra st.ths.length rc).ownBlock=some k\/w.heap.size<=k:=fun k hk=>by
    have h5:some g=some k:=hk;cases h5;exact N6.o.imp id fun h9=>by have:=SZ.o;omega
   first
    | exact⟨rfl,_,S9.o,V9,F9.o⟩
    | exact⟨_,rfl,S9.o,V9,F9.o⟩
variable {W:World}
variable {ok:Nat->Prop}
variable {g c d:Nat}
noncomputable def fF (s:ex) (i:Nat) (t:Th) (a:cm):ex × uf:=
 if a.kind≠5/\a.version≠0/\a.version≠t.ver then (s,bz 7)
 else if (al s.time s.ver t a).2.2≠0 then (s,bz (al s.time s.ver t a).2.2)
 else ({ s with ths:=s.ths.set i (al s.time s.ver t a).1,ver:=(al s.time s.ver t a).2.1 },⟨0,(al s.time s.ver t a).1.ver,[]⟩)
theorem jC.grA{q:cm}{r}(h:jC w g q)(hg:w.grownBy w' r)(hr:some g≠r):jC w' g q:=(hg.block g (MF.1 h).1 hr).trans h
def Kq (W2:LC) (S:Nat) (v:Value) (time acts:Int) (wS:LC):Prop:=W2.grownBy wS (some S)/\∃ n,eF wS S v time n acts
theorem JI{W2:LC}{time acts}(_:Kq W2 S v time acts (W.alloc (.cells Le 40))):fN (W.alloc (.cells Le 40)) W.heap.size dT none none 0 0 none 0:=MN _ _
theorem Ih{W2:LC}{time acts}(_:Kq W2 S v time acts (W.alloc (.cells Le 40)).drew.drew):fN (W.alloc (.cells Le 40)).drew.drew W.heap.size dT none none 0 0 none 0:=MN _ _
structure Kt (w W5:LC) (ok:Nat->Prop) (S g cap:Nat) (st:ex) (x:Th) (xv:Int) (xg:Nat) (a b:Option Addr) (c d:Nat) (oa:Option Addr) (oc:Nat):Prop where
 xb:fN W5 xg x a b c d oa oc
 srv:bo W5 (Lj ok w) S (Value.slice (some ⟨g,0,none⟩) st.ths.length cap) { st with ver:=xv }
 fr:kS w W5 S (Value.slice (some ⟨g,0,none⟩) st.ths.length cap)
 rb:dK W5 (w.heap.size+1) 0 0 []
 ok:cQ W5 (fun k=>(ok k/\k < w.heap.size\/w.heap.size+2<=k)/\k≠xg) x a b c d oa oc
 big:w.heap.size+2<=xg
theorem Ke{W2 W':LC}{cap}{st:ex}{x xv a b oa oc}(hNB:fN W' W2.heap.size dT none none 0 0 none 0)(hb:La W2 W)(L9:W2.heap.size < W.heap.size)(h2:bo W2 (Lj ok w) S (Value.slice (some ⟨g,0,none⟩) st.ths.length cap) st)(f2:kS w W2 S (Value.slice (some ⟨g,0,none⟩) st.ths.length cap))(hr:dK W2 (w.heap.size+1) 0 0 [])(g4:W.grownBy W' (some S))(sb:eF W' S (Value.slice (some ⟨g,0,none⟩) st.ths.length cap) st.time xv st.acts)(k4:cQ W' (bQ (Lj ok w) W.heap.size) x a b c d oa oc)(hz:w.heap.size+2<=W2.heap.size)(hl:S < w.heap.size)(hg:S < g/\g < w.heap.size):Kt w (jE W' W2.heap.size x a b c d oa oc) ok S g cap st x xv W2.heap.size a b c d oa oc:=by
 have G:=g15 W' W2.heap.size x a b c d oa oc;have s4:=(h2.bel hb).grS g4 sb;have r4:dK W' (w.heap.size+1) 0 0 []:=(g4.block _ (MF.1 (hr.bel hb)).1 (by intro e;cases e;omega)).trans (hr.bel hb);refine⟨hNB.put15 x a b c d oa oc,s4.gr G (by omega) (fun e=>by have h5:=Option.some.inj (show some g=some W2.heap.size from e);omega) (fun k hk=>by have:=hk.2;omega),((f2.bel hb).gb g4 (.inl rfl)).gb G (.inr (.inr (by omega))),(G.block _ (MF.1 r4).1 (by intro e;have:=Option.some.inj e;omega)).trans r4,(k4.weak fun k hk=>?_).gr G (fun k hk e=>hk.2 (Option.some.inj e)),hz⟩;rcases hk with hk | hk
 ·exact⟨.inl hk,by have:=hk.2;omega⟩
 ·exact⟨.inr (by omega),by omega⟩
theorem J7{W2 W':LC}{cap}{st:ex}{x xv a b oa oc}(hb:La W2 W)(h2:bo W2 (Lj ok w) S (Value.slice (some ⟨g,0,none⟩) st.ths.length cap) st)(f2:kS w W2 S (Value.slice (some ⟨g,0,none⟩) st.ths.length cap))(hr:dK W2 (w.heap.size+1) 0 0 [])(g4:W.grownBy W' (some S))(sb:eF W' S (Value.slice (some ⟨g,0,none⟩) st.ths.length cap) st.time xv st.acts)(k4:cQ W' (bQ (Lj ok w) W.heap.size) x a b c d oa oc)(hz:w.heap.size+2<=W2.heap.size)(hl:S < w.heap.size)(hg:S < g/\g < w.heap.size):Kt w (W'.alloc (.cells (Ld x a c b d oa oc) 40)) ok S g cap st x xv W'.heap.size a b c d oa oc:=by
 have G:La W' (W'.alloc (.cells (Ld x a c b d oa oc) 40)):=ae _ _;have s4:=(h2.bel hb).grS g4 sb;have r4:dK W' (w.heap.size+1) 0 0 []:=(g4.block _ (MF.1 (hr.bel hb)).1 (by intro e;cases e;omega)).trans (hr.bel hb);have h7:=hb.size;have h8:=g4.size;refine⟨MN _ _,s4.bel G,((f2.bel hb).gb g4 (.inl rfl)).bel G,r4.bel G,(k4.low.bel G).weak fun k hk=>?_,by omega⟩;have h9:=hk.2;rcases hk.1 with hk | hk
 ·exact⟨.inl hk,by omega⟩
 ·exact⟨.inr (by omega),by omega⟩
theorem Ga(W):La W W.drew.drew:=ab (aC _ 1) (aC _ 1)
theorem CM(w:LC)(ok)(S:Nat)(v)(st:ex)(i:Nat)(t)(q:cm)(h:bo w ok S v st)(ht:st.ths[i]?=some t)(hv:0<=st.ver/\st.ver<=1000)(hgn:0<=t.gen/\t.gen<=1000)(hN:(bA t.owners).length<=4000000)(hP:∀ o∈t.owners,∀ x∈o.paths,x.length<=140737488351232)(hG:cn w)(hM:bj w)(hW:di w)(hq:q.body.length<=9223372036854775807)(hw:q.who.length<=9223372036854775807):Calls prog 36 #[.pointer (some ⟨S,0,none⟩),.int .i64 i,.agg (Lf q)] w fun e w'=>e=.returned (fX (fF st i t q).2)/\bo w' (Fa ok w.heap.size S v) S v (fF st i t q).1/\kS w w' S v:=by
 obtain⟨W2,hW2⟩:∃ W,W=(w.alloc (.cells (Lf q) 28)).alloc (.cells #[.int .i64 0,.int .i64 0,.string ⟨#[]⟩] 31):=⟨_,rfl⟩
 have Y2:Ll (La w W2):=aa (by rw[hW2];exact ab (ae _ _) (ae _ _));have AB:Ll (jC W2 w.heap.size q):=aa (by rw[hW2];exact fb _ _ _);have RB:Ll (dK W2 (w.heap.size+1) 0 0 []):=aa (by rw[hW2];exact et _ _ _);have HW2:=aa hW2;have S2:=aa (h.low.bel Y2.o);have NO:=aa h.no;have HNE:=aa (fun g (hg:v.ownBlock=some g)=>h.ne hg);have SLT:Ll (S < w.heap.size):=aa h.blk.lt;obtain⟨x,xv,xe,hx⟩:∃ x xv xe,al st.time st.ver t q=(x,xv,xe):=⟨_,_,_,rfl⟩
 have hi:=(Mz.1 ht).1;obtain⟨g,cap,rfl,hgB,hgl,hlc,hc9,hf,Mb,a,b,c,d,oa,oc,hcl,hk⟩:=S2.o.row.at ht;have GL:Ll (S < g/\g < w.heap.size):=aa (HNE.o g rfl);have S2Z:Ll (w.heap.size+2<=W2.heap.size):=aa (by have:=(MF.1 RB.o).1;omega);have q1:(0:Int)<=(i:Int):=by omega
 have q2:(i:Int) < (st.ths.length:Int):=by omega
 have WRIT:Ll (∀ W,La W2 W->Calls prog 47 #[.pointer (some ⟨S,0,none⟩),.agg (Ld t a c b d oa oc),.agg (Lf q)] W fun e w'=>∃ a9 b9 c9 d9 oa9 oc9,e=.returned (.tuple #[.agg (Ld x a9 c9 b9 d9 oa9 oc9),.int .i64 xe])/\cQ w' (bQ (Lj ok w) W.heap.size) x a9 b9 c9 d9 oa9 oc9/\eF w' S (Value.slice (some ⟨g,0,none⟩) st.ths.length cap) st.time xv st.acts/\W.grownBy w' (some S)):=aa (by
  intro W hb;have Y:=ab Y2.o hb;have:=pI W (Lj ok w) S (Value.slice (some ⟨g,0,none⟩) st.ths.length cap) st.time st.ver st.acts t a b c d oa oc q (S2.o.blk.bel hb) (fun hk=>(NO.o S hk.1).1 rfl) hv hgn (hk.bel hb) (hG.grown (r:=none) (aq Y) (by simp)) (hM.bel Y) (hW.bel Y) hN hP hq hw;rw[hx]at this;exact this)
 have CL:Ll (∀ wS,Kq W2 S (Value.slice (some ⟨g,0,none⟩) st.ths.length cap) st.time st.acts wS->∀ j u,(cu t a b c d oa oc)[j]?=some u->wS.cell? ⟨g,i * 15+j,none⟩=some u):=aa (fun wS hS j u hu=>by
  have h1:=hcl j u hu;have h2:=hS.1.block g hgl (fun e=>by cases e;have:=GL.o;omega);rw[<-h1];simp only[World.cell?,h2])
 have HX:=aa hx;have HT:=aa ht;have F2:=aa (eE (S:=S) (v:=(Value.slice (some ⟨g,0,none⟩) st.ths.length cap)) Y2.o);have c7:W2.cell? ⟨g,i * 15+7,none⟩=some (.int .i64 t.ver):=hcl 7 _ rfl;clear hx hW2 h ht hv hgn hN hP hG hM hW hq hw hcl hk hf Mb hgB hgl;obtain⟨q0,q1',q2',q3,q4,q5,q6,q7⟩:=AB.o.c;have s0_:=S2.o.blk.c;by_cases hd:q.kind≠5/\q.version≠0/\q.version≠t.ver
 ·obtain⟨h5,hv0,hvt⟩:=hd;have R:Ll (fF st i t q=(st,bz 7)):=aa (by unfold fF;rw[if_pos ⟨h5,hv0,hvt⟩]);have e5:(q.kind != 5)=true:=by simpa using h5
  have e6:(q.version != 0)=true:=by simpa using hv0
  have e7:(q.version != t.ver)=true:=by simpa using hvt
  have e5':(q.kind == 5)=false:=by simpa using h5
  have e6':(q.version == 0)=false:=by simpa using hv0
  have e7':(q.version == t.ver)=false:=by simpa using hvt
  clear h5 hv0 hvt;go_enter func36,ntmps36;go_upto_region 1 with fail
  rw[<-HW2.o];go_region
  obtain⟨W3,hW3⟩:∃ W,W=W2.drew:=⟨_,rfl⟩
  have Y3:Ll (La W2 W3):=aa (by rw[hW3];exact aC _ 1);rw[<-hW3];clear hW3 q1' q2' c7;have RF:=aa (dh W3 7);go_wp2_with (go_at_call 20;refine RF.o.mono ?_;rintro e w5 ⟨rfl,hb⟩;have B5:=aa (ab Y3.o hb);clear hb;obtain⟨n0,n1,n2,m0,m1,m2⟩:=(RB.o.bel B5.o).c;have Z9:=aa ((RB.o.bel B5.o).set (bz 7)))
  have z0_:=Z9.o.c;have S9:=aa (((S2.o.bel B5.o).new (a:=w) (cE _ _ (bz 7)) SLT.o (fun k hk=>(HNE.o k hk).2) (Nat.le_succ _)).o);have F9:=aa ((F2.o.bel B5.o).gb (cE w5 (w.heap.size+1) (bz 7)) (.inr (.inr (Nat.le_succ _))));refine MM (v:=.agg #[.int .i64 7,.int .i64 0,.string ⟨#[]⟩]) ?_ rfl ?_
  ·simp only[fE,bz]at z0_;simp[results,results36,go_sem,z0_]
  ·rw[R.o];exact⟨rfl,S9.o,F9.o⟩
 have hd3:(q.kind != 5)=false/\(q.kind == 5)=true\/((q.kind != 5)=true/\(q.kind == 5)=false)/\((q.version != 0)=false/\(q.version == 0)=true\/((q.version != 0)=true/\(q.version == 0)=false)/\(q.version != t.ver)=false/\(q.version == t.ver)=true):=by
  by_cases h5:q.kind=5
  ·left;simp[h5]
  ·right;refine⟨by simp[h5],?_⟩;by_cases h6:q.version=0
   ·left;simp[h6]
   ·right;refine⟨by simp[h6],?_⟩;have h7:q.version=t.ver:=by
     apply Classical.byContradiction;intro h7;exact hd ⟨h5,h6,h7⟩
    simp[h7]
 have HD:=aa hd;clear hd;go_enter func36,ntmps36;go_upto_region 1 with fail
 rw[<-HW2.o];go_cut [29] (fun cv wc=>cv=.bool false/\wc=W2.drew)
 case first=>
  rcases hd3 with⟨e5,e5'⟩ | ⟨⟨e5,e5'⟩,⟨e6,e6'⟩ | ⟨⟨e6,e6'⟩,e7,e7'⟩⟩
  all_goals
   go_region
   go_wp2_with fail
   go_meet
   case rel=>exact⟨rfl,rfl⟩
 case rest=>
  obtain⟨rfl,rfl⟩:=hcut;clear hd3;go_upto_region 3 with fail
  clear q1' q2' c7;refine aD (fun wS=>Kq W2 S (Value.slice (some ⟨g,0,none⟩) st.ths.length cap) st.time st.acts wS) [14] (by kernel_rfl) ⟨cJ (cJ (az _ _) 1) 1,_,S2.o.blk.bel (Ga _)⟩ (fun LI=>?_);refine WT.out ?_;iterate 9
   first
    | refine tk (i:=0) (v:=?_) [9,10,11,12,14,15] rfl rfl (by decide +kernel) rfl (fun _ _ _ h=>h) LI ?_ ?_
    | refine tk (i:=1) (v:=?_) [2,3,4,6,7,9,10,11,12,14,15] rfl rfl (by decide +kernel) rfl (fun _ _ _ h=>h) LI ?_ ?_
    | refine tk (i:=2) (v:=?_) [3,4,6,7,9,10,11,12,14,15] rfl rfl (by decide +kernel) rfl (fun _ _ _ h=>h) LI ?_ ?_
    | refine tk (i:=3) (v:=?_) [4,6,7,9,10,11,12,14,15] rfl rfl (by decide +kernel) rfl (fun _ _ _ h=>h) LI ?_ ?_
    | refine tk (i:=4) (v:=?_) [6,7,9,10,11,12,14,15] rfl rfl (by decide +kernel) rfl (fun _ _ _ h=>h) LI ?_ ?_
    | refine tk (i:=5) (v:=?_) [6,7,9,10,11,12,14,15] rfl rfl (by decide +kernel) rfl (fun _ _ _ h=>h) LI ?_ ?_
    | refine tk (i:=6) (v:=?_) [7,9,10,11,12,14,15] rfl rfl (by decide +kernel) rfl (fun _ _ _ h=>h) LI ?_ ?_
    | refine tk (i:=7) (v:=?_) [9,10,11,12,14,15] rfl rfl (by decide +kernel) rfl (fun _ _ _ h=>h) LI ?_ ?_
    | refine tk (i:=8) (v:=?_) [9,10,11,12,14,15] rfl rfl (by decide +kernel) rfl (fun _ _ _ h=>h) LI ?_ ?_
   rotate_left
   ·intro wS LN;obtain⟨nq,hSb⟩:=LN.2;have s0_:=hSb.c;obtain⟨q0,q1,q2,q3,q4,q5,q6,q7⟩:=(AB.o.grA LN.1 (by intro e;cases e;exact Nat.lt_irrefl _ SLT.o)).c;have t0:wS.cell? ⟨g,i * 15,none⟩=some (.string ⟨t.name.toArray⟩):=CL.o _ LN 0 _ rfl;have t1:wS.cell? ⟨g,i * 15+1,none⟩=some (.int .i64 t.value.kind):=CL.o _ LN 1 _ rfl;have t2:wS.cell? ⟨g,i * 15+2,none⟩=some (.int .i64 t.value.n):=CL.o _ LN 2 _ rfl;have t3:wS.cell? ⟨g,i * 15+3,none⟩=some (.string ⟨t.value.s.toArray⟩):=CL.o _ LN 3 _ rfl;have t4:wS.cell? ⟨g,i * 15+4,none⟩=some (.slice a t.value.keys.length c):=CL.o _ LN 4 _ rfl;have t5:wS.cell? ⟨g,i * 15+5,none⟩=some (.slice b t.value.l.length d):=CL.o _ LN 5 _ rfl;have t6:wS.cell? ⟨g,i * 15+6,none⟩=some (.slice oa t.owners.length oc):=CL.o _ LN 6 _ rfl;have t7:wS.cell? ⟨g,i * 15+7,none⟩=some (.int .i64 t.ver):=CL.o _ LN 7 _ rfl;have t8:wS.cell? ⟨g,i * 15+8,none⟩=some (.int .i64 t.gen):=CL.o _ LN 8 _ rfl;have t9:wS.cell? ⟨g,i * 15+9,none⟩=some (.string ⟨t.st.a.toArray⟩):=CL.o _ LN 9 _ rfl;have t10:wS.cell? ⟨g,i * 15+10,none⟩=some (.string ⟨t.st.c.toArray⟩):=CL.o _ LN 10 _ rfl;have t11:wS.cell? ⟨g,i * 15+11,none⟩=some (.int .i64 t.st.ph):=CL.o _ LN 11 _ rfl;have t12:wS.cell? ⟨g,i * 15+12,none⟩=some (.int .i64 t.st.st):=CL.o _ LN 12 _ rfl;have t13:wS.cell? ⟨g,i * 15+13,none⟩=some (.int .i64 t.st.we):=CL.o _ LN 13 _ rfl;have t14:wS.cell? ⟨g,i * 15+14,none⟩=some (.int .i64 t.st.si):=CL.o _ LN 14 _ rfl;go_simp;all_goals with_reducible rfl
   simp only[av,List.set]
  repeat' (first
   | exact nl
   |(refine ip (i:=9) (o:=_) rfl (fun K hK=>?_) ?_
     go_simp;refine(WRIT.o _ (by first | exact Ga _ | exact ab (ae _ _) (Ga _))).mono ?_;rintro e w9q ⟨a9,b9,c9,d9,oa9,oc9,rfl,h1,h2,h3⟩;refine hK.out _ _ (⟨am LI.1 h3,_,h2⟩) (fun LJ=>?_);have K4:=aa h1;have SB4:=aa h2;have G4:=aa h3;try replace NB:=aa (NB.o.gr G4.o (fun e=>by cases e;have:=SLT.o;have:=S2Z.o;omega))
     clear h1 h2 h3;clear hK K;replace LI:=LJ;clear LJ;try simp only[Act.put,Mt,Mu,Mv])
   |(refine ip (i:=13) (o:=_) rfl (fun K hK=>?_) ?_
     go_simp;refine hK.out _ _ (⟨bd LI.1 _,by obtain⟨nq,hSb⟩:=LI.2;exact⟨nq,hSb.bel (ae _ _)⟩⟩) (fun LJ=>?_);first | have NB:=aa (JI LJ) | have NB:=aa (Ih LJ)
     clear hK K;replace LI:=LJ;clear LJ;try simp only[Act.put,Mt,Mu,Mv])
   |(refine jZ (i:=14) (o:=_) (by decide +kernel) rfl (fun K hK=>?_)
     obtain⟨n0,n1,n2,n3,n4,n5,n6,n7,n8,n9,n10,n11,n12,n13,n14⟩:=NB.o.c;obtain⟨m0,m1,m2,m3,m4,m5,m6,m7,m8,m9,m10,m11,m12,m13,m14⟩:=NB.o.f;go_simp;refine hK.out _ _ ?_;clear hK K;try simp only[Act.put,Mt,Mu,Mv])
   |(refine jZ (i:=15) (o:=_) (by decide +kernel) rfl (fun K hK=>?_)
     go_simp;refine hK.out _ _ ?_;clear hK K;try simp only[Act.put,Mt,Mu,Mv])
   |(first
      | refine tk (i:=10) (v:=?_) [11,12,14,15] rfl rfl (by decide +kernel) rfl (fun _ _ _ h=>h) (by exact LI) ?_ ?_
      | refine tk (i:=11) (v:=?_) [14,15] rfl rfl (by decide +kernel) rfl (fun _ _ _ h=>h) (by exact LI) ?_ ?_
     rotate_left
     ·intro wS LN;go_simp;all_goals with_reducible rfl
     simp only[av,List.set])
   |(refine JY (i:=12) (d:=43) (v:=?_) rfl rfl (by decide +kernel) rfl (fun _ _ _ h=>h) (by exact LI) ?_ ?_
     rotate_left
     ·intro wS;go_simp;all_goals with_reducible rfl
     simp only[av,List.set])
   | refine gc [9,13] (by decide +kernel) ?_
   | refine gc [13] (by decide +kernel) ?_
   | refine gc [9] (by decide +kernel) ?_
   | fail)
  all_goals
   refine dn (by kernel_rfl) ?_;first
    |(obtain⟨W5,hW5⟩:∃ W,W=(((((((((((((((w9q.setCell ⟨W2.heap.size,0,none⟩ (.string ⟨x.name.toArray⟩)).setCell ⟨W2.heap.size,1,none⟩ (.int .i64 x.value.kind)).setCell ⟨W2.heap.size,2,none⟩ (.int .i64 x.value.n)).setCell ⟨W2.heap.size,3,none⟩ (.string ⟨x.value.s.toArray⟩)).setCell ⟨W2.heap.size,4,none⟩ (.slice a9 x.value.keys.length c9)).setCell ⟨W2.heap.size,5,none⟩ (.slice b9 x.value.l.length d9)).setCell ⟨W2.heap.size,6,none⟩ (.slice oa9 x.owners.length oc9)).setCell ⟨W2.heap.size,7,none⟩ (.int .i64 x.ver)).setCell ⟨W2.heap.size,8,none⟩ (.int .i64 x.gen)).setCell ⟨W2.heap.size,9,none⟩ (.string ⟨x.st.a.toArray⟩)).setCell ⟨W2.heap.size,10,none⟩ (.string ⟨x.st.c.toArray⟩)).setCell ⟨W2.heap.size,11,none⟩ (.int .i64 x.st.ph)).setCell ⟨W2.heap.size,12,none⟩ (.int .i64 x.st.st)).setCell ⟨W2.heap.size,13,none⟩ (.int .i64 x.st.we)).setCell ⟨W2.heap.size,14,none⟩ (.int .i64 x.st.si)):=⟨_,rfl⟩
      rw[<-hW5];obtain⟨xg,P5⟩:∃ xg,Ll (Kt w W5 ok S g cap st x xv xg a9 b9 c9 d9 oa9 oc9/\xg=W2.heap.size):=⟨_,aa ⟨by rw[hW5];exact Ke NB.o (ab (ae _ _) (Ga _)) (by rw[show ((W2.alloc _).drew.drew).heap.size=W2.heap.size+1 from by simp[World.drew]];omega) S2.o F2.o RB.o G4.o SB4.o K4.o S2Z.o SLT.o GL.o,rfl⟩⟩
      rw[<-P5.o.2])
    |(obtain⟨W5,hW5⟩:∃ W,W=w9q.alloc (.cells (Ld x a9 c9 b9 d9 oa9 oc9) 40):=⟨_,rfl⟩
      rw[<-hW5];obtain⟨xg,P5⟩:∃ xg,Ll (Kt w W5 ok S g cap st x xv xg a9 b9 c9 d9 oa9 oc9/\xg=w9q.heap.size):=⟨_,aa ⟨by rw[hW5];exact J7 (Ga _) S2.o F2.o RB.o G4.o SB4.o K4.o S2Z.o SLT.o GL.o,rfl⟩⟩
      rw[<-P5.o.2])
   clear hW5 NB K4 SB4 G4 LI m3 m4 m5 m6 m7 m8 m9 m10 m11 m12 m13 m14;by_cases hxe:xe=0
   rotate_left
   ·have e0:(xe != 0)=true:=by simpa using hxe
    have e1:(xe == 0)=false:=by rw[MO];exact hxe
    have R:Ll (fF st i t q=(st,bz xe)):=aa (by unfold fF;rw[if_neg HD.o,HX.o,if_pos hxe]);have S5:=aa P5.o.1.srv;rw[show xv=st.ver from by
     have:=nO (time:=st.time) (ver:=st.ver) (t:=t) (a:=q) (by rw[HX.o];exact hxe);rw[HX.o]at this;exact this]at S5
    have RF:=aa (dh W5 xe);clear hxe;go_wp2_with (go_at_call 20;refine RF.o.mono ?_;rintro e w5 ⟨rfl,hb⟩;have B5:=aa hb;clear hb;obtain⟨n0,n1,n2,m0,m1,m2⟩:=(P5.o.1.rb.bel B5.o).c;have Z9:=aa ((P5.o.1.rb.bel B5.o).set (bz xe)))
    have z0_:=Z9.o.c;have S9:=aa (((S5.o.bel B5.o).new (a:=w) (cE _ _ (bz xe)) SLT.o (fun k hk=>(HNE.o k hk).2) (Nat.le_succ _)).o);have F9:=aa ((P5.o.1.fr.bel B5.o).gb (cE w5 (w.heap.size+1) (bz xe)) (.inr (.inr (Nat.le_succ _))));refine MM (v:=.agg #[.int .i64 xe,.int .i64 0,.string ⟨#[]⟩]) ?_ rfl ?_
    ·simp only[fE,bz]at z0_;simp[results,results36,go_sem,z0_]
    ·rw[R.o];exact⟨rfl,S9.o,F9.o⟩
   subst hxe;have R:Ll (fF st i t q=({ st with ths:=st.ths.set i x,ver:=xv },⟨0,x.ver,[]⟩)):=aa (by unfold fF;rw[if_neg HD.o,HX.o,if_neg (by simp)]);have s0_:=P5.o.1.srv.blk.c;obtain⟨t0,t1,t2,t3,t4,t5,t6,t7,t8,t9,t10,t11,t12,t13,t14⟩:=P5.o.1.xb.c;obtain⟨g4,cap4,e4,-,-,-,-,hf4,-,a4,b4,c4,d4,oa4,oc4,hcl4,-⟩:=P5.o.1.srv.row.at HT.o;obtain⟨rfl,rfl⟩:g4=g/\cap4=cap:=by simp only[Value.slice.injEq,Option.some.injEq,Addr.mk.injEq]at e4;exact⟨e4.1.1.symm,e4.2.2.symm⟩
   have n0:=hcl4 0 _ rfl;have m0:=hf4 (i * 15+0);have n1:=hcl4 1 _ rfl;have m1:=hf4 (i * 15+1);have n2:=hcl4 2 _ rfl;have m2:=hf4 (i * 15+2);have n3:=hcl4 3 _ rfl;have m3:=hf4 (i * 15+3);have n4:=hcl4 4 _ rfl;have m4:=hf4 (i * 15+4);have n5:=hcl4 5 _ rfl;have m5:=hf4 (i * 15+5);have n6:=hcl4 6 _ rfl;have m6:=hf4 (i * 15+6);have n7:=hcl4 7 _ rfl;have m7:=hf4 (i * 15+7);have n8:=hcl4 8 _ rfl;have m8:=hf4 (i * 15+8);have n9:=hcl4 9 _ rfl;have m9:=hf4 (i * 15+9);have n10:=hcl4 10 _ rfl;have m10:=hf4 (i * 15+10);have n11:=hcl4 11 _ rfl;have m11:=hf4 (i * 15+11);have n12:=hcl4 12 _ rfl;have m12:=hf4 (i * 15+12);have n13:=hcl4 13 _ rfl;have m13:=hf4 (i * 15+13);have n14:=hcl4 14 _ rfl;have m14:=hf4 (i * 15+14);simp only[Nat.add_zero]at n0 m0;clear hf4 hcl4 e4;go_upto_region 6 with fail
   go_region
   have G9:=aa (jz g4 (cu x a9 b9 c9 d9 oa9 oc9) (i * 15) W5);have OKX:Ll (∀ k,((ok k/\k < w.heap.size\/w.heap.size+2<=k)/\k≠xg)->IT S (Value.slice (some ⟨g4,0,none⟩) st.ths.length cap4) k/\k≠w.heap.size+1/\k≠g4):=aa (by
    have h1:=GL.o;rintro k ⟨hk | hk,-⟩
    ·exact⟨NO.o k hk.1,by have:=hk.2;omega,fun e=>(NO.o k hk.1).2 (by rw[e];rfl)⟩
    ·exact⟨⟨by omega,fun e=>by have h5:=Option.some.inj (show some g4=some k from e);omega⟩,by omega,by omega⟩)
   have K9:Ll (bo (W5.setCells g4 (i * 15) (cu x a9 b9 c9 d9 oa9 oc9)) (fun k=>(ok k/\k < w.heap.size\/w.heap.size+2<=k)/\k≠xg) S (Value.slice (some ⟨g4,0,none⟩) st.ths.length cap4) { st with ths:=st.ths.set i x,ver:=xv }):=aa ⟨P5.o.1.srv.blk.gr G9.o (by intro e;have:=Option.some.inj e;have:=GL.o;omega),(P5.o.1.srv.row.weak fun k hk=>⟨.inl hk,by have:=P5.o.1.big;have:=hk.2;omega⟩).put (fun hk=>(OKX.o _ hk).2.2 rfl) HT.o P5.o.1.ok,fun k hk=>(OKX.o k hk).1⟩;have F9:=aa (P5.o.1.fr.gb G9.o (.inr (.inl rfl)));have X9:=aa (P5.o.1.xb.gr G9.o (by intro e;have:=Option.some.inj e;have:=P5.o.1.big;have:=GL.o;omega));have R9:Ll (dK (W5.setCells g4 (i * 15) (cu x a9 b9 c9 d9 oa9 oc9)) (w.heap.size+1) 0 0 []):=aa ((G9.o.block _ (MF.1 P5.o.1.rb).1 (by intro e;have:=Option.some.inj e;have:=GL.o;omega)).trans P5.o.1.rb);obtain⟨W9,hW9⟩:∃ W,W=(W5.setCells g4 (i * 15) (cu x a9 b9 c9 d9 oa9 oc9)).drew:=⟨_,rfl⟩
   have K10:=aa (K9.o.bel (aC _ 1));have X10:=aa (X9.o.bel (aC _ 1));have R10:=aa (R9.o.bel (aC _ 1));have F10:=aa (F9.o.bel (aC _ 1));change Exit.then _ _ Exit.normal _ (W5.setCells g4 (i * 15) (cu x a9 b9 c9 d9 oa9 oc9)).drew;rw[show (W5.setCells g4 (i * 15) (cu x a9 b9 c9 d9 oa9 oc9)).drewN 1=W9 from hW9.symm]at K10 X10 R10 F10;rw[<-hW9];clear hW9 K9 X9 R9 F9 G9 m3 m4 m5 m6 m7 m8 m9 m10 m11 m12 m13 m14;obtain⟨t0,t1,t2,t3,t4,t5,t6,t7,t8,t9,t10,t11,t12,t13,t14⟩:=X10.o.c;obtain⟨n0,n1,n2,m0,m1,m2⟩:=R10.o.c;have Z9:=aa (R10.o.set ⟨0,x.ver,[]⟩);have S9:=aa ((K10.o.gr (cE _ (w.heap.size+1) ⟨0,x.ver,[]⟩) (by have:=SLT.o;omega) (fun e=>by have h5:=Option.some.inj (show some g4=some (w.heap.size+1) from e);have:=GL.o;omega) (fun k hk=>(OKX.o k hk).2.1)).imp (ok':=Fa ok w.heap.size S (Value.slice (some ⟨g4,0,none⟩) st.ths.length cap4)) (fun k hk=>⟨hk.1.imp (fun h9=>h9.1) (fun h9=>by omega),(OKX.o k hk).1⟩) fun _ hk=>hk.2);have F11:=aa (F10.o.gb (cE W9 (w.heap.size+1) ⟨0,x.ver,[]⟩) (.inr (.inr (Nat.le_succ _))));go_wp2_with fail
   have z0_:=Z9.o.c;refine MM (v:=.agg #[.int .i64 0,.int .i64 x.ver,.string ⟨#[]⟩]) ?_ rfl ?_
   ·simp only[fE]at z0_;simp[results,results36,go_sem,z0_]
   ·rw[R.o];exact⟨rfl,S9.o,F11.o⟩
theorem yj{l n}(h:∀ x∈l,Op.bytesLess n x.name=true):ci l n=0:=by
 unfold ci;rw[List.countP_eq_zero];intro x hx h9;have h1:=cP _ _ _ (h x hx) h9;rw[cd]at h1;cases h1
theorem nR:∀ (l:List Th) (n:Lz),bD (l.map Th.name)->dR l n=true->∃ t,l[ci l n]?=some t/\t.name=n
 | [],n,_,h=>by simp[dR]at h
 | x :: l,n,hr,h=>by
  have hx:∀ y∈l,Op.bytesLess x.name y.name=true:=fun y hy=>(List.pairwise_cons.1 hr).1 y.name (List.mem_map.2 ⟨y,hy,rfl⟩);have hl:bD (l.map Th.name):=(List.pairwise_cons.1 hr).2;by_cases he:x.name=n
  ·subst he;refine⟨x,?_,rfl⟩;have h0:ci (x :: l) x.name=0:=by
    have:=yj hx;unfold ci at this ⊢;rw[List.countP_cons_of_neg (by rw[cd];simp),this]
   rw[h0];rfl
  ·have h1:dR l n=true:=by
    unfold dR at h ⊢;rw[List.any_cons]at h;simpa [he] using h
   obtain⟨t,h2,h3⟩:=nR l n hl h1;refine⟨t,?_,h3⟩;have h4:Op.bytesLess x.name n=true:=by rw[<-h3];exact hx t (List.mem_of_getElem? h2)
   have h5:ci (x :: l) n=ci l n+1:=by
    unfold ci;rw[List.countP_cons_of_pos (by exact h4)]
   rw[h5];simpa using h2
theorem C8{s:ex}{a:cm}{e}(h:cj s.ths.length a.kind (dR s.ths a.name)=e)(he:e≠0):dD s a=(s,bz e):=by
 unfold dD;simp only[h];rw[if_pos he]
theorem nQ{s:ex}{a:cm}(h:cj s.ths.length a.kind (dR s.ths a.name)=0)(ht:dR s.ths a.name=false):dD s a=iF s (ci s.ths a.name) a:=by
 rw[ht]at h;unfold dD iF;simp only[ht,h];rw[if_neg (by simp)];cases hp:s.ths[ci s.ths a.name]? with
 | some t=>simp
 | none=>
  have hle:s.ths.length<=ci s.ths a.name:=by simpa using hp
  simp only;rw[MD hle,List.drop_eq_nil_of_le hle]
theorem fk{s:ex}{a:cm}{t}(h:cj s.ths.length a.kind (dR s.ths a.name)=0)(ht:dR s.ths a.name=true)(hp:s.ths[ci s.ths a.name]?=some t):dD s a=if a.kind=6 then oA s (ci s.ths a.name) t else if a.kind=7 then iG s (ci s.ths a.name) t a.order else if a.kind=9 then (s,pj t) else fF s (ci s.ths a.name) t a:=by
 rw[ht]at h;unfold dD;simp only[ht,h,hp];rw[if_neg (by simp),if_neg (by simp)];rfl
def td (w:LC) (ok:Nat->Prop) (S:Nat) (v:Value) (p:ex × uf) (e:Ending) (w':LC):Prop:=∃ v',e=.returned (fX p.2)/\bo w' (Fa ok w.heap.size S v') S v' p.1/\(∀ g,v'.ownBlock=some g->v.ownBlock=some g\/w.heap.size<=g)/\kS w w' S v
theorem rG{W3 w5:LC}(hr:dK W3 (w.heap.size+1) 0 0 [])(hS:S < w.heap.size)(hv0:∀ k,v.ownBlock=some k->k < w.heap.size)(f5:kS W3 w5 S v):dK w5 (w.heap.size+1) 0 0 []:=
 (f5.block _ (MF.1 hr).1 (by omega) (fun e=>by have:=hv0 _ e;omega)).trans hr
theorem gF{W3 w5 v'}{p:ex × uf}{e}(F3:kS w W3 S v)(hB:w.heap.size+2<=W3.heap.size)(hS:S < w.heap.size)(hv0:∀ k,v.ownBlock=some k->k < w.heap.size)(h5:bo w5 (Fa (Lj ok w) W3.heap.size S v') S v' p.1)(hv:∀ g,v'.ownBlock=some g->v.ownBlock=some g\/W3.heap.size<=g)(f5:kS W3 w5 S v)(he:e=.returned (fX p.2)):td w ok S v p e (fE w5 (w.heap.size+1) p.2):=by
 have hv2:∀ g,v'.ownBlock=some g->g≠w.heap.size+1:=fun g hg=>by
  rcases hv g hg with h1 | h1
  ·have:=hv0 g h1;omega
  ·omega
 refine⟨v',he,(h5.gr (cE _ _ _) (by omega) (fun e=>hv2 _ e rfl) (fun k hk=>?_)).imp (fun k hk=>⟨hk.1.imp (fun h9=>h9.1) (fun h9=>by omega),hk.2⟩) (fun _ hk=>hk.2),fun g hg=>(hv g hg).imp id fun h9=>by omega,(F3.trans f5 fun g hg=>.inl hg).gb (cE _ _ _) (.inr (.inr (by omega)))⟩;rcases hk.1 with h9 | h9
 ·have:=h9.2;omega
 ·omega
variable {B:Nat}
theorem bo.outB{C:Nat}{st:ex}(h:bo w (fun k=>ok k/\k < B) S v st)(_:B+2<=C):bo w (Fa (fun k=>ok k/\k < B) C S v) S v st:=h.imp (fun k hk=>⟨.inl hk,h.no k hk⟩) fun _ hk=>hk.2
theorem Bk(w:LC)(ok S v)(st:ex)(q:cm)(h:bo w ok S v st)(hg:dP st)(hG:cn w)(hM:bj w)(hW:di w)(hn:q.name.length<=9223372036854775807)(hq:q.body.length<=9223372036854775807)(hw:q.who.length<=9223372036854775807):Calls prog 23 #[.pointer (some ⟨S,0,none⟩),.agg (Lf q)] w fun e w'=>td w ok S v (dD st q) e w':=by
 obtain⟨W2,hW2⟩:∃ W,W=(w.alloc (.cells (Lf q) 28)).alloc (.cells #[.int .i64 0,.int .i64 0,.string ⟨#[]⟩] 31):=⟨_,rfl⟩
 have Y2:Ll (La w W2):=aa (by rw[hW2];exact ab (ae _ _) (ae _ _));have AB:Ll (jC W2 w.heap.size q):=aa (by rw[hW2];exact fb _ _ _);have RB:Ll (dK W2 (w.heap.size+1) 0 0 []):=aa (by rw[hW2];exact et _ _ _);have HW2:=aa hW2;have S2:=aa (h.low.bel Y2.o);have NO:=aa h.no;have HNE:=aa (fun g (hg:v.ownBlock=some g)=>h.ne hg);have SLT:Ll (S < w.heap.size):=aa h.blk.lt;have HV0:=aa (fun k (hk:v.ownBlock=some k)=>(HNE.o k hk).2);have GOOD:=aa hg;have HGl:=aa hG;have HMl:=aa hM;have HWl:=aa hW;have HN:=aa hn;have HQ:=aa hq;have HW_:=aa hw;obtain⟨va,vc,hform⟩:=S2.o.row.form;obtain⟨th,hth⟩:∃ th,dR st.ths q.name=th:=⟨_,rfl⟩
 obtain⟨pl,hpl⟩:∃ pl,ci st.ths q.name=pl:=⟨_,rfl⟩
 have HTH:=aa hth;have HPL:=aa hpl;have FIND:Ll (∀ W,La W2 W->Calls prog 30 #[v,.string ⟨q.name.toArray⟩] W fun e w'=>e=.returned (.tuple #[.int .i64 (pl:Nat),.bool th])/\La W w'):=aa (fun W hb=>by
  have:=yN W _ st.ths v q.name (S2.o.row.ths.bel hb) GOOD.o.rise (by have:=GOOD.o.len;omega);rw[HPL.o,<-AZ,HTH.o]at this;exact this)
 have L8:Ll (st.ths.length<=9223372036854775807):=aa (by have:=hg.len;omega);clear hW2 h hg hG hM hW hn hq hw hth hpl;subst hform;go_enter func23,ntmps23;go_upto_region 1 with fail
 rw[<-HW2.o];refine aD (fun wS=>La W2 wS) [] (by kernel_rfl) (aC _ 1) (fun LI=>?_);refine WT.out ?_;iterate 6
  first
   | refine tk (i:=0) (v:=?_) [] rfl rfl (by decide +kernel) rfl (fun _ _ _ h=>h) LI ?_ ?_
   | refine tk (i:=1) (v:=?_) [] rfl rfl (by decide +kernel) rfl (fun _ _ _ h=>h) LI ?_ ?_
   | refine tk (i:=2) (v:=?_) [] rfl rfl (by decide +kernel) rfl (fun _ _ _ h=>h) LI ?_ ?_
   | refine tk (i:=3) (v:=?_) [] rfl rfl (by decide +kernel) rfl (fun _ _ _ h=>h) LI ?_ ?_
   | refine tk (i:=4) (v:=?_) [] rfl rfl (by decide +kernel) rfl (fun _ _ _ h=>h) LI ?_ ?_
   | refine tk (i:=5) (v:=?_) [] rfl rfl (by decide +kernel) rfl (fun _ _ _ h=>h) LI ?_ ?_
  rotate_left
  ·intro wS LN;have s0_:=(S2.o.blk.bel LN).c;have q0_:=(AB.o.bel LN).c;go_simp;all_goals with_reducible rfl
  simp only[av,List.set]
 repeat' (first
  | exact nl
  |(refine ip (i:=6) (o:=_) rfl (fun K hK=>?_) ?_
    go_simp;refine Lk (FIND.o _ LI) fun w6q hb5=>?_;refine hK.out _ _ (ab LI hb5) (fun LJ=>?_);have B3:=aa LJ;clear hb5;clear hK K;replace LI:=LJ;clear LJ;try simp only[Act.put,Mt,Mu,Mv])
  |(first
     | refine tk (i:=7) (v:=?_) [] rfl rfl (by decide +kernel) rfl (fun _ _ _ h=>h) (by exact LI) ?_ ?_
     | refine tk (i:=8) (v:=?_) [] rfl rfl (by decide +kernel) rfl (fun _ _ _ h=>h) (by exact LI) ?_ ?_
     | refine tk (i:=9) (v:=?_) [] rfl rfl (by decide +kernel) rfl (fun _ _ _ h=>h) (by exact LI) ?_ ?_
     | refine tk (i:=10) (v:=?_) [] rfl rfl (by decide +kernel) rfl (fun _ _ _ h=>h) (by exact LI) ?_ ?_
     | refine tk (i:=11) (v:=?_) [] rfl rfl (by decide +kernel) rfl (fun _ _ _ h=>h) (by exact LI) ?_ ?_
    rotate_left
    ·intro wS LN;go_simp;all_goals with_reducible rfl
    simp only[av,List.set])
  | refine gc [6] (by decide +kernel) ?_
  | fail)
 all_goals
  refine dn (by kernel_rfl) ?_;obtain⟨W3,hW3⟩:∃ W,W=w6q:=⟨_,rfl⟩
  rw[<-hW3]at B3 ⊢;clear hW3 LI;have Y3:=aa (ab Y2.o B3.o);have S3:=aa (S2.o.bel B3.o);have AB3:=aa (AB.o.bel B3.o);have RB3:=aa (RB.o.bel B3.o);have F3:=aa (eE (S:=S) (v:=.slice va st.ths.length vc) Y3.o);have SZ3:Ll (w.heap.size+2<=W3.heap.size):=aa (by have:=(MF.1 RB3.o).1;omega);obtain⟨be,hbe⟩:∃ be,cj st.ths.length q.kind th=be:=⟨_,rfl⟩
  have BA:=DA W3 S st.ths.length vc va st.time st.ver st.acts q.kind th S3.o.blk L8.o;rw[hbe]at BA;have BAR:=aa BA;have HB:=aa hbe;clear BA hbe;have q0_:=AB3.o.c;have s0_:=S3.o.blk.c;go_upto_region 3 with (go_at_call 31;refine BAR.o.mono ?_;rintro e w4 ⟨rfl,hw4⟩;obtain rfl:W3=w4:=hw4.symm)
  by_cases hbe:be=0
  rotate_left
  ·have e0:(be != 0)=true:=by simpa using hbe
   have e1:(be == 0)=false:=by rw[MO];exact hbe
   have HB0:=aa hbe;clear hbe;have RF:=aa (dh W3 be);have R:Ll (dD st q=(st,bz be)):=aa (C8 (by rw[HTH.o];exact HB.o) HB0.o);go_wp2_with (go_at_call 20;refine RF.o.mono ?_;rintro e w5 ⟨rfl,hh⟩;have D9:=aa (gF (e:=.returned (fX (bz be))) (p:=(st,bz be)) (w:=w) (ok:=ok) F3.o SZ3.o SLT.o HV0.o ((S3.o.bel hh).outB SZ3.o) (fun _ hg=>.inl hg) (eE hh) rfl);have RB5:=aa (RB3.o.bel hh);have n0_:=RB5.o.c;have Z9:=aa (RB5.o.set (bz be));clear hh)
   rw[R.o];have z0_:=Z9.o.c;refine MM (v:=.agg #[.int .i64 be,.int .i64 0,.string ⟨#[]⟩]) ?_ rfl ?_
   ·simp only[fE,bz]at z0_;simp[results,results23,go_sem,z0_]
   ·exact D9.o
  subst hbe;have HBE:=HB;cases th with
  | false=>
   have BN:=aa (lD GOOD.o.len HBE.o);have k6:(q.kind == 6)=false:=by rw[MO];have:=BN.o.2;omega
   have k7:(q.kind == 7)=false:=by rw[MO];have:=BN.o.2;omega
   have k9:(q.kind == 9)=false:=by rw[MO];have:=BN.o.2;omega
   have LP:Ll (pl<=st.ths.length):=aa (by rw[<-HPL.o];exact sI _ _);obtain⟨rs,rr,hrr⟩:∃ rs rr,iF st pl q=(rs,rr):=⟨_,_,rfl⟩
   have CON:=FN W3 (Lj ok w) S (.slice va st.ths.length vc) st pl q S3.o ⟨GOOD.o.ver.1,by have:=GOOD.o.ver.2;have:=GOOD.o.acts;omega⟩ LP.o GOOD.o.len (HGl.o.grown (r:=none) (aq Y3.o) (by simp)) (HMl.o.bel Y3.o) (HWl.o.bel Y3.o) HN.o HQ.o HW_.o;rw[hrr]at CON;simp only[fX]at CON;have CONT:=aa CON;have R:Ll (dD st q=(rs,rr)):=aa (by rw[nQ (by rw[HTH.o];exact HBE.o) HTH.o,HPL.o];exact hrr);clear CON hrr;go_wp2_with (go_at_call 35;refine CONT.o.mono ?_;rintro e w5 ⟨v5,rfl,h1,h2,h3⟩;have D9:=aa (gF (e:=.returned (fX rr)) (p:=(rs,rr)) (w:=w) (ok:=ok) F3.o SZ3.o SLT.o HV0.o (h1) (h2) (h3) rfl);have RB5:=aa (rG RB3.o SLT.o HV0.o (h3));have n0_:=RB5.o.c;have Z9:=aa (RB5.o.set rr);clear h1 h2 h3)
   rw[R.o];have z0_:=Z9.o.c;refine MM (v:=.agg #[.int .i64 rr.code,.int .i64 rr.n,.string ⟨rr.body.toArray⟩]) ?_ rfl ?_
   ·simp only[fE]at z0_;simp[results,results23,go_sem,z0_]
   ·exact D9.o
  | true=>
   obtain⟨t,hpt,htn⟩:=nR st.ths q.name GOOD.o.rise HTH.o;rw[HPL.o]at hpt;have HPT:=aa hpt;have GT:=aa (GOOD.o.ths t (List.mem_of_getElem? hpt));clear htn;by_cases hk6:q.kind=6
   ·have HK:=aa hk6;have k6:(q.kind == 6)=true:=by simp[hk6]
    clear hk6;obtain⟨rs,rr,hrr⟩:∃ rs rr,oA st pl t=(rs,rr):=⟨_,_,rfl⟩
    have CON:=BM W3 (Lj ok w) S (.slice va st.ths.length vc) st pl t S3.o hpt GOOD.o.len;rw[hrr]at CON;simp only[fX]at CON;have CONT:=aa CON;have R:Ll (dD st q=(rs,rr)):=aa (by rw[fk (by rw[HTH.o];exact HBE.o) HTH.o (by rw[HPL.o];exact HPT.o)];rw[HPL.o];rw[if_pos HK.o];exact hrr);clear CON hrr;clear hpt;go_wp2_with (go_at_call 32;refine CONT.o.mono ?_;rintro e w5 ⟨v5,rfl,h1,h2,h3⟩;have D9:=aa (gF (e:=.returned (fX rr)) (p:=(rs,rr)) (w:=w) (ok:=ok) F3.o SZ3.o SLT.o HV0.o (h1) (fun g hg=>.inl (h2 ▸ hg)) (h3) rfl);have RB5:=aa (rG RB3.o SLT.o HV0.o (h3));have n0_:=RB5.o.c;have Z9:=aa (RB5.o.set rr);clear h1 h2 h3)
    rw[R.o];have z0_:=Z9.o.c;refine MM (v:=.agg #[.int .i64 rr.code,.int .i64 rr.n,.string ⟨rr.body.toArray⟩]) ?_ rfl ?_
    ·simp only[fE]at z0_;simp[results,results23,go_sem,z0_]
    ·exact D9.o
   have HK6:=aa hk6;have k6:(q.kind == 6)=false:=by rw[MO];exact hk6
   clear hk6;by_cases hk7:q.kind=7
   ·have HK:=aa hk7;have k7:(q.kind == 7)=true:=by simp[hk7]
    clear hk7;obtain⟨rs,rr,hrr⟩:∃ rs rr,iG st pl t q.order=(rs,rr):=⟨_,_,rfl⟩
    have CON:=FZ W3 (Lj ok w) S (.slice va st.ths.length vc) st pl q.order t S3.o hpt;rw[hrr]at CON;simp only[fX]at CON;have CONT:=aa CON;have R:Ll (dD st q=(rs,rr)):=aa (by rw[fk (by rw[HTH.o];exact HBE.o) HTH.o (by rw[HPL.o];exact HPT.o)];rw[HPL.o];rw[if_neg HK6.o,if_pos HK.o];exact hrr);clear CON hrr;clear hpt;go_wp2_with (go_at_call 33;refine CONT.o.mono ?_;rintro e w5 ⟨rfl,h1,h3⟩;have D9:=aa (gF (e:=.returned (fX rr)) (p:=(rs,rr)) (w:=w) (ok:=ok) F3.o SZ3.o SLT.o HV0.o (h1) (fun _ hg=>.inl hg) (h3) rfl);have RB5:=aa (rG RB3.o SLT.o HV0.o (h3));have n0_:=RB5.o.c;have Z9:=aa (RB5.o.set rr);clear h1 h3)
    rw[R.o];have z0_:=Z9.o.c;refine MM (v:=.agg #[.int .i64 rr.code,.int .i64 rr.n,.string ⟨rr.body.toArray⟩]) ?_ rfl ?_
    ·simp only[fE]at z0_;simp[results,results23,go_sem,z0_]
    ·exact D9.o
   have HK7:=aa hk7;have k7:(q.kind == 7)=false:=by rw[MO];exact hk7
   clear hk7;by_cases hk9:q.kind=9
   ·have HK:=aa hk9;have k9:(q.kind == 9)=true:=by simp[hk9]
    clear hk9;obtain⟨g,cap,e9,hgB,hgl,hlc,hc9,hf,Mb,a,b,c,d,oa,oc,hcl,hkk⟩:=S3.o.row.at hpt;obtain⟨rfl,rfl⟩:va=some ⟨g,0,none⟩/\cap=vc:=by simp only[Value.slice.injEq]at e9;exact⟨e9.1,e9.2.2.symm⟩
    have w2:(pl:Int) < (st.ths.length:Int):=by have:=(Mz.1 hpt).1;omega
    have w3:(0:Int)<=(pl:Int):=by omega
    have t0:W3.cell? ⟨g,pl * 15,none⟩=some (.string ⟨t.name.toArray⟩):=hcl 0 _ rfl;have t1:W3.cell? ⟨g,pl * 15+1,none⟩=some (.int .i64 t.value.kind):=hcl 1 _ rfl;have t2:W3.cell? ⟨g,pl * 15+2,none⟩=some (.int .i64 t.value.n):=hcl 2 _ rfl;have t3:W3.cell? ⟨g,pl * 15+3,none⟩=some (.string ⟨t.value.s.toArray⟩):=hcl 3 _ rfl;have t4:W3.cell? ⟨g,pl * 15+4,none⟩=some (.slice a t.value.keys.length c):=hcl 4 _ rfl;have t5:W3.cell? ⟨g,pl * 15+5,none⟩=some (.slice b t.value.l.length d):=hcl 5 _ rfl;have t6:W3.cell? ⟨g,pl * 15+6,none⟩=some (.slice oa t.owners.length oc):=hcl 6 _ rfl;have t7:W3.cell? ⟨g,pl * 15+7,none⟩=some (.int .i64 t.ver):=hcl 7 _ rfl;have t8:W3.cell? ⟨g,pl * 15+8,none⟩=some (.int .i64 t.gen):=hcl 8 _ rfl;have t9:W3.cell? ⟨g,pl * 15+9,none⟩=some (.string ⟨t.st.a.toArray⟩):=hcl 9 _ rfl;have t10:W3.cell? ⟨g,pl * 15+10,none⟩=some (.string ⟨t.st.c.toArray⟩):=hcl 10 _ rfl;have t11:W3.cell? ⟨g,pl * 15+11,none⟩=some (.int .i64 t.st.ph):=hcl 11 _ rfl;have t12:W3.cell? ⟨g,pl * 15+12,none⟩=some (.int .i64 t.st.st):=hcl 12 _ rfl;have t13:W3.cell? ⟨g,pl * 15+13,none⟩=some (.int .i64 t.st.we):=hcl 13 _ rfl;have t14:W3.cell? ⟨g,pl * 15+14,none⟩=some (.int .i64 t.st.si):=hcl 14 _ rfl;have TOLD0:=Hn W3 _ t a b c d oa oc hkk (HGl.o.grown (r:=none) (aq Y3.o) (by simp));obtain⟨rr,hrr⟩:∃ rr,pj t=rr:=⟨_,rfl⟩
    rw[hrr]at TOLD0;simp only[fX]at TOLD0;have CONT:=aa TOLD0;have R:Ll (dD st q=(st,rr)):=aa (by rw[fk (by rw[HTH.o];exact HBE.o) HTH.o (by rw[HPL.o];exact HPT.o)];rw[HPL.o];rw[if_neg HK6.o,if_neg HK7.o,if_pos HK.o,hrr]);clear TOLD0 hrr hcl hkk hf Mb hgB hgl e9 hpt;go_wp2_with (go_at_call 34;refine CONT.o.mono ?_;rintro e w5 ⟨rfl,hh⟩;have D9:=aa (gF (e:=.returned (fX rr)) (p:=(st,rr)) (w:=w) (ok:=ok) F3.o SZ3.o SLT.o HV0.o ((S3.o.bel hh).outB SZ3.o) (fun _ hg=>.inl hg) (eE hh) rfl);have RB5:=aa (RB3.o.bel hh);have n0_:=RB5.o.c;have Z9:=aa (RB5.o.set rr);clear hh)
    rw[R.o];have z0_:=Z9.o.c;refine MM (v:=.agg #[.int .i64 rr.code,.int .i64 rr.n,.string ⟨rr.body.toArray⟩]) ?_ rfl ?_
    ·simp only[fE]at z0_;simp[results,results23,go_sem,z0_]
    ·exact D9.o
   have HK9:=aa hk9;have k9:(q.kind == 9)=false:=by rw[MO];exact hk9
   clear hk9;have PL:Ll ((bA t.owners).length<=4000000):=aa (by have h1:=sx _ GT.o.lim;have h2:=(gz GT.o.own).1;omega);have PP:Ll (∀ o∈t.owners,∀ x∈o.paths,x.length<=140737488351232):=aa (fun o ho x hx=>(zw ((mT ((gz GT.o.own).2.1 o ho).2).2.1 x hx)).1);have GNB:Ll (0<=t.gen/\t.gen<=1000):=aa (by have h1:=GT.o.gen;have h2:=GT.o.ver;have h3:=GOOD.o.ver.2;have h4:=GOOD.o.acts;omega);obtain⟨rs,rr,hrr⟩:∃ rs rr,fF st pl t q=(rs,rr):=⟨_,_,rfl⟩
   have CON:=CM W3 (Lj ok w) S (.slice va st.ths.length vc) st pl t q S3.o hpt ⟨GOOD.o.ver.1,by have:=GOOD.o.ver.2;have:=GOOD.o.acts;omega⟩ GNB.o PL.o PP.o (HGl.o.grown (r:=none) (aq Y3.o) (by simp)) (HMl.o.bel Y3.o) (HWl.o.bel Y3.o) HQ.o HW_.o;rw[hrr]at CON;simp only[fX]at CON;have CONT:=aa CON;have R:Ll (dD st q=(rs,rr)):=aa (by rw[fk (by rw[HTH.o];exact HBE.o) HTH.o (by rw[HPL.o];exact HPT.o)];rw[HPL.o];rw[if_neg HK6.o,if_neg HK7.o,if_neg HK9.o];exact hrr);clear CON hrr;clear hpt;go_wp2_with (go_at_call 36;refine CONT.o.mono ?_;rintro e w5 ⟨rfl,h1,h3⟩;have D9:=aa (gF (e:=.returned (fX rr)) (p:=(rs,rr)) (w:=w) (ok:=ok) F3.o SZ3.o SLT.o HV0.o (h1) (fun _ hg=>.inl hg) (h3) rfl);have RB5:=aa (rG RB3.o SLT.o HV0.o (h3));have n0_:=RB5.o.c;have Z9:=aa (RB5.o.set rr);clear h1 h3)
   rw[R.o];have z0_:=Z9.o.c;refine MM (v:=.agg #[.int .i64 rr.code,.int .i64 rr.n,.string ⟨rr.body.toArray⟩]) ?_ rfl ?_
   ·simp only[fE]at z0_;simp[results,results23,go_sem,z0_]
   ·exact D9.o
structure Gl (w:LC) (S:Nat):Prop where
 g:cn w
 m:bj w
 w:di w
 top:7<=S/\0 < S/\2 < S
theorem Gl.gr(h:Gl w S)(hb:∀ k,k < S->k < w.heap.size->w'.heap[k]?=w.heap[k]?)(ht:w'.os=w.os/\w'.tape=w.tape/\w'.output=w.output/\w.heap.size<=w'.heap.size):Gl w' S:=by
 obtain⟨m,hm⟩:=h.m;obtain⟨t,f,hw⟩:=h.w;have h1:=h.top;refine⟨?_,⟨m,?_⟩,⟨t,f,?_⟩,h.top⟩
 ·have hG:=h.g;unfold cn at hG ⊢;obtain⟨⟨tp,p,t,f,h1'⟩,⟨tq,q,t2,f2,h2⟩,⟨t3,f3,h3⟩⟩:=hG;have lt:∀ k o,w.heap[k]?=some o->k < w.heap.size:=fun k o hk=>(MF.1 hk).1;refine⟨⟨tp,p,t,f,?_⟩,⟨tq,q,t2,f2,?_⟩,⟨t3,f3,?_⟩⟩
  ·rw[hb _ (by omega) (lt _ _ h1')];exact h1'
  ·rw[hb _ (by omega) (lt _ _ h2)];exact h2
  ·rw[hb _ (by omega) (lt _ _ h3)];exact h3
 ·have:=World.block_lt_of_cell? w _ hm;simp only[World.cell?]at hm ⊢;rw[hb _ h1.2.1 this];exact hm
 ·rw[hb _ h1.2.2 (MF.1 hw).1];exact hw
theorem Gl.bel(h:Gl w S)(hb:La w w'):Gl w' S:=h.gr (fun k _ hk=>hb.block k hk) ⟨hb.os,hb.tape,hb.output,hb.size⟩
theorem Gl.sfr(h:Gl w S)(f:kS w w' S v)(hv:∀ k,v.ownBlock=some k->S < k):Gl w' S:=h.gr (fun k hS hk=>f.block k hk (by omega) (fun e=>by have:=hv k e;omega)) ⟨f.os,f.tape,f.output,f.size⟩
theorem Kd(w:LC)(ok S v)(st:ex)(q:cm)(h:bo w ok S v st)(hg:dP st)(hGl:Gl w S)(hn:q.name.length<=9223372036854775807)(hq:q.body.length<=9223372036854775807)(hw:q.who.length<=9223372036854775807):Calls prog 14 #[.pointer (some ⟨S,0,none⟩),.agg (Lf q)] w fun e w'=>td w ok S v (je st q) e w':=by
 obtain⟨W2,hW2⟩:∃ W,W=(w.alloc (.cells (Lf q) 28)).alloc (.cells #[.int .i64 0,.int .i64 0,.string ⟨#[]⟩] 31):=⟨_,rfl⟩
 have Y2:Ll (La w W2):=aa (by rw[hW2];exact ab (ae _ _) (ae _ _));have AB:Ll (jC W2 w.heap.size q):=aa (by rw[hW2];exact fb _ _ _);have RB:Ll (dK W2 (w.heap.size+1) 0 0 []):=aa (by rw[hW2];exact et _ _ _);have HW2:=aa hW2;have S2:=aa (h.low.bel Y2.o);have NO:=aa h.no;have HNE:=aa (fun g (hg:v.ownBlock=some g)=>h.ne hg);have SLT:Ll (S < w.heap.size):=aa h.blk.lt;have HV0:=aa (fun k (hk:v.ownBlock=some k)=>(HNE.o k hk).2);have GOOD:=aa hg;have GLO:=aa hGl;have HN:=aa hn;have HQ:=aa hq;have HW_:=aa hw;clear hW2 h hg hGl hn hq hw;have SZ3:Ll (w.heap.size+2<=W2.heap.size):=aa (by have:=(MF.1 RB.o).1;omega);have F2:=aa (eE (S:=S) (v:=v) Y2.o);have s0_:=S2.o.blk.c;by_cases h300:st.acts=300
 ·have e3:(st.acts == 300)=true:=by simp[h300]
  have H3:=aa h300;clear h300;go_enter func14,ntmps14;go_upto_region 1 with fail
  rw[<-HW2.o];have RF:=aa (dh W2 10);have R:Ll (je st q=(st,bz 10)):=aa (by unfold je;rw[if_pos H3.o]);go_wp2_with (go_at_call 20;refine RF.o.mono ?_;rintro e w5 ⟨rfl,hh⟩;have D9:=aa (gF (e:=.returned (fX (bz 10))) (p:=(st,bz 10)) (w:=w) (ok:=ok) F2.o SZ3.o SLT.o HV0.o ((S2.o.bel hh).outB SZ3.o) (fun _ hg=>.inl hg) (eE hh) rfl);have RB5:=aa (RB.o.bel hh);have n0_:=RB5.o.c;have Z9:=aa (RB5.o.set (bz 10));clear hh)
  rw[R.o];have z0_:=Z9.o.c;refine MM (v:=.agg #[.int .i64 10,.int .i64 0,.string ⟨#[]⟩]) ?_ rfl ?_
  ·simp only[fE,bz]at z0_;simp[results,results14,go_sem,z0_]
  ·exact D9.o
 have e3:(st.acts == 300)=false:=by rw[MO];exact h300
 have H3:=aa h300;have hwA:IntKind.i64.wrap (st.acts+1)=st.acts+1:=by have h1:=GOOD.o.acts;have h2:=GOOD.o.ver;rw[IntKind.wrap_i64];omega
 clear h300;obtain⟨f0,f1,f2,f3⟩:=S2.o.blk.f;go_enter func14,ntmps14;go_upto_region 1 with fail
 rw[<-HW2.o];go_upto_region 6 with fail
 clear f0 f1 f2 f3;obtain⟨W3,hW3⟩:∃ W,W=W2.setCell ⟨S,3,none⟩ (.int .i64 (st.acts+1)):=⟨_,rfl⟩
 have G3:Ll (W2.grownBy W3 (some S)):=aa (by rw[hW3];exact ap (az _ _) _ _);have S3:Ll (bo W3 (Lj ok w) S v { st with acts:=st.acts+1 }):=aa (S2.o.grS (time:=st.time) (ver:=st.ver) G3.o (by rw[hW3];exact ak S2.o.blk 3 _));rw[<-hW3];clear hW3;have F3:=aa (F2.o.gb G3.o (.inl rfl));have AB3:Ll (jC W3 w.heap.size q):=aa (AB.o.grA G3.o (by intro e;have:=Option.some.inj e;have:=SLT.o;omega));have RB3:Ll (dK W3 (w.heap.size+1) 0 0 []):=aa ((G3.o.block _ (MF.1 RB.o).1 (by intro e;have:=Option.some.inj e;have:=SLT.o;omega)).trans RB.o);have GL3:=aa (GLO.o.sfr F3.o (fun k hk=>(HNE.o k hk).1));have SZ:=aa G3.o.size;replace SZ3:Ll (w.heap.size+2<=W3.heap.size):=aa (MH SZ3.o SZ.o);have GD3:Ll (dP { st with acts:=st.acts+1 }):=aa ⟨GOOD.o.time,⟨GOOD.o.ver.1,by have:=GOOD.o.ver.2;simp only;omega⟩,by have h1:=GOOD.o.acts;have h2:=H3.o;simp only;omega,GOOD.o.len,GOOD.o.rise,GOOD.o.ths⟩;have D0:Ll (je st q=if q.kind < 1\/9 < q.kind then ({ st with acts:=st.acts+1 },bz 9) else if q.kind=8 then iz { st with acts:=st.acts+1 } q.n else if bT q.name=false then ({ st with acts:=st.acts+1 },bz 1) else dD { st with acts:=st.acts+1 } q):=aa (by unfold je;rw[if_neg H3.o]);have q0_:=AB3.o.c;by_cases hk1:q.kind < 1
 ·have H1:=aa hk1;have RF:=aa (dh W3 9);have R:Ll (je st q=({ st with acts:=st.acts+1 },bz 9)):=aa (by rw[D0.o,if_pos (.inl H1.o)]);go_wp2_with (go_at_call 20;refine RF.o.mono ?_;rintro e w5 ⟨rfl,hh⟩;have D9:=aa (gF (e:=.returned (fX (bz 9))) (p:=({ st with acts:=st.acts+1 },bz 9)) (w:=w) (ok:=ok) F3.o SZ3.o SLT.o HV0.o ((S3.o.bel hh).outB SZ3.o) (fun _ hg=>.inl hg) (eE hh) rfl);have RB5:=aa (RB3.o.bel hh);have n0_:=RB5.o.c;have Z9:=aa (RB5.o.set (bz 9));clear hh)
  rw[R.o];have z0_:=Z9.o.c;refine MM (v:=.agg #[.int .i64 9,.int .i64 0,.string ⟨#[]⟩]) ?_ rfl ?_
  ·simp only[fE,bz]at z0_;simp[results,results14,go_sem,z0_]
  ·exact D9.o
 by_cases hk9:9 < q.kind
 ·have H1:=aa hk9;have RF:=aa (dh W3 9);have R:Ll (je st q=({ st with acts:=st.acts+1 },bz 9)):=aa (by rw[D0.o,if_pos (.inr H1.o)]);go_wp2_with (go_at_call 20;refine RF.o.mono ?_;rintro e w5 ⟨rfl,hh⟩;have D9:=aa (gF (e:=.returned (fX (bz 9))) (p:=({ st with acts:=st.acts+1 },bz 9)) (w:=w) (ok:=ok) F3.o SZ3.o SLT.o HV0.o ((S3.o.bel hh).outB SZ3.o) (fun _ hg=>.inl hg) (eE hh) rfl);have RB5:=aa (RB3.o.bel hh);have n0_:=RB5.o.c;have Z9:=aa (RB5.o.set (bz 9));clear hh)
  rw[R.o];have z0_:=Z9.o.c;refine MM (v:=.agg #[.int .i64 9,.int .i64 0,.string ⟨#[]⟩]) ?_ rfl ?_
  ·simp only[fE,bz]at z0_;simp[results,results14,go_sem,z0_]
  ·exact D9.o
 have HK0:Ll (¬(q.kind < 1\/9 < q.kind)):=aa (by omega);by_cases hk8:q.kind=8
 ·have H8:=aa hk8;have e8:(q.kind == 8)=true:=by simp[hk8]
  clear hk8;obtain⟨rs,rr,hrr⟩:∃ rs rr,iz { st with acts:=st.acts+1 } q.n=(rs,rr):=⟨_,_,rfl⟩
  have CON:=GE W3 (Lj ok w) S v { st with acts:=st.acts+1 } q.n S3.o GOOD.o.len GOOD.o.time;rw[hrr]at CON;simp only[fX]at CON;have CONT:=aa CON;have R:Ll (je st q=(rs,rr)):=aa (by rw[D0.o,if_neg HK0.o,if_pos H8.o];exact hrr);clear CON hrr;go_wp2_with (go_at_call 21;refine CONT.o.mono ?_;rintro e w5 ⟨rfl,h1,h3⟩;have D9:=aa (gF (e:=.returned (fX rr)) (p:=(rs,rr)) (w:=w) (ok:=ok) F3.o SZ3.o SLT.o HV0.o (h1) (fun _ hg=>.inl hg) (h3) rfl);have RB5:=aa (rG RB3.o SLT.o HV0.o (h3));have n0_:=RB5.o.c;have Z9:=aa (RB5.o.set rr);clear h1 h3)
  rw[R.o];have z0_:=Z9.o.c;refine MM (v:=.agg #[.int .i64 rr.code,.int .i64 rr.n,.string ⟨rr.body.toArray⟩]) ?_ rfl ?_
  ·simp only[fE]at z0_;simp[results,results14,go_sem,z0_]
  ·exact D9.o
 have H8:=aa hk8;have e8:(q.kind == 8)=false:=by rw[MO];exact hk8
 clear hk8;obtain⟨nb,hnb⟩:∃ nb,bT q.name=nb:=⟨_,rfl⟩
 have NA:=Go.Proofs.YtkjeiljdoljjgaaGreatDoor.lR W3 q.name HN.o;rw[hnb]at NA;have NAM:Ll (Calls prog 22 #[.string ⟨q.name.toArray⟩] W3 fun e w'=>e=.returned (.bool nb)/\w'=W3):=aa NA;have HNB:=aa hnb;clear NA hnb;cases nb with
 | false=>
  go_upto_region 11 with (go_at_call 22;refine NAM.o.mono ?_;rintro e w4 ⟨rfl,hw4⟩;obtain rfl:W3=w4:=hw4.symm)
  have RF:=aa (dh W3 1);have R:Ll (je st q=({ st with acts:=st.acts+1 },bz 1)):=aa (by rw[D0.o,if_neg HK0.o,if_neg H8.o,if_pos HNB.o]);go_wp2_with (go_at_call 20;refine RF.o.mono ?_;rintro e w5 ⟨rfl,hh⟩;have D9:=aa (gF (e:=.returned (fX (bz 1))) (p:=({ st with acts:=st.acts+1 },bz 1)) (w:=w) (ok:=ok) F3.o SZ3.o SLT.o HV0.o ((S3.o.bel hh).outB SZ3.o) (fun _ hg=>.inl hg) (eE hh) rfl);have RB5:=aa (RB3.o.bel hh);have n0_:=RB5.o.c;have Z9:=aa (RB5.o.set (bz 1));clear hh)
  rw[R.o];have z0_:=Z9.o.c;refine MM (v:=.agg #[.int .i64 1,.int .i64 0,.string ⟨#[]⟩]) ?_ rfl ?_
  ·simp only[fE,bz]at z0_;simp[results,results14,go_sem,z0_]
  ·exact D9.o
 | true=>
  go_upto_region 12 with (go_at_call 22;refine NAM.o.mono ?_;rintro e w4 ⟨rfl,hw4⟩;obtain rfl:W3=w4:=hw4.symm)
  obtain⟨rs,rr,hrr⟩:∃ rs rr,dD { st with acts:=st.acts+1 } q=(rs,rr):=⟨_,_,rfl⟩
  have CON:=Bk W3 (Lj ok w) S v { st with acts:=st.acts+1 } q S3.o GD3.o GL3.o.g GL3.o.m GL3.o.w HN.o HQ.o HW_.o;rw[hrr]at CON;simp only[fX,td]at CON;have CONT:=aa CON;have R:Ll (je st q=(rs,rr)):=aa (by rw[D0.o,if_neg HK0.o,if_neg H8.o,if_neg (by rw[HNB.o];simp)];exact hrr);clear CON hrr;go_wp2_with (go_at_call 23;refine CONT.o.mono ?_;rintro e w5 ⟨v5,rfl,h1,h2,h3⟩;have D9:=aa (gF (e:=.returned (fX rr)) (p:=(rs,rr)) (w:=w) (ok:=ok) F3.o SZ3.o SLT.o HV0.o (h1) (h2) (h3) rfl);have RB5:=aa (rG RB3.o SLT.o HV0.o (h3));have n0_:=RB5.o.c;have Z9:=aa (RB5.o.set rr);clear h1 h2 h3)
  rw[R.o];have z0_:=Z9.o.c;refine MM (v:=.agg #[.int .i64 rr.code,.int .i64 rr.n,.string ⟨rr.body.toArray⟩]) ?_ rfl ?_
  ·simp only[fE]at z0_;simp[results,results14,go_sem,z0_]
  ·exact D9.o
end Go.Proofs.YtkjeiljdoljjgaaGreatDoor
