import Derived.Test.YtbdlfclnkpofaaaGreatDoorG6
import Derived.Test.YtbdlfclnkpofaaaGreatDoorG11
set_option maxRecDepth 100000
set_option maxHeartbeats 40000000
set_option linter.unusedSimpArgs false
set_option linter.unusedVariables false
namespace Go.Proofs.YtbdlfclnkpofaaaGreatDoor
open Go.RowKit
open _root_.Go.Proofs.Tryz
variable {W:World}
variable {ok:Nat->Prop}
variable {v:Value}
variable {y:V}
variable {g B:Nat}
section
theorem yl{a:LC}(_:La a W):ag (W.alloc (.cells #[.int .i64 0,.int .i64 0,.string ⟨#[]⟩,.slice none 0 0,.slice none 0 0] 25)) W.heap.size (.int .i64 0) (.int .i64 0) (.string ⟨#[]⟩) (.slice none 0 0) (.slice none 0 0):=MN _ _
theorem tc{a:LC}{was a3 b3 c3 d3}(h:La a W)(hi:In W ok was (.agg #[.int .i64 was.kind,.int .i64 was.n,.string ⟨was.s.toArray⟩,.slice a3 was.keys.length c3,.slice b3 was.l.length d3])):ag (W.alloc (.cells #[.int .i64 was.kind,.int .i64 was.n,.string ⟨was.s.toArray⟩,.slice a3 was.keys.length c3,.slice b3 was.l.length d3] 25)) W.heap.size (.int .i64 was.kind) (.int .i64 was.n) (.string ⟨was.s.toArray⟩) (.slice a3 was.keys.length c3) (.slice b3 was.l.length d3)/\a.heap.size<=W.heap.size/\La a (W.alloc (.cells #[.int .i64 was.kind,.int .i64 was.n,.string ⟨was.s.toArray⟩,.slice a3 was.keys.length c3,.slice b3 was.l.length d3] 25))/\In (W.alloc (.cells #[.int .i64 was.kind,.int .i64 was.n,.string ⟨was.s.toArray⟩,.slice a3 was.keys.length c3,.slice b3 was.l.length d3] 25)) ok was (.agg #[.int .i64 was.kind,.int .i64 was.n,.string ⟨was.s.toArray⟩,.slice a3 was.keys.length c3,.slice b3 was.l.length d3]):=
 ⟨MN _ _,h.size,ab h (ae _ _),hi.bel (ae _ _)⟩
theorem sX{a:LC}{was a3 b3 c3 d3 e0 e1 e2 e3 e4}(h:La a W)(hg:a.heap.size<=g)(hb:ag W g e0 e1 e2 e3 e4)(hi:In W ok was (.agg #[.int .i64 was.kind,.int .i64 was.n,.string ⟨was.s.toArray⟩,.slice a3 was.keys.length c3,.slice b3 was.l.length d3]))(hk:∀ k,ok k->k < g):ag (ar W g (.int .i64 was.kind) (.int .i64 was.n) (.string ⟨was.s.toArray⟩) (.slice a3 was.keys.length c3) (.slice b3 was.l.length d3)) g (.int .i64 was.kind) (.int .i64 was.n) (.string ⟨was.s.toArray⟩) (.slice a3 was.keys.length c3) (.slice b3 was.l.length d3)/\a.heap.size<=g/\La a (ar W g (.int .i64 was.kind) (.int .i64 was.n) (.string ⟨was.s.toArray⟩) (.slice a3 was.keys.length c3) (.slice b3 was.l.length d3))/\In (ar W g (.int .i64 was.kind) (.int .i64 was.n) (.string ⟨was.s.toArray⟩) (.slice a3 was.keys.length c3) (.slice b3 was.l.length d3)) ok was (.agg #[.int .i64 was.kind,.int .i64 was.n,.string ⟨was.s.toArray⟩,.slice a3 was.keys.length c3,.slice b3 was.l.length d3]):=
 ⟨hb.set _ _ _ _ _,hg,aP h hg _ _ _ _ _,hi.grown (aI W g _ _ _ _ _) (fun k h9=>by have:=hk k h9;omega)⟩
theorem jr{C D}(h:In W (bQ (fun k=>ok k/\k < B) C) y v)(hC:D<=C):In W (bg ok B D) y v:=h.weak fun k hk=>hk.imp id fun h9=>MH hC h9
theorem uK{D}(h:In W (fun k=>ok k/\k < B) y v):In W (bg ok B D) y v:=h.weak fun k hk=>.inl hk
theorem tT{C:Nat}(h:In W (fun k=>ok k/\k < B) y v):In W (bQ (fun k=>ok k/\k < B) C) y v:=h.weak fun k hk=>.inl hk
attribute [local go_sem ↓] Go.wp_at_zero Go.wp_at_succ
theorem DX:∀ (ns:List Lz) (w:LC) (ok okn:Nat->Prop) (t x:V) (v xv nv:Value),In w ok t v->In w ok x xv->ao w okn ns nv->ns≠[]->fL t->bN t<=90000 ->
 Calls prog 63 #[v,nv,xv] w fun e w'=>∃ r,e=.returned r/\In w' (bQ ok w.heap.size) (TF ns t x) r/\La w w':=by
 intro ns;induction ns with
 | nil=>intro w ok okn t x v xv nv _ _ _ h;exact absurd rfl h
 | cons n ns ih=>
 intro w ok okn t x v xv nv h hx hnv _ hob hcn;have IH:=aa ih;obtain⟨nb,no,nc,rfl,hcl,hnl,hnc,hnn⟩:=qm hnv;have hn1:=hnv.1;unfold maxLen at hn1;have NV:=aa hnv;have NL:=aa hnn;have NC0:=aa hnc;have HT:=aa h.low;have HX:=aa hx.low;have OBT:=aa hob;have CT:=aa hcn;obtain⟨a1,b1,c1,d1,rfl⟩:=h.form;obtain⟨a2,b2,c2,d2,rfl⟩:=hx.form;clear h hx hnv hnc ih hob hcn hnn;have RLA:Ll (∀ o,o=cD t->((((aS o n).getD aM).kind=5/\x.kind=5)->TF [n] t x=o)/\(¬(((aS o n).getD aM).kind=5/\x.kind=5)->TF [n] t x=aG o n x)/\(∀ m ns,TF (n :: m :: ns) t x=aG o n (TF (m :: ns) ((aS o n).getD aM) x))/\aK o=true/\o.l.length<=100000/\fL ((aS o n).getD aM)/\bN ((aS o n).getD aM)<=90000):=aa (fun o ho=>by
  subst ho;have hO:=OBT.o.obOf;rw[kC];refine⟨fun hb=>?_,fun hb=>?_,fun m ns=>rfl,hO.paired,?_,lV OBT.o n,MH (Ab t n) CT.o⟩
  ·show aG (cD t) n (TF [] ((aS t n).getD aM) x)=cD t;rw[TF,if_pos hb];cases hm:aS t n with
   | none=>rw[hm]at hb;simp[aM]at hb
   | some z=>exact Dk hO (by rw[kC];exact hm)
  ·show aG (cD t) n (TF [] ((aS t n).getD aM) x)=aG (cD t) n x;rw[TF,if_neg hb]
  ·have h1:=zT (cD t);have h2:=rO t;have:=CT.o;omega)
 by_cases hk:t.kind=5
 ·have e0:(t.kind != 5)=false:=by simp[hk]
  have e00:(t.kind == 5)=true:=by simp[hk]
  obtain⟨o,ho⟩:∃ o,o=cD t:=⟨_,rfl⟩
  have hot:o=t:=by rw[ho];simp[cD,hk]
  obtain⟨R1,R2,R3,R4,R5,R6,R7⟩:=RLA.o o ho;subst hot;obtain⟨was,hwas⟩:∃ x,(aS o n).getD aM=x:=⟨_,rfl⟩
  obtain⟨th,hth⟩:∃ x,(aS o n).isSome=x:=⟨_,rfl⟩
  rw[hwas]at R1 R2 R3 R6 R7;have HWAS:=aa hwas;have HTH:=aa hth;have RL:=aa R1;have RN:=aa R2;have RMA:=aa R3;have PO:=aa R4;have LO:=aa R5;have OW:=aa R6;have CW:=aa R7;clear R1 R2 R3 R4 R5 R6 R7 hwas hth;obtain⟨WV,hWV⟩:∃ W,W=((w.alloc (.cells #[.int .i64 o.kind,.int .i64 o.n,.string ⟨o.s.toArray⟩,.slice a1 o.keys.length c1,.slice b1 o.l.length d1] 25)).alloc (.cells #[.int .i64 x.kind,.int .i64 x.n,.string ⟨x.s.toArray⟩,.slice a2 x.keys.length c2,.slice b2 x.l.length d2] 25)).alloc (.cells #[.int .i64 0,.int .i64 0,.string ⟨#[]⟩,.slice none 0 0,.slice none 0 0] 25):=⟨_,rfl⟩
  have BA:Ll (La w WV):=aa (by rw[hWV];exact ab (ab (ae _ _) (ae _ _)) (ae _ _));have VB:Ll (ag WV w.heap.size (.int .i64 o.kind) (.int .i64 o.n) (.string ⟨o.s.toArray⟩) (.slice a1 o.keys.length c1) (.slice b1 o.l.length d1)):=aa (by rw[hWV];exact lI _ _ _ _);have XB:Ll (ag WV (w.heap.size+1) (.int .i64 x.kind) (.int .i64 x.n) (.string ⟨x.s.toArray⟩) (.slice a2 x.keys.length c2) (.slice b2 x.l.length d2)):=aa (by rw[hWV];exact mE _ _ _ _);have RB0:Ll (ag WV (w.heap.size+2) (.int .i64 0) (.int .i64 0) (.string ⟨#[]⟩) (.slice none 0 0) (.slice none 0 0)):=aa (by rw[hWV];exact jI _ _ _ _);have SA:Ll (w.heap.size+3<=WV.heap.size):=aa (by rw[hWV];simp);have OI:=aa (HT.o.bel BA.o);have XI:=aa (HX.o.bel BA.o);have NC:=aa (ah BA.o NC0.o);have NT:Ll (ao WV okn ns (.slice (some ⟨nb,no+1,none⟩) ns.length (nc - 1))):=aa ((gt NV.o).bel BA.o);have HWV:=aa hWV;clear hWV hk ho;go_enter func63,ntmps63;go_upto_region 3 with fail
  rw[<-HWV.o];go_cut [7,8] (fun pv bv wc=>∃ (g7:Nat) (a3 b3:Option Addr) (c3 d3:Nat),pv=.pointer (some ⟨g7,0,none⟩)/\bv=.bool th/\(ag wc g7 (.int .i64 was.kind) (.int .i64 was.n) (.string ⟨was.s.toArray⟩) (.slice a3 was.keys.length c3) (.slice b3 was.l.length d3)/\WV.heap.size<=g7/\La WV wc/\In wc (Lj ok w) was (.agg #[.int .i64 was.kind,.int .i64 was.n,.string ⟨was.s.toArray⟩,.slice a3 was.keys.length c3,.slice b3 was.l.length d3])))
  case first=>
   refine aD (fun wS=>La WV wS) [9] (by kernel_rfl) (aC _ 1) (fun LI=>?_);refine WT.out ?_;iterate 4
    first
     | refine OJ 0 ?_ [4,5,6,7,9,10] LI ?_ ?_
     | refine OJ 1 ?_ [2,3,4,5,6,7,9,10] LI ?_ ?_
     | refine OJ 2 ?_ [3,4,5,6,7,9,10] LI ?_ ?_
     | refine OJ 3 ?_ [4,5,6,7,9,10] LI ?_ ?_
    rotate_left
    ·intro wS LN;have u0_:=(af LN VB.o).c;have nm:=ah LN NC.o;go_simp;all_goals with_reducible rfl
    simp only[av,List.set]
   repeat' (first
    | exact nl
    |(refine TD 4 (fun K hK=>?_) ?_
      go_simp;refine(ig _ (Lj ok w) o _ n (by exact OI.o.bel LI)).mono ?_;rintro e w4q ⟨rv,rfl,hb5,hr5⟩;rw[HWAS.o]at hr5;rw[HTH.o];obtain⟨a3,b3,c3,d3,rfl⟩:=hr5.form;refine hK.out _ _ (ab LI hb5) (fun LJ=>?_);have WI:=aa hr5;try replace NB:=aa (af hb5 NB.o)
      have Ma:Ll True:=aa trivial;clear hb5 hr5;clear hK K;replace LI:=LJ;clear LJ;try simp only[Act.put,Mt,Mu,Mv])
    |(refine TD 8 (fun K hK=>?_) ?_
      go_simp;refine hK.out _ _ (ab LI (ae _ _)) (fun LJ=>?_);have NB:=aa (yl LI);first | (have c9:=Ma.o;clear c9;have FINA:=aa (tc LI WI.o)) | skip
      clear hK K;replace LI:=LJ;clear LJ;try simp only[Act.put,Mt,Mu,Mv])
    |(refine OO 9 (fun K hK=>?_)
      try rw[show (World.drew WV).heap.size=WV.heap.size from rfl]at NB
      have n0_:=NB.o.c;first | (have c9:=FINA.o;clear c9) | (have FINB:=aa (sX (g:=WV.heap.size) LI (MG _) NB.o WI.o (fun k hk=>by have h9:=hk.2;have:=SA.o;omega)))
      go_simp;refine hK.out _ _ ?_;clear hK K;try simp only[Act.put,Mt,Mu,Mv])
    |(refine OO 10 (fun K hK=>?_)
      go_simp;refine hK.out _ _ ?_;clear hK K;try simp only[Act.put,Mt,Mu,Mv])
    |(first
       | refine OJ 5 ?_ [6,7,9,10] (by exact LI) ?_ ?_
       | refine OJ 6 ?_ [9,10] (by exact LI) ?_ ?_
      rotate_left
      ·intro wS LN;go_simp;all_goals with_reducible rfl
      simp only[av,List.set])
    |(refine Pm 7 ?_ (by exact LI) ?_ ?_
      rotate_left
      ·intro wS;go_simp;all_goals with_reducible rfl
      simp only[av,List.set])
    | refine OL [4,8] ?_
    | refine OL [8] ?_
    | refine OL [4] ?_
    | fail)
   all_goals
    refine dn (by kernel_rfl) ?_;go_wp2
    go_meet
    case rel=>first | exact⟨_,_,_,_,_,rfl,rfl,FINA.o⟩ | exact⟨_,_,_,_,_,rfl,rfl,FINB.o⟩
  case rest=>
   obtain⟨g7,a3,b3,c3,d3,rfl,rfl,hcW,hcG,hcB,hcI⟩:=hcut;have WB:=aa hcW;have BWC:=aa hcB;have WCI:=aa hcI;have SC:Ll (w.heap.size+3<=wc.heap.size):=aa (MH SA.o hcB.size);have BC:=aa (ab BA.o hcB);replace VB:=aa (af hcB VB.o);replace XB:=aa (af hcB XB.o);have RB:=aa (af hcB RB0.o);replace NC:=aa (ah hcB NC.o);clear hcW hcG hcB hcI;cases ns with
   | nil=>
    have w0_:=WB.o.c;have x0_:=XB.o.c;have v0_:=VB.o.c;by_cases hb:was.kind=5/\x.kind=5
    ·have e1:(was.kind == 5)=true:=by simp[hb.1]
     have e2:(x.kind == 5)=true:=by simp[hb.2]
     have RES:Ll (TF [n] o x=o):=aa (RL.o hb);have n0_:=RB.o.c;have ZB:=aa (RB.o.set (.int .i64 o.kind) (.int .i64 o.n) (.string ⟨o.s.toArray⟩) (.slice a1 o.keys.length c1) (.slice b1 o.l.length d1));have Z:=aa (cY (w:=w) (ok:=ok) (C:=wc.heap.size) (g:=(w.heap.size+2)) (uK (OI.o.bel BWC.o)) BC.o (by omega) (by have:=SC.o;omega));clear hb;go_wp2
     have z0_:=ZB.o.c;refine MM (v:=.agg #[.int .i64 o.kind,.int .i64 o.n,.string ⟨o.s.toArray⟩,.slice a1 o.keys.length c1,.slice b1 o.l.length d1]) ?_ rfl ?_
     ·simp only[ar]at z0_;simp[results,results63,go_sem,z0_]
     ·exact⟨_,rfl,by rw[RES.o];exact Z.o.2,Z.o.1⟩
    ·obtain⟨y,hy⟩:∃ y,aG o n x=y:=⟨_,rfl⟩
     have HY:=aa hy;have RES:Ll (TF [n] o x=y):=aa (by rw[<-hy];exact RN.o hb);clear hy;have e9:(was.kind == 5&&x.kind == 5)=false:=by rw[Bool.and_eq_false_iff,MO,MO];by_cases h9:was.kind=5;exact .inr (fun h8=>hb ⟨h9,h8⟩);exact .inl h9
     by_cases hwk:was.kind=5
     ·have e1:(was.kind == 5)=true:=by simp[hwk]
      have e2:(x.kind == 5)=false:=by rw[MO];exact fun h8=>hb ⟨hwk,h8⟩
      clear hb hwk e9;go_upto_region 8 with fail
      refine aD (fun wS=>La wc wS) [6] (by kernel_rfl) (aC _ 1) (fun LI=>?_);refine WT.out ?_;iterate 5
       first
        | refine OJ 0 ?_ [5,6] LI ?_ ?_
        | refine OJ 1 ?_ [2,3,5,6] LI ?_ ?_
        | refine OJ 2 ?_ [3,5,6] LI ?_ ?_
        | refine OJ 3 ?_ [5,6] LI ?_ ?_
        | refine OJ 4 ?_ [5,6] LI ?_ ?_
       rotate_left
       ·intro wS LN;have u0_:=(af LN VB.o).c;obtain⟨e0,e1,e2,e3,e4,-⟩:=(af LN XB.o).c;have nm:=ah LN NC.o;have f0_:=(af LN WB.o).c;go_simp;all_goals with_reducible rfl
       simp only[av,List.set]
      repeat' (first
       | exact nl
       |(refine TD 5 (fun K hK=>?_) ?_
         go_simp;refine(gf _ (Lj ok w) o x _ _ n (by exact(OI.o.bel BWC.o).bel LI) (by exact(XI.o.bel BWC.o).bel LI) PO.o LO.o NL.o).mono ?_;rintro e w5q ⟨rv,rfl,hr5,hb5⟩;rw[HY.o]at hr5;obtain⟨a4,b4,c4,d4,rfl⟩:=hr5.form;refine hK.out _ _ (ab LI hb5) (fun LJ=>?_);have YI:=aa (jr (D:=wc.heap.size) hr5 LI.size);clear hb5 hr5;clear hK K;replace LI:=LJ;clear LJ;try simp only[Act.put,Mt,Mu,Mv])
       |(refine OO 6 (fun K hK=>?_)
         have HB:=aa (af LI RB.o);have n0_:=HB.o.c;have ZB:=aa (HB.o.set (.int .i64 y.kind) (.int .i64 y.n) (.string ⟨y.s.toArray⟩) (.slice a4 y.keys.length c4) (.slice b4 y.l.length d4));have Z:=aa (cY (w:=w) (ok:=ok) (C:=wc.heap.size) (g:=(w.heap.size+2)) YI.o (ab BC.o LI) (by omega) (by have:=SC.o;omega));go_simp;refine hK.out _ _ ?_;clear hK K;try simp only[Act.put,Mt,Mu,Mv])
       | refine OL [5] ?_
       | fail)
      all_goals
       refine dn (by kernel_rfl) ?_;go_wp2
       have z0_:=ZB.o.c;refine MM (v:=.agg #[.int .i64 y.kind,.int .i64 y.n,.string ⟨y.s.toArray⟩,.slice a4 y.keys.length c4,.slice b4 y.l.length d4]) ?_ rfl ?_
       ·simp only[ar]at z0_;simp[results,results63,go_sem,z0_]
       ·exact⟨_,rfl,by rw[RES.o];exact Z.o.2,Z.o.1⟩
     ·have e1:(was.kind == 5)=false:=by rw[MO];exact hwk
      clear hb hwk e9;go_upto_region 8 with fail
      refine aD (fun wS=>La wc wS) [6] (by kernel_rfl) (aC _ 1) (fun LI=>?_);refine WT.out ?_;iterate 5
       first
        | refine OJ 0 ?_ [5,6] LI ?_ ?_
        | refine OJ 1 ?_ [2,3,5,6] LI ?_ ?_
        | refine OJ 2 ?_ [3,5,6] LI ?_ ?_
        | refine OJ 3 ?_ [5,6] LI ?_ ?_
        | refine OJ 4 ?_ [5,6] LI ?_ ?_
       rotate_left
       ·intro wS LN;have u0_:=(af LN VB.o).c;obtain⟨e0,e1,e2,e3,e4,-⟩:=(af LN XB.o).c;have nm:=ah LN NC.o;have f0_:=(af LN WB.o).c;go_simp;all_goals with_reducible rfl
       simp only[av,List.set]
      repeat' (first
       | exact nl
       |(refine TD 5 (fun K hK=>?_) ?_
         go_simp;refine(gf _ (Lj ok w) o x _ _ n (by exact(OI.o.bel BWC.o).bel LI) (by exact(XI.o.bel BWC.o).bel LI) PO.o LO.o NL.o).mono ?_;rintro e w5q ⟨rv,rfl,hr5,hb5⟩;rw[HY.o]at hr5;obtain⟨a4,b4,c4,d4,rfl⟩:=hr5.form;refine hK.out _ _ (ab LI hb5) (fun LJ=>?_);have YI:=aa (jr (D:=wc.heap.size) hr5 LI.size);clear hb5 hr5;clear hK K;replace LI:=LJ;clear LJ;try simp only[Act.put,Mt,Mu,Mv])
       |(refine OO 6 (fun K hK=>?_)
         have HB:=aa (af LI RB.o);have n0_:=HB.o.c;have ZB:=aa (HB.o.set (.int .i64 y.kind) (.int .i64 y.n) (.string ⟨y.s.toArray⟩) (.slice a4 y.keys.length c4) (.slice b4 y.l.length d4));have Z:=aa (cY (w:=w) (ok:=ok) (C:=wc.heap.size) (g:=(w.heap.size+2)) YI.o (ab BC.o LI) (by omega) (by have:=SC.o;omega));go_simp;refine hK.out _ _ ?_;clear hK K;try simp only[Act.put,Mt,Mu,Mv])
       | refine OL [5] ?_
       | fail)
      all_goals
       refine dn (by kernel_rfl) ?_;go_wp2
       have z0_:=ZB.o.c;refine MM (v:=.agg #[.int .i64 y.kind,.int .i64 y.n,.string ⟨y.s.toArray⟩,.slice a4 y.keys.length c4,.slice b4 y.l.length d4]) ?_ rfl ?_
       ·simp only[ar]at z0_;simp[results,results63,go_sem,z0_]
       ·exact⟨_,rfl,by rw[RES.o];exact Z.o.2,Z.o.1⟩
   | cons m ns=>
    obtain⟨u,hu⟩:∃ u,TF (m :: ns) was x=u:=⟨_,rfl⟩
    have HU:=aa hu;obtain⟨y,hy⟩:∃ y,aG o n u=y:=⟨_,rfl⟩
    have HY:=aa hy;have RES:Ll (TF (n :: m :: ns) o x=y):=aa (by rw[<-hy,<-hu];exact RMA.o m ns);clear hu hy;simp only[My]at hcl hn1 hnl ⊢;obtain⟨mc,rfl⟩:∃ mc,nc=mc+2:=⟨nc - 2,by omega⟩
    have NTL:Ll (ao WV okn (m :: ns) (.slice (some ⟨nb,no+1,none⟩) (ns.length+1) (mc+1))):=aa (by have:=NT.o;simpa using this);have g1:(1:Int) < (ns.length:Int)+1+1:=by omega
    have g2:(ns.length:Int)+1+1<=(mc:Int)+2:=by omega
    have g3:(1:Int)<=(ns.length:Int)+1+1:=by omega
    have g5:(0:Int) < (ns.length:Int)+1+1:=by omega
    have g4:decide (1 < ns.length+1+1)=true:=decide_eq_true (by omega);go_upto_region 5 with fail
    refine aD (fun wS=>La wc wS) [10] (by kernel_rfl) (aC _ 1) (fun LI=>?_);refine WT.out ?_;iterate 8
     first
      | refine OJ 0 ?_ [9,10] LI ?_ ?_
      | refine OJ 1 ?_ [2,3,9,10] LI ?_ ?_
      | refine OJ 2 ?_ [3,9,10] LI ?_ ?_
      | refine OJ 3 ?_ [9,10] LI ?_ ?_
      | refine OJ 4 ?_ [8,9,10] LI ?_ ?_
      | refine OJ 5 ?_ [6,8,9,10] LI ?_ ?_
      | refine OJ 6 ?_ [8,9,10] LI ?_ ?_
      | refine OJ 7 ?_ [8,9,10] LI ?_ ?_
     rotate_left
     ·intro wS LN;have u0_:=(af LN VB.o).c;obtain⟨e0,e1,e2,e3,e4,-⟩:=(af LN XB.o).c;have nm:=ah LN NC.o;have f0_:=(af LN WB.o).c;go_simp;all_goals with_reducible rfl
     simp only[av,List.set]
    repeat' (first
     | exact nl
     |(refine TD 8 (fun K hK=>?_) ?_
       go_simp;refine(IH.o _ (Lj ok w) okn was x _ _ _ (by exact WCI.o.bel LI) (by exact(XI.o.bel BWC.o).bel LI) (by exact(NTL.o.bel BWC.o).bel LI) (by simp) OW.o CW.o).mono ?_;rintro e w8q ⟨rv,rfl,hr5,hb5⟩;rw[HU.o]at hr5;obtain⟨a5,b5,c5,d5,rfl⟩:=hr5.form;refine hK.out _ _ (ab LI hb5) (fun LJ=>?_);have UI:=aa hr5;have HB8:=aa LI;have HS8:=aa LI.size;clear hb5 hr5;clear hK K;replace LI:=LJ;clear LJ;try simp only[Act.put,Mt,Mu,Mv])
     |(refine TD 9 (fun K hK=>?_) ?_
       go_simp;refine(gf _ (bQ (Lj ok w) wc.heap.size) o u _ _ n (by exact tT ((OI.o.bel BWC.o).bel LI)) (by exact UI.o.weak fun k hk=>hk.imp id fun h9=>MH HS8.o h9) PO.o LO.o NL.o).mono ?_;rintro e w9q ⟨rv,rfl,hr5,hb5⟩;rw[HY.o]at hr5;obtain⟨a4,b4,c4,d4,rfl⟩:=hr5.form;refine hK.out _ _ (ab LI hb5) (fun LJ=>?_);have YI:Ll (In _ (bg ok w.heap.size wc.heap.size) y _):=aa (hr5.weak fun k hk=>by rcases hk with hk | hk;exact hk;exact Or.inr (MH LI.size hk));clear hb5 hr5;clear hK K;replace LI:=LJ;clear LJ;try simp only[Act.put,Mt,Mu,Mv])
     |(refine OO 10 (fun K hK=>?_)
       have HB:=aa (af LI RB.o);have n0_:=HB.o.c;have ZB:=aa (HB.o.set (.int .i64 y.kind) (.int .i64 y.n) (.string ⟨y.s.toArray⟩) (.slice a4 y.keys.length c4) (.slice b4 y.l.length d4));have Z:=aa (cY (w:=w) (ok:=ok) (C:=wc.heap.size) (g:=(w.heap.size+2)) YI.o (ab BC.o LI) (by omega) (by have:=SC.o;omega));go_simp;refine hK.out _ _ ?_;clear hK K;try simp only[Act.put,Mt,Mu,Mv])
     | refine OL [8] ?_
     | refine OL [9] ?_
     | fail)
    all_goals
     refine dn (by kernel_rfl) ?_;go_wp2
     have z0_:=ZB.o.c;refine MM (v:=.agg #[.int .i64 y.kind,.int .i64 y.n,.string ⟨y.s.toArray⟩,.slice a4 y.keys.length c4,.slice b4 y.l.length d4]) ?_ rfl ?_
     ·simp only[ar]at z0_;simp[results,results63,go_sem,z0_]
     ·exact⟨_,rfl,by rw[RES.o];exact Z.o.2,Z.o.1⟩
 ·have e0:(t.kind != 5)=true:=by simp[hk]
  have e00:(t.kind == 5)=false:=by rw[MO];exact hk
  obtain⟨o,ho⟩:∃ o,o=cD t:=⟨_,rfl⟩
  have hot:o=jM:=by rw[ho];simp[cD,hk]
  obtain⟨R1,R2,R3,R4,R5,R6,R7⟩:=RLA.o o ho;obtain⟨was,hwas⟩:∃ x,(aS o n).getD aM=x:=⟨_,rfl⟩
  obtain⟨th,hth⟩:∃ x,(aS o n).isSome=x:=⟨_,rfl⟩
  rw[hwas]at R1 R2 R3 R6 R7;have HWAS:=aa hwas;have HTH:=aa hth;have RL:=aa R1;have RN:=aa R2;have RMA:=aa R3;have PO:=aa R4;have LO:=aa R5;have OW:=aa R6;have CW:=aa R7;clear R1 R2 R3 R4 R5 R6 R7 hwas hth;obtain⟨WV,hWV⟩:∃ W,W=((w.alloc (.cells #[.int .i64 5,.int .i64 0,.string ⟨#[]⟩,.slice none 0 0,.slice none 0 0] 25)).alloc (.cells #[.int .i64 x.kind,.int .i64 x.n,.string ⟨x.s.toArray⟩,.slice a2 x.keys.length c2,.slice b2 x.l.length d2] 25)).alloc (.cells #[.int .i64 0,.int .i64 0,.string ⟨#[]⟩,.slice none 0 0,.slice none 0 0] 25):=⟨_,rfl⟩
  have BA:Ll (La w WV):=aa (by rw[hWV];exact ab (ab (ae _ _) (ae _ _)) (ae _ _));obtain⟨a1,ha1⟩:∃ a:Option Addr,a=none:=⟨_,rfl⟩
  obtain⟨b1,hb1⟩:∃ a:Option Addr,a=none:=⟨_,rfl⟩
  obtain⟨c1,hc1⟩:∃ a:Nat,a=0:=⟨_,rfl⟩
  obtain⟨d1,hd1⟩:∃ a:Nat,a=0:=⟨_,rfl⟩
  have VB:Ll (ag WV w.heap.size (.int .i64 o.kind) (.int .i64 o.n) (.string ⟨o.s.toArray⟩) (.slice a1 o.keys.length c1) (.slice b1 o.l.length d1)):=aa (by rw[hWV,hot,ha1,hb1,hc1,hd1];exact lI _ _ _ _);have XB:Ll (ag WV (w.heap.size+1) (.int .i64 x.kind) (.int .i64 x.n) (.string ⟨x.s.toArray⟩) (.slice a2 x.keys.length c2) (.slice b2 x.l.length d2)):=aa (by rw[hWV];exact mE _ _ _ _);have RB0:Ll (ag WV (w.heap.size+2) (.int .i64 0) (.int .i64 0) (.string ⟨#[]⟩) (.slice none 0 0) (.slice none 0 0)):=aa (by rw[hWV];exact jI _ _ _ _);have SA:Ll (w.heap.size+3<=WV.heap.size):=aa (by rw[hWV];simp);have OI:Ll (In WV (Lj ok w) o (.agg #[.int .i64 o.kind,.int .i64 o.n,.string ⟨o.s.toArray⟩,.slice a1 o.keys.length c1,.slice b1 o.l.length d1])):=aa (by rw[hot,ha1,hb1,hc1,hd1];exact Ac WV _ 5 0 (by unfold dW;simp) (by unfold dW;simp));have XI:=aa (HX.o.bel BA.o);have NC:=aa (ah BA.o NC0.o);have NT:Ll (ao WV okn ns (.slice (some ⟨nb,no+1,none⟩) ns.length (nc - 1))):=aa ((gt NV.o).bel BA.o);have HWV:=aa hWV;clear hWV hk ho hot ha1 hb1 hc1 hd1;go_enter func63,ntmps63;go_upto_region 3 with fail
  rw[<-HWV.o];go_cut [7,8] (fun pv bv wc=>∃ (g7:Nat) (a3 b3:Option Addr) (c3 d3:Nat),pv=.pointer (some ⟨g7,0,none⟩)/\bv=.bool th/\(ag wc g7 (.int .i64 was.kind) (.int .i64 was.n) (.string ⟨was.s.toArray⟩) (.slice a3 was.keys.length c3) (.slice b3 was.l.length d3)/\WV.heap.size<=g7/\La WV wc/\In wc (Lj ok w) was (.agg #[.int .i64 was.kind,.int .i64 was.n,.string ⟨was.s.toArray⟩,.slice a3 was.keys.length c3,.slice b3 was.l.length d3])))
  case first=>
   refine aD (fun wS=>La WV wS) [9] (by kernel_rfl) (aC _ 1) (fun LI=>?_);refine WT.out ?_;iterate 4
    first
     | refine OJ 0 ?_ [4,5,6,7,9,10] LI ?_ ?_
     | refine OJ 1 ?_ [2,3,4,5,6,7,9,10] LI ?_ ?_
     | refine OJ 2 ?_ [3,4,5,6,7,9,10] LI ?_ ?_
     | refine OJ 3 ?_ [4,5,6,7,9,10] LI ?_ ?_
    rotate_left
    ·intro wS LN;have u0_:=(af LN VB.o).c;have nm:=ah LN NC.o;go_simp;all_goals with_reducible rfl
    simp only[av,List.set]
   repeat' (first
    | exact nl
    |(refine TD 4 (fun K hK=>?_) ?_
      go_simp;refine(ig _ (Lj ok w) o _ n (by exact OI.o.bel LI)).mono ?_;rintro e w4q ⟨rv,rfl,hb5,hr5⟩;rw[HWAS.o]at hr5;rw[HTH.o];obtain⟨a3,b3,c3,d3,rfl⟩:=hr5.form;refine hK.out _ _ (ab LI hb5) (fun LJ=>?_);have WI:=aa hr5;try replace NB:=aa (af hb5 NB.o)
      have Ma:Ll True:=aa trivial;clear hb5 hr5;clear hK K;replace LI:=LJ;clear LJ;try simp only[Act.put,Mt,Mu,Mv])
    |(refine TD 8 (fun K hK=>?_) ?_
      go_simp;refine hK.out _ _ (ab LI (ae _ _)) (fun LJ=>?_);have NB:=aa (yl LI);first | (have c9:=Ma.o;clear c9;have FINA:=aa (tc LI WI.o)) | skip
      clear hK K;replace LI:=LJ;clear LJ;try simp only[Act.put,Mt,Mu,Mv])
    |(refine OO 9 (fun K hK=>?_)
      try rw[show (World.drew WV).heap.size=WV.heap.size from rfl]at NB
      have n0_:=NB.o.c;first | (have c9:=FINA.o;clear c9) | (have FINB:=aa (sX (g:=WV.heap.size) LI (MG _) NB.o WI.o (fun k hk=>by have h9:=hk.2;have:=SA.o;omega)))
      go_simp;refine hK.out _ _ ?_;clear hK K;try simp only[Act.put,Mt,Mu,Mv])
    |(refine OO 10 (fun K hK=>?_)
      go_simp;refine hK.out _ _ ?_;clear hK K;try simp only[Act.put,Mt,Mu,Mv])
    |(first
       | refine OJ 5 ?_ [6,7,9,10] (by exact LI) ?_ ?_
       | refine OJ 6 ?_ [9,10] (by exact LI) ?_ ?_
      rotate_left
      ·intro wS LN;go_simp;all_goals with_reducible rfl
      simp only[av,List.set])
    |(refine Pm 7 ?_ (by exact LI) ?_ ?_
      rotate_left
      ·intro wS;go_simp;all_goals with_reducible rfl
      simp only[av,List.set])
    | refine OL [4,8] ?_
    | refine OL [8] ?_
    | refine OL [4] ?_
    | fail)
   all_goals
    refine dn (by kernel_rfl) ?_;go_wp2
    go_meet
    case rel=>first | exact⟨_,_,_,_,_,rfl,rfl,FINA.o⟩ | exact⟨_,_,_,_,_,rfl,rfl,FINB.o⟩
  case rest=>
   obtain⟨g7,a3,b3,c3,d3,rfl,rfl,hcW,hcG,hcB,hcI⟩:=hcut;have WB:=aa hcW;have BWC:=aa hcB;have WCI:=aa hcI;have SC:Ll (w.heap.size+3<=wc.heap.size):=aa (MH SA.o hcB.size);have BC:=aa (ab BA.o hcB);replace VB:=aa (af hcB VB.o);replace XB:=aa (af hcB XB.o);have RB:=aa (af hcB RB0.o);replace NC:=aa (ah hcB NC.o);clear hcW hcG hcB hcI;cases ns with
   | nil=>
    have w0_:=WB.o.c;have x0_:=XB.o.c;have v0_:=VB.o.c;by_cases hb:was.kind=5/\x.kind=5
    ·have e1:(was.kind == 5)=true:=by simp[hb.1]
     have e2:(x.kind == 5)=true:=by simp[hb.2]
     have RES:Ll (TF [n] t x=o):=aa (RL.o hb);have n0_:=RB.o.c;have ZB:=aa (RB.o.set (.int .i64 o.kind) (.int .i64 o.n) (.string ⟨o.s.toArray⟩) (.slice a1 o.keys.length c1) (.slice b1 o.l.length d1));have Z:=aa (cY (w:=w) (ok:=ok) (C:=wc.heap.size) (g:=(w.heap.size+2)) (uK (OI.o.bel BWC.o)) BC.o (by omega) (by have:=SC.o;omega));clear hb;go_wp2
     have z0_:=ZB.o.c;refine MM (v:=.agg #[.int .i64 o.kind,.int .i64 o.n,.string ⟨o.s.toArray⟩,.slice a1 o.keys.length c1,.slice b1 o.l.length d1]) ?_ rfl ?_
     ·simp only[ar]at z0_;simp[results,results63,go_sem,z0_]
     ·exact⟨_,rfl,by rw[RES.o];exact Z.o.2,Z.o.1⟩
    ·obtain⟨y,hy⟩:∃ y,aG o n x=y:=⟨_,rfl⟩
     have HY:=aa hy;have RES:Ll (TF [n] t x=y):=aa (by rw[<-hy];exact RN.o hb);clear hy;have e9:(was.kind == 5&&x.kind == 5)=false:=by rw[Bool.and_eq_false_iff,MO,MO];by_cases h9:was.kind=5;exact .inr (fun h8=>hb ⟨h9,h8⟩);exact .inl h9
     by_cases hwk:was.kind=5
     ·have e1:(was.kind == 5)=true:=by simp[hwk]
      have e2:(x.kind == 5)=false:=by rw[MO];exact fun h8=>hb ⟨hwk,h8⟩
      clear hb hwk e9;go_upto_region 8 with fail
      refine aD (fun wS=>La wc wS) [6] (by kernel_rfl) (aC _ 1) (fun LI=>?_);refine WT.out ?_;iterate 5
       first
        | refine OJ 0 ?_ [5,6] LI ?_ ?_
        | refine OJ 1 ?_ [2,3,5,6] LI ?_ ?_
        | refine OJ 2 ?_ [3,5,6] LI ?_ ?_
        | refine OJ 3 ?_ [5,6] LI ?_ ?_
        | refine OJ 4 ?_ [5,6] LI ?_ ?_
       rotate_left
       ·intro wS LN;have u0_:=(af LN VB.o).c;obtain⟨e0,e1,e2,e3,e4,-⟩:=(af LN XB.o).c;have nm:=ah LN NC.o;have f0_:=(af LN WB.o).c;go_simp;all_goals with_reducible rfl
       simp only[av,List.set]
      repeat' (first
       | exact nl
       |(refine TD 5 (fun K hK=>?_) ?_
         go_simp;refine(gf _ (Lj ok w) o x _ _ n (by exact(OI.o.bel BWC.o).bel LI) (by exact(XI.o.bel BWC.o).bel LI) PO.o LO.o NL.o).mono ?_;rintro e w5q ⟨rv,rfl,hr5,hb5⟩;rw[HY.o]at hr5;obtain⟨a4,b4,c4,d4,rfl⟩:=hr5.form;refine hK.out _ _ (ab LI hb5) (fun LJ=>?_);have YI:=aa (jr (D:=wc.heap.size) hr5 LI.size);clear hb5 hr5;clear hK K;replace LI:=LJ;clear LJ;try simp only[Act.put,Mt,Mu,Mv])
       |(refine OO 6 (fun K hK=>?_)
         have HB:=aa (af LI RB.o);have n0_:=HB.o.c;have ZB:=aa (HB.o.set (.int .i64 y.kind) (.int .i64 y.n) (.string ⟨y.s.toArray⟩) (.slice a4 y.keys.length c4) (.slice b4 y.l.length d4));have Z:=aa (cY (w:=w) (ok:=ok) (C:=wc.heap.size) (g:=(w.heap.size+2)) YI.o (ab BC.o LI) (by omega) (by have:=SC.o;omega));go_simp;refine hK.out _ _ ?_;clear hK K;try simp only[Act.put,Mt,Mu,Mv])
       | refine OL [5] ?_
       | fail)
      all_goals
       refine dn (by kernel_rfl) ?_;go_wp2
       have z0_:=ZB.o.c;refine MM (v:=.agg #[.int .i64 y.kind,.int .i64 y.n,.string ⟨y.s.toArray⟩,.slice a4 y.keys.length c4,.slice b4 y.l.length d4]) ?_ rfl ?_
       ·simp only[ar]at z0_;simp[results,results63,go_sem,z0_]
       ·exact⟨_,rfl,by rw[RES.o];exact Z.o.2,Z.o.1⟩
     ·have e1:(was.kind == 5)=false:=by rw[MO];exact hwk
      clear hb hwk e9;go_upto_region 8 with fail
      refine aD (fun wS=>La wc wS) [6] (by kernel_rfl) (aC _ 1) (fun LI=>?_);refine WT.out ?_;iterate 5
       first
        | refine OJ 0 ?_ [5,6] LI ?_ ?_
        | refine OJ 1 ?_ [2,3,5,6] LI ?_ ?_
        | refine OJ 2 ?_ [3,5,6] LI ?_ ?_
        | refine OJ 3 ?_ [5,6] LI ?_ ?_
        | refine OJ 4 ?_ [5,6] LI ?_ ?_
       rotate_left
       ·intro wS LN;have u0_:=(af LN VB.o).c;obtain⟨e0,e1,e2,e3,e4,-⟩:=(af LN XB.o).c;have nm:=ah LN NC.o;have f0_:=(af LN WB.o).c;go_simp;all_goals with_reducible rfl
       simp only[av,List.set]
      repeat' (first
       | exact nl
       |(refine TD 5 (fun K hK=>?_) ?_
         go_simp;refine(gf _ (Lj ok w) o x _ _ n (by exact(OI.o.bel BWC.o).bel LI) (by exact(XI.o.bel BWC.o).bel LI) PO.o LO.o NL.o).mono ?_;rintro e w5q ⟨rv,rfl,hr5,hb5⟩;rw[HY.o]at hr5;obtain⟨a4,b4,c4,d4,rfl⟩:=hr5.form;refine hK.out _ _ (ab LI hb5) (fun LJ=>?_);have YI:=aa (jr (D:=wc.heap.size) hr5 LI.size);clear hb5 hr5;clear hK K;replace LI:=LJ;clear LJ;try simp only[Act.put,Mt,Mu,Mv])
       |(refine OO 6 (fun K hK=>?_)
         have HB:=aa (af LI RB.o);have n0_:=HB.o.c;have ZB:=aa (HB.o.set (.int .i64 y.kind) (.int .i64 y.n) (.string ⟨y.s.toArray⟩) (.slice a4 y.keys.length c4) (.slice b4 y.l.length d4));have Z:=aa (cY (w:=w) (ok:=ok) (C:=wc.heap.size) (g:=(w.heap.size+2)) YI.o (ab BC.o LI) (by omega) (by have:=SC.o;omega));go_simp;refine hK.out _ _ ?_;clear hK K;try simp only[Act.put,Mt,Mu,Mv])
       | refine OL [5] ?_
       | fail)
      all_goals
       refine dn (by kernel_rfl) ?_;go_wp2
       have z0_:=ZB.o.c;refine MM (v:=.agg #[.int .i64 y.kind,.int .i64 y.n,.string ⟨y.s.toArray⟩,.slice a4 y.keys.length c4,.slice b4 y.l.length d4]) ?_ rfl ?_
       ·simp only[ar]at z0_;simp[results,results63,go_sem,z0_]
       ·exact⟨_,rfl,by rw[RES.o];exact Z.o.2,Z.o.1⟩
   | cons m ns=>
    obtain⟨u,hu⟩:∃ u,TF (m :: ns) was x=u:=⟨_,rfl⟩
    have HU:=aa hu;obtain⟨y,hy⟩:∃ y,aG o n u=y:=⟨_,rfl⟩
    have HY:=aa hy;have RES:Ll (TF (n :: m :: ns) t x=y):=aa (by rw[<-hy,<-hu];exact RMA.o m ns);clear hu hy;simp only[My]at hcl hn1 hnl ⊢;obtain⟨mc,rfl⟩:∃ mc,nc=mc+2:=⟨nc - 2,by omega⟩
    have NTL:Ll (ao WV okn (m :: ns) (.slice (some ⟨nb,no+1,none⟩) (ns.length+1) (mc+1))):=aa (by have:=NT.o;simpa using this);have g1:(1:Int) < (ns.length:Int)+1+1:=by omega
    have g2:(ns.length:Int)+1+1<=(mc:Int)+2:=by omega
    have g3:(1:Int)<=(ns.length:Int)+1+1:=by omega
    have g5:(0:Int) < (ns.length:Int)+1+1:=by omega
    have g4:decide (1 < ns.length+1+1)=true:=decide_eq_true (by omega);go_upto_region 5 with fail
    refine aD (fun wS=>La wc wS) [10] (by kernel_rfl) (aC _ 1) (fun LI=>?_);refine WT.out ?_;iterate 8
     first
      | refine OJ 0 ?_ [9,10] LI ?_ ?_
      | refine OJ 1 ?_ [2,3,9,10] LI ?_ ?_
      | refine OJ 2 ?_ [3,9,10] LI ?_ ?_
      | refine OJ 3 ?_ [9,10] LI ?_ ?_
      | refine OJ 4 ?_ [8,9,10] LI ?_ ?_
      | refine OJ 5 ?_ [6,8,9,10] LI ?_ ?_
      | refine OJ 6 ?_ [8,9,10] LI ?_ ?_
      | refine OJ 7 ?_ [8,9,10] LI ?_ ?_
     rotate_left
     ·intro wS LN;have u0_:=(af LN VB.o).c;obtain⟨e0,e1,e2,e3,e4,-⟩:=(af LN XB.o).c;have nm:=ah LN NC.o;have f0_:=(af LN WB.o).c;go_simp;all_goals with_reducible rfl
     simp only[av,List.set]
    repeat' (first
     | exact nl
     |(refine TD 8 (fun K hK=>?_) ?_
       go_simp;refine(IH.o _ (Lj ok w) okn was x _ _ _ (by exact WCI.o.bel LI) (by exact(XI.o.bel BWC.o).bel LI) (by exact(NTL.o.bel BWC.o).bel LI) (by simp) OW.o CW.o).mono ?_;rintro e w8q ⟨rv,rfl,hr5,hb5⟩;rw[HU.o]at hr5;obtain⟨a5,b5,c5,d5,rfl⟩:=hr5.form;refine hK.out _ _ (ab LI hb5) (fun LJ=>?_);have UI:=aa hr5;have HB8:=aa LI;have HS8:=aa LI.size;clear hb5 hr5;clear hK K;replace LI:=LJ;clear LJ;try simp only[Act.put,Mt,Mu,Mv])
     |(refine TD 9 (fun K hK=>?_) ?_
       go_simp;refine(gf _ (bQ (Lj ok w) wc.heap.size) o u _ _ n (by exact tT ((OI.o.bel BWC.o).bel LI)) (by exact UI.o.weak fun k hk=>hk.imp id fun h9=>MH HS8.o h9) PO.o LO.o NL.o).mono ?_;rintro e w9q ⟨rv,rfl,hr5,hb5⟩;rw[HY.o]at hr5;obtain⟨a4,b4,c4,d4,rfl⟩:=hr5.form;refine hK.out _ _ (ab LI hb5) (fun LJ=>?_);have YI:Ll (In _ (bg ok w.heap.size wc.heap.size) y _):=aa (hr5.weak fun k hk=>by rcases hk with hk | hk;exact hk;exact Or.inr (MH LI.size hk));clear hb5 hr5;clear hK K;replace LI:=LJ;clear LJ;try simp only[Act.put,Mt,Mu,Mv])
     |(refine OO 10 (fun K hK=>?_)
       have HB:=aa (af LI RB.o);have n0_:=HB.o.c;have ZB:=aa (HB.o.set (.int .i64 y.kind) (.int .i64 y.n) (.string ⟨y.s.toArray⟩) (.slice a4 y.keys.length c4) (.slice b4 y.l.length d4));have Z:=aa (cY (w:=w) (ok:=ok) (C:=wc.heap.size) (g:=(w.heap.size+2)) YI.o (ab BC.o LI) (by omega) (by have:=SC.o;omega));go_simp;refine hK.out _ _ ?_;clear hK K;try simp only[Act.put,Mt,Mu,Mv])
     | refine OL [8] ?_
     | refine OL [9] ?_
     | fail)
    all_goals
     refine dn (by kernel_rfl) ?_;go_wp2
     have z0_:=ZB.o.c;refine MM (v:=.agg #[.int .i64 y.kind,.int .i64 y.n,.string ⟨y.s.toArray⟩,.slice a4 y.keys.length c4,.slice b4 y.l.length d4]) ?_ rfl ?_
     ·simp only[ar]at z0_;simp[results,results63,go_sem,z0_]
     ·exact⟨_,rfl,by rw[RES.o];exact Z.o.2,Z.o.1⟩
end
section
attribute [local go_sem ↓] Go.wp_at_zero Go.wp_at_succ
theorem xw:∀ (ns:List Lz) (w:LC) (ok okn:Nat->Prop) (o:V) (v nv:Value),In w ok o v->ao w okn ns nv->ns≠[]->fL o->(∃ y,dr ns o=some y)->bN o<=90000 ->
 Calls prog 66 #[v,nv] w fun e w'=>∃ r,e=.returned r/\In w' (bQ ok w.heap.size) (gI ns o) r/\La w w':=by
 intro ns;induction ns with
 | nil=>intro w ok okn o v nv _ _ h;exact absurd rfl h
 | cons n ns ih=>
 intro w ok okn o v nv h hnv _ hob hth hcn;have IH:=aa ih;obtain⟨nb,no,nc,rfl,hcl,hnl,hnc,hnn⟩:=qm hnv;have hn1:=hnv.1;unfold maxLen at hn1;have NV:=aa hnv;have NL:=aa hnn;have NC0:=aa hnc;have HT:=aa h.low;have OBT:=aa hob;have CT:=aa hcn;have TH:=aa hth;obtain⟨a1,b1,c1,d1,rfl⟩:=h.form;have hk5:o.kind=5:=by obtain⟨y,hy⟩:=hth;exact(gB hy).1
 have PO:=aa (hob.ob hk5).paired;have LO:Ll (o.l.length<=100000):=aa (by have:=zT o;omega);clear h hnv hnc ih hob hcn hnn hth hk5;obtain⟨WV,hWV⟩:∃ W,W=(w.alloc (.cells #[.int .i64 o.kind,.int .i64 o.n,.string ⟨o.s.toArray⟩,.slice a1 o.keys.length c1,.slice b1 o.l.length d1] 25)).alloc (.cells #[.int .i64 0,.int .i64 0,.string ⟨#[]⟩,.slice none 0 0,.slice none 0 0] 25):=⟨_,rfl⟩
 have BA:Ll (La w WV):=aa (by rw[hWV];exact ab (ae _ _) (ae _ _));have VB:Ll (ag WV w.heap.size (.int .i64 o.kind) (.int .i64 o.n) (.string ⟨o.s.toArray⟩) (.slice a1 o.keys.length c1) (.slice b1 o.l.length d1)):=aa (by rw[hWV];exact fb _ _ _);have RB:Ll (ag WV (w.heap.size+1) (.int .i64 0) (.int .i64 0) (.string ⟨#[]⟩) (.slice none 0 0) (.slice none 0 0)):=aa (by rw[hWV];exact et _ _ _);have SA:Ll (w.heap.size+2<=WV.heap.size):=aa (by rw[hWV];simp);have OI:=aa (HT.o.bel BA.o);have NC:=aa (ah BA.o NC0.o);have NT:Ll (ao WV okn ns (.slice (some ⟨nb,no+1,none⟩) ns.length (nc - 1))):=aa ((gt NV.o).bel BA.o);have HWV:=aa hWV;clear hWV;cases ns with
 | nil=>
  obtain⟨y,hy⟩:∃ y,bH o n=y:=⟨_,rfl⟩
  have HY:=aa hy;have RES:Ll (gI [n] o=y):=aa (by rw[<-hy];rfl);clear hy;have OIX:=OI;have BC:=BA;have SC:=SA;go_enter func66,ntmps66;go_upto_region 2 with fail
  rw[<-HWV.o];refine aD (fun wS=>La WV wS) [5] (by kernel_rfl) (aC _ 1) (fun LI=>?_);refine WT.out ?_;iterate 4
   first
    | refine OJ 0 ?_ [4,5] LI ?_ ?_
    | refine OJ 1 ?_ [2,3,4,5] LI ?_ ?_
    | refine OJ 2 ?_ [3,4,5] LI ?_ ?_
    | refine OJ 3 ?_ [4,5] LI ?_ ?_
   rotate_left
   ·intro wS LN;have u0_:=(af LN VB.o).c;have nm:=ah LN NC.o;go_simp;all_goals with_reducible rfl
   simp only[av,List.set]
  repeat' (first
   | exact nl
   |(refine TD 4 (fun K hK=>?_) ?_
     go_simp;refine(jD _ (Lj ok w) o _ n (by exact OIX.o.bel LI) LO.o).mono ?_;rintro e w4q ⟨rv,rfl,hr5,hb5⟩;rw[HY.o]at hr5;obtain⟨a4,b4,c4,d4,rfl⟩:=hr5.form;refine hK.out _ _ (ab LI hb5) (fun LJ=>?_);have YI:=aa (jr (D:=WV.heap.size) hr5 LI.size);clear hb5 hr5;clear hK K;replace LI:=LJ;clear LJ;try simp only[Act.put,Mt,Mu,Mv])
   |(refine OO 5 (fun K hK=>?_)
     have HB:=aa (af LI RB.o);have n0_:=HB.o.c;have ZB:=aa (HB.o.set (.int .i64 y.kind) (.int .i64 y.n) (.string ⟨y.s.toArray⟩) (.slice a4 y.keys.length c4) (.slice b4 y.l.length d4));have Z:=aa (cY (w:=w) (ok:=ok) (C:=WV.heap.size) (g:=(w.heap.size+1)) YI.o (ab BC.o LI) (by omega) (by have:=SC.o;omega));go_simp;refine hK.out _ _ ?_;clear hK K;try simp only[Act.put,Mt,Mu,Mv])
   | refine OL [4] ?_
   | fail)
  all_goals
   refine dn (by kernel_rfl) ?_;go_wp2
   have z0_:=ZB.o.c;refine MM (v:=.agg #[.int .i64 y.kind,.int .i64 y.n,.string ⟨y.s.toArray⟩,.slice a4 y.keys.length c4,.slice b4 y.l.length d4]) ?_ rfl ?_
   ·simp only[ar]at z0_;simp[results,results66,go_sem,z0_]
   ·exact⟨_,rfl,by rw[RES.o];exact Z.o.2,Z.o.1⟩
 | cons m ns=>
  obtain⟨was,hwas⟩:∃ x,(aS o n).getD aM=x:=⟨_,rfl⟩
  obtain⟨th,hth⟩:∃ x,(aS o n).isSome=x:=⟨_,rfl⟩
  obtain⟨u,hu⟩:∃ u,gI (m :: ns) was=u:=⟨_,rfl⟩
  have RM:Ll ((u.l=[]->gI (n :: m :: ns) o=bH o n)/\(u.l≠[]->gI (n :: m :: ns) o=aG o n u)):=aa ⟨fun h9=>by rw[gI,hwas,hu,if_pos h9],fun h9=>by rw[gI,hwas,hu,if_neg h9]⟩;have HU:=aa hu;have OW:Ll (fL was):=aa (by rw[<-hwas];exact lV OBT.o n);have CW:Ll (bN was<=90000):=aa (by rw[<-hwas];exact MH (Ab o n) CT.o);have TW:Ll (∃ y,dr (m :: ns) was=some y):=aa (by
   obtain⟨y,hy⟩:=TH.o;obtain⟨-,z,hm,hz⟩:=gB hy;rw[<-hwas,hm];exact⟨y,hz⟩)
  have HWAS:=aa hwas;have HTH:=aa hth;clear hwas hth hu;simp only[My]at hcl hn1 hnl ⊢;obtain⟨mc,rfl⟩:∃ mc,nc=mc+2:=⟨nc - 2,by omega⟩
  have NTL:Ll (ao WV okn (m :: ns) (.slice (some ⟨nb,no+1,none⟩) (ns.length+1) (mc+1))):=aa (by have:=NT.o;simpa using this);have g1:(((ns.length:Int)+1+1) == 1)=false:=by rw[MO];omega
  have g2:(ns.length:Int)+1+1<=(mc:Int)+2:=by omega
  have g3:(1:Int)<=(ns.length:Int)+1+1:=by omega
  have g5:(0:Int) < (ns.length:Int)+1+1:=by omega
  go_enter func66,ntmps66;go_upto_region 3 with fail
  rw[<-HWV.o];go_cut [5,6] (fun pv bv wc=>∃ (g7:Nat) (a3 b3:Option Addr) (c3 d3:Nat),pv=.pointer (some ⟨g7,0,none⟩)/\bv=.bool th/\(ag wc g7 (.int .i64 was.kind) (.int .i64 was.n) (.string ⟨was.s.toArray⟩) (.slice a3 was.keys.length c3) (.slice b3 was.l.length d3)/\WV.heap.size<=g7/\La WV wc/\In wc (Lj ok w) was (.agg #[.int .i64 was.kind,.int .i64 was.n,.string ⟨was.s.toArray⟩,.slice a3 was.keys.length c3,.slice b3 was.l.length d3])))
  case first=>
   refine aD (fun wS=>La WV wS) [9] (by kernel_rfl) (aC _ 1) (fun LI=>?_);refine WT.out ?_;iterate 4
    first
     | refine OJ 0 ?_ [4,5,6,7,9,10] LI ?_ ?_
     | refine OJ 1 ?_ [2,3,4,5,6,7,9,10] LI ?_ ?_
     | refine OJ 2 ?_ [3,4,5,6,7,9,10] LI ?_ ?_
     | refine OJ 3 ?_ [4,5,6,7,9,10] LI ?_ ?_
    rotate_left
    ·intro wS LN;have u0_:=(af LN VB.o).c;have nm:=ah LN NC.o;go_simp;all_goals with_reducible rfl
    simp only[av,List.set]
   repeat' (first
    | exact nl
    |(refine TD 4 (fun K hK=>?_) ?_
      go_simp;refine(ig _ (Lj ok w) o _ n (by exact OI.o.bel LI)).mono ?_;rintro e w4q ⟨rv,rfl,hb5,hr5⟩;rw[HWAS.o]at hr5;rw[HTH.o];obtain⟨a3,b3,c3,d3,rfl⟩:=hr5.form;refine hK.out _ _ (ab LI hb5) (fun LJ=>?_);have WI:=aa hr5;try replace NB:=aa (af hb5 NB.o)
      have Ma:Ll True:=aa trivial;clear hb5 hr5;clear hK K;replace LI:=LJ;clear LJ;try simp only[Act.put,Mt,Mu,Mv])
    |(refine TD 8 (fun K hK=>?_) ?_
      go_simp;refine hK.out _ _ (ab LI (ae _ _)) (fun LJ=>?_);have NB:=aa (yl LI);first | (have c9:=Ma.o;clear c9;have FINA:=aa (tc LI WI.o)) | skip
      clear hK K;replace LI:=LJ;clear LJ;try simp only[Act.put,Mt,Mu,Mv])
    |(refine OO 9 (fun K hK=>?_)
      try rw[show (World.drew WV).heap.size=WV.heap.size from rfl]at NB
      have n0_:=NB.o.c;first | (have c9:=FINA.o;clear c9) | (have FINB:=aa (sX (g:=WV.heap.size) LI (MG _) NB.o WI.o (fun k hk=>by have h9:=hk.2;have:=SA.o;omega)))
      go_simp;refine hK.out _ _ ?_;clear hK K;try simp only[Act.put,Mt,Mu,Mv])
    |(refine OO 10 (fun K hK=>?_)
      go_simp;refine hK.out _ _ ?_;clear hK K;try simp only[Act.put,Mt,Mu,Mv])
    |(first
       | refine OJ 5 ?_ [6,7,9,10] (by exact LI) ?_ ?_
       | refine OJ 6 ?_ [9,10] (by exact LI) ?_ ?_
      rotate_left
      ·intro wS LN;go_simp;all_goals with_reducible rfl
      simp only[av,List.set])
    |(refine Pm 7 ?_ (by exact LI) ?_ ?_
      rotate_left
      ·intro wS;go_simp;all_goals with_reducible rfl
      simp only[av,List.set])
    | refine OL [4,8] ?_
    | refine OL [8] ?_
    | refine OL [4] ?_
    | fail)
   all_goals
    refine dn (by kernel_rfl) ?_;go_wp2
    go_meet
    case rel=>first | exact⟨_,_,_,_,_,rfl,rfl,FINA.o⟩ | exact⟨_,_,_,_,_,rfl,rfl,FINB.o⟩
  case rest=>
   obtain⟨g7,a3,b3,c3,d3,rfl,rfl,hcW,hcG,hcB,hcI⟩:=hcut;have WB:=aa hcW;have G7:=aa hcG;have G7L:=aa hcW.lt;have BWC:=aa hcB;have WCI:=aa hcI;have SC:Ll (w.heap.size+2<=wc.heap.size):=aa (MH SA.o hcB.size);have BC:=aa (ab BA.o hcB);replace VB:=aa (af hcB VB.o);replace RB:=aa (af hcB RB.o);replace NC:=aa (ah hcB NC.o);clear hcW hcG hcB hcI;go_upto_region 4 with fail
   refine aD (fun wS=>La wc wS) [4] (by kernel_rfl) (aC _ 1) (fun LI=>?_);refine WT.out ?_;iterate 3
    first
     | refine OJ 0 ?_ [3,4] LI ?_ ?_
     | refine OJ 1 ?_ [2,3,4] LI ?_ ?_
     | refine OJ 2 ?_ [3,4] LI ?_ ?_
    rotate_left
    ·intro wS LN;have f0_:=(af LN WB.o).c;go_simp;all_goals with_reducible rfl
    simp only[av,List.set]
   repeat' (first
    | exact nl
    |(refine TD 3 (fun K hK=>?_) ?_
      go_simp;refine(IH.o _ (Lj ok w) okn was _ _ (by exact WCI.o.bel LI) (by exact(NTL.o.bel BWC.o).bel LI) (by simp) OW.o TW.o CW.o).mono ?_;rintro e w3q ⟨rv,rfl,hr5,hb5⟩;rw[HU.o]at hr5;obtain⟨a5,b5,c5,d5,rfl⟩:=hr5.form;refine hK.out _ _ (ab LI hb5) (fun LJ=>?_);have UI:=aa (jr (ok:=ok) (B:=w.heap.size) (D:=wc.heap.size) hr5 LI.size);clear hb5 hr5;clear hK K;replace LI:=LJ;clear LJ;try simp only[Act.put,Mt,Mu,Mv])
    |(refine OO 4 (fun K hK=>?_)
      have HB:=aa (af LI WB.o);have n0_:=HB.o.c;have HH:=aa LI;go_simp;refine hK.out _ _ ?_;clear hK K;try simp only[Act.put,Mt,Mu,Mv])
    | refine OL [3] ?_
    | fail)
   all_goals
    refine dn (by kernel_rfl) ?_;obtain⟨WD,hWD⟩:∃ W,W=ar w3q g7 (.int .i64 u.kind) (.int .i64 u.n) (.string ⟨u.s.toArray⟩) (.slice a5 u.keys.length c5) (.slice b5 u.l.length d5):=⟨_,rfl⟩
    have UB:Ll (ag WD g7 (.int .i64 u.kind) (.int .i64 u.n) (.string ⟨u.s.toArray⟩) (.slice a5 u.keys.length c5) (.slice b5 u.l.length d5)):=aa (by rw[hWD];exact HB.o.set _ _ _ _ _);have GB:Ll (w3q.grownBy WD (some g7)):=aa (by rw[hWD];exact aI _ _ _ _ _ _ _);have BD:Ll (La w WD):=aa (by rw[hWD];exact aP (ab BC.o HH.o) (by have:=G7.o;have:=SA.o;omega) _ _ _ _ _);have UID:Ll (In WD (bQ (Lj ok w) wc.heap.size) u (.agg #[.int .i64 u.kind,.int .i64 u.n,.string ⟨u.s.toArray⟩,.slice a5 u.keys.length c5,.slice b5 u.l.length d5])):=aa (by rw[hWD];exact UI.o.box (by have:=G7.o;have:=SA.o;omega) (by have:=G7L.o;omega) _ _ _ _ _);replace VB:=aa ((af HH.o VB.o).grown GB.o (by have:=G7.o;have:=SA.o;simp;omega));replace RB:=aa ((af HH.o RB.o).grown GB.o (by have:=G7.o;have:=SA.o;simp;omega));have OIX:Ll (In WD (Lj ok w) o (.agg #[.int .i64 o.kind,.int .i64 o.n,.string ⟨o.s.toArray⟩,.slice a1 o.keys.length c1,.slice b1 o.l.length d1])):=aa (((OI.o.bel BWC.o).bel HH.o).grown GB.o (fun k hk=>by have:=hk.2;have:=G7.o;have:=SA.o;omega));replace NC:=aa (ah BD.o NC0.o);have SWD:Ll (wc.heap.size<=WD.heap.size):=aa (MH HH.o.size GB.o.size);have SCC:=SC;replace SC:=aa (MH SC.o SWD.o);replace BC:=BD;simp only[ar]at hWD;go_upto_region 5 with fail
    rw[<-hWD];clear hWD;have q0_:=UB.o.c;by_cases hul:u.l=[]
    ·have e1:((u.l.length:Int) == 0)=true:=by rw[hul];rfl
     have e3:(u.l.length == 0)=true:=by rw[hul];rfl
     obtain⟨y,hy⟩:∃ y,bH o n=y:=⟨_,rfl⟩
     have HY:=aa hy;have RES:Ll (gI (n :: m :: ns) o=y):=aa (by rw[<-hy];exact RM.o.1 hul);clear hy hul;go_upto_region 6 with fail
     refine aD (fun wS=>La WD wS) [5] (by kernel_rfl) (aC _ 1) (fun LI=>?_);refine WT.out ?_;iterate 4
      first
       | refine OJ 0 ?_ [4,5] LI ?_ ?_
       | refine OJ 1 ?_ [2,3,4,5] LI ?_ ?_
       | refine OJ 2 ?_ [3,4,5] LI ?_ ?_
       | refine OJ 3 ?_ [4,5] LI ?_ ?_
      rotate_left
      ·intro wS LN;have u0_:=(af LN VB.o).c;have nm:=ah LN NC.o;go_simp;all_goals with_reducible rfl
      simp only[av,List.set]
     repeat' (first
      | exact nl
      |(refine TD 4 (fun K hK=>?_) ?_
        go_simp;refine(jD _ (Lj ok w) o _ n (by exact OIX.o.bel LI) LO.o).mono ?_;rintro e w4q ⟨rv,rfl,hr5,hb5⟩;rw[HY.o]at hr5;obtain⟨a4,b4,c4,d4,rfl⟩:=hr5.form;refine hK.out _ _ (ab LI hb5) (fun LJ=>?_);have YI:=aa (jr (D:=WD.heap.size) hr5 LI.size);clear hb5 hr5;clear hK K;replace LI:=LJ;clear LJ;try simp only[Act.put,Mt,Mu,Mv])
      |(refine OO 5 (fun K hK=>?_)
        have HB:=aa (af LI RB.o);have n0_:=HB.o.c;have ZB:=aa (HB.o.set (.int .i64 y.kind) (.int .i64 y.n) (.string ⟨y.s.toArray⟩) (.slice a4 y.keys.length c4) (.slice b4 y.l.length d4));have Z:=aa (cY (w:=w) (ok:=ok) (C:=WD.heap.size) (g:=(w.heap.size+1)) YI.o (ab BC.o LI) (by omega) (by have:=SC.o;omega));go_simp;refine hK.out _ _ ?_;clear hK K;try simp only[Act.put,Mt,Mu,Mv])
      | refine OL [4] ?_
      | fail)
     all_goals
      refine dn (by kernel_rfl) ?_;go_wp2
      have z0_:=ZB.o.c;refine MM (v:=.agg #[.int .i64 y.kind,.int .i64 y.n,.string ⟨y.s.toArray⟩,.slice a4 y.keys.length c4,.slice b4 y.l.length d4]) ?_ rfl ?_
      ·simp only[ar]at z0_;simp[results,results66,go_sem,z0_]
      ·exact⟨_,rfl,by rw[RES.o];exact Z.o.2,Z.o.1⟩
    ·have e1:((u.l.length:Int) == 0)=false:=by rw[MO];have:=List.length_pos_iff.2 hul;omega
     have e3:(u.l.length == 0)=false:=by rw[MO];have:=List.length_pos_iff.2 hul;omega
     obtain⟨y,hy⟩:∃ y,aG o n u=y:=⟨_,rfl⟩
     have HY:=aa hy;have RES:Ll (gI (n :: m :: ns) o=y):=aa (by rw[<-hy];exact RM.o.2 hul);clear hy hul;go_upto_region 7 with fail
     refine aD (fun wS=>La WD wS) [6] (by kernel_rfl) (aC _ 1) (fun LI=>?_);refine WT.out ?_;iterate 5
      first
       | refine OJ 0 ?_ [5,6] LI ?_ ?_
       | refine OJ 1 ?_ [2,3,5,6] LI ?_ ?_
       | refine OJ 2 ?_ [3,5,6] LI ?_ ?_
       | refine OJ 3 ?_ [5,6] LI ?_ ?_
       | refine OJ 4 ?_ [5,6] LI ?_ ?_
      rotate_left
      ·intro wS LN;have u0_:=(af LN VB.o).c;have nm:=ah LN NC.o;have f0_:=(af LN UB.o).c;go_simp;all_goals with_reducible rfl
      simp only[av,List.set]
     repeat' (first
      | exact nl
      |(refine TD 5 (fun K hK=>?_) ?_
        go_simp;refine(gf _ (bQ (Lj ok w) wc.heap.size) o u _ _ n (by exact tT (OIX.o.bel LI)) (by exact UID.o.bel LI) PO.o LO.o NL.o).mono ?_;rintro e w5q ⟨rv,rfl,hr5,hb5⟩;rw[HY.o]at hr5;obtain⟨a4,b4,c4,d4,rfl⟩:=hr5.form;refine hK.out _ _ (ab LI hb5) (fun LJ=>?_);have YI:Ll (In _ (bg ok w.heap.size wc.heap.size) y _):=aa (hr5.weak fun k hk=>by rcases hk with hk | hk;exact hk;exact Or.inr (MH SWD.o (MH LI.size hk)));clear hb5 hr5;clear hK K;replace LI:=LJ;clear LJ;try simp only[Act.put,Mt,Mu,Mv])
      |(refine OO 6 (fun K hK=>?_)
        have HB:=aa (af LI RB.o);have n0_:=HB.o.c;have ZB:=aa (HB.o.set (.int .i64 y.kind) (.int .i64 y.n) (.string ⟨y.s.toArray⟩) (.slice a4 y.keys.length c4) (.slice b4 y.l.length d4));have Z:=aa (cY (w:=w) (ok:=ok) (C:=wc.heap.size) (g:=(w.heap.size+1)) YI.o (ab BC.o LI) (by omega) (by have:=SCC.o;omega));go_simp;refine hK.out _ _ ?_;clear hK K;try simp only[Act.put,Mt,Mu,Mv])
      | refine OL [5] ?_
      | fail)
     all_goals
      refine dn (by kernel_rfl) ?_;go_wp2
      have z0_:=ZB.o.c;refine MM (v:=.agg #[.int .i64 y.kind,.int .i64 y.n,.string ⟨y.s.toArray⟩,.slice a4 y.keys.length c4,.slice b4 y.l.length d4]) ?_ rfl ?_
      ·simp only[ar]at z0_;simp[results,results66,go_sem,z0_]
      ·exact⟨_,rfl,by rw[RES.o];exact Z.o.2,Z.o.1⟩
end
variable {w:World}
variable {t:V}
section
theorem M0{w1:LC}{v0 v1 v2 v3 v4:Value}(h:In w1 (Lj ok w) t (.agg #[v0,v1,v2,v3,v4]))(hb:La w w1)(hg:w.heap.size<=g):La w (ar w1 g v0 v1 v2 v3 v4)/\In (ar w1 g v0 v1 v2 v3 v4) ok t (.agg #[v0,v1,v2,v3,v4]):=
 ⟨aP hb hg _ _ _ _ _,(h.grown (aI w1 g _ _ _ _ _) (fun k hk=>by omega)).weak fun k hk=>hk.1⟩
attribute [local go_sem ↓] Go.wp_at_zero Go.wp_at_succ
theorem gv:∀ (ns:List Lz) (w:LC) (ok okn:Nat->Prop) (o:V) (v nv:Value),In w ok o v->ao w okn ns nv ->
 Calls prog 39 #[v,nv] w fun e w'=>∃ r,e=.returned (.tuple #[r,.bool (dr ns o).isSome])/\La w w'/\In w' ok ((dr ns o).getD aM) r:=by
 intro ns;induction ns with
 | nil=>
  intro w ok okn o v nv h hnv;have HT:=aa h.low;obtain⟨na,nc,rfl⟩:=hnv.form;obtain⟨a1,b1,c1,d1,rfl⟩:=h.form;clear h hnv;have BA:Ll (La w ((w.alloc (.cells #[.int .i64 o.kind,.int .i64 o.n,.string ⟨o.s.toArray⟩,.slice a1 o.keys.length c1,.slice b1 o.l.length d1] 25)).alloc (.cells #[.int .i64 o.kind,.int .i64 o.n,.string ⟨o.s.toArray⟩,.slice a1 o.keys.length c1,.slice b1 o.l.length d1] 25))):=ab (ae _ _) (ae _ _);have ZB:Ll (ag ((w.alloc (.cells #[.int .i64 o.kind,.int .i64 o.n,.string ⟨o.s.toArray⟩,.slice a1 o.keys.length c1,.slice b1 o.l.length d1] 25)).alloc (.cells #[.int .i64 o.kind,.int .i64 o.n,.string ⟨o.s.toArray⟩,.slice a1 o.keys.length c1,.slice b1 o.l.length d1] 25)) (w.heap.size+1) (.int .i64 o.kind) (.int .i64 o.n) (.string ⟨o.s.toArray⟩) (.slice a1 o.keys.length c1) (.slice b1 o.l.length d1)):=et _ _ _;have OI:=aa (HT.o.bel BA.o);rw[List.length_nil];go_enter func39,ntmps39;go_wp2_with fail
  have z0_:=ZB.o.c;refine MM (v:=.tuple #[.agg #[.int .i64 o.kind,.int .i64 o.n,.string ⟨o.s.toArray⟩,.slice a1 o.keys.length c1,.slice b1 o.l.length d1],.bool true]) ?_ rfl ?_
  ·simp[results,results39,go_sem,z0_]
  ·exact⟨_,rfl,BA.o,OI.o.weak fun k hk=>hk.1⟩
 | cons n ns ih=>
 intro w ok okn o v nv h hnv;have IH:=aa ih;obtain⟨nb,no,nc,rfl,hcl,hnl,hnc,hnn⟩:=qm hnv;have hn1:=hnv.1;unfold maxLen at hn1;have NV:=aa hnv;have NC0:=aa hnc;have HT:=aa h.low;obtain⟨a1,b1,c1,d1,rfl⟩:=h.form;clear h hnv hnc ih hnn;obtain⟨WV,hWV⟩:∃ W,W=(w.alloc (.cells #[.int .i64 o.kind,.int .i64 o.n,.string ⟨o.s.toArray⟩,.slice a1 o.keys.length c1,.slice b1 o.l.length d1] 25)).alloc (.cells #[.int .i64 0,.int .i64 0,.string ⟨#[]⟩,.slice none 0 0,.slice none 0 0] 25):=⟨_,rfl⟩
 have BA:Ll (La w WV):=aa (by rw[hWV];exact ab (ae _ _) (ae _ _));have VB:Ll (ag WV w.heap.size (.int .i64 o.kind) (.int .i64 o.n) (.string ⟨o.s.toArray⟩) (.slice a1 o.keys.length c1) (.slice b1 o.l.length d1)):=aa (by rw[hWV];exact fb _ _ _);have RB:Ll (ag WV (w.heap.size+1) (.int .i64 0) (.int .i64 0) (.string ⟨#[]⟩) (.slice none 0 0) (.slice none 0 0)):=aa (by rw[hWV];exact et _ _ _);have SA:Ll (w.heap.size+2<=WV.heap.size):=aa (by rw[hWV];simp);have OI:=aa (HT.o.bel BA.o);have NC:=aa (ah BA.o NC0.o);have NT:Ll (ao WV okn ns (.slice (some ⟨nb,no+1,none⟩) ns.length (nc - 1))):=(gt NV.o).bel BA.o;have HWV:=aa hWV;clear hWV;obtain⟨was,hwas⟩:∃ x,(aS o n).getD aM=x:=⟨_,rfl⟩
 obtain⟨th,hth⟩:∃ x,(aS o n).isSome=x:=⟨_,rfl⟩
 have RF:Ll (th=false->(dr (n :: ns) o).isSome=false/\(dr (n :: ns) o).getD aM=was):=fun h9=>by
  rw[h9]at hth;have hm:aS o n=none:=by cases hm:aS o n with | none=>rfl | some z=>rw[hm]at hth;cases hth
  rw[hm]at hwas;rw[dr,hm];exact⟨rfl,hwas⟩
 have RN:Ll (th=true->dr (n :: ns) o=dr ns was):=fun h9=>by
  rw[h9]at hth;cases hm:aS o n with
  | none=>rw[hm]at hth;cases hth
  | some z=>rw[hm]at hwas;rw[dr,hm,<-hwas];rfl
 have HWAS:=aa hwas;have HTH:=aa hth;clear hwas hth;simp only[My]at hcl hn1 hnl ⊢;obtain⟨mc,rfl⟩:∃ mc,nc=mc+1:=⟨nc - 1,by omega⟩
 have NTL:Ll (ao WV okn ns (.slice (if mc=0 then some ⟨nb,no,none⟩ else some ⟨nb,no+1,none⟩) ns.length mc)):=aa (by
  have:=NT.o;simp only[Nat.add_sub_cancel]at this;split
  ·have e:ns=[]:=List.length_eq_zero_iff.1 (by omega);subst e;rename_i h0;subst h0;exact⟨by simp,.inl ⟨rfl,_,rfl⟩⟩
  ·exact this)
 have g1:(((ns.length:Int)+1) == 0)=false:=by rw[MO];omega
 have g2:(ns.length:Int)+1<=(mc:Int)+1:=by omega
 have g3:(1:Int)<=(ns.length:Int)+1:=by omega
 have g5:(0:Int) < (ns.length:Int)+1:=by omega
 go_enter func39,ntmps39;go_upto_region 3 with fail
 rw[<-HWV.o];go_cut [6,7] (fun pv bv wc=>∃ (g7:Nat) (a3 b3:Option Addr) (c3 d3:Nat),pv=.pointer (some ⟨g7,0,none⟩)/\bv=.bool th/\(ag wc g7 (.int .i64 was.kind) (.int .i64 was.n) (.string ⟨was.s.toArray⟩) (.slice a3 was.keys.length c3) (.slice b3 was.l.length d3)/\WV.heap.size<=g7/\La WV wc/\In wc (Lj ok w) was (.agg #[.int .i64 was.kind,.int .i64 was.n,.string ⟨was.s.toArray⟩,.slice a3 was.keys.length c3,.slice b3 was.l.length d3])))
 case first=>
  refine aD (fun wS=>La WV wS) [9] (by kernel_rfl) (aC _ 1) (fun LI=>?_);refine WT.out ?_;iterate 4
   first
    | refine OJ 0 ?_ [4,5,6,7,9,10] LI ?_ ?_
    | refine OJ 1 ?_ [2,3,4,5,6,7,9,10] LI ?_ ?_
    | refine OJ 2 ?_ [3,4,5,6,7,9,10] LI ?_ ?_
    | refine OJ 3 ?_ [4,5,6,7,9,10] LI ?_ ?_
   rotate_left
   ·intro wS LN;have u0_:=(af LN VB.o).c;have nm:=ah LN NC.o;go_simp;all_goals with_reducible rfl
   simp only[av,List.set]
  repeat' (first
   | exact nl
   |(refine TD 4 (fun K hK=>?_) ?_
     go_simp;refine(GX _ (Lj ok w) o _ n (by exact OI.o.bel LI)).mono ?_;rintro e w4q ⟨rv,rfl,hb5,hr5⟩;rw[HWAS.o]at hr5;rw[HTH.o];obtain⟨a3,b3,c3,d3,rfl⟩:=hr5.form;refine hK.out _ _ (ab LI hb5) (fun LJ=>?_);have WI:=aa hr5;try replace NB:=aa (af hb5 NB.o)
     have Ma:Ll True:=aa trivial;clear hb5 hr5;clear hK K;replace LI:=LJ;clear LJ;try simp only[Act.put,Mt,Mu,Mv])
   |(refine TD 8 (fun K hK=>?_) ?_
     go_simp;refine hK.out _ _ (ab LI (ae _ _)) (fun LJ=>?_);have NB:=aa (yl LI);first | (have c9:=Ma.o;clear c9;have FINA:=aa (tc LI WI.o)) | skip
     clear hK K;replace LI:=LJ;clear LJ;try simp only[Act.put,Mt,Mu,Mv])
   |(refine OO 9 (fun K hK=>?_)
     try rw[show (World.drew WV).heap.size=WV.heap.size from rfl]at NB
     have n0_:=NB.o.c;first | (have c9:=FINA.o;clear c9) | (have FINB:=aa (sX (g:=WV.heap.size) LI (MG _) NB.o WI.o (fun k hk=>by have h9:=hk.2;have:=SA.o;omega)))
     go_simp;refine hK.out _ _ ?_;clear hK K;try simp only[Act.put,Mt,Mu,Mv])
   |(refine OO 10 (fun K hK=>?_)
     go_simp;refine hK.out _ _ ?_;clear hK K;try simp only[Act.put,Mt,Mu,Mv])
   |(first
      | refine OJ 5 ?_ [6,7,9,10] (by exact LI) ?_ ?_
      | refine OJ 6 ?_ [9,10] (by exact LI) ?_ ?_
     rotate_left
     ·intro wS LN;go_simp;all_goals with_reducible rfl
     simp only[av,List.set])
   |(refine Pm 7 ?_ (by exact LI) ?_ ?_
     rotate_left
     ·intro wS;go_simp;all_goals with_reducible rfl
     simp only[av,List.set])
   | refine OL [4,8] ?_
   | refine OL [8] ?_
   | refine OL [4] ?_
   | fail)
  all_goals
   refine dn (by kernel_rfl) ?_;go_wp2_with fail
   go_meet
   case rel=>first | exact⟨_,_,_,_,_,rfl,rfl,FINA.o⟩ | exact⟨_,_,_,_,_,rfl,rfl,FINB.o⟩
 case rest=>
  obtain⟨g7,a3,b3,c3,d3,rfl,rfl,hcW,hcG,hcB,hcI⟩:=hcut;have WB:=aa hcW;have BWC:=aa hcB;have WCI:=aa hcI;have SC:Ll (w.heap.size+2<=wc.heap.size):=MH SA.o hcB.size;have BC:=aa (ab BA.o hcB);replace RB:=aa (af hcB RB.o);clear hcW hcG hcB hcI;cases th with
  | false=>
   have RFF:=aa (RF.o rfl);clear RF RN;have f0_:=WB.o.c;have n0_:=RB.o.c;have ZB:=aa (RB.o.set (.int .i64 was.kind) (.int .i64 was.n) (.string ⟨was.s.toArray⟩) (.slice a3 was.keys.length c3) (.slice b3 was.l.length d3));have Z:=aa (M0 (w:=w) (ok:=ok) (g:=(w.heap.size+1)) WCI.o BC.o (by omega));go_wp2_with fail
   have z0_:=ZB.o.c;refine MM (v:=.tuple #[.agg #[.int .i64 was.kind,.int .i64 was.n,.string ⟨was.s.toArray⟩,.slice a3 was.keys.length c3,.slice b3 was.l.length d3],.bool false]) ?_ rfl ?_
   ·simp only[ar]at z0_;simp[results,results39,go_sem,z0_]
   ·exact⟨_,by rw[RFF.o.1],Z.o.1,by rw[RFF.o.2];exact Z.o.2⟩
  | true=>
   obtain⟨u,hu⟩:∃ u,(dr ns was).getD aM=u:=⟨_,rfl⟩
   obtain⟨t2,ht2⟩:∃ u,(dr ns was).isSome=u:=⟨_,rfl⟩
   have RT:Ll ((dr (n :: ns) o).isSome=t2/\(dr (n :: ns) o).getD aM=u):=aa (by rw[RN.o rfl];exact⟨ht2,hu⟩);have HU:=aa hu;have HT2:=aa ht2;clear hu ht2 RF RN;go_upto_region 6 with fail
   refine aD (fun wS=>La wc wS) [6] (by kernel_rfl) (aC _ 1) (fun LI=>?_);refine WT.out ?_;iterate 3
    first
     | refine OJ 0 ?_ [3,4,5,6,7] LI ?_ ?_
     | refine OJ 1 ?_ [2,3,4,5,6,7] LI ?_ ?_
     | refine OJ 2 ?_ [3,4,5,6,7] LI ?_ ?_
    rotate_left
    ·intro wS LN;have f0_:=(af LN WB.o).c;go_simp;all_goals with_reducible rfl
    simp only[av,List.set]
   repeat' (first
    | exact nl
    |(refine TD 3 (fun K hK=>?_) ?_
      go_simp;refine(IH.o _ (Lj ok w) okn was _ _ (by exact WCI.o.bel LI) (by exact(NTL.o.bel BWC.o).bel LI)).mono ?_;rintro e w3q ⟨rv,rfl,hb5,hr5⟩;rw[HU.o]at hr5;rw[HT2.o];obtain⟨a5,b5,c5,d5,rfl⟩:=hr5.form;refine hK.out _ _ (ab LI hb5) (fun LJ=>?_);have UI:=aa hr5;clear hb5 hr5;clear hK K;replace LI:=LJ;clear LJ;try simp only[Act.put,Mt,Mu,Mv])
    |(refine OO 6 (fun K hK=>?_)
      have HB:=aa (af LI RB.o);have n0_:=HB.o.c;have ZB:=aa (HB.o.set (.int .i64 u.kind) (.int .i64 u.n) (.string ⟨u.s.toArray⟩) (.slice a5 u.keys.length c5) (.slice b5 u.l.length d5));have Z:=aa (M0 (w:=w) (ok:=ok) (g:=(w.heap.size+1)) UI.o (ab BC.o LI) (by omega));go_simp;refine hK.out _ _ ?_;clear hK K;try simp only[Act.put,Mt,Mu,Mv])
    |(refine OO 7 (fun K hK=>?_)
      go_simp;refine hK.out _ _ ?_;clear hK K;try simp only[Act.put,Mt,Mu,Mv])
    |(first
       | refine OJ 4 ?_ [6,7] (by exact LI) ?_ ?_
       | refine OJ 5 ?_ [6,7] (by exact LI) ?_ ?_
      rotate_left
      ·intro wS LN;go_simp;all_goals with_reducible rfl
      simp only[av,List.set])
    | refine OL [3] ?_
    | fail)
   all_goals
    refine dn (by kernel_rfl) ?_;go_wp2_with fail
    all_goals
     have z0_:=ZB.o.c;refine MM (v:=.tuple #[.agg #[.int .i64 u.kind,.int .i64 u.n,.string ⟨u.s.toArray⟩,.slice a5 u.keys.length c5,.slice b5 u.l.length d5],.bool t2]) ?_ rfl ?_
     ·simp only[ar]at z0_;simp[results,results39,go_sem,z0_]
     ·exact⟨_,by rw[RT.o.1],Z.o.1,by rw[RT.o.2];exact Z.o.2⟩
end
end Go.Proofs.YtbdlfclnkpofaaaGreatDoor
