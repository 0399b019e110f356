import Derived.Test.YtgolnaencepejaaGreatDoorG5
import Derived.Shelf.Spec.SlicesInsertGrow
set_option maxRecDepth 100000
set_option maxHeartbeats 40000000
set_option linter.unusedSimpArgs false
set_option linter.unusedVariables false
namespace Go.Proofs.YtgolnaencepejaaGreatDoor
open Go.RowKit
open _root_.Go.Proofs.Tryz
variable {y x:V}
theorem qA(h:eB x y=true):(x=y↔x.l=y.l)/\y.l.length=x.l.length:=by
 simp only[eB,MJ,decide_eq_true_eq]at h;obtain⟨⟨⟨⟨h1,h2⟩,h3⟩,h4⟩,h5⟩:=h;refine⟨⟨fun e=>by rw[e],fun e=>?_⟩,h5.symm⟩;rw[<-Ai x,<-Ai y,h1,h2,h3,h4,e]
theorem Gg(h:eB x y=false):x≠y:=by
 rintro rfl;simp[eB]at h
theorem lP(w:LC)(ok ok' a b va vb)(ha:In w ok a va)(hb:In w ok' b vb)(hN:fa a<=2000000000000):Calls prog 26 #[va,vb] w fun e w'=>Je w a b e w':=by
 have HA:=aa ha;have HB:=aa hb;obtain⟨a1,a2,c1,c2,rfl⟩:=ha.form;obtain⟨a3,a4,c3,c4,rfl⟩:=hb.form;clear ha hb;go_enter func26,ntmps26;go_upto_region 1 with fail
 go_cut [5,6] (fun lv rv wc=>∃ ia ib,SI w ok ok' ia ib [[a]] [[b]] lv rv wc)
 case first=>
  go_region
  all_goals
   go_wp2
   go_meet
   case rel=>
    first
     | exact⟨w.heap.size+2,w.heap.size+4,iU HA.o HB.o (by repeat(first | exact MK _ _ | refine ai ?_ | refine aj ?_ _)) (bI w _ _ _ _ _ _ 3 (by decide)) (bI w _ _ _ _ _ _ 5 (by decide)) (bI w _ _ _ _ _ _ 2 (by decide)) (bI w _ _ _ _ _ _ 4 (by decide)) (by refine⟨?_,?_,?_,?_,?_,?_,?_⟩ <;> omega)⟩
     | exact⟨w.heap.size+2,w.heap.size+3,iU HA.o HB.o (by repeat(first | exact MK _ _ | refine ai ?_ | refine aj ?_ _)) (bI w _ _ _ _ _ _ 4 (by decide)) (bI w _ _ _ _ _ _ 5 (by decide)) (bI w _ _ _ _ _ _ 2 (by decide)) (bI w _ _ _ _ _ _ 3 (by decide)) (by refine⟨?_,?_,?_,?_,?_,?_,?_⟩ <;> omega)⟩
     | exact⟨w.heap.size+2,w.heap.size+3,iU HA.o HB.o (by repeat(first | exact MK _ _ | refine ai ?_ | refine aj ?_ _)) (bI w _ _ _ _ _ _ 5 (by decide)) (bI w _ _ _ _ _ _ 4 (by decide)) (bI w _ _ _ _ _ _ 2 (by decide)) (bI w _ _ _ _ _ _ 3 (by decide)) (by refine⟨?_,?_,?_,?_,?_,?_,?_⟩ <;> omega)⟩
     | exact⟨w.heap.size+3,w.heap.size+2,iU HA.o HB.o (by repeat(first | exact MK _ _ | refine ai ?_ | refine aj ?_ _)) (bI w _ _ _ _ _ _ 4 (by decide)) (bI w _ _ _ _ _ _ 5 (by decide)) (bI w _ _ _ _ _ _ 3 (by decide)) (bI w _ _ _ _ _ _ 2 (by decide)) (by refine⟨?_,?_,?_,?_,?_,?_,?_⟩ <;> omega)⟩
     | exact⟨w.heap.size+3,w.heap.size+2,iU HA.o HB.o (by repeat(first | exact MK _ _ | refine ai ?_ | refine aj ?_ _)) (bI w _ _ _ _ _ _ 5 (by decide)) (bI w _ _ _ _ _ _ 4 (by decide)) (bI w _ _ _ _ _ _ 3 (by decide)) (bI w _ _ _ _ _ _ 2 (by decide)) (by refine⟨?_,?_,?_,?_,?_,?_,?_⟩ <;> omega)⟩
     | exact⟨w.heap.size+4,w.heap.size+2,iU HA.o HB.o (by repeat(first | exact MK _ _ | refine ai ?_ | refine aj ?_ _)) (bI w _ _ _ _ _ _ 5 (by decide)) (bI w _ _ _ _ _ _ 3 (by decide)) (bI w _ _ _ _ _ _ 4 (by decide)) (bI w _ _ _ _ _ _ 2 (by decide)) (by refine⟨?_,?_,?_,?_,?_,?_,?_⟩ <;> omega)⟩
 case rest=>
  obtain⟨ia,ib,hS⟩:=hcut;have S0:=aa hS;clear hS;go_wp2
  go_loopg [5,6] (1+fa a) (fun gk lv rv wr=>∃ ls rs,(a=b↔ls=rs)/\PL ls rs/\gk=mu ls/\mu ls<=2000000000001/\SI w ok ok' ia ib ls rs lv rv wr)
  case atStart=>exact⟨[[a]],[[b]],⟨fun e=>by rw[e],fun e=>by simpa using e⟩,⟨rfl,fun j l r h1 h2=>by cases j <;> simp at h1 h2;rw[<-h1,<-h2];rfl⟩,by simp[mu,qf,er],by simp[mu,qf,er];omega,S0.o⟩
  case round=>
   obtain⟨ls,rs,hiff,hpl,hgk,hM,hSI⟩:=hrel;rcases Kx ls with rfl | ⟨ms,xs,rfl⟩
   ·obtain⟨gL,gR,cL,cR,rfl,rfl,hSE⟩:=hSI;have hSB:=hSE.2.2.2.2.2.2.2.2.2;have R:Ll (a=b/\La w wr):=aa ⟨hiff.2 (List.eq_nil_of_length_eq_zero (by simpa using hpl.1)).symm,hSB⟩;clear hiff hpl hgk hM hSE hSB;have e0:([]:List (List V)).length=0:=rfl;rw[e0];go_wp2
    go_ret;exact⟨true,rfl,⟨fun _=>R.o.1,fun _=>rfl⟩,R.o.2⟩
   ·obtain⟨qs,ys,rfl,hpl',hxy⟩:=hpl.pop;obtain⟨gL,gR,cL,cR,rfl,rfl,hL,hR,n1,n2,n3,n4,n5,n6,n7,hBw⟩:=hSI;obtain⟨xv,px,vx,hL'⟩:=hL.pop;obtain⟨yv,py,vy,hR'⟩:=hR.pop;obtain⟨M,hgM⟩:∃ M,gk=M:=⟨_,rfl⟩
    rw[hgM]at hgk;have GKM:=aa hgM;clear hgM;have hq:qs.length=ms.length:=hpl'.1;rw[hq]at py;have J0:Ll (SJ w ok ok' ia ib a b xs ys xv yv M 0 (.slice (some ⟨gL,0,none⟩) ms.length cL) (.slice (some ⟨gR,0,none⟩) ms.length cR) wr):=aa ⟨ms,qs,by rw[hiff,mZ];simp,hpl',by rw[hgk,sP];simp;omega,by omega,vx,vy,gL,gR,cL,cR,rfl,by rw[hq],hL',hR',n1,n2,n3,n4,n5,n6,n7,hBw⟩;have zL:=hL.cap;have zR:=hR.cap;have eL:(ms++[xs]).length=ms.length+1:=by simp
    have eR:(qs++[ys]).length=ms.length+1:=by simp[hq]
    rw[eL]at zL ⊢;rw[eR]at zR ⊢;obtain⟨z1,z2⟩:=zL;obtain⟨z3,z4⟩:=zR;obtain⟨xa,xc,rfl⟩:=vx.form;obtain⟨ya,yc,rfl⟩:=vy.form;have lx:=vx.len;have HXY:=aa hxy;have GM:Ll (M<=2000000000001):=aa (by rw[hgk];exact hM);clear hiff hpl hpl' hL hR hL' hR' hgk hM vx vy n1 n2 n3 n4 n5 n6 n7 hBw eL eR hq hxy;have y1:(0:Int)<=(ms.length:Int):=by omega
    have y2:(ms.length:Int) < ((ms.length+1:Nat):Int):=by omega
    have y3:(ms.length:Int)<=(cL:Int):=by omega
    have y4:(ms.length:Int)<=(cR:Int):=by omega
    go_wp2
    go_quiet (fail)
    go_wp2
    go_quiet (fail)
    go_wp2
    go_loopg [5,6,39] xs.length (fun gi lv rv i wi=>∃ k:Nat,k<=xs.length/\gi=xs.length - k/\i=.int .i64 k/\SJ w ok ok' ia ib a b xs ys (.slice xa xs.length xc) (.slice ya ys.length yc) M k lv rv wi)
    case atStart=>exact⟨0,Nat.zero_le _,rfl,rfl,by first | exact J0.o | exact J0.o.bel (aC _ _) | exact J0.o.bel (MK _ _)⟩
    case round=>
     obtain⟨k,hk,hgi,rfl,ls,rs,i1,i2,i3,i4,i5,i6,gL',gR',cL',cR',rfl,rfl,i7⟩:=hrel;have GI:=aa hgi;have J:Ll ((a=b↔ls=rs/\xs.drop k=ys.drop k)/\PL ls rs/\mu ls+cnts (xs.drop k)+1<=M/\bJ wr (kw ok w.heap.size ia) xs (.slice xa xs.length xc)/\bJ wr (kw ok' w.heap.size ib) ys (.slice ya ys.length yc)/\SE w ok ok' ia ib ls rs gL' gR' cL' cR' wr):=aa ⟨i1,i2,i3,i5,i6,i7⟩;clear hgi i1 i2 i3 i4 i7;by_cases hlt:k < xs.length
     ·have hlt':k < ys.length:=by have:=HXY.o;omega
      obtain⟨xb,xo,p5,q5,p6,q6,rfl,x1,x2,g0,g1,g2,g3,g4,g5⟩:=i5.item hlt;obtain⟨yb,yo,p7,q7,p8,q8,rfl,x3,x4,f0,f1,f2,f3,f4,f5⟩:=i6.item hlt';clear i5 i6;have w1:(0:Int)<=(k:Int):=by omega
      have w2:(k:Int) < (xs.length:Int):=by omega
      have w3:(k:Int) < (ys.length:Int):=by omega
      have CALL:Ll (∀ w',La wr w'->Calls prog 40 #[.agg #[.int .i64 xs[k].kind,.int .i64 xs[k].n,.string ⟨xs[k].s.toArray⟩,.slice p5 xs[k].keys.length q5,.slice p6 xs[k].l.length q6],.agg #[.int .i64 ys[k].kind,.int .i64 ys[k].n,.string ⟨ys[k].s.toArray⟩,.slice p7 ys[k].keys.length q7,.slice p8 ys[k].l.length q8]] w' fun e w4=>e=.returned (.bool (eB xs[k] ys[k]))/\La wr w4 /\
       w4.cell? ⟨xb,xo+k * 5,none⟩=some (.int .i64 xs[k].kind)/\w4.cell? ⟨xb,xo+k * 5+1,none⟩=some (.int .i64 xs[k].n)/\w4.cell? ⟨xb,xo+k * 5+2,none⟩=some (.string ⟨xs[k].s.toArray⟩)/\w4.cell? ⟨xb,xo+k * 5+3,none⟩=some (.slice p5 xs[k].keys.length q5)/\w4.cell? ⟨xb,xo+k * 5+4,none⟩=some (.slice p6 xs[k].l.length q6)/\w4.cell? ⟨yb,yo+k * 5,none⟩=some (.int .i64 ys[k].kind)/\w4.cell? ⟨yb,yo+k * 5+1,none⟩=some (.int .i64 ys[k].n)/\w4.cell? ⟨yb,yo+k * 5+2,none⟩=some (.string ⟨ys[k].s.toArray⟩)/\w4.cell? ⟨yb,yo+k * 5+3,none⟩=some (.slice p7 ys[k].keys.length q7)/\w4.cell? ⟨yb,yo+k * 5+4,none⟩=some (.slice p8 ys[k].l.length q8)):=by
       intro w' hb';refine Lk (ET w' _ _ xs[k] ys[k] _ _ (g5.bel hb') (f5.bel hb')) fun w4 hb4=>?_;have hb5:=ab hb' hb4;exact⟨rfl,hb5,ah hb5 g0,ah hb5 g1,ah hb5 g2,ah hb5 g3,ah hb5 g4,ah hb5 f0,ah hb5 f1,ah hb5 f2,ah hb5 f3,ah hb5 f4⟩
      have VX:=aa g5.vals;have VY:=aa f5.vals;clear g5 f5;go_wp2
      go_region_held3 (fun w4=>w4.cell? ⟨xb,xo+k * 5,none⟩=some (.int .i64 xs[k].kind)/\w4.cell? ⟨xb,xo+k * 5+1,none⟩=some (.int .i64 xs[k].n)/\w4.cell? ⟨xb,xo+k * 5+2,none⟩=some (.string ⟨xs[k].s.toArray⟩)/\w4.cell? ⟨xb,xo+k * 5+3,none⟩=some (.slice p5 xs[k].keys.length q5)/\w4.cell? ⟨xb,xo+k * 5+4,none⟩=some (.slice p6 xs[k].l.length q6)/\w4.cell? ⟨yb,yo+k * 5,none⟩=some (.int .i64 ys[k].kind)/\w4.cell? ⟨yb,yo+k * 5+1,none⟩=some (.int .i64 ys[k].n)/\w4.cell? ⟨yb,yo+k * 5+2,none⟩=some (.string ⟨ys[k].s.toArray⟩)/\w4.cell? ⟨yb,yo+k * 5+3,none⟩=some (.slice p7 ys[k].keys.length q7)/\w4.cell? ⟨yb,yo+k * 5+4,none⟩=some (.slice p8 ys[k].l.length q8)) (go_keep)
       (first | (go_at_call 40;refine(CALL.o _ (by exact⟨rfl,rfl,rfl,MG _,fun _ _=>rfl⟩)).mono ?_;rintro e w4 ⟨rfl,hb4,s0,s1,s2,s3,s4,r0,r1,r2,r3,r4⟩))
      all_goals
       have HB4:=aa hb4;have E4:=aa (J.o.2.2.2.2.2.bel hb4);clear hb4 g0 g1 g2 g3 g4 f0 f1 f2 f3 f4 CALL s0 s1 s2 s3 r0 r1 r2 r3;cases hr:eB xs[k] ys[k] with
       | false=>
        have R:Ll ((¬a=b)/\La w w4):=aa ⟨fun e=>absurd ((kK hlt hlt').1 (J.o.1.1 e).2).1 (Gg hr),E4.o.2.2.2.2.2.2.2.2.2⟩;clear hr s4 r4;go_wp2
        go_ret;exact⟨false,rfl,⟨fun e=>absurd e Bool.false_ne_true,fun e=>absurd e R.o.1⟩,R.o.2⟩
       | true=>
        have HR:=aa hr;clear hr;by_cases h0:xs[k].l.length=0
        ·have d0:¬(0:Int) < (xs[k].l.length:Int):=by omega
         have FIN:Ll (SJ w ok ok' ia ib a b xs ys (.slice (some ⟨xb,xo,none⟩) xs.length xc) (.slice (some ⟨yb,yo,none⟩) ys.length yc) M (k+1) (.slice (some ⟨gL',0,none⟩) ls.length cL') (.slice (some ⟨gR',0,none⟩) rs.length cR') w4):=by
          obtain⟨j1,j2,j3,j5,j6,j7⟩:=J.o;have he:=qA HR.o;have e1:xs[k].l=[]:=List.eq_nil_of_length_eq_zero h0;have e2:ys[k].l=[]:=List.eq_nil_of_length_eq_zero (by rw[he.2,h0]);have e3:xs[k]=ys[k]:=he.1.2 (by rw[e1,e2]);have e4:=iV hlt;exact aa ⟨ls,rs,by rw[j1,kK hlt hlt'];simp[e3],j2,by omega,GM.o,j5.bel HB4.o,j6.bel HB4.o,gL',gR',cL',cR',rfl,rfl,E4.o⟩
         clear h0 r4;go_wp2
         go_roundg (xs.length - (k+1))
         case measure=>rw[GI.o];omega
         case rel=>exact⟨k+1,hlt,rfl,by go_num,FIN.o⟩
        ·have d0:(0:Int) < (xs[k].l.length:Int):=by omega
         have WL:Ll (ev w4 w.heap.size (kw ok w.heap.size ia) ls gL' cL'):=aa E4.o.1;have WR:Ll (ev w4 w.heap.size (kw ok' w.heap.size ib) rs gR' cR'):=aa E4.o.2.1;have VX4:Ll (bJ w4 (kw ok w.heap.size ia) xs[k].l (.slice p6 xs[k].l.length q6)):=VX.o.bel HB4.o;have VY4:Ll (bJ w4 (kw ok' w.heap.size ib) ys[k].l (.slice p8 ys[k].l.length q8)):=VY.o.bel HB4.o;have LA:=aa E4.o.lows;have LB:=aa E4.o.swap.lows;have gL4:Ll (gL' < w4.heap.size):=aa E4.o.1.lt.2;have gR4:Ll (gR' < w4.heap.size):=aa E4.o.2.1.lt.2;have nLR:Ll (gR'≠gL'):=aa E4.o.2.2.1.symm;have nRL:Ll (gL'≠gR'):=aa E4.o.2.2.1;have nLB:Ll (∀ j,(kw ok' w.heap.size ib) j->j≠gL'):=iL E4.o.1.lt.1 E4.o.2.2.2.2.2.1;have nRA:Ll (∀ j,(kw ok w.heap.size ia) j->j≠gR'):=iL E4.o.2.1.lt.1 E4.o.2.2.2.2.1;have nXL:Ll (xb≠gL'):=iL E4.o.1.lt.1 E4.o.2.2.2.1 _ (J.o.2.2.2.1.blk hlt);have nXR:Ll (xb≠gR'):=nRA.o _ (J.o.2.2.2.1.blk hlt);have nYL:Ll (yb≠gL'):=nLB.o _ (J.o.2.2.2.2.1.blk hlt');have nYR:Ll (yb≠gR'):=iL E4.o.2.1.lt.1 E4.o.2.2.2.2.2.2.1 _ (J.o.2.2.2.2.1.blk hlt');have nls:ls.length<=5000000000000:=by have:=Jo ls;have:=J.o.2.2.1;have:=GM.o;omega
         have nrs:rs.length<=5000000000000:=by have:=J.o.2.1.1;omega
         have midL:Ll (∀ (W w7:LC) (g7 c7:Nat),La w4 W->ev w7 w.heap.size (kw ok w.heap.size ia) (ls++[xs[k].l]) g7 c7->W.grownBy w7 (some gL')->(g7=gL'\/W.heap.size=g7) ->
          (w7.cell? ⟨xb,xo+k * 5+4,none⟩=some (.slice p6 xs[k].l.length q6)/\w7.cell? ⟨yb,yo+k * 5+4,none⟩=some (.slice p8 ys[k].l.length q8)/\(∀ o,(w7.alloc o).cell? ⟨xb,xo+k * 5+4,none⟩=some (.slice p6 xs[k].l.length q6))/\(∀ o,(w7.alloc o).cell? ⟨yb,yo+k * 5+4,none⟩=some (.slice p8 ys[k].l.length q8))) /\
          (∀ nb o,w4.heap.size<=nb->W.heap[nb]?=some o->w7.heap[nb]?=some o)/\ev w7 w.heap.size (kw ok' w.heap.size ib) rs gR' cR'/\bJ w7 (kw ok' w.heap.size ib) ys[k].l (.slice p8 ys[k].l.length q8)/\(∀ j,(kw ok' w.heap.size ib) j->j < w7.heap.size) /\
          w4.grownBy w7 (some gL')/\ev w7 w.heap.size (kw ok w.heap.size ia) (ls++[xs[k].l]) g7 c7/\(g7=gL'\/w4.heap.size<=g7)):=by
          intro W w7 g7 c7 b1 h7 q7 o7;have G:w4.grownBy w7 (some gL'):=am (aq b1) q7;have cx:=G.cell s4 (by simpa using nXL.o);have cy:=G.cell r4 (by simpa using nYL.o);refine⟨⟨cx,cy,fun o=>ah (ae w7 o) cx,fun o=>ah (ae w7 o) cy⟩,fun nb o hn ho=>(q7.block nb (MF.1 ho).1 (by simp;have:=gL4.o;omega)).trans ho,WR.o.far G nLR.o nLB.o,VY4.o.grown G nLB.o,fun j hj=>MI (LB.o j hj) G.size,G,h7,o7.imp id fun e=>by have:=b1.size;omega⟩
         have midR:Ll (∀ (W w7:LC) (g7 c7:Nat),La w4 W->ev w7 w.heap.size (kw ok' w.heap.size ib) (rs++[ys[k].l]) g7 c7->W.grownBy w7 (some gR')->(g7=gR'\/W.heap.size=g7) ->
          (w7.cell? ⟨xb,xo+k * 5+4,none⟩=some (.slice p6 xs[k].l.length q6)/\w7.cell? ⟨yb,yo+k * 5+4,none⟩=some (.slice p8 ys[k].l.length q8)/\(∀ o,(w7.alloc o).cell? ⟨xb,xo+k * 5+4,none⟩=some (.slice p6 xs[k].l.length q6))/\(∀ o,(w7.alloc o).cell? ⟨yb,yo+k * 5+4,none⟩=some (.slice p8 ys[k].l.length q8))) /\
          (∀ nb o,w4.heap.size<=nb->W.heap[nb]?=some o->w7.heap[nb]?=some o)/\ev w7 w.heap.size (kw ok w.heap.size ia) ls gL' cL'/\bJ w7 (kw ok w.heap.size ia) xs[k].l (.slice p6 xs[k].l.length q6)/\(∀ j,(kw ok w.heap.size ia) j->j < w7.heap.size) /\
          w4.grownBy w7 (some gR')/\ev w7 w.heap.size (kw ok' w.heap.size ib) (rs++[ys[k].l]) g7 c7/\(g7=gR'\/w4.heap.size<=g7)):=by
          intro W w7 g7 c7 b1 h7 q7 o7;have G:w4.grownBy w7 (some gR'):=am (aq b1) q7;have cx:=G.cell s4 (by simpa using nXR.o);have cy:=G.cell r4 (by simpa using nYR.o);refine⟨⟨cx,cy,fun o=>ah (ae w7 o) cx,fun o=>ah (ae w7 o) cy⟩,fun nb o hn ho=>(q7.block nb (MF.1 ho).1 (by simp;have:=gR4.o;omega)).trans ho,WL.o.far G nRL.o nRA.o,VX4.o.grown G nRA.o,fun j hj=>MI (LA.o j hj) G.size,G,h7,o7.imp id fun e=>by have:=b1.size;omega⟩
         have FINL:Ll (∀ (g7 c7 g8 c8:Nat) (w7 w8:LC),w4.grownBy w7 (some gL')->ev w7 w.heap.size (kw ok w.heap.size ia) (ls++[xs[k].l]) g7 c7->(g7=gL'\/w4.heap.size<=g7)->w7.grownBy w8 (some gR')->ev w8 w.heap.size (kw ok' w.heap.size ib) (rs++[ys[k].l]) g8 c8->(g8=gR'\/w7.heap.size<=g8) ->
          SJ w ok ok' ia ib a b xs ys (.slice (some ⟨xb,xo,none⟩) xs.length xc) (.slice (some ⟨yb,yo,none⟩) ys.length yc) M (k+1) (.slice (some ⟨g7,0,none⟩) (ls.length+1) c7) (.slice (some ⟨g8,0,none⟩) (rs.length+1) c8) w8):=by
          intro g7 c7 g8 c8 w7 w8 q7 h7 o7 q8 h8 o8;obtain⟨j1,j2,j3,j5,j6,j7⟩:=J.o;have he:=qA HR.o;have e4:=iV hlt;have e5:=df xs[k];refine⟨ls++[xs[k].l],rs++[ys[k].l],by rw[j1,kK hlt hlt',mZ,he.1,and_assoc],j2.push he.2,by rw[sP];omega,GM.o,((j5.bel HB4.o).grown q7 ?_).grown q8 nRA.o,((j6.bel HB4.o).grown q7 nLB.o).grown q8 ?_,g7,g8,c7,c8,by simp,by simp,vJ E4.o q7 h7 o7 q8 h8 o8⟩
          ·exact iL E4.o.1.lt.1 E4.o.2.2.2.1
          ·exact iL E4.o.2.1.lt.1 E4.o.2.2.2.2.2.2.1
         have FINR:Ll (∀ (g7 c7 g8 c8:Nat) (w7 w8:LC),w4.grownBy w7 (some gR')->ev w7 w.heap.size (kw ok' w.heap.size ib) (rs++[ys[k].l]) g7 c7->(g7=gR'\/w4.heap.size<=g7)->w7.grownBy w8 (some gL')->ev w8 w.heap.size (kw ok w.heap.size ia) (ls++[xs[k].l]) g8 c8->(g8=gL'\/w7.heap.size<=g8) ->
          SJ w ok ok' ia ib a b xs ys (.slice (some ⟨xb,xo,none⟩) xs.length xc) (.slice (some ⟨yb,yo,none⟩) ys.length yc) M (k+1) (.slice (some ⟨g8,0,none⟩) (ls.length+1) c8) (.slice (some ⟨g7,0,none⟩) (rs.length+1) c7) w8):=by
          intro g7 c7 g8 c8 w7 w8 q7 h7 o7 q8 h8 o8;obtain⟨j1,j2,j3,j5,j6,j7⟩:=J.o;have he:=qA HR.o;have e4:=iV hlt;have e5:=df xs[k];refine⟨ls++[xs[k].l],rs++[ys[k].l],by rw[j1,kK hlt hlt',mZ,he.1,and_assoc],j2.push he.2,by rw[sP];omega,GM.o,((j5.bel HB4.o).grown q7 nRA.o).grown q8 ?_,((j6.bel HB4.o).grown q7 ?_).grown q8 nLB.o,g8,g7,c8,c7,by simp,by simp,(vJ E4.o.swap q7 h7 o7 q8 h8 o8).swap⟩
          ·exact iL E4.o.1.lt.1 E4.o.2.2.2.1
          ·exact iL E4.o.2.1.lt.1 E4.o.2.2.2.2.2.2.1
         have s5:∀ o,(w4.alloc o).cell? ⟨xb,xo+k * 5+4,none⟩=some (.slice p6 xs[k].l.length q6):=fun o=>ah (ae w4 o) s4;have r5:∀ o,(w4.alloc o).cell? ⟨yb,yo+k * 5+4,none⟩=some (.slice p8 ys[k].l.length q8):=fun o=>ah (ae w4 o) r4;have s6:∀ o o',((w4.alloc o).alloc o').cell? ⟨xb,xo+k * 5+4,none⟩=some (.slice p6 xs[k].l.length q6):=fun o o'=>ah (ae _ o') (s5 o);have r6:∀ o o',((w4.alloc o).alloc o').cell? ⟨yb,yo+k * 5+4,none⟩=some (.slice p8 ys[k].l.length q8):=fun o o'=>ah (ae _ o') (r5 o);clear h0;go_upto_region 12 with fail
         go_region_held3 (fun w'=>w'.cell? ⟨xb,xo+k * 5+4,none⟩=some (.slice p6 xs[k].l.length q6)/\w'.cell? ⟨yb,yo+k * 5+4,none⟩=some (.slice p8 ys[k].l.length q8)) (go_keep)
          (first | (refine kG (by rfl) _ _ (by rfl) (by rfl) (by rfl) (WL.o.bel (by first | exact MK _ _ | exact aj (MK _ _) _ | exact aj (aj (MK _ _) _) _ | exact ai (MK _ _) | exact ai (aj (MK _ _) _) | exact ai (aj (aj (MK _ _) _) _) | exact ai (ai (MK _ _)) | exact ai (ai (aj (MK _ _) _)) | exact ai (ai (aj (aj (MK _ _) _) _)) | exact ai (ai (ai (MK _ _))) | exact ai (ai (ai (aj (MK _ _) _))) | exact ai (ai (ai (aj (aj (MK _ _) _) _))))) (by first | exact MN _ _ | exact fb _ _ _ | exact et _ _ _) (VX4.o.bel (by first | exact MK _ _ | exact aj (MK _ _) _ | exact aj (aj (MK _ _) _) _ | exact ai (MK _ _) | exact ai (aj (MK _ _) _) | exact ai (aj (aj (MK _ _) _) _) | exact ai (ai (MK _ _)) | exact ai (ai (aj (MK _ _) _)) | exact ai (ai (aj (aj (MK _ _) _) _)) | exact ai (ai (ai (MK _ _))) | exact ai (ai (ai (aj (MK _ _) _))) | exact ai (ai (ai (aj (aj (MK _ _) _) _))))) (by omega) (fun j hj=>MI (LA.o j hj) (IL (a:=w4) (by first | exact MK _ _ | exact aj (MK _ _) _ | exact aj (aj (MK _ _) _) _ | exact ai (MK _ _) | exact ai (aj (MK _ _) _) | exact ai (aj (aj (MK _ _) _) _) | exact ai (ai (MK _ _)) | exact ai (ai (aj (MK _ _) _)) | exact ai (ai (aj (aj (MK _ _) _) _)) | exact ai (ai (ai (MK _ _))) | exact ai (ai (ai (aj (MK _ _) _))) | exact ai (ai (ai (aj (aj (MK _ _) _) _)))))) ?_;intro g7 c7 w7 h7 q7 o7;have P7:Ll _:=aa (midL.o _ _ _ _ (by first | exact MK _ _ | exact aj (MK _ _) _ | exact aj (aj (MK _ _) _) _ | exact ai (MK _ _) | exact ai (aj (MK _ _) _) | exact ai (aj (aj (MK _ _) _) _) | exact ai (ai (MK _ _)) | exact ai (ai (aj (MK _ _) _)) | exact ai (ai (aj (aj (MK _ _) _) _)) | exact ai (ai (ai (MK _ _))) | exact ai (ai (ai (aj (MK _ _) _))) | exact ai (ai (ai (aj (aj (MK _ _) _) _)))) h7 q7 o7);obtain⟨v1,v2,v3,v4⟩:=P7.o.1;have N7:Ll _:=aa P7.o.2.1;clear h7 q7 o7) | (refine kG (by rfl) _ _ (by rfl) (by rfl) (by rfl) (P7.o.2.2.1.bel (by first | exact MK _ _ | exact aj (MK _ _) _ | exact aj (aj (MK _ _) _) _ | exact ai (MK _ _) | exact ai (aj (MK _ _) _) | exact ai (aj (aj (MK _ _) _) _) | exact ai (ai (MK _ _)) | exact ai (ai (aj (MK _ _) _)) | exact ai (ai (aj (aj (MK _ _) _) _)) | exact ai (ai (ai (MK _ _))) | exact ai (ai (ai (aj (MK _ _) _))) | exact ai (ai (ai (aj (aj (MK _ _) _) _))))) (by first | exact MN _ _ | exact N7.o _ _ (by simp) (MN _ _) | exact N7.o _ _ (by simp) (fb _ _ _) | exact N7.o _ _ (by simp) (et _ _ _)) (P7.o.2.2.2.1.bel (by first | exact MK _ _ | exact aj (MK _ _) _ | exact aj (aj (MK _ _) _) _ | exact ai (MK _ _) | exact ai (aj (MK _ _) _) | exact ai (aj (aj (MK _ _) _) _) | exact ai (ai (MK _ _)) | exact ai (ai (aj (MK _ _) _)) | exact ai (ai (aj (aj (MK _ _) _) _)) | exact ai (ai (ai (MK _ _))) | exact ai (ai (ai (aj (MK _ _) _))) | exact ai (ai (ai (aj (aj (MK _ _) _) _))))) (by omega) (fun j hj=>MI (P7.o.2.2.2.2.1 j hj) (IL (a:=w7) (by first | exact MK _ _ | exact aj (MK _ _) _ | exact aj (aj (MK _ _) _) _ | exact ai (MK _ _) | exact ai (aj (MK _ _) _) | exact ai (aj (aj (MK _ _) _) _) | exact ai (ai (MK _ _)) | exact ai (ai (aj (MK _ _) _)) | exact ai (ai (aj (aj (MK _ _) _) _)) | exact ai (ai (ai (MK _ _))) | exact ai (ai (ai (aj (MK _ _) _))) | exact ai (ai (ai (aj (aj (MK _ _) _) _)))))) ?_;intro g8 c8 w8 h8 q8 o8;have P8:=aa (Gf (a:=w7) (by first | exact MK _ _ | exact aj (MK _ _) _ | exact aj (aj (MK _ _) _) _ | exact ai (MK _ _) | exact ai (aj (MK _ _) _) | exact ai (aj (aj (MK _ _) _) _) | exact ai (ai (MK _ _)) | exact ai (ai (aj (MK _ _) _)) | exact ai (ai (aj (aj (MK _ _) _) _)) | exact ai (ai (ai (MK _ _))) | exact ai (ai (ai (aj (MK _ _) _))) | exact ai (ai (ai (aj (aj (MK _ _) _) _)))) q8 o8);have P9:=aa h8;have v5:=P8.o.1.cell v1 (by simpa using nXL.o);have v6:=P8.o.1.cell v2 (by simpa using nYL.o);clear h8 q8 o8) | (refine kG (by rfl) _ _ (by rfl) (by rfl) (by rfl) (WR.o.bel (by first | exact MK _ _ | exact aj (MK _ _) _ | exact aj (aj (MK _ _) _) _ | exact ai (MK _ _) | exact ai (aj (MK _ _) _) | exact ai (aj (aj (MK _ _) _) _) | exact ai (ai (MK _ _)) | exact ai (ai (aj (MK _ _) _)) | exact ai (ai (aj (aj (MK _ _) _) _)) | exact ai (ai (ai (MK _ _))) | exact ai (ai (ai (aj (MK _ _) _))) | exact ai (ai (ai (aj (aj (MK _ _) _) _))))) (by first | exact MN _ _ | exact fb _ _ _ | exact et _ _ _) (VY4.o.bel (by first | exact MK _ _ | exact aj (MK _ _) _ | exact aj (aj (MK _ _) _) _ | exact ai (MK _ _) | exact ai (aj (MK _ _) _) | exact ai (aj (aj (MK _ _) _) _) | exact ai (ai (MK _ _)) | exact ai (ai (aj (MK _ _) _)) | exact ai (ai (aj (aj (MK _ _) _) _)) | exact ai (ai (ai (MK _ _))) | exact ai (ai (ai (aj (MK _ _) _))) | exact ai (ai (ai (aj (aj (MK _ _) _) _))))) (by omega) (fun j hj=>MI (LB.o j hj) (IL (a:=w4) (by first | exact MK _ _ | exact aj (MK _ _) _ | exact aj (aj (MK _ _) _) _ | exact ai (MK _ _) | exact ai (aj (MK _ _) _) | exact ai (aj (aj (MK _ _) _) _) | exact ai (ai (MK _ _)) | exact ai (ai (aj (MK _ _) _)) | exact ai (ai (aj (aj (MK _ _) _) _)) | exact ai (ai (ai (MK _ _))) | exact ai (ai (ai (aj (MK _ _) _))) | exact ai (ai (ai (aj (aj (MK _ _) _) _)))))) ?_;intro g7 c7 w7 h7 q7 o7;have P7:Ll _:=aa (midR.o _ _ _ _ (by first | exact MK _ _ | exact aj (MK _ _) _ | exact aj (aj (MK _ _) _) _ | exact ai (MK _ _) | exact ai (aj (MK _ _) _) | exact ai (aj (aj (MK _ _) _) _) | exact ai (ai (MK _ _)) | exact ai (ai (aj (MK _ _) _)) | exact ai (ai (aj (aj (MK _ _) _) _)) | exact ai (ai (ai (MK _ _))) | exact ai (ai (ai (aj (MK _ _) _))) | exact ai (ai (ai (aj (aj (MK _ _) _) _)))) h7 q7 o7);obtain⟨v1,v2,v3,v4⟩:=P7.o.1;have N7:Ll _:=aa P7.o.2.1;clear h7 q7 o7) | (refine kG (by rfl) _ _ (by rfl) (by rfl) (by rfl) (P7.o.2.2.1.bel (by first | exact MK _ _ | exact aj (MK _ _) _ | exact aj (aj (MK _ _) _) _ | exact ai (MK _ _) | exact ai (aj (MK _ _) _) | exact ai (aj (aj (MK _ _) _) _) | exact ai (ai (MK _ _)) | exact ai (ai (aj (MK _ _) _)) | exact ai (ai (aj (aj (MK _ _) _) _)) | exact ai (ai (ai (MK _ _))) | exact ai (ai (ai (aj (MK _ _) _))) | exact ai (ai (ai (aj (aj (MK _ _) _) _))))) (by first | exact MN _ _ | exact N7.o _ _ (by simp) (MN _ _) | exact N7.o _ _ (by simp) (fb _ _ _) | exact N7.o _ _ (by simp) (et _ _ _)) (P7.o.2.2.2.1.bel (by first | exact MK _ _ | exact aj (MK _ _) _ | exact aj (aj (MK _ _) _) _ | exact ai (MK _ _) | exact ai (aj (MK _ _) _) | exact ai (aj (aj (MK _ _) _) _) | exact ai (ai (MK _ _)) | exact ai (ai (aj (MK _ _) _)) | exact ai (ai (aj (aj (MK _ _) _) _)) | exact ai (ai (ai (MK _ _))) | exact ai (ai (ai (aj (MK _ _) _))) | exact ai (ai (ai (aj (aj (MK _ _) _) _))))) (by omega) (fun j hj=>MI (P7.o.2.2.2.2.1 j hj) (IL (a:=w7) (by first | exact MK _ _ | exact aj (MK _ _) _ | exact aj (aj (MK _ _) _) _ | exact ai (MK _ _) | exact ai (aj (MK _ _) _) | exact ai (aj (aj (MK _ _) _) _) | exact ai (ai (MK _ _)) | exact ai (ai (aj (MK _ _) _)) | exact ai (ai (aj (aj (MK _ _) _) _)) | exact ai (ai (ai (MK _ _))) | exact ai (ai (ai (aj (MK _ _) _))) | exact ai (ai (ai (aj (aj (MK _ _) _) _)))))) ?_;intro g8 c8 w8 h8 q8 o8;have P8:=aa (Gf (a:=w7) (by first | exact MK _ _ | exact aj (MK _ _) _ | exact aj (aj (MK _ _) _) _ | exact ai (MK _ _) | exact ai (aj (MK _ _) _) | exact ai (aj (aj (MK _ _) _) _) | exact ai (ai (MK _ _)) | exact ai (ai (aj (MK _ _) _)) | exact ai (ai (aj (aj (MK _ _) _) _)) | exact ai (ai (ai (MK _ _))) | exact ai (ai (ai (aj (MK _ _) _))) | exact ai (ai (ai (aj (aj (MK _ _) _) _)))) q8 o8);have P9:=aa h8;have v5:=P8.o.1.cell v1 (by simpa using nXR.o);have v6:=P8.o.1.cell v2 (by simpa using nYR.o);clear h8 q8 o8))
         all_goals
          go_wp2
          go_roundg (xs.length - (k+1))
          case measure=>rw[GI.o];omega
          case rel=>first
           | exact⟨k+1,hlt,rfl,by go_num,FINL.o _ _ _ _ _ _ P7.o.2.2.2.2.2.1 P7.o.2.2.2.2.2.2.1 P7.o.2.2.2.2.2.2.2 P8.o.1 P9.o P8.o.2⟩
           | exact⟨k+1,hlt,rfl,by go_num,FINR.o _ _ _ _ _ _ P7.o.2.2.2.2.2.1 P7.o.2.2.2.2.2.2.1 P7.o.2.2.2.2.2.2.2 P8.o.1 P9.o P8.o.2⟩
     ·have FIN:Ll ((∃ ls2 rs2,(a=b↔ls2=rs2)/\PL ls2 rs2/\mu ls=mu ls2/\mu ls2<=2000000000001/\SI w ok ok' ia ib ls2 rs2 (.slice (some ⟨gL',0,none⟩) ls.length cL') (.slice (some ⟨gR',0,none⟩) rs.length cR') wr)/\mu ls < M):=by
       obtain⟨j1,j2,j3,j5,j6,j7⟩:=J.o;have l1:xs.drop k=[]:=List.drop_eq_nil_of_le (by omega);have l2:ys.drop k=[]:=List.drop_eq_nil_of_le (by have:=HXY.o;omega);have:=GM.o;exact aa ⟨⟨ls,rs,by rw[j1,l1,l2];simp,j2,rfl,by omega,gL',gR',cL',cR',rfl,rfl,j7⟩,by omega⟩
      have d1:¬(k:Int) < (xs.length:Int):=by omega
      clear i5 i6 J;go_wp2
      go_roundg (mu ls)
      case measure=>rw[GKM.o];exact FIN.o.2
      case rel=>exact FIN.o.1
variable {w w':World}
variable {ok ok':Nat->Prop}
variable {v:Value}
variable {t:V}
variable {g:Nat}
def dB (w:LC) (ok:Nat->Prop) (t:V) (L:List Lz) (v:Value):Prop:=
 ∃ (a1 a2 a3:Option Addr) (c1 c2 c3:Nat),v=.agg #[.int .i64 t.kind,.int .i64 t.n,.string ⟨t.s.toArray⟩,.slice a1 t.keys.length c1,.slice a2 t.l.length c2,.slice a3 L.length c3] /\
  In w ok t (.agg (KV t a1 c1 a2 c2))/\ao w ok L (.slice a3 L.length c3)
theorem dB.bel{L}(h:dB w ok t L v)(hb:La w w'):dB w' ok t L v:=by
 obtain⟨a1,a2,a3,c1,c2,c3,rfl,h1,h2⟩:=h;exact⟨a1,a2,a3,c1,c2,c3,rfl,h1.bel hb,h2.imp fun a x h1 h2=>⟨h1,ah hb h2⟩⟩
theorem dB.weak{L}(h:dB w ok t L v)(hk:∀ k,ok k->ok' k):dB w ok' t L v:=by
 obtain⟨a1,a2,a3,c1,c2,c3,rfl,h1,h2⟩:=h;exact⟨a1,a2,a3,c1,c2,c3,rfl,h1.weak hk,h2.imp fun a x h1 h2=>⟨hk _ h1,h2⟩⟩
theorem lr{a b c d e f}{t:TypeId}(h:w.heap[g]?=some (.cells #[a,b,c,d,e,f] t)):w.cell? ⟨g,0,none⟩=some a/\w.cell? ⟨g,1,none⟩=some b/\w.cell? ⟨g,2,none⟩=some c/\w.cell? ⟨g,3,none⟩=some d/\w.cell? ⟨g,4,none⟩=some e/\w.cell? ⟨g,5,none⟩=some f:=by
 refine⟨?_,?_,?_,?_,?_,?_⟩ <;> simp[World.cell?,h]
theorem bR{o:Obj}(hb:La w w')(h:w.heap[g]?=some o):w'.heap[g]?=some o:=(hb.block g (MF.1 h).1).trans h
theorem pN(w:LC)(ok t L v p)(h:dB w ok t L v)(hr:bD L)(hn:L.length < 4611686018427387904):Calls prog 124 #[v,.string ⟨p.toArray⟩] w fun e w'=>e=.returned (.bool (L.contains p))/\La w w':=by
 obtain⟨a1,a2,a3,c1,c2,c3,rfl,h1,h2⟩:=h;have H2:=aa h2;have HR:=aa hr;have HN:=aa hn;have ll:=h2.1;unfold maxLen at ll;clear h1 h2 hr hn;have C:Ll (∀ W,La w W->Calls prog 155 #[.slice a3 L.length c3,.string ⟨p.toArray⟩,.func (.func 35) #[] #[]] W fun e w'=>e=.returned (.tuple #[.int .i64 (L.countP (fun x=>Op.bytesLess x p):Nat),.bool (L.contains p)])/\La W w'):=fun W hW=>yg W ok L _ p (H2.o.imp fun a x h1 h2=>⟨h1,ah hW h2⟩) HR.o HN.o;generalize L.contains p=o at C ⊢;go_enter func124,ntmps124;go_wp2_with (go_at_call 155;refine Lk (C.o _ (ae _ _)) fun w1 hb=>?_)
 go_ret;exact⟨rfl,ab (ae _ _) hb⟩
theorem DV(w:LC)(ok ok' LQ t L v vt p)(h:dB w ok LQ L v)(ht:In w ok' t vt)(hp:p.length<=140737488351232)(hM:bj w)(hc:fa ((dr (aw p) t).getD aM)<=2000000000000):Calls prog 125 #[v,vt,.string ⟨p.toArray⟩] w fun e w'=>e=.returned (.bool (fK LQ t p))/\La w w':=by
 obtain⟨a1,a2,a3,c1,c2,c3,rfl,h1,h2⟩:=h;have HT:=aa ht;have H1:=aa h1;have HM:=aa hM;have HC:=aa hc;obtain⟨b1,b2,d1,d2,rfl⟩:=ht.form;clear ht h1 h2 hM hc;obtain⟨x,hx⟩:∃ x,(dr (aw p) t).getD aM=x:=⟨_,rfl⟩
 obtain⟨y,hy⟩:∃ y,(dr (aw p) LQ).getD aM=y:=⟨_,rfl⟩
 obtain⟨there,hth⟩:∃ b,(dr (aw p) t).isSome=b:=⟨_,rfl⟩
 obtain⟨there2,hth2⟩:∃ b,(dr (aw p) LQ).isSome=b:=⟨_,rfl⟩
 have S1:Ll (∀ W,La w W->Calls prog 106 #[.agg (KV t b1 d1 b2 d2),.string ⟨p.toArray⟩] W fun e w'=>∃ r,e=.returned (.tuple #[r,.bool there])/\La W w'/\In w' ok' x r):=fun W hW=>by
  have:=gD W ok' t _ p (HT.o.bel hW) hp (HM.o.bel hW);rw[hx,hth]at this;exact this
 have S2:Ll (∀ W,La w W->Calls prog 106 #[.agg (KV LQ a1 c1 a2 c2),.string ⟨p.toArray⟩] W fun e w'=>∃ r,e=.returned (.tuple #[r,.bool there2])/\La W w'/\In w' ok y r):=fun W hW=>by
  have:=gD W ok LQ _ p (H1.o.bel hW) hp (HM.o.bel hW);rw[hy,hth2]at this;exact this
 have R1:Ll (there=false->fK LQ t p=true):=fun h9=>by
  unfold fK;cases h8:dr (aw p) t with
  | none=>rfl
  | some z=>rw[h8,h9]at hth;cases hth
 have TS:there=true->dr (aw p) t=some x:=fun h9=>by
  cases h8:dr (aw p) t with
  | none=>rw[h8,h9]at hth;cases hth
  | some z=>rw[h8]at hx;simp at hx;rw[hx]
 have R2:Ll (there=true->(x=y\/x.kind=5/\y.kind=5)->fK LQ t p=false):=fun h9 h8=>FY (TS h9) (by rw[hy];exact h8);have R4:Ll (there=true->¬(x=y\/x.kind=5/\y.kind=5)->fK LQ t p=true):=fun h9 h8=>by
  cases h7:fK LQ t p with
  | true=>rfl
  | false=>
   obtain⟨z,h1,h2⟩:=Ca h7;rw[TS h9]at h1;cases h1;rw[hy]at h2;exact absurd h2 h8
 rw[hx]at HC;clear hx hy hth hth2 TS;have B2:Ll (∀ o1 o2,La w ((w.alloc o1).alloc o2)):=fun o1 o2=>ab (ae _ _) (ae _ _);go_enter func125,ntmps125;go_upto_region 2 with (go_at_call 106;refine(S1.o _ (B2.o _ _)).mono ?_;rintro e w1 ⟨r,rfl,hb1,hr⟩;obtain⟨x1,x2,y1,y2,rfl⟩:=hr.form;have HX:=aa hr;have BW1:=aa hb1;clear hb1 hr)
 obtain⟨WX,hWX⟩:∃ W,W=w1.alloc (.cells (KV x x1 y1 x2 y2) 39):=⟨_,rfl⟩
 have BX:Ll (La w1 WX):=aa (by rw[hWX];exact ae _ _);have XB:Ll (KY WX w1.heap.size x x1 y1 x2 y2):=aa (by rw[hWX];exact MN _ _);have XI:=aa (HX.o.bel BX.o);have BW2:=aa (ab (B2.o _ _) (ab BW1.o BX.o));obtain⟨q0,q1,q2,q3,q4,-⟩:=lr (bR (ab BW1.o BX.o) (fb w (.cells #[.int .i64 LQ.kind,.int .i64 LQ.n,.string ⟨LQ.s.toArray⟩,.slice a1 LQ.keys.length c1,.slice a2 LQ.l.length c2,.slice a3 L.length c3] 138) _));rw[<-hWX];clear hWX HX BX BW1;go_upto_region 3 with (go_at_call 106;refine(S2.o _ BW2.o).mono ?_;rintro e w2 ⟨r,rfl,hb2,hr⟩;obtain⟨u1,u2,z1,z2,rfl⟩:=hr.form;have HY:=aa hr;have BY1:=aa hb2;clear hb2 hr)
 obtain⟨WY,hWY⟩:∃ W,W=w2.alloc (.cells (KV y u1 z1 u2 z2) 39):=⟨_,rfl⟩
 have BY:Ll (La w2 WY):=aa (by rw[hWY];exact ae _ _);have YB:Ll (KY WY w2.heap.size y u1 z1 u2 z2):=aa (by rw[hWY];exact MN _ _);have YI:=aa (HY.o.bel BY.o);have XI2:=aa (XI.o.bel (ab BY1.o BY.o));have XB2:=aa (af (ab BY1.o BY.o) XB.o);have BW3:=aa (ab BW2.o (ab BY1.o BY.o));rw[<-hWY];clear hWY HY BY BY1 q0 q1 q2 q3 q4 XB XI;have p0_:=XB2.o.c;have r0_:=YB.o.c;cases there with
 | false=>
  have R:=aa (R1.o rfl);go_wp2
  go_ret;exact⟨by rw[R.o];rfl,BW3.o⟩
 | true=>
  have SM:=aa (lP WY ok' ok x y _ _ XI2.o YI.o HC.o);have PB:Ll (∀ W,La WY W->KY W w1.heap.size x x1 y1 x2 y2/\KY W w2.heap.size y u1 z1 u2 z2):=fun W hW=>⟨af hW XB2.o,af hW YB.o⟩;by_cases hxy:x=y
  ·have R:=aa (R2.o rfl (.inl hxy));have HXY:=aa hxy;clear hxy;go_wp2_with (go_at_call 26;refine SM.o.mono ?_;rintro e w3 ⟨r,rfl,hr,hb⟩;have hrt:=hr.2 HXY.o;subst hrt;clear hr;have B3:=aa (ab BW3.o hb);clear hb)
   go_ret;exact⟨by rw[R.o];rfl,B3.o⟩
  ·by_cases hk:x.kind=5
   ·have e1:(x.kind == 5)=true:=by simp[hk]
    by_cases hk2:y.kind=5
    ·have e2:(y.kind == 5)=true:=by simp[hk2]
     have R:=aa (R2.o rfl (.inr ⟨hk,hk2⟩));have NXY:=aa hxy;clear hk hk2 hxy;go_wp2_with (go_at_call 26;refine SM.o.mono ?_;rintro e w3 ⟨r,rfl,hr,hb⟩;have hrt:r=false:=(by cases r;rfl;exact absurd (hr.1 rfl) NXY.o);subst hrt;clear hr;have B3:=aa (ab BW3.o hb);obtain⟨g0,-⟩:=(PB.o _ hb).1.c;obtain⟨g1,-⟩:=(PB.o _ hb).2.c;clear hb)
     go_ret;exact⟨by rw[R.o];rfl,B3.o⟩
    ·have e2:(y.kind == 5)=false:=by rw[MO];exact hk2
     have R:=aa (R4.o rfl (fun h9=>h9.elim hxy (fun h8=>hk2 h8.2)));have NXY:=aa hxy;clear hk hk2 hxy;go_wp2_with (go_at_call 26;refine SM.o.mono ?_;rintro e w3 ⟨r,rfl,hr,hb⟩;have hrt:r=false:=(by cases r;rfl;exact absurd (hr.1 rfl) NXY.o);subst hrt;clear hr;have B3:=aa (ab BW3.o hb);obtain⟨g0,-⟩:=(PB.o _ hb).1.c;obtain⟨g1,-⟩:=(PB.o _ hb).2.c;clear hb)
     go_ret;exact⟨by rw[R.o];rfl,B3.o⟩
   ·have e1:(x.kind == 5)=false:=by rw[MO];exact hk
    have R:=aa (R4.o rfl (fun h9=>h9.elim hxy (fun h8=>hk h8.1)));have NXY:=aa hxy;clear hk hxy;go_wp2_with (go_at_call 26;refine SM.o.mono ?_;rintro e w3 ⟨r,rfl,hr,hb⟩;have hrt:r=false:=(by cases r;rfl;exact absurd (hr.1 rfl) NXY.o);subst hrt;clear hr;have B3:=aa (ab BW3.o hb);obtain⟨g0,-⟩:=(PB.o _ hb).1.c;obtain⟨g1,-⟩:=(PB.o _ hb).2.c;clear hb)
    go_ret;exact⟨by rw[R.o];rfl,B3.o⟩
theorem oB(w p q):Calls prog 128 #[.string ⟨p.toArray⟩,.string ⟨q.toArray⟩] w fun e w'=>e=.returned (.bool (aboveP p q))/\w'=w:=FL w p q
theorem Hm(w cz p gp)(hc:w.cell? ⟨gp,0,none⟩=some (.string ⟨p.toArray⟩)):Calls prog 127 #[.string ⟨cz.toArray⟩,.pointer (some ⟨gp,0,none⟩)] w fun e w'=>e=.returned (.bool (aboveP cz p || aboveP p cz))/\w'=w:=by
 have A1:=oB w cz p;have A2:=oB w p cz;generalize aboveP cz p=o1 at A1 ⊢;generalize aboveP p cz=o2 at A2 ⊢;cases o1 with
 | true=>
  go_enter func127,ntmps127;go_wp2_with fail
  refine A1.mono ?_;rintro e w1 ⟨rfl,hw⟩;have hw':=hw.symm;subst hw';clear hw A1 A2;go_wp2_with fail
  go_ret;exact⟨rfl,rfl⟩
 | false=>
  go_enter func127,ntmps127;go_wp2_with fail
  refine A1.mono ?_;rintro e w1 ⟨rfl,hw⟩;have hw':=hw.symm;subst hw';clear hw A1;go_wp2_with fail
  refine A2.mono ?_;rintro e w2 ⟨rfl,hw⟩;have hw':=hw.symm;subst hw';clear hw A2;go_wp2_with fail
  go_ret;exact⟨by first | rfl | (simp;done) | (simp;rfl),rfl⟩
theorem vG:∀ args w,(callFunc 127 args).run prog w=.ok (.enter 127 args) w:=enters_of func127 (by kernel_rfl) rfl
theorem Gb{LQ}(hk:LQ.kind=5)(hg:aE LQ=true):(au LQ).length < 4611686018427387904:=by
 have e:au LQ=ix ((jK 12 LQ).map aU):=if_pos ⟨hk,hg⟩;rw[e,(fU _).length_eq,List.length_map];have h1:=mB 12 LQ;have h2:=df LQ;have h3:=gE (dQ hg);omega
theorem Au:∀ (ns:List Lz) (v x:V),dr ns v=some x->fa x<=fa v
 | [],v,x,h=>by cases h;exact MG _
 | n :: ns,v,x,h=>by
  obtain⟨-,z,hm,hz⟩:=gB h;have h1:=Au ns z x hz;have h2:=pC (lG hm);have h3:=df v;omega
theorem Fe{v}(h:fa v<=2000000000000)(ns):fa ((dr ns v).getD aM)<=2000000000000:=by
 cases e:dr ns v with
 | none=>rw[Option.getD_none,df];simp[aM,cnts]
 | some x=>rw[Option.getD_some];exact MH (Au ns v x e) h
theorem tN(w:LC)(ok ok' LQ t L v vt p)(h:dB w ok LQ L v)(ht:In w ok' t vt)(hp:p.length<=140737488351232)(hM:bj w)(hc:fa t<=2000000000000)(hr:bD L)(hn:L.length < 4611686018427387904):Calls prog 97 #[v,vt,.string ⟨p.toArray⟩] w fun e w'=>e=.returned (.bool (aV LQ t L p))/\La w w':=by
 have HW:=aa h;have HT:=aa ht;have HM:=aa hM;obtain⟨a1,a2,a3,c1,c2,c3,rfl,h1,h2⟩:=h;have H2:=aa h2;obtain⟨b1,b2,d1,d2,rfl⟩:=ht.form;have HL:Ll (∀ W,La w W->Calls prog 124 #[.agg #[.int .i64 LQ.kind,.int .i64 LQ.n,.string ⟨LQ.s.toArray⟩,.slice a1 LQ.keys.length c1,.slice a2 LQ.l.length c2,.slice a3 L.length c3],.string ⟨p.toArray⟩] W fun e w'=>e=.returned (.bool (L.contains p))/\La W w'):=fun W hW=>pN W ok LQ L _ p (HW.o.bel hW) hr hn;have HO:Ll (∀ W,La w W->Calls prog 125 #[.agg #[.int .i64 LQ.kind,.int .i64 LQ.n,.string ⟨LQ.s.toArray⟩,.slice a1 LQ.keys.length c1,.slice a2 LQ.l.length c2,.slice a3 L.length c3],.agg (KV t b1 d1 b2 d2),.string ⟨p.toArray⟩] W fun e w'=>e=.returned (.bool (fK LQ t p))/\La W w'):=fun W hW=>DV W ok ok' LQ t L _ _ p (HW.o.bel hW) (HT.o.bel hW) hp (HM.o.bel hW) (Fe hc _);have HC:Ll (∀ (W:LC) (gp:Nat),La w W->W.cell? ⟨gp,0,none⟩=some (.string ⟨p.toArray⟩)->Calls prog 126 #[.slice a3 L.length c3,.func (.func 127) #[] #[.pointer (some ⟨gp,0,none⟩)]] W fun e w'=>e=.returned (.bool (L.any fun q=>aboveP q p || aboveP p q))/\La W w'):=fun W gp hW hcl=>l9 W ok L _ _ _ _ (H2.o.imp fun a x h1 h2=>⟨h1,ah hW h2⟩) vG (fun W2 x hb _=>(Hm W2 x p gp (ah hb hcl)).mono fun e w' h=>⟨h.1,by rw[h.2];exact MK _ _⟩);have B3:Ll (∀ o1 o2 o3,La w (((w.alloc o1).alloc o2).alloc o3)):=fun o1 o2 o3=>ab (ab (ae _ _) (ae _ _)) (ae _ _);clear h1 h2 ht hM hc hr hn;have R:Ll (aV LQ t L p=if L.contains p then fK LQ t p else L.any fun q=>aboveP q p || aboveP p q):=aa rfl;generalize aV LQ t L p=o9 at R ⊢;generalize fK LQ t p=o1 at HO R;generalize (L.any fun q=>aboveP q p || aboveP p q)=o2 at HC R;obtain⟨W3,hW3⟩:∃ W,W=((w.alloc (.cells #[.int .i64 LQ.kind,.int .i64 LQ.n,.string ⟨LQ.s.toArray⟩,.slice a1 LQ.keys.length c1,.slice a2 LQ.l.length c2,.slice a3 L.length c3] 138)).alloc (.cells (KV t b1 d1 b2 d2) 39)).alloc (.cells #[.string ⟨p.toArray⟩] 9):=⟨_,rfl⟩
 have BW:Ll (La w W3):=aa (by rw[hW3];exact B3.o _ _ _);have X1:Ll (W3.heap[w.heap.size]?=some (.cells #[.int .i64 LQ.kind,.int .i64 LQ.n,.string ⟨LQ.s.toArray⟩,.slice a1 LQ.keys.length c1,.slice a2 LQ.l.length c2,.slice a3 L.length c3] 138)):=aa (by rw[hW3];exact lI _ _ _ _);have X2:Ll (KY W3 (w.heap.size+1) t b1 d1 b2 d2):=aa (by rw[hW3];exact mE _ _ _ _);have X3:Ll (W3.cell? ⟨w.heap.size+2,0,none⟩=some (.string ⟨p.toArray⟩)):=aa (by
  have h9:W3.heap[w.heap.size+2]?=some (.cells #[.string ⟨p.toArray⟩] 9):=by rw[hW3];exact jI _ _ _ _
  simp[World.cell?,h9])
 have HW3:=aa hW3;clear hW3;have FX:Ll (∀ W,La W3 W->W.cell? ⟨w.heap.size+2,0,none⟩=some (.string ⟨p.toArray⟩)):=fun W hW=>ah hW X3.o;go_enter func97,ntmps97;go_upto_region 1 with fail
 rw[<-HW3.o];obtain⟨q0,q1,q2,q3,q4,q5⟩:=lr X1.o;have q6:=X3.o;cases hc:L.contains p with
 | true=>
  have R2:Ll (o9=o1):=aa (by rw[R.o,hc];rfl);have HL2:=aa (HL.o W3 BW.o);rw[hc]at HL2;clear hc;go_upto_region 2 with (go_at_call 124;refine HL2.o.mono ?_;rintro e w4 ⟨rfl,hb4⟩;have B4:=aa hb4;clear hb4 q0 q1 q2 q3 q4 q5 q6)
  have BW4:=aa (ab BW.o B4.o);obtain⟨q0,q1,q2,q3,q4,q5⟩:=lr (bR B4.o X1.o);have p0_:=(af B4.o X2.o).c;have q6:=FX.o _ B4.o;go_wp2_with (go_at_call 125;refine Lk (HO.o _ BW4.o) fun w5 hb5=>?_;have B5:=aa (ab BW4.o hb5);clear hb5)
  go_ret;exact⟨by rw[R2.o];rfl,B5.o⟩
 | false=>
  have R2:Ll (o9=o2):=aa (by rw[R.o,hc];rfl);have HL2:=aa (HL.o W3 BW.o);rw[hc]at HL2;clear hc;go_upto_region 3 with (go_at_call 124;refine HL2.o.mono ?_;rintro e w4 ⟨rfl,hb4⟩;have B4:=aa hb4;clear hb4 q0 q1 q2 q3 q4 q5 q6)
  have BW4:=aa (ab BW.o B4.o);obtain⟨q0,q1,q2,q3,q4,q5⟩:=lr (bR B4.o X1.o);have q6:=aa (FX.o _ B4.o);go_wp2_with (go_at_call 126;refine Lk (HC.o _ _ BW4.o q6.o) fun w5 hb5=>?_;have B5:=aa (ab BW4.o hb5);clear hb5)
  go_ret;exact⟨by rw[R2.o];rfl,B5.o⟩
theorem DB(w q p gp)(hc:w.cell? ⟨gp,0,none⟩=some (.string ⟨p.toArray⟩)):Calls prog 162 #[.string ⟨q.toArray⟩,.pointer (some ⟨gp,0,none⟩)] w fun e w'=>e=.returned (.bool (q == p || aboveP q p || aboveP p q))/\w'=w:=by
 have A1:=oB w q p;have A2:=oB w p q;generalize aboveP q p=o1 at A1 ⊢;generalize aboveP p q=o2 at A2 ⊢;cases hqp:q == p with
 | true=>
  have e1:((ByteArray.mk q.toArray) == (ByteArray.mk p.toArray))=true:=zN (by simpa using hqp);go_enter func162,ntmps162;go_wp2_with fail
  go_ret;exact⟨by first | done | rfl | simp,rfl⟩
 | false=>
  have e1:((ByteArray.mk q.toArray) == (ByteArray.mk p.toArray))=false:=Aq (by simpa using hqp);cases o1 with
  | true=>
   go_enter func162,ntmps162;go_wp2_with fail
   refine A1.mono ?_;rintro e w1 ⟨rfl,hw⟩;have hw':=hw.symm;subst hw';clear hw A1 A2;go_wp2_with fail
   go_ret;exact⟨by first | done | rfl | simp,rfl⟩
  | false=>
   go_enter func162,ntmps162;go_wp2_with fail
   refine A1.mono ?_;rintro e w1 ⟨rfl,hw⟩;have hw':=hw.symm;subst hw';clear hw A1;go_wp2_with fail
   refine A2.mono ?_;rintro e w2 ⟨rfl,hw⟩;have hw':=hw.symm;subst hw';clear hw A2;go_wp2_with fail
   go_ret;exact⟨by first | done | rfl | (simp;rfl),rfl⟩
theorem qS:∀ args w,(callFunc 162 args).run prog w=.ok (.enter 162 args) w:=enters_of func162 (by kernel_rfl) rfl
theorem tv:∀ args w,(callFunc 161 args).run prog w=.ok (.enter 161 args) w:=enters_of func161 (by kernel_rfl) rfl
theorem DU(w:LC)(ok)(o:aL)(pa)(pc:Nat)(p:Lz)(gp:Nat)(hs:ao w ok o.paths (.slice pa o.paths.length pc))(hc:w.cell? ⟨gp,0,none⟩=some (.string ⟨p.toArray⟩)):Calls prog 161 #[.agg #[.string ⟨o.name.toArray⟩,.slice pa o.paths.length pc],.pointer (some ⟨gp,0,none⟩)] w fun e w'=>e=.returned (.bool (o.paths.any fun q=>q == p || aboveP q p || aboveP p q))/\La w w':=by
 have ll:=hs.1;unfold maxLen at ll;have HC:Ll (∀ (W:LC),La w W->Calls prog 126 #[.slice pa o.paths.length pc,.func (.func 162) #[] #[.pointer (some ⟨gp,0,none⟩)]] W fun e w'=>e=.returned (.bool (o.paths.any fun q=>q == p || aboveP q p || aboveP p q))/\La W w'):=fun W hW=>l9 W ok o.paths _ _ _ _ (hs.imp fun a x h1 h2=>⟨h1,ah hW h2⟩) qS (fun W2 x hb _=>(DB W2 x p gp (ah hb (ah hW hc))).mono fun e w' h=>⟨h.1,by rw[h.2];exact MK _ _⟩);generalize (o.paths.any fun q=>q == p || aboveP q p || aboveP p q)=o2 at HC ⊢;clear hs hc;go_enter func161,ntmps161;go_wp2_with (go_at_call 126;refine Lk (HC.o _ (ae _ _)) fun w5 hb5=>?_;have B5:=aa (ab (ae _ _) hb5);clear hb5)
 go_ret;exact⟨rfl,B5.o⟩
theorem tH(w ok l v p)(h:aB w ok l v):Calls prog 131 #[v,.string ⟨p.toArray⟩] w fun e w'=>e=.returned (.bool (concF l p))/\La w w':=by
 obtain⟨a,c,rfl⟩:=h.form;have ll:=h.1;unfold maxLen at ll;have HC:Ll (∀ (W:LC) (gp:Nat),La w W->W.cell? ⟨gp,0,none⟩=some (.string ⟨p.toArray⟩)->Calls prog 160 #[.slice a l.length c,.func (.func 161) #[] #[.pointer (some ⟨gp,0,none⟩)]] W fun e w'=>e=.returned (.bool (concF l p))/\La W w'):=fun W gp hW hcl=>sU W ok l _ _ _ _ (h.bel hW) tv (fun W2 x pa pc hb _ hs=>DU W2 ok x pa pc p gp hs (ah hb hcl));have CP:Ll ((w.alloc (.cells #[.string ⟨p.toArray⟩] 9)).cell? ⟨w.heap.size,0,none⟩=some (.string ⟨p.toArray⟩)):=aa (by
  have h9:=MN w (.cells #[.string ⟨p.toArray⟩] 9);generalize w.alloc (.cells #[.string ⟨p.toArray⟩] 9)=W2 at h9;simp[World.cell?,h9])
 generalize concF l p=o2 at HC ⊢;clear h;go_enter func131,ntmps131;go_wp2_with (go_at_call 160;refine Lk (HC.o _ _ (ae _ _) CP.o) fun w5 hb5=>?_;have B5:=aa (ab (ae _ _) hb5);clear hb5)
 go_ret;exact⟨rfl,B5.o⟩
variable {W w0:World}
variable {B n:Nat}
theorem Te:(prog.info? 161).map (fun i=>(i.zero,i.size,i.bytes))=some (some (.agg #[.string ⟨#[]⟩,.string ⟨#[]⟩]),2,32):=by kernel_rfl
theorem Sn:(prog.info? 47).map (fun i=>(i.zero,i.size,i.bytes))=some (some (.agg #[.string ⟨#[]⟩,.slice none 0 0]),2,40):=by kernel_rfl
theorem Dl{cs nb k q}(ho:W.ownsRow B 161 2 v n cs)(hnb:W.heap[nb]?=some (.cells #[.string k,.string q] 161))(hn:n<=4000000)(hB:B<=W.heap.size)(ty:TypeId):∃ g cap W',(Builtin.append_ #[121,121] ty #[v,.slice (some ⟨nb,0,none⟩) 1 1]).run prog W=.ok (.slice (some ⟨g,0,none⟩) (n+1) cap) W'/\W'.ownsRow B 161 2 (.slice (some ⟨g,0,none⟩) (n+1) cap) (n+1) (cs++[.string k,.string q])/\W.grownBy W' v.ownBlock/\(v.ownBlock=some g\/W.heap.size=g):=by
 obtain⟨i0,hi,hz0,hz1,hz2⟩:=info_parts Te;obtain⟨g,cap,W',hr,h1,h2,h3,-⟩:=run_append_lies (P:=prog) W 121 ty B 161 i0 _ 2 32 underlying121 hi hz0 hz1 hz2 rfl (by decide) v n cs ho ⟨nb,0,none⟩ 1 1 [.string k,.string q] rfl
  (World.news_of_block (cs:=#[.string k,.string q]) hnb) (by intro u hu;simp only[List.mem_cons,List.not_mem_nil,or_false]at hu;rcases hu with rfl | rfl <;> rfl) (by decide) (by unfold maxLen;omega) (by omega) hB W.heap.size rfl
 exact⟨g,cap,W',hr,h1,h2,h3.imp id Eq.symm⟩
theorem mW{cs nb k pa pn pc}(ho:W.ownsRow B 47 2 v n cs)(hnb:W.heap[nb]?=some (.cells #[.string k,.slice pa pn pc] 47))(hn:n<=4000000)(hB:B<=W.heap.size)(ty:TypeId):∃ g cap W',(Builtin.append_ #[40,40] ty #[v,.slice (some ⟨nb,0,none⟩) 1 1]).run prog W=.ok (.slice (some ⟨g,0,none⟩) (n+1) cap) W'/\W'.ownsRow B 47 2 (.slice (some ⟨g,0,none⟩) (n+1) cap) (n+1) (cs++[.string k,.slice pa pn pc])/\W.grownBy W' v.ownBlock/\(v.ownBlock=some g\/W.heap.size=g):=by
 obtain⟨i0,hi,hz0,hz1,hz2⟩:=info_parts Sn;obtain⟨g,cap,W',hr,h1,h2,h3,-⟩:=run_append_lies (P:=prog) W 40 ty B 47 i0 _ 2 40 underlying40 hi hz0 hz1 hz2 rfl (by decide) v n cs ho ⟨nb,0,none⟩ 1 1 [.string k,.slice pa pn pc] rfl
  (World.news_of_block (cs:=#[.string k,.slice pa pn pc]) hnb) (by intro u hu;simp only[List.mem_cons,List.not_mem_nil,or_false]at hu;rcases hu with rfl | rfl <;> rfl) (by decide) (by unfold maxLen;omega) (by omega) hB W.heap.size rfl
 exact⟨g,cap,W',hr,h1,h2,h3.imp id Eq.symm⟩
def oz (w0:LC) (L T:TypeId) (sz:Nat) (cells:List Value) (n:Nat) (F:Nat->Prop) (W:LC):Prop:=
 La w0 W/\∃ fv,W.heap[w0.heap.size]?=some (.cells #[fv] L)/\W.ownsRow (w0.heap.size+1) T sz fv n cells/\∀ k,F k->k≠w0.heap.size/\some k≠fv.ownBlock
theorem oz.bel{L T:TypeId}{sz cells F W'}(h:oz w0 L T sz cells n F W)(hb:La W W'):oz w0 L T sz cells n F W':=by
 obtain⟨h1,fv,h2,h3,h4⟩:=h;exact⟨h1.trans (hb.mono h1.size),fv,bR hb h2,bM h3 fun g hg=>hb.block g (bY h3 hg).2,h4⟩
theorem oz.alloc{L T:TypeId}{sz cells F}(h:oz w0 L T sz cells n F W)(o:Obj):oz w0 L T sz cells n (fun k=>F k\/k=W.heap.size) (W.alloc o):=by
 obtain⟨h1,fv,h2,h3,h4⟩:=h.bel (ae W o);obtain⟨-,fv',h2',h3',-⟩:=h;refine⟨h1,fv,h2,h3,fun k hk=>?_⟩;rcases hk with hk | rfl
 ·exact h4 k hk
 ·have e:fv=fv':=by
   have:=bR (ae W o) h2';rw[h2]at this;simp only[Option.some.injEq,Obj.cells.injEq,Array.mk.injEq,List.cons.injEq,and_true]at this;exact this
  subst e;have hlt:=(MF.1 h2').1;exact⟨by omega,fun e=>by have:=(bY h3' e.symm).2;omega⟩
theorem oz.low{L T:TypeId}{sz cells F G}(h:oz w0 L T sz cells n F W)(hk:∀ k,G k->F k):oz w0 L T sz cells n G W:=by
 obtain⟨h1,fv,h2,h3,h4⟩:=h;exact⟨h1,fv,h2,h3,fun k hg=>h4 k (hk k hg)⟩
theorem Cc(w0)(L T:TypeId)(sz):oz w0 L T sz [] 0 (fun k=>k < w0.heap.size) (w0.alloc (.cells #[.slice none 0 0] L)):=
 ⟨ae _ _,_,MN _ _,World.ownsRow_nil _ _ _ _,fun k hk=>⟨by omega,by simp[Value.ownBlock]⟩⟩
theorem Gv{L T:TypeId}{sz cells news F wc W'}{o:Obj}{fv cap}(h1:La w0 wc)(h2:wc.heap[w0.heap.size]?=some (.cells #[fv] L))(h3:wc.ownsRow (w0.heap.size+1) T sz fv n cells)(h4:∀ k,F k->k≠w0.heap.size/\some k≠fv.ownBlock)(ho:W'.ownsRow (w0.heap.size+1) T sz (.slice (some ⟨g,0,none⟩) (n+1) cap) (n+1) (cells++news))(hg:(wc.alloc o).grownBy W' fv.ownBlock)(hf:fv.ownBlock=some g\/(wc.alloc o).heap.size=g)(hF:∀ k,F k->k < wc.heap.size):oz w0 L T sz (cells++news) (n+1) F (W'.setCell ⟨w0.heap.size,0,none⟩ (.slice (some ⟨g,0,none⟩) (n+1) cap))/\wc.heap.size<=(W'.setCell ⟨w0.heap.size,0,none⟩ (.slice (some ⟨g,0,none⟩) (n+1) cap)).heap.size/\∀ k,F k->k < wc.heap.size->(W'.setCell ⟨w0.heap.size,0,none⟩ (.slice (some ⟨g,0,none⟩) (n+1) cap)).heap[k]?=wc.heap[k]?:=by
 have ha:=ae wc o;have hgo:=(bY ho (g:=g) rfl).1;have hgl:w0.heap.size < wc.heap.size:=(MF.1 h2).1;have hrow:∀ k,fv.ownBlock=some k->w0.heap.size+1<=k:=fun k hk=>(bY h3 hk).1;have hW:∀ k,k < wc.heap.size->some k≠fv.ownBlock->W'.heap[k]?=wc.heap[k]?:=fun k hk hr=>by
  rw[hg.block k (MI hk ha.size) hr,ha.block k hk]
 have hbox:W'.heap[w0.heap.size]?=some (.cells #[fv] L):=by
  rw[hW _ hgl (fun e=>by have:=hrow _ e.symm;omega),h2]
 have hset:∀ k,k≠w0.heap.size->(W'.setCell ⟨w0.heap.size,0,none⟩ (.slice (some ⟨g,0,none⟩) (n+1) cap)).heap[k]?=W'.heap[k]?:=fun k hk=>Below.heap_setCell W' ⟨w0.heap.size,0,none⟩ _ k hk;have L9:wc.heap.size<=(W'.setCell ⟨w0.heap.size,0,none⟩ (.slice (some ⟨g,0,none⟩) (n+1) cap)).heap.size:=by
  have h1:=ha.size;have h2:=hg.size;simp only[World.setCell,Array.size_modify];omega
 refine⟨⟨⟨hg.os.trans (ha.os.trans h1.os),hg.tape.trans (ha.tape.trans h1.tape),hg.output.trans (ha.output.trans h1.output),MH h1.size L9,fun k hk=>?_⟩,_,ak hbox 0 _,?_,fun k hk=>⟨(h4 k hk).1,?_⟩⟩,L9,fun k hk hlt=>?_⟩
 ·rw[hset k (by omega),hW k (by omega) (fun e=>by have:=hrow _ e.symm;omega),h1.block k hk]
 ·refine bM ho fun g' hg'=>hset g' ?_;have e9:g=g':=by simpa [Value.ownBlock] using hg'
  omega
 ·have h9:=hF k hk;have h8:=(h4 k hk).2;rcases hf with hf | hf
  ·rw[hf]at h8;simpa [Value.ownBlock] using h8
  ·have:=ha.size;simp only[Value.ownBlock,ne_eq,Option.some.injEq];omega
 ·rw[hset k (h4 k hk).1,hW k hlt (h4 k hk).2]
def jV (cs:List (Lz × Lz)):List Value:=cs.flatMap fun c=>[.string ⟨c.1.toArray⟩,.string ⟨c.2.toArray⟩]
def jN (who:Lz) (blk:Lz->Bool) (d:List (Lz × Lz)):List (Lz × Lz):=d.filter fun c=>c.1 != who&&blk c.2
theorem yO(blk:Lz->Bool)(who l):eu blk who l=jN who blk (bA l):=by
 unfold eu jN bA;rw[List.filter_flatMap];congr 1
 funext o
 rw[List.filter_map];rfl
def Fw (w0:LC) (who:Lz) (blk:Lz->Bool) (N:Nat) (d:List (Lz × Lz)) (F:Nat->Prop) (W:LC):Prop:=
 oz w0 121 161 2 (jV (jN who blk d)) (jN who blk d).length F W/\(∀ k,F k->k < W.heap.size)
structure ri (w0:LC) (ok ok':Nat->Prop) (who:Lz) (LQ t:V) (L:List Lz) (g2 g9 g4:Nat) (a1 a2 a3 b1 b2:Option Addr) (c1 c2 c3 d1 d2:Nat):Prop where
 who:w0.cell? ⟨g2,0,none⟩=some (.string ⟨who.toArray⟩)
 wish:w0.heap[g9]?=some (.cells #[.int .i64 LQ.kind,.int .i64 LQ.n,.string ⟨LQ.s.toArray⟩,.slice a1 LQ.keys.length c1,.slice a2 LQ.l.length c2,.slice a3 L.length c3] 138)
 val:KY w0 g4 t b1 d1 b2 d2
 isWish:dB w0 ok LQ L (.agg #[.int .i64 LQ.kind,.int .i64 LQ.n,.string ⟨LQ.s.toArray⟩,.slice a1 LQ.keys.length c1,.slice a2 LQ.l.length c2,.slice a3 L.length c3])
 isVal:In w0 ok' t (.agg (KV t b1 d1 b2 d2))
 glob:bj w0
 cnts:fa t<=2000000000000
 rises:bD L
 len:L.length < 4611686018427387904
theorem ri.bel{w1:LC}{who LQ L g2 g9 g4 a1 a2 a3 b1 b2 c1 c2 c3 d1 d2}(h:ri w0 ok ok' who LQ t L g2 g9 g4 a1 a2 a3 b1 b2 c1 c2 c3 d1 d2)(hb:La w0 w1):ri w1 ok ok' who LQ t L g2 g9 g4 a1 a2 a3 b1 b2 c1 c2 c3 d1 d2:=
 ⟨ah hb h.who,bR hb h.wish,af hb h.val,h.isWish.bel hb,h.isVal.bel hb,h.glob.bel hb,h.cnts,h.rises,h.len⟩
theorem ri.blocked{who LQ L g2 g9 g4 a1 a2 a3 b1 b2 c1 c2 c3 d1 d2}(h:ri w0 ok ok' who LQ t L g2 g9 g4 a1 a2 a3 b1 b2 c1 c2 c3 d1 d2)(p)(hp:p.length<=140737488351232):Calls prog 97 #[.agg #[.int .i64 LQ.kind,.int .i64 LQ.n,.string ⟨LQ.s.toArray⟩,.slice a1 LQ.keys.length c1,.slice a2 LQ.l.length c2,.slice a3 L.length c3],.agg (KV t b1 d1 b2 d2),.string ⟨p.toArray⟩] w0 fun e w'=>e=.returned (.bool (aV LQ t L p))/\La w0 w':=
 tN w0 ok ok' LQ t L _ _ p h.isWish h.isVal hp h.glob h.cnts h.rises h.len
theorem Ci(who)(blk:Lz->Bool)(d:List (Lz × Lz))(n p):jN who blk (d++[(n,p)])=if (n != who&&blk p)=true then jN who blk d++[(n,p)] else jN who blk d:=by
 unfold jN;rw[List.filter_append];cases h:(n != who&&blk p) with
 | true=>simp[h]
 | false=>simp[h]
theorem EO(w0 W:LC)(ok ok' who LQ t L g2 g9 g4 a1 a2 a3 b1 b2 c1 c2 c3 d1 d2 N)(d:List (Lz × Lz))(F n p)(hc:ri w0 ok ok' who LQ t L g2 g9 g4 a1 a2 a3 b1 b2 c1 c2 c3 d1 d2)(hI:Fw w0 who (aV LQ t L) N d F W)(hN:d.length<=4000000)(hp:p.length<=140737488351232):Calls prog 121 #[.string ⟨n.toArray⟩,.string ⟨p.toArray⟩,.pointer (some ⟨g2,0,none⟩),.pointer (some ⟨g9,0,none⟩),.pointer (some ⟨g4,0,none⟩),.pointer (some ⟨w0.heap.size,0,none⟩)] W fun e w'=>e=.returned (.tuple #[])/\Fw w0 who (aV LQ t L) N (d++[(n,p)]) F w'/\W.heap.size<=w'.heap.size/\∀ k,F k->k < W.heap.size->w'.heap[k]?=W.heap[k]?:=by
 have C:=aa (hc.bel hI.1.1);have HI:=aa hI;have PS:=aa (Ci who (aV LQ t L) d n p);have PL:Ll ((jN who (aV LQ t L) d).length<=4000000):=MH (List.length_filter_le _ _) hN;have BK:=aa (C.o.blocked p hp);have q9:=C.o.who;obtain⟨x0,x1,x2,x3,x4,x5⟩:=lr C.o.wish;have y0_:=C.o.val.c;clear hc hI;by_cases hn:n=who
 ·have R:Ll (jN who (aV LQ t L) (d++[(n,p)])=jN who (aV LQ t L) d):=aa (by rw[PS.o,if_neg (by simp[hn])]);subst hn;go_enter func121,ntmps121;go_wp2
  go_end0
  exact⟨rfl,by unfold Fw;rw[R.o];exact HI.o,MG _,fun _ _ _=>rfl⟩
 ·have e3:Ll ((n != who)=true):=aa (by simpa using hn);have e9:(n == who)=false:=by simpa using hn
  generalize hblk:aV LQ t L=blk at *;clear hblk;obtain⟨o,ho⟩:∃ o,blk p=o:=⟨_,rfl⟩
  rw[ho,e3.o]at PS;rw[ho]at BK;clear ho;cases o with
  | false=>
   have R:Ll (jN who blk (d++[(n,p)])=jN who blk d):=aa (by rw[PS.o];rfl);go_enter func121,ntmps121;go_wp2_with (go_at_call 97;refine BK.o.mono ?_;rintro e w1 ⟨rfl,hb⟩;have B1:=aa hb;clear hb)
   go_end0
   exact⟨rfl,by unfold Fw;rw[R.o];exact⟨HI.o.1.bel B1.o,fun k hk=>MI (HI.o.2 k hk) B1.o.size⟩,B1.o.size,fun k hk hlt=>B1.o.block k hlt⟩
  | true=>
   have R:Ll (jN who blk (d++[(n,p)])=jN who blk d++[(n,p)]):=aa (by rw[PS.o];rfl);go_enter func121,ntmps121;go_upto_region 1 with (go_at_call 97;refine BK.o.mono ?_;rintro e w1 ⟨rfl,hb⟩;have B1:=aa hb;clear hb)
   clear q9 x0 x1 x2 x3 x4 x5;have HI1:=aa (HI.o.1.bel B1.o);have F1:Ll (∀ k,F k->k < w1.heap.size):=fun k hk=>MI (HI.o.2 k hk) B1.o.size;obtain⟨r1,fv,r2,r3,r4⟩:=HI1.o;obtain⟨PP,hPP⟩:∃ PP,jN who blk d=PP:=⟨_,rfl⟩
   rw[hPP]at r3 PL;obtain⟨g7,c7,W7,hR,ho7,hg7,hf7⟩:=Dl (W:=w1.alloc (.cells #[.string ⟨n.toArray⟩,.string ⟨p.toArray⟩] 161)) (B:=w0.heap.size+1) (v:=fv) (n:=PP.length) (cs:=jV PP) (nb:=w1.heap.size) (k:=⟨n.toArray⟩) (q:=⟨p.toArray⟩) (bM r3 fun g hg=>(ae _ _).block g (bY r3 hg).2) (MN _ _) PL.o (by have:=(ae w1 (.cells #[.string ⟨n.toArray⟩,.string ⟨p.toArray⟩] 161)).size;have:=(MF.1 r2).1;omega) 121;have FIN:=aa (Gv r1 r2 r3 r4 ho7 hg7 hf7 F1.o);have HR:=aa hR;have hgl:w0.heap.size < w1.heap.size:=(MF.1 r2).1;have c0:w1.cell? ⟨w0.heap.size,0,none⟩=some fv:=by simp[World.cell?,r2]
   have c0a:∀ o,(w1.alloc o).cell? ⟨w0.heap.size,0,none⟩=some fv:=fun o=>ah (ae _ _) c0;have hb7:W7.heap[w0.heap.size]?=some (.cells #[fv] 121):=by
    rw[hg7.block _ (MI hgl (ae w1 _).size) (fun e=>by have:=(bY r3 e.symm).1;omega),(ae w1 _).block _ hgl,r2]
   have c7a:W7.cell? ⟨w0.heap.size,0,none⟩=some fv:=by simp[World.cell?,hb7]
   have c7f:W7.frozen? ⟨w0.heap.size,0,none⟩=false:=by simp[World.frozen?,hb7]
   obtain⟨sa,sn,sc,hsv⟩:∃ sa sn sc,fv=.slice sa sn sc:=by
    rcases r3.2 with⟨h9,-⟩ | ⟨_,_,_,h9,-⟩
    ·exact⟨_,_,_,h9⟩
    ·exact⟨_,_,_,h9⟩
   subst hsv;have HPP:=aa hPP;clear hPP r1 r2 r3 r4 hR ho7 hg7 hf7 hb7;go_wp2_with (at_builtin;go_must (refine Lib.wpList_append_run _ rfl _ _ _ _ rfl (.slice sa sn sc) (.slice (some ⟨w1.heap.size,0,none⟩) 1 1) rfl rfl _ _ HR.o ?_);refine Ll.o ?_)
   refine aa ?_;go_wp2
   go_end0
   refine⟨rfl,⟨?_,fun k hk=>MI (F1.o k hk) FIN.o.2.1⟩,MH B1.o.size FIN.o.2.1,fun k hk hlt=>?_⟩
   ·rw[R.o,HPP.o];have:=FIN.o.1;simpa [jV] using this
   ·rw[FIN.o.2.2 k hk (MI hlt B1.o.size),B1.o.block k hlt]
theorem tX:∀ args w,(callFunc 121 args).run prog w=.ok (.enter 121 args) w:=enters_of func121 (by kernel_rfl) rfl
section
def rD (w:LC) (g:Nat) (d0 d1 d2 d3 d4 d5:Value):LC:=
 (((((w.setCell ⟨g,0,none⟩ d0).setCell ⟨g,1,none⟩ d1).setCell ⟨g,2,none⟩ d2).setCell ⟨g,3,none⟩ d3).setCell ⟨g,4,none⟩ d4).setCell ⟨g,5,none⟩ d5
theorem Kl{a b c d e f}{t:TypeId}(h:w.heap[g]?=some (.cells #[a,b,c,d,e,f] t)):w.cell? ⟨g,0,none⟩=some a/\w.cell? ⟨g,1,none⟩=some b/\w.cell? ⟨g,2,none⟩=some c/\w.cell? ⟨g,3,none⟩=some d/\w.cell? ⟨g,4,none⟩=some e/\w.cell? ⟨g,5,none⟩=some f /\
 w.frozen? ⟨g,0,none⟩=false/\w.frozen? ⟨g,1,none⟩=false/\w.frozen? ⟨g,2,none⟩=false/\w.frozen? ⟨g,3,none⟩=false/\w.frozen? ⟨g,4,none⟩=false/\w.frozen? ⟨g,5,none⟩=false:=by
 refine⟨?_,?_,?_,?_,?_,?_,?_,?_,?_,?_,?_,?_⟩ <;> simp[World.cell?,World.frozen?,h]
theorem E6{a b c d e f}{t:TypeId}(h:w.heap[g]?=some (.cells #[a,b,c,d,e,f] t))(d0 d1 d2 d3 d4 d5):(rD w g d0 d1 d2 d3 d4 d5).heap[g]?=some (.cells #[d0,d1,d2,d3,d4,d5] t):=
 ak (ak (ak (ak (ak (ak h 0 d0) 1 d1) 2 d2) 3 d3) 4 d4) 5 d5
theorem xf(w:LC)(g d0 d1 d2 d3 d4 d5):w.grownBy (rD w g d0 d1 d2 d3 d4 d5) (some g):=
 ap (ap (ap (ap (ap (ap (az _ _) _ _) _ _) _ _) _ _) _ _) _ _
theorem BI{w1}(h:La w w1)(hg:w.heap.size<=g)(d0 d1 d2 d3 d4 d5):La w (rD w1 g d0 d1 d2 d3 d4 d5):=by
 have k:=xf w1 g d0 d1 d2 d3 d4 d5;exact⟨k.os.trans h.os,k.tape.trans h.tape,k.output.trans h.output,MH h.size k.size,fun i hi=>(k.block i (MI hi h.size) (by simp;omega)).trans (h.block i hi)⟩
theorem xu{W2:LC}{L d0 d1 d2 d3 d4}{T:TypeId}(h:ao W (fun k=>W2.heap.size<=k) L v)(hs:((w.alloc (.cells #[d0,d1,d2,d3,d4] 39)).alloc (.cells #[.int .i64 0,.int .i64 0,.string ⟨#[]⟩,.slice none 0 0,.slice none 0 0,.slice none 0 0] 138)).heap.size<=W2.heap.size){e0 e1 e2 e3 e4 e5}(_:(rD W (w.heap.size+1) e0 e1 e2 e3 e4 e5).heap[w.heap.size+1]?=some (.cells #[e0,e1,e2,e3,e4,e5] T)):ao (rD W (w.heap.size+1) e0 e1 e2 e3 e4 e5) (bQ ok w.heap.size) L v:=by
 refine h.imp fun a x h1 h2=>⟨.inr ?_,?_⟩
 ·simp at hs;omega
 ·rw[World.cell?_of_block ((xf W (w.heap.size+1) e0 e1 e2 e3 e4 e5).block _ (World.block_lt_of_cell? _ _ h2) (by simp at hs;simp;omega))];exact h2
attribute [local go_sem ↓] Go.wp_at_zero Go.wp_at_succ
theorem rQ(w:LC)(ok t v)(h:In w ok t v)(hM:bj w):Calls prog 94 #[v] w fun e w'=>∃ r,e=.returned r/\dB w' (bQ ok w.heap.size) t (au t) r/\La w w':=by
 have H:=aa h.low;have HM:=aa hM;obtain⟨a1,a2,c1,c2,rfl⟩:=h.form;clear h hM;have B2:Ll (La w ((w.alloc (.cells (KV t a1 c1 a2 c2) 39)).alloc (.cells #[.int .i64 0,.int .i64 0,.string ⟨#[]⟩,.slice none 0 0,.slice none 0 0,.slice none 0 0] 138))):=ab (ae _ _) (ae _ _);have BV:Ll (KY ((w.alloc (.cells (KV t a1 c1 a2 c2) 39)).alloc (.cells #[.int .i64 0,.int .i64 0,.string ⟨#[]⟩,.slice none 0 0,.slice none 0 0,.slice none 0 0] 138)) w.heap.size t a1 c1 a2 c2):=fb w _ _;have BZ:Ll (((w.alloc (.cells (KV t a1 c1 a2 c2) 39)).alloc (.cells #[.int .i64 0,.int .i64 0,.string ⟨#[]⟩,.slice none 0 0,.slice none 0 0,.slice none 0 0] 138)).heap[w.heap.size+1]?=some (.cells #[.int .i64 0,.int .i64 0,.string ⟨#[]⟩,.slice none 0 0,.slice none 0 0,.slice none 0 0] 138)):=et w _ _;go_enter func94,ntmps94;go_upto_region 1 with fail
 refine aD (fun wS=>Below ((w.alloc (.cells (KV t a1 c1 a2 c2) 39)).alloc (.cells #[.int .i64 0,.int .i64 0,.string ⟨#[]⟩,.slice none 0 0,.slice none 0 0,.slice none 0 0] 138)).heap.size ((w.alloc (.cells (KV t a1 c1 a2 c2) 39)).alloc (.cells #[.int .i64 0,.int .i64 0,.string ⟨#[]⟩,.slice none 0 0,.slice none 0 0,.slice none 0 0] 138)) wS) [4] (by kernel_rfl) (aC _ 1) (fun LI=>?_);refine WT.out ?_;iterate 2
  first
   | refine OJ 0 ?_ [3,4] LI ?_ ?_
   | refine OJ 1 ?_ [2,3,4] LI ?_ ?_
  rotate_left
  ·intro wS LN;have u0_:=(af LN BV.o).c;go_simp;all_goals with_reducible rfl
  simp only[av,List.set]
 repeat' (first
  | exact nl
  |(refine ON 2 (fun K hK=>?_) ?_
    go_simp;refine(C6 _ (Lj ok w) t _ (by exact(H.o.bel B2.o).bel LI) (by exact(HM.o.bel B2.o).bel LI)).mono ?_;rintro e w2q ⟨a3,c3,rfl,hst,hb5⟩;refine hK.out _ _ (ab LI hb5) (fun LJ=>?_);have ST:=aa hst;have B5:=aa LJ;have HB5:=aa hb5;have HH:=aa LI;clear hb5 hst;clear hK K;replace LI:=LJ;clear LJ;try simp only[Act.put,Mt,Mu,Mv])
  |(refine OO 4 (fun K hK=>?_)
    have ZB:=aa (bR LI BZ.o);obtain⟨n0,n1,n2,n3,n4,n5,m0,m1,m2,m3,m4,m5⟩:=Kl ZB.o;have FIN:=aa (E6 ZB.o (.int .i64 t.kind) (.int .i64 t.n) (.string ⟨t.s.toArray⟩) (.slice a1 t.keys.length c1) (.slice a2 t.l.length c2) (.slice a3 (au t).length c3));have FB:=aa (BI (ab B2.o LI) (Nat.le_succ w.heap.size) (.int .i64 t.kind) (.int .i64 t.n) (.string ⟨t.s.toArray⟩) (.slice a1 t.keys.length c1) (.slice a2 t.l.length c2) (.slice a3 (au t).length c3));go_simp;refine hK.out _ _ ?_;clear hK K;try simp only[Act.put,Mt,Mu,Mv])
  |(refine OJ 3 ?_ [4] (by exact LI) ?_ ?_
    rotate_left
    ·intro wS LN;go_simp;all_goals with_reducible rfl
    simp only[av,List.set])
  | refine OL [2] ?_
  | fail)
 all_goals
  refine dn (by kernel_rfl) ?_;clear n0 n1 n2 n3 n4 n5 m0 m1 m2 m3 m4 m5;go_wp2
  obtain⟨z0,z1,z2,z3,z4,z5⟩:=lr FIN.o;refine MM (v:=.agg #[.int .i64 t.kind,.int .i64 t.n,.string ⟨t.s.toArray⟩,.slice a1 t.keys.length c1,.slice a2 t.l.length c2,.slice a3 (au t).length c3]) ?_ rfl ?_
  ·simp only[rD]at z0 z1 z2 z3 z4 z5;simp[results,results94,go_sem,z0,z1,z2,z3,z4,z5]
  ·refine⟨_,rfl,⟨a1,a2,a3,c1,c2,c3,rfl,?_,?_⟩,FB.o⟩
   ·exact(H.o.bel FB.o).weak fun k hk=>.inl hk.1
   ·exact xu ST.o HH.o.size FIN.o
end
theorem fq(LQ):bD (au LQ)/\(au LQ).length < 4611686018427387904:=by
 by_cases h:LQ.kind=5/\aE LQ=true
 ·exact⟨(mM h.1 h.2).rises,Gb h.1 h.2⟩
 ·have e:au LQ=[]:=if_neg h;rw[e];exact⟨List.Pairwise.nil,by simp⟩
noncomputable def ld (t:V) (l:List aL) (who:Lz) (LQ:V):List (Lz × Lz):=if aE t=true/\bp l=true then eu (aV LQ t (au LQ)) who l else []
theorem SV{okw okv:Nat->Prop}{who:Lz}{LQ:V}{L:List Lz}{g2 g9 g4:Nat}{a1 a2 a3 b1 b2:Option Addr}{c1 c2 c3 d1 d2:Nat}{l:List aL}{vl:Value}(hc:ri w0 okw okv who LQ t L g2 g9 g4 a1 a2 a3 b1 b2 c1 c2 c3 d1 d2)(hl:aB w0 ok l vl)(hok:∀ k,ok k->k < w0.heap.size)(hN:(bA l).length<=4000000)(hP:∀ o∈l,∀ x∈o.paths,x.length<=140737488351232):ES w0 121 #[.pointer (some ⟨g2,0,none⟩),.pointer (some ⟨g9,0,none⟩),.pointer (some ⟨g4,0,none⟩),.pointer (some ⟨w0.heap.size,0,none⟩)] l ok vl (Fw w0 who (aV LQ t L) 0) where
 owns:=hl
 cells d F W hI a x h1 h2:=(World.cell?_of_block (hI.1.1.block _ (hok _ h1))).trans h2
 alloc d F W o hI:=⟨hI.1.alloc o,fun k hk=>by
  have:W.heap.size < (W.alloc o).heap.size:=by simp
  rcases hk with hk | rfl
  ·have:=hI.2 k hk;omega
  ·exact this⟩
 low d F G W hI hg:=⟨hI.1.low hg,fun k hk=>hI.2 k (hg k hk)⟩
 step d F W n p hI hpre:=by
  have hm:(n,p)∈bA l:=hpre.subset (by simp);obtain⟨o,ho,rfl,hp⟩:=kL hm;have LT:=hpre.length_le;rw[Mx]at LT;exact EO w0 W okw okv who LQ t L g2 g9 g4 a1 a2 a3 b1 b2 c1 c2 c3 d1 d2 0 d F o.name p hc hI (by omega) (hP o ho p hp)
theorem lJ(w:LC)(ok okl okw t LQ l who vt vl vw)(ht:In w ok t vt)(hl:aB w okl l vl)(hw:In w okw LQ vw)(hM:bj w)(hN:(bA l).length<=4000000)(hP:∀ o∈l,∀ x∈o.paths,x.length<=140737488351232):Calls prog 93 #[vt,vl,.string ⟨who.toArray⟩,vw] w fun e w'=>∃ r,e=.returned r/\w'.ownsRow w.heap.size 161 2 r (ld t l who LQ).length (jV (ld t l who LQ))/\La w w':=by
 have HT:=aa ht.low;have HL:=aa hl.low;have HW:=aa hw.low;have HM:=aa hM;have HN:=aa hN;have HP:=aa hP;obtain⟨b1,b2,d1,d2,rfl⟩:=ht.form;obtain⟨a1,a2,c1,c2,rfl⟩:=hw.form;obtain⟨la,lc,rfl⟩:=hl.form;have ll:=hl.1;unfold maxLen at ll;clear ht hl hw hM hN hP;obtain⟨W3,hW3⟩:∃ W,W=((w.alloc (.cells (KV t b1 d1 b2 d2) 39)).alloc (.cells #[.string ⟨who.toArray⟩] 9)).alloc (.cells (KV LQ a1 c1 a2 c2) 39):=⟨_,rfl⟩
 have BW:Ll (La w W3):=aa (by rw[hW3];exact ab (ab (ae _ _) (ae _ _)) (ae _ _));have X1:Ll (KY W3 w.heap.size t b1 d1 b2 d2):=aa (by rw[hW3];exact lI _ _ _ _);have X2:Ll (W3.heap[w.heap.size+1]?=some (.cells #[.string ⟨who.toArray⟩] 9)):=aa (by rw[hW3];exact mE _ _ _ _);have X3:Ll (KY W3 (w.heap.size+2) LQ a1 c1 a2 c2):=aa (by rw[hW3];exact jI _ _ _ _);have HW3:=aa hW3;clear hW3;have GT:Ll (∀ W,La w W->Calls prog 43 #[.agg (KV t b1 d1 b2 d2)] W fun e w'=>e=.returned (.bool (aE t))/\La W w'):=fun W hW=>bG W _ t _ (HT.o.bel hW);have GO:Ll (∀ W,La w W->Calls prog 92 #[.slice la l.length lc] W fun e w'=>e=.returned (.bool (bp l))/\La W w'):=fun W hW=>eZ W _ l _ (HL.o.bel hW) HP.o (HM.o.bel hW);have p0_:=X1.o.c;cases hgt:aE t with
 | false=>
  have R:Ll (ld t l who LQ=[]):=if_neg (by rw[hgt];simp);rw[hgt]at GT;clear hgt;go_enter func93,ntmps93;go_upto_region 1 with fail
  rw[<-HW3.o];go_wp2_with (go_at_call 43;refine Lk (GT.o _ BW.o) fun w1 hb=>?_;have B1:=aa (ab BW.o hb);clear hb)
  go_ret;exact⟨_,rfl,by rw[R.o];exact World.ownsRow_nil _ _ _ _,B1.o⟩
 | true=>
  rw[hgt]at GT;have HGT:=aa hgt;clear hgt;cases hgo:bp l with
  | false=>
   have R:Ll (ld t l who LQ=[]):=if_neg (by rw[hgo];simp);rw[hgo]at GO;clear hgo;go_enter func93,ntmps93;go_upto_region 1 with fail
   rw[<-HW3.o];go_wp2_with (first
    |(go_at_call 43;refine Lk (GT.o _ BW.o) fun w1 hb=>?_;have B1:=aa (ab BW.o hb);clear hb)
    |(go_at_call 92;refine Lk (GO.o _ B1.o) fun w2 hb=>?_;have B2:=aa (ab B1.o hb);clear hb))
   go_ret;exact⟨_,rfl,by rw[R.o];exact World.ownsRow_nil _ _ _ _,B2.o⟩
  | true=>
   have R:Ll (ld t l who LQ=jN who (aV LQ t (au LQ)) (bA l)):=aa (by rw[ld,if_pos ⟨HGT.o,hgo⟩,yO]);rw[hgo]at GO;clear hgo;go_enter func93,ntmps93;go_upto_region 1 with fail
   rw[<-HW3.o];go_upto_region 3 with (first
    |(go_at_call 43;refine Lk (GT.o _ BW.o) fun w1 hb=>?_;have B1:=aa (ab BW.o hb);have Y1:=aa hb;clear hb)
    |(go_at_call 92;refine Lk (GO.o _ B1.o) fun w2 hb=>?_;have B2:=aa (ab B1.o hb);have Y2:=aa (ab Y1.o hb);clear hb))
   have p0_:=(af Y2.o X3.o).c;have WO:=aa (rQ w2 (fun k=>okw k/\k < w.heap.size) LQ _ (by exact HW.o.bel B2.o) (HM.o.bel B2.o));go_upto_region 4 with (go_at_call 94;refine WO.o.mono ?_;rintro e w3 ⟨r,rfl,hwi,hb⟩;have B3:=aa (ab B2.o hb);have Y3:=aa (ab Y2.o hb);have WI:=aa hwi;clear hb;obtain⟨x1,x2,x3,y1,y2,y3,rfl,-,-⟩:=hwi)
   obtain⟨W6,hW6⟩:∃ W,W=w3.alloc (.cells #[.int .i64 LQ.kind,.int .i64 LQ.n,.string ⟨LQ.s.toArray⟩,.slice x1 LQ.keys.length y1,.slice x2 LQ.l.length y2,.slice x3 (au LQ).length y3] 138):=⟨_,rfl⟩
   have Y6:Ll (La w3 W6):=aa (by rw[hW6];exact ae _ _);have X6:Ll (W6.heap[w3.heap.size]?=some (.cells #[.int .i64 LQ.kind,.int .i64 LQ.n,.string ⟨LQ.s.toArray⟩,.slice x1 LQ.keys.length y1,.slice x2 LQ.l.length y2,.slice x3 (au LQ).length y3] 138)):=aa (by rw[hW6];exact MN _ _);have B6:=aa (ab B3.o Y6.o);rw[<-hW6];clear hW6;have CAP:Ll (ri W6 (bQ (fun k=>okw k/\k < w.heap.size) w2.heap.size) (Lj ok w) who LQ t (au LQ) (w.heap.size+1) w3.heap.size w.heap.size x1 x2 x3 b1 b2 y1 y2 y3 d1 d2):=aa ⟨by
    have h9:=bR (ab Y3.o Y6.o) X2.o;simp[World.cell?,h9],X6.o,af (ab Y3.o Y6.o) X1.o,WI.o.bel Y6.o,HT.o.bel B6.o,HM.o.bel B6.o,by have:=gE (dQ HGT.o);omega,(fq LQ).1,(fq LQ).2⟩
   have SEES:=aa (SV CAP.o (HL.o.bel B6.o) (fun k hk=>by have:=B6.o.size;have h9:=hk.2;omega) HN.o HP.o);have CALL:=aa (nW W6 (W6.alloc (.cells #[.slice none 0 0] 121)) _ l _ _ _ _ (fun k=>k < W6.heap.size) tX SEES.o ⟨by simpa [jN,jV] using Cc W6 121 161 2,fun k hk=>by simp;omega⟩);go_upto_region 6 with (go_at_call 120;refine CALL.o.mono ?_;rintro e w7 ⟨rfl,hi7⟩;have I7:=aa hi7;clear hi7)
   obtain⟨r1,fv,r2,r3,r4⟩:=I7.o.1;have c0:w7.cell? ⟨W6.heap.size,0,none⟩=some fv:=by simp[World.cell?,r2]
   obtain⟨sa,sn,sc,hsv⟩:∃ sa sn sc,fv=.slice sa sn sc:=by
    rcases r3.2 with⟨h9,-⟩ | ⟨_,_,_,h9,-⟩
    ·exact⟨_,_,_,h9⟩
    ·exact⟨_,_,_,h9⟩
   subst hsv;have ROW:=aa r3;have BE:=aa (B6.o.trans (r1.mono B6.o.size));have SZ6:=aa B6.o.size;clear r1 r2 r3 r4;go_wp2
   go_ret;exact⟨_,rfl,by rw[R.o];exact cV ROW.o (by have:=SZ6.o;omega),BE.o⟩
def kv (os:List aL) (n p:Lz):List aL:=
 match os.getLast? with
 | some o=>if o.name=n then os.dropLast++[⟨n,o.paths++[p]⟩] else os++[⟨n,[p]⟩]
 | none=>[⟨n,[p]⟩]
theorem Ev(n p):kv [] n p=[⟨n,[p]⟩]:=rfl
theorem nu(os o p):kv (os++[o]) o.name p=os++[⟨o.name,o.paths++[p]⟩]:=by
 unfold kv;simp
theorem oT(os o n p)(h:o.name≠n):kv (os++[o]) n p=(os++[o])++[⟨n,[p]⟩]:=by
 unfold kv;simp[h]
theorem Oe{os n p}(h:∀ x∈os,x.name≠n):kv os n p=os++[⟨n,[p]⟩]:=by
 rcases List.eq_nil_or_concat os with rfl | ⟨r,o,rfl⟩
 ·rfl
 ·rw[List.concat_eq_append]at h ⊢;exact oT _ _ _ _ (h o (by simp))
def Ia (stays:Lz->Lz->Bool) (os:List aL) (c:Lz × Lz):List aL:=if stays c.1 c.2=true then kv os c.1 c.2 else os
def xz (stays:Lz->Lz->Bool) (d:List (Lz × Lz)):List aL:=d.foldl (Ia stays) []
theorem wQ(stays:Lz->Lz->Bool)(d:List (Lz × Lz))(n p):xz stays (d++[(n,p)])=if stays n p=true then kv (xz stays d) n p else xz stays d:=by
 unfold xz;rw[List.foldl_append];rfl
theorem El{stays:Lz->Lz->Bool}{os n}(h:∀ x∈os,x.name≠n):∀ (ps:List Lz),(ps.map fun p=>(n,p)).foldl (Ia stays) os=os++(if ps.filter (stays n)=[] then [] else [⟨n,ps.filter (stays n)⟩]):=by
 have key:∀ (k:Nat) (ps:List Lz),ps.length=k->(ps.map fun p=>(n,p)).foldl (Ia stays) os=os++(if ps.filter (stays n)=[] then [] else [⟨n,ps.filter (stays n)⟩]):=by
  intro k;induction k with
  | zero=>intro ps hp;rw[List.length_eq_zero_iff.1 hp];simp
  | succ k ih=>
   intro ps hp;rcases List.eq_nil_or_concat ps with rfl | ⟨r,p,rfl⟩
   ·simp at hp
   ·rw[List.concat_eq_append]at hp ⊢;rw[List.map_append,List.foldl_append,ih r (by simpa using hp)];simp only[List.map_cons,List.map_nil,List.foldl_cons,List.foldl_nil,Ia,List.filter_append];cases hs:stays n p with
    | false=>simp[hs]
    | true=>
     simp only[if_true,hs,List.filter_cons_of_pos,List.filter_nil];by_cases hf:r.filter (stays n)=[]
     ·rw[if_pos hf,List.append_nil,Oe h,hf];simp
     ·rw[if_neg hf];have:=nu os ⟨n,r.filter (stays n)⟩ p;simp only at this;rw[this];simp
 exact fun ps=>key _ ps rfl
theorem Gn{stays:Lz->Lz->Bool}{l}(h:bD (l.map aL.name)):xz stays (bA l)=dV stays l:=by
 have key:∀ k,k<=l.length->xz stays (bA (l.take k))=dV stays (l.take k):=by
  intro k;induction k with
  | zero=>intro _;simp[bA,xz,dV]
  | succ k ih=>
   intro hk;have hlt:k < l.length:=by omega
   have hne:∀ x∈dV stays (l.take k),x.name≠l[k].name:=by
    intro x hx;obtain⟨y,hy,rfl,-⟩:=oE hx;obtain⟨i,hi,rfl⟩:=List.getElem_of_mem hy;rw[MC]at hi;rw[List.getElem_take];have:=List.pairwise_iff_getElem.1 h i k (by simp;omega) (by simpa using hlt) (by omega);rw[List.getElem_map,List.getElem_map]at this;intro e;rw[e,cd]at this;cases this
   rw[lz hlt];unfold xz at ih ⊢;rw[List.foldl_append,ih (by omega),El hne,List.take_succ_eq_append_getElem hlt,vF];congr 1
   unfold dV;simp only[List.map_cons,List.map_nil];split
   ·rename_i hf;rw[hf];rfl
   ·rename_i hf;rw[List.filter_cons_of_pos (by simpa using hf)];rfl
 have:=key l.length (MG _);rwa [List.take_length]at this
def ba:List aL->List Value->List Value
 | o :: os,v :: vs=>.string ⟨o.name.toArray⟩ :: v :: ba os vs
 | _,_=>[]
theorem eG:∀ (os:List aL) (vs:List Value) (o:aL) (v:Value),os.length=vs.length->ba (os++[o]) (vs++[v])=ba os vs++[.string ⟨o.name.toArray⟩,v]
 | [],[],o,v,_=>rfl
 | [],_ :: _,o,v,h=>by simp at h
 | _ :: _,[],o,v,h=>by simp at h
 | o' :: os,v' :: vs,o,v,h=>by
  simp only[List.cons_append,ba,eG os vs o v (by simpa using h)]
theorem fS:∀ (os:List aL) (vs:List Value),os.length=vs.length->(ba os vs).length=os.length * 2
 | [],[],_=>rfl
 | [],_ :: _,h=>by simp at h
 | _ :: _,[],h=>by simp at h
 | o' :: os,v' :: vs,h=>by
  simp only[ba,My,fS os vs (by simpa using h)];omega
def Jx (w0 W:LC) (init:List aL) (ov pl:Value) (pin:List Value):Option aL->Prop
 | none=>init=[]/\pl=.slice none 0 0/\W.ownsRow (w0.heap.size+1) 47 2 ov 0 []
 | some o=>W.ownsRow (w0.heap.size+1) 47 2 ov (init.length+1) (ba (init++[o]) (pin++[pl]))/\W.ownsRow (w0.heap.size+1) 9 1 pl o.paths.length (o.paths.map ji)/\∀ x∈o.paths,x.length<=maxLen
structure gG (w0:LC) (init:List aL) (LZ:Option aL) (F:Nat->Prop) (W:LC) (ov pl:Value) (pin:List Value) (Z:Nat->Prop):Prop where
 low:La w0 W
 box:W.heap[w0.heap.size]?=some (.cells #[ov] 40)
 plen:init.length=pin.length
 ini:∀ (i:Nat) (o:aL) (v:Value),init[i]?=some o->pin[i]?=some v->(∃ a c,v=.slice a o.paths.length c)/\ao W Z o.paths v
 last:Jx w0 W init ov pl pin LZ
 off:∀ (g:Nat),ov.ownBlock=some g->pl.ownBlock≠some g
 zlow:∀ (k:Nat),Z k->w0.heap.size+1<=k
 keep:∀ (k:Nat),(F k\/Z k)->k < W.heap.size/\k≠w0.heap.size/\some k≠ov.ownBlock/\some k≠pl.ownBlock
def D4 (w0:LC) (os:List aL) (F:Nat->Prop) (W:LC):Prop:=∃ init LZ ov pl pin Z,os=init++LZ.toList/\gG w0 init LZ F W ov pl pin Z
theorem gG.rows{init}{LZ:Option aL}{F ov pl pin Z}(h:gG w0 init LZ F W ov pl pin Z):(∀ g,ov.ownBlock=some g->w0.heap.size+1<=g/\g < W.heap.size)/\(∀ g,pl.ownBlock=some g->w0.heap.size+1<=g/\g < W.heap.size):=by
 have hl:=h.last;cases LZ with
 | none=>
  obtain⟨-,rfl,h2⟩:=hl;exact⟨fun g hg=>bY h2 hg,fun g hg=>by cases hg⟩
 | some o=>exact⟨fun g hg=>bY hl.1 hg,fun g hg=>bY hl.2.1 hg⟩
theorem gG.bel{init:List aL}{LZ:Option aL}{F:Nat->Prop}{W':LC}{ov pl:Value}{pin:List Value}{Z:Nat->Prop}(h:gG w0 init LZ F W ov pl pin Z)(hb:La W W'):gG w0 init LZ F W' ov pl pin Z where
 low:=h.low.trans (hb.mono h.low.size)
 box:=bR hb h.box
 plen:=h.plen
 ini i o v h1 h2:=⟨(h.ini i o v h1 h2).1,(h.ini i o v h1 h2).2.imp fun a x g1 g2=>⟨g1,ah hb g2⟩⟩
 last:=by
  have hl:=h.last;have hr:=h.rows;cases LZ with
  | none=>exact⟨hl.1,hl.2.1,bM hl.2.2 fun g hg=>hb.block g (hr.1 g hg).2⟩
  | some o=>exact⟨bM hl.1 fun g hg=>hb.block g (hr.1 g hg).2,bM hl.2.1 fun g hg=>hb.block g (hr.2 g hg).2,hl.2.2⟩
 off:=h.off
 zlow:=h.zlow
 keep k hk:=⟨MI (h.keep k hk).1 hb.size,(h.keep k hk).2⟩
theorem gG.alloc{init}{LZ:Option aL}{F ov pl pin Z}(h:gG w0 init LZ F W ov pl pin Z)(o:Obj):gG w0 init LZ (fun k=>F k\/k=W.heap.size) (W.alloc o) ov pl pin Z:=by
 have h2:=h.bel (ae W o);have hr:=h.rows;refine { h2 with keep:=fun k hk=>?_ };rcases hk with (hk | rfl) | hk
 ·exact h2.keep k (.inl hk)
 ·have LU:=(MF.1 h.box).1;exact⟨by simp,by omega,fun e=>by have:=(hr.1 _ e.symm).2;omega,fun e=>by have:=(hr.2 _ e.symm).2;omega⟩
 ·exact h2.keep k (.inr hk)
theorem gG.lower{init}{LZ:Option aL}{F G ov pl pin Z}(h:gG w0 init LZ F W ov pl pin Z)(hg:∀ k,G k->F k):gG w0 init LZ G W ov pl pin Z:=
 { h with keep:=fun k hk=>h.keep k (hk.imp (hg k) id) }
theorem A0(w0:LC):gG w0 [] none (fun k=>k < w0.heap.size) (w0.alloc (.cells #[.slice none 0 0] 40)) (.slice none 0 0) (.slice none 0 0) [] (fun _=>False) where
 low:=ae _ _
 box:=MN _ _
 plen:=rfl
 ini i o v h:=by simp at h
 last:=⟨rfl,rfl,World.ownsRow_nil _ _ _ _⟩
 off g hg:=by cases hg
 zlow k hk:=hk.elim
 keep k hk:=by
  rcases hk with hk | hk
  ·exact⟨by simp;omega,by omega,by simp[Value.ownBlock],by simp[Value.ownBlock]⟩
  ·exact hk.elim
theorem jQ{e:TypeId}{size cap xs}(h:w.ownsRow B e size (.slice (some ⟨g,0,none⟩) n cap) n xs)(hn:0 < n)(i v):(w.setCell ⟨g,i,none⟩ v).ownsRow B e size (.slice (some ⟨g,0,none⟩) n cap) n (xs.set i v):=by
 refine⟨by simpa using h.1,?_⟩;rcases h.2 with⟨h0,-⟩ | ⟨g',cap',cur,e1,h1,h2,h3,h4,h5,h6⟩
 ·cases h0
 ·cases e1;refine .inr ⟨g,cap,cur.setIfInBounds i v,rfl,h1,ak h2 i v,h3,h4,by simpa using h5,?_⟩;rw[Array.toList_setIfInBounds,List.take_set,h6]
theorem wx{init pin o o' pl pl'}(h:init.length=pin.length)(hn:o'.name=o.name):(ba (init++[o]) (pin++[pl])).set (init.length * 2+1) pl'=ba (init++[o']) (pin++[pl']):=by
 rw[eG _ _ _ _ h,eG _ _ _ _ h,hn,List.set_append_right _ _ (by rw[fS _ _ h];omega),fS _ _ h];rw[show init.length * 2+1 - init.length * 2=1 by omega];rfl
theorem sA{ps}(h:w.ownsRow B 9 1 v ps.length (ps.map ji))(hl:∀ x∈ps,x.length<=maxLen)(hok:∀ g,v.ownBlock=some g->ok g):(∃ a c,v=.slice a ps.length c)/\ao w ok ps v:=by
 rcases h.2 with⟨rfl,h0⟩ | ⟨g,cap,cur,rfl,h1,h2,h3,h4,h5,h6⟩
 ·have hL:ps=[]:=List.length_eq_zero_iff.1 h0;subst hL;exact⟨⟨none,0,rfl⟩,by simp[maxLen],.inl ⟨rfl,none,rfl⟩⟩
 ·refine⟨⟨_,_,rfl⟩,by omega,.inr ⟨g,0,cap,rfl,h3,h4,fun i x hx=>⟨hl x (List.mem_of_getElem? hx),hok g rfl,?_⟩⟩⟩;obtain⟨hi,rfl⟩:=Mz.1 hx;have e:=congrArg (fun l=>l[i]?) h6;simp only[Nat.mul_one,List.getElem?_take,List.getElem?_map,Mw hi,Option.map_some]at e;rw[if_pos hi]at e;have e2:cur[i]?=some (ji ps[i]):=by simpa using e
  simp[World.cell?,h2,e2,ji,aR]
theorem AI{init}{LZ:Option aL}{F wc W' ov pl pin Z}{ob:Obj}{n N cap cells}(h:gG w0 init LZ F wc ov pl pin Z)(hN:N=(init++LZ.toList).length)(Mb:cells=ba (init++LZ.toList) (pin++(LZ.toList.map fun _=>pl)))(ho:W'.ownsRow (w0.heap.size+1) 47 2 (.slice (some ⟨g,0,none⟩) (N+1) cap) (N+1) (cells++[.string ⟨n.toArray⟩,.slice none 0 0]))(hg:(wc.alloc ob).grownBy W' ov.ownBlock)(hf:ov.ownBlock=some g\/(wc.alloc ob).heap.size=g):gG w0 (init++LZ.toList) (some ⟨n,[]⟩) F (W'.setCell ⟨w0.heap.size,0,none⟩ (.slice (some ⟨g,0,none⟩) (N+1) cap)) (.slice (some ⟨g,0,none⟩) (N+1) cap) (.slice none 0 0) (pin++(LZ.toList.map fun _=>pl)) (fun k=>Z k\/pl.ownBlock=some k) /\
 wc.heap.size<=(W'.setCell ⟨w0.heap.size,0,none⟩ (.slice (some ⟨g,0,none⟩) (N+1) cap)).heap.size/\∀ k,F k->k < wc.heap.size->(W'.setCell ⟨w0.heap.size,0,none⟩ (.slice (some ⟨g,0,none⟩) (N+1) cap)).heap[k]?=wc.heap[k]?:=by
 have ha:=ae wc ob;have hr:=h.rows;have hgo:=(bY ho (g:=g) rfl).1;have hgl:w0.heap.size < wc.heap.size:=(MF.1 h.box).1;have hW:∀ k,k < wc.heap.size->some k≠ov.ownBlock->W'.heap[k]?=wc.heap[k]?:=fun k hk hn=>by
  rw[hg.block k (MI hk ha.size) hn,ha.block k hk]
 have hbox:W'.heap[w0.heap.size]?=some (.cells #[ov] 40):=by
  rw[hW _ hgl (fun e=>by have:=(hr.1 _ e.symm).1;omega),h.box]
 obtain⟨W2,hW2⟩:∃ W,W=W'.setCell ⟨w0.heap.size,0,none⟩ (.slice (some ⟨g,0,none⟩) (N+1) cap):=⟨_,rfl⟩
 have hset:∀ k,k≠w0.heap.size->W2.heap[k]?=W'.heap[k]?:=fun k hk=>by rw[hW2];exact Below.heap_setCell W' ⟨w0.heap.size,0,none⟩ _ k hk
 have L9:wc.heap.size<=W2.heap.size:=by
  have h1:=ha.size;have h2:=hg.size;rw[hW2];simp only[World.setCell,Array.size_modify];omega
 have hos:W2.os=W'.os/\W2.tape=W'.tape/\W2.output=W'.output:=by rw[hW2];exact⟨rfl,rfl,rfl⟩
 have hfix:∀ k,k < wc.heap.size->k≠w0.heap.size->some k≠ov.ownBlock->W2.heap[k]?=wc.heap[k]?:=fun k h1 h2 h3=>by rw[hset k h2,hW k h1 h3]
 have hlo:La w0 W2:=⟨by rw[hos.1,hg.os,ha.os,h.low.os],by rw[hos.2.1,hg.tape,ha.tape,h.low.tape],by rw[hos.2.2,hg.output,ha.output,h.low.output],MH h.low.size L9,fun k hk=>by rw[hfix k (by omega) (by omega) (fun e=>by have:=(hr.1 _ e.symm).1;omega),h.low.block k hk]⟩
 have hb2:W2.heap[w0.heap.size]?=some (.cells #[.slice (some ⟨g,0,none⟩) (N+1) cap] 40):=by rw[hW2];exact ak hbox 0 _
 rw[<-hW2];have hpn:(init++LZ.toList).length=(pin++(LZ.toList.map fun _=>pl)).length:=by simp[h.plen]
 have hgf:∀ k,k < wc.heap.size->some k≠ov.ownBlock->k≠g:=fun k hk hne e=>by
  rcases hf with hf | hf
  ·exact hne (by rw[hf,e])
  ·have:=ha.size;omega
 refine⟨{ low:=hlo,box:=hb2,plen:=hpn,ini:=fun i o v h1 h2=>?_,last:=?_,off:=fun g' hg'=>by simp[Value.ownBlock],zlow:=fun k hk=>hk.elim (h.zlow k) (fun e=>(hr.2 k e).1),keep:=fun k hk=>?_ },L9,fun k hk hlt=>?_⟩
 ·by_cases hi:i < init.length
  ·rw[List.getElem?_append_left hi]at h1;rw[List.getElem?_append_left (by rw[<-h.plen];exact hi)]at h2;obtain⟨g1,g2⟩:=h.ini i o v h1 h2;refine⟨g1,g2.imp fun a x q1 q2=>⟨.inl q1,?_⟩⟩;have hk:=h.keep a.block (.inr q1);exact(World.cell?_of_block (hfix _ hk.1 hk.2.1 hk.2.2.1)).trans q2
  ·rw[List.getElem?_append_right (by omega)]at h1;rw[List.getElem?_append_right (by rw[<-h.plen];omega)]at h2;have hl:=h.last;cases LZ with
   | none=>simp at h1
   | some o9=>
    rw[<-h.plen]at h2;cases h8:i - init.length with
    | succ m=>rw[h8]at h1;simp at h1
    | zero=>
     rw[h8]at h1 h2;simp at h1 h2;subst h1;subst h2;refine sA (bM hl.2.1 fun g' hg'=>?_) hl.2.2 fun g' hg'=>.inr hg';exact hfix _ (hr.2 _ hg').2 (fun e=>by have:=(hr.2 _ hg').1;omega) (fun e=>h.off g' e.symm hg')
 ·refine⟨?_,⟨rfl,.inl ⟨rfl,rfl⟩⟩,fun x hx=>by cases hx⟩;rw[eG _ _ _ _ hpn,<-Mb,<-hN];refine bM ho fun g' hg'=>hset g' ?_;have e9:g=g':=by simpa [Value.ownBlock] using hg'
  omega
 ·rcases hk with hk | hk | hk
  ·have h9:=h.keep k (.inl hk);exact⟨MI h9.1 L9,h9.2.1,by have:=hgf k h9.1 h9.2.2.1;simp[Value.ownBlock];omega,by simp[Value.ownBlock]⟩
  ·have h9:=h.keep k (.inr hk);exact⟨MI h9.1 L9,h9.2.1,by have:=hgf k h9.1 h9.2.2.1;simp[Value.ownBlock];omega,by simp[Value.ownBlock]⟩
  ·have h9:=hr.2 k hk;have h8:some k≠ov.ownBlock:=fun e=>h.off k e.symm hk;exact⟨MI h9.2 L9,by omega,by have:=hgf k h9.2 h8;simp[Value.ownBlock];omega,by simp[Value.ownBlock]⟩
 ·have h9:=h.keep k (.inl hk);exact hfix k h9.1 h9.2.1 h9.2.2.1
theorem oW{init o F wc W' gb ocap pl pin Z}{ob:Obj}{p cap}(h:gG w0 init (some o) F wc (.slice (some ⟨gb,0,none⟩) (init.length+1) ocap) pl pin Z)(hp:p.length<=maxLen)(ho:W'.ownsRow (w0.heap.size+1) 9 1 (.slice (some ⟨g,0,none⟩) (o.paths.length+1) cap) (o.paths.length+1) (o.paths.map ji++[.string ⟨p.toArray⟩]))(hg:(wc.alloc ob).grownBy W' pl.ownBlock)(hf:pl.ownBlock=some g\/(wc.alloc ob).heap.size=g):gG w0 init (some ⟨o.name,o.paths++[p]⟩) F (W'.setCell ⟨gb,init.length * 2+1,none⟩ (.slice (some ⟨g,0,none⟩) (o.paths.length+1) cap)) (.slice (some ⟨gb,0,none⟩) (init.length+1) ocap) (.slice (some ⟨g,0,none⟩) (o.paths.length+1) cap) pin Z /\
 wc.heap.size<=(W'.setCell ⟨gb,init.length * 2+1,none⟩ (.slice (some ⟨g,0,none⟩) (o.paths.length+1) cap)).heap.size/\∀ k,F k->k < wc.heap.size->(W'.setCell ⟨gb,init.length * 2+1,none⟩ (.slice (some ⟨g,0,none⟩) (o.paths.length+1) cap)).heap[k]?=wc.heap[k]?:=by
 have ha:=ae wc ob;have hr:=h.rows;have hgb:=hr.1 gb rfl;have hgo:=bY ho (g:=g) rfl;obtain⟨l1,l2,l3⟩:=h.last;have hgl:w0.heap.size < wc.heap.size:=(MF.1 h.box).1;have hW:∀ k,k < wc.heap.size->some k≠pl.ownBlock->W'.heap[k]?=wc.heap[k]?:=fun k hk hn=>by
  rw[hg.block k (MI hk ha.size) hn,ha.block k hk]
 have hgne:g≠gb:=fun e=>by
  rcases hf with hf | hf
  ·exact h.off gb rfl (by rw[hf,e])
  ·have:=ha.size;omega
 have l1':W'.ownsRow (w0.heap.size+1) 47 2 (.slice (some ⟨gb,0,none⟩) (init.length+1) ocap) (init.length+1) (ba (init++[o]) (pin++[pl])):=bM l1 fun g' hg'=>by
  have e9:gb=g':=by simpa [Value.ownBlock] using hg'
  subst e9;exact hW gb hgb.2 (fun e=>h.off gb rfl e.symm)
 have l1'':=jQ l1' (by omega) (init.length * 2+1) (.slice (some ⟨g,0,none⟩) (o.paths.length+1) cap);rw[wx (o:=o) (o':=⟨o.name,o.paths++[p]⟩) h.plen rfl]at l1'';obtain⟨W2,hW2⟩:∃ W,W=W'.setCell ⟨gb,init.length * 2+1,none⟩ (.slice (some ⟨g,0,none⟩) (o.paths.length+1) cap):=⟨_,rfl⟩
 rw[<-hW2]at l1'' ⊢;have hset:∀ k,k≠gb->W2.heap[k]?=W'.heap[k]?:=fun k hk=>by rw[hW2];exact Below.heap_setCell W' ⟨gb,init.length * 2+1,none⟩ _ k hk
 have L9:wc.heap.size<=W2.heap.size:=by
  have h1:=ha.size;have h2:=hg.size;rw[hW2];simp only[World.setCell,Array.size_modify];omega
 have hos:W2.os=W'.os/\W2.tape=W'.tape/\W2.output=W'.output:=by rw[hW2];exact⟨rfl,rfl,rfl⟩
 have hfix:∀ k,k < wc.heap.size->k≠gb->some k≠pl.ownBlock->W2.heap[k]?=wc.heap[k]?:=fun k h1 h2 h3=>by rw[hset k h2,hW k h1 h3]
 have hgf:∀ k,k < wc.heap.size->some k≠pl.ownBlock->k≠g:=fun k hk hne e=>by
  rcases hf with hf | hf
  ·exact hne (by rw[hf,e])
  ·have:=ha.size;omega
 refine⟨{ low:=⟨by rw[hos.1,hg.os,ha.os,h.low.os],by rw[hos.2.1,hg.tape,ha.tape,h.low.tape],by rw[hos.2.2,hg.output,ha.output,h.low.output],MH h.low.size L9,fun k hk=>by rw[hfix k (by omega) (by omega) (fun e=>by have:=(hr.2 _ e.symm).1;omega),h.low.block k hk]⟩,box:=?_,plen:=h.plen,ini:=fun i o v h1 h2=>?_,last:=?_,off:=fun g' hg'=>?_,zlow:=h.zlow,keep:=fun k hk=>?_ },L9,fun k hk hlt=>?_⟩
 ·rw[hfix _ hgl (by omega) (fun e=>by have:=(hr.2 _ e.symm).1;omega)];exact h.box
 ·obtain⟨g1,g2⟩:=h.ini i o v h1 h2;refine⟨g1,g2.imp fun a x q1 q2=>⟨q1,?_⟩⟩;have hk:=h.keep a.block (.inr q1);exact(World.cell?_of_block (hfix _ hk.1 (fun e=>hk.2.2.1 (by rw[e];rfl)) hk.2.2.2)).trans q2
 ·refine⟨l1'',?_,fun x hx=>?_⟩
  ·have:W'.ownsRow (w0.heap.size+1) 9 1 (.slice (some ⟨g,0,none⟩) (o.paths.length+1) cap) (o.paths++[p]).length ((o.paths++[p]).map ji):=by simpa [ji] using ho
   refine bM this fun g' hg'=>hset g' ?_;have e9:g=g':=by simpa [Value.ownBlock] using hg'
   omega
  ·rcases List.mem_append.1 hx with hx | hx
   ·exact l3 x hx
   ·rw[List.mem_singleton]at hx;rw[hx];exact hp
 ·have e9:gb=g':=by simpa [Value.ownBlock] using hg'
  simp[Value.ownBlock];omega
 ·have h9:=h.keep k hk;exact⟨MI h9.1 L9,h9.2.1,h9.2.2.1,by have:=hgf k h9.1 h9.2.2.2;simp[Value.ownBlock];omega⟩
 ·have h9:=h.keep k (.inl hk);exact hfix k h9.1 (fun e=>h9.2.2.1 (by rw[e];rfl)) h9.2.2.2
def Sd (w:World) (P:Nat->Prop):Nat->Value->Prop
 | 0,_=>False
 | d+1,v=>∃ (k n:Int) (s:ByteArray) (ka la:Option Addr) (nk kc nl lc:Nat) (ks:List Value) (L0:List (List Value)),v=.agg #[.int .i64 k,.int .i64 n,.string s,.slice ka nk kc,.slice la nl lc]/\w.ownsRow 0 9 1 (.slice ka nk kc) nk ks/\(∀ u∈ks,∃ z,u=.string z)/\(∀ g,(Value.slice ka nk kc).ownBlock=some g->P g)/\w.ownsRow 0 39 5 (.slice la nl lc) nl L0.flatten/\L0.length=nl/\(∀ g,(Value.slice la nl lc).ownBlock=some g->P g)/\∀ c∈L0,c.length=5/\Sd w P d (.agg c.toArray)
theorem Sd.imp{w w':World}{P P':Nat->Prop}(h:∀ g,P g->g < w.heap.size->P' g/\w'.heap[g]?=w.heap[g]?):∀ (d:Nat) (v:Value),Sd w P d v->Sd w' P' d v
 | 0,_,h9=>h9.elim
 | d+1,v,⟨k,n,s,ka,la,nk,kc,nl,lc,ks,L0,e,h1,h2,h3,h4,h5,h6,h7⟩=>⟨k,n,s,ka,la,nk,kc,nl,lc,ks,L0,e,bM h1 fun g hg=>(h g (h3 g hg) (bY h1 hg).2).2,h2,fun g hg=>(h g (h3 g hg) (bY h1 hg).2).1,bM h4 fun g hg=>(h g (h6 g hg) (bY h4 hg).2).2,h5,fun g hg=>(h g (h6 g hg) (bY h4 hg).2).1,fun c hc=>⟨(h7 c hc).1,Sd.imp h d _ (h7 c hc).2⟩⟩
theorem Sd.succ{w:World}{P:Nat->Prop}:∀ (d:Nat) (v:Value),Sd w P d v->Sd w P (d+1) v
 | 0,_,h9=>h9.elim
 | d+1,v,⟨k,n,s,ka,la,nk,kc,nl,lc,ks,L0,e,h1,h2,h3,h4,h5,h6,h7⟩=>⟨k,n,s,ka,la,nk,kc,nl,lc,ks,L0,e,h1,h2,h3,h4,h5,h6,fun c hc=>⟨(h7 c hc).1,Sd.succ d _ (h7 c hc).2⟩⟩
theorem Sd.le{w:World}{P:Nat->Prop}{d e:Nat}{v:Value}(h:Sd w P d v)(he:d<=e):Sd w P e v:=by
 induction he with
 | refl=>exact h
 | step _ ih=>exact Sd.succ _ _ ih
theorem Sd.bel{w w':World}{P:Nat->Prop}{d:Nat}{v:Value}(h:Sd w P d v)(hb:La w w'):Sd w' P d v:=Sd.imp (fun g hg hl=>⟨hg,hb.block g hl⟩) d v h
theorem Sd.low{w:World}{P:Nat->Prop}{d:Nat}{v:Value}(h:Sd w P d v):Sd w (fun k=>P k/\k < w.heap.size) d v:=Sd.imp (fun g hg hl=>⟨⟨hg,hl⟩,rfl⟩) d v h
theorem SF{w:World}{P:Nat->Prop}:∀ (L0:List (List Value)),(∀ c∈L0,c.length=5/\∃ d,Sd w P d (.agg c.toArray))->∃ D,∀ c∈L0,c.length=5/\Sd w P D (.agg c.toArray)
 | [],_=>⟨0,fun c hc=>by cases hc⟩
 | c :: L0,h=>by
  obtain⟨D,hD⟩:=SF L0 fun x hx=>h x (List.mem_cons_of_mem _ hx);obtain⟨h5,d,hd⟩:=h c List.mem_cons_self;refine⟨D+d,fun x hx=>?_⟩;rcases List.mem_cons.1 hx with rfl | hx
  ·exact⟨h5,hd.le (by omega)⟩
  ·exact⟨(hD x hx).1,(hD x hx).2.le (by omega)⟩
theorem Sa{w:World}{B g n cap size:Nat}{a:Option Addr}{e:TypeId}{xs:List Value}(h:w.ownsRow B e size (.slice a n cap) n xs)(hg:(Value.slice a n cap).ownBlock=some g):a=some ⟨g,0,none⟩/\∃ cur,w.heap[g]?=some (.cells cur e (0,0)):=by
 rcases h.2 with⟨e0,-⟩ | ⟨g',cap',cur,e1,h1,h2,-⟩
 ·simp only[Value.slice.injEq]at e0;obtain⟨rfl,-⟩:=e0;cases hg
 ·simp only[Value.slice.injEq]at e1;obtain⟨rfl,-⟩:=e1;cases hg;exact⟨rfl,cur,h2⟩
theorem Sr{w:World}{g k:Nat}{c d:Array Value}{e f:TypeId}(h:w.heap[g]?=some (.cells c e (0,0)))(h':w.heap[k]?=some (.cells d f (0,0)))(hef:e≠f):k≠g:=by
 rintro rfl;rw[h]at h';simp only[Option.some.injEq,Obj.cells.injEq]at h';exact hef h'.2.1
theorem Sy{w:World}{B g n cap size:Nat}{e:TypeId}{xs:List Value}{i:Nat}{v:Value}(h:w.ownsRow B e size (.slice (some ⟨g,0,none⟩) n cap) n xs):(w.setCell ⟨g,i,none⟩ v).ownsRow B e size (.slice (some ⟨g,0,none⟩) n cap) n (xs.set i v):=by
 rcases Nat.eq_zero_or_pos n with rfl | hn
 ·have hx:xs=[]:=by have:=h.1;rw[Nat.zero_mul]at this;exact List.length_eq_zero_iff.1 this
  subst hx;refine⟨h.1,?_⟩;rcases h.2 with⟨e0,-⟩ | ⟨g',cap',cur,e1,h1,h2,h3,h4,h5,h6⟩
  ·cases e0
  ·cases e1;exact .inr ⟨g,cap,cur.setIfInBounds i v,rfl,h1,ak h2 i v,h3,h4,by simpa using h5,by simp⟩
 ·exact jQ h hn i v
theorem Sj{w:World}{P:Nat->Prop}{g i:Nat}{cur:Array Value}{z:ByteArray}(hg:w.heap[g]?=some (.cells cur 9 (0,0))):∀ (d:Nat) (v:Value),Sd w P d v->Sd (w.setCell ⟨g,i,none⟩ (.string z)) P d v
 | 0,_,h9=>h9.elim
 | d+1,v,⟨k,n,s,ka,la,nk,kc,nl,lc,ks,L0,e,h1,h2,h3,h4,h5,h6,h7⟩=>by
  have hs:∀ j,j≠g->(w.setCell ⟨g,i,none⟩ (.string z)).heap[j]?=w.heap[j]?:=fun j hj=>Below.heap_setCell _ _ _ j hj;have hl:(w.setCell ⟨g,i,none⟩ (.string z)).ownsRow 0 39 5 (.slice la nl lc) nl L0.flatten:=bM h4 fun j hj=>hs j (by
   obtain⟨-,c9,h9⟩:=Sa h4 hj;exact Sr hg h9 (by decide))
  by_cases hk:(Value.slice ka nk kc).ownBlock=some g
  ·obtain⟨rfl,-⟩:=Sa h1 hk;refine⟨k,n,s,_,la,nk,kc,nl,lc,ks.set i (.string z),L0,e,Sy h1,fun u hu=>?_,h3,hl,h5,h6,fun c hc=>⟨(h7 c hc).1,Sj hg d _ (h7 c hc).2⟩⟩;rcases List.mem_or_eq_of_mem_set hu with hu | rfl
   ·exact h2 u hu
   ·exact⟨z,rfl⟩
  ·exact⟨k,n,s,ka,la,nk,kc,nl,lc,ks,L0,e,bM h1 fun j hj=>hs j (fun e9=>hk (by rw[hj,e9])),h2,h3,hl,h5,h6,fun c hc=>⟨(h7 c hc).1,Sj hg d _ (h7 c hc).2⟩⟩
def Si (xs:List Value):Nat->List Value->List Value
 | _,[]=>xs
 | o,v :: r=>Si (xs.set o v) (o+1) r
theorem St:∀ (vs a b:List Value) (o:Nat),Si (a++b) (a.length+o) vs=a++Si b o vs
 | [],_,_,_=>rfl
 | v :: vs,a,b,o=>by
  rw[Si,Si,List.set_append_right _ _ (by omega),Nat.add_sub_cancel_left,Nat.add_assoc];exact St vs a (b.set o v) (o+1)
theorem Ss:∀ (vs:List Value) (o:Nat),Si [] o vs=[]
 | [],_=>rfl
 | v :: vs,o=>by rw[Si,List.set_nil];exact Ss vs (o+1)
theorem Sh{d0 d1 d2 d3 d4:Value}:∀ (L0:List (List Value)) (k:Nat),(∀ c∈L0,c.length=5)->Si L0.flatten (k * 5) [d0,d1,d2,d3,d4]=(L0.set k [d0,d1,d2,d3,d4]).flatten
 | [],k,_=>by rw[List.set_nil,List.flatten_nil,Ss]
 | c :: L0,0,h=>by
  match c,h c List.mem_cons_self with
  | [c0,c1,c2,c3,c4],_=>rfl
 | c :: L0,k+1,h=>by
  have hc:=h c List.mem_cons_self;rw[List.flatten_cons,show (k+1) * 5=c.length+k * 5 by omega,St,Sh L0 k fun x hx=>h x (List.mem_cons_of_mem _ hx)];rfl
theorem Su{w:World}{B g n cap size:Nat}{e:TypeId}:∀ (vs:List Value) (o:Nat) (w:World) (xs:List Value),w.ownsRow B e size (.slice (some ⟨g,0,none⟩) n cap) n xs->(w.setCells g o vs).ownsRow B e size (.slice (some ⟨g,0,none⟩) n cap) n (Si xs o vs)
 | [],_,_,_,h=>h
 | v :: vs,o,_,_,h=>Su (w:=w) vs (o+1) _ _ (Sy h)
theorem S6(w:World)(P:Nat->Prop)(d:Nat)(k:Int):Sd w P (d+1) (.agg #[.int .i64 k,.int .i64 0,.string ⟨#[]⟩,.slice none 0 0,.slice none 0 0]):=
 ⟨k,0,_,none,none,0,0,0,0,[],[],rfl,World.ownsRow_nil _ _ _ _,(fun u hu=>by cases hu),(fun g hg=>by cases hg),World.ownsRow_nil _ _ _ _,rfl,(fun g hg=>by cases hg),fun c hc=>by cases hc⟩
theorem Sk{w:World}{P:Nat->Prop}{g i:Nat}{cur:Array Value}{q:Int}(hg:w.heap[g]?=some (.cells cur 39 (0,0))):∀ (d:Nat) (v:Value),Sd w P d v->Sd (vr w g (i * 5) (.int .i64 q) (.int .i64 0) (.string ⟨#[]⟩) (.slice none 0 0) (.slice none 0 0)) P d v
 | 0,_,h9=>h9.elim
 | d+1,v,⟨k,n,s,ka,la,nk,kc,nl,lc,ks,L0,e,h1,h2,h3,h4,h5,h6,h7⟩=>by
  have hs:∀ j,j≠g->(vr w g (i * 5) (.int .i64 q) (.int .i64 0) (.string ⟨#[]⟩) (.slice none 0 0) (.slice none 0 0)).heap[j]?=w.heap[j]?:=fun j hj=>by
   unfold vr;simp only[Below.heap_setCell _ ⟨g,_,none⟩ _ j hj]
  have hkk:(vr w g (i * 5) (.int .i64 q) (.int .i64 0) (.string ⟨#[]⟩) (.slice none 0 0) (.slice none 0 0)).ownsRow 0 9 1 (.slice ka nk kc) nk ks:=bM h1 fun j hj=>hs j (by
   obtain⟨-,c9,h9⟩:=Sa h1 hj;exact Sr hg h9 (by decide))
  by_cases hk:(Value.slice la nl lc).ownBlock=some g
  ·obtain⟨rfl,-⟩:=Sa h4 hk;have h9:=Su (w:=w) [.int .i64 q,.int .i64 0,.string ⟨#[]⟩,.slice none 0 0,.slice none 0 0] (i * 5) _ _ h4;rw[Sh L0 i fun c hc=>(h7 c hc).1]at h9;refine⟨k,n,s,ka,_,nk,kc,nl,lc,ks,L0.set i [.int .i64 q,.int .i64 0,.string ⟨#[]⟩,.slice none 0 0,.slice none 0 0],e,hkk,h2,h3,h9,by rw[List.length_set,h5],h6,fun c hc=>?_⟩;rcases List.mem_or_eq_of_mem_set hc with hc9 | rfl
   ·exact⟨(h7 c hc9).1,Sk hg d _ (h7 c hc9).2⟩
   ·refine⟨rfl,?_⟩;cases L0 with
    | nil=>rw[List.set_nil]at hc;cases hc
    | cons c0 L0=>
     cases d with
     | zero=>exact((h7 c0 List.mem_cons_self).2).elim
     | succ d=>exact S6 _ _ _ _
  ·exact⟨k,n,s,ka,la,nk,kc,nl,lc,ks,L0,e,hkk,h2,h3,bM h4 fun j hj=>hs j (fun e9=>hk (by rw[hj,e9])),h5,h6,fun c hc=>⟨(h7 c hc).1,Sk hg d _ (h7 c hc).2⟩⟩
structure Se (P:Nat->Prop) (w w':World):Prop where
 os:w'.os=w.os
 tape:w'.tape=w.tape
 output:w'.output=w.output
 size:w.heap.size<=w'.heap.size
 block:∀ k,k < w.heap.size->¬P k->w'.heap[k]?=w.heap[k]?
 shape:∀ d v,Sd w P d v->Sd w' P d v
 typed:∀ k c e,P k->w.heap[k]?=some (.cells c e (0,0))->∃ c',c'.size=c.size/\w'.heap[k]?=some (.cells c' e (0,0))/\(e≠9->e≠39->c'=c)
theorem Se.refl(P:Nat->Prop)(w:World):Se P w w:=⟨rfl,rfl,rfl,MG _,fun _ _ _=>rfl,fun _ _ h=>h,fun k c e _ h=>⟨c,rfl,h,fun _ _=>rfl⟩⟩
theorem Se.trans{P:Nat->Prop}{a b c:World}(h:Se P a b)(k:Se P b c):Se P a c:=⟨k.os.trans h.os,k.tape.trans h.tape,k.output.trans h.output,MH h.size k.size,fun j hj hp=>(k.block j (MI hj h.size) hp).trans (h.block j hj hp),fun d v hv=>k.shape d v (h.shape d v hv),fun j c0 e hp hc=>by
 obtain⟨c1,s1,h1,e1⟩:=h.typed j c0 e hp hc;obtain⟨c2,s2,h2,e2⟩:=k.typed j c1 e hp h1;exact⟨c2,s2.trans s1,h2,fun n1 n2=>(e2 n1 n2).trans (e1 n1 n2)⟩⟩
theorem Se.bel{P:Nat->Prop}{w w':World}(h:La w w'):Se P w w':=⟨h.os,h.tape,h.output,h.size,fun k hk _=>h.block k hk,fun d v hv=>hv.bel h,fun k c e _ hc=>⟨c,rfl,(h.block k (MF.1 hc).1).trans hc,fun _ _=>rfl⟩⟩
theorem Se.str{P:Nat->Prop}{w:World}{g i:Nat}{cur:Array Value}(z:ByteArray)(hP:P g)(hg:w.heap[g]?=some (.cells cur 9 (0,0))):Se P w (w.setCell ⟨g,i,none⟩ (.string z)):=
 ⟨rfl,rfl,rfl,by simp[World.setCell],fun k _ hp=>Below.heap_setCell _ _ _ k (fun e=>hp (by rw[e];exact hP)),fun d v hv=>Sj hg d v hv,fun k c e _ hc=>by
  by_cases hk:k=g
  ·subst hk;rw[hg]at hc;simp only[Option.some.injEq,Obj.cells.injEq]at hc;obtain⟨rfl,rfl,-⟩:=hc;exact⟨_,by simp,ak hg i _,fun h9=>absurd rfl h9⟩
  ·exact⟨c,rfl,(Below.heap_setCell _ _ _ k hk).trans hc,fun _ _=>rfl⟩⟩
theorem Sx{w:World}{g:Nat}{c:Array Value}{e:TypeId}{f:Nat × Nat}(h:w.heap[g]?=some (.cells c e f))(i:Nat)(d0 d1 d2 d3 d4:Value):∃ c',c'.size=c.size/\(vr w g i d0 d1 d2 d3 d4).heap[g]?=some (.cells c' e f):=
 ⟨_,by simp,ak (ak (ak (ak (ak h i d0) (i+1) d1) (i+2) d2) (i+3) d3) (i+4) d4⟩
theorem Se.val{P:Nat->Prop}{w:World}{g i:Nat}{cur:Array Value}(q:Int)(hP:P g)(hg:w.heap[g]?=some (.cells cur 39 (0,0))):Se P w (vr w g (i * 5) (.int .i64 q) (.int .i64 0) (.string ⟨#[]⟩) (.slice none 0 0) (.slice none 0 0)):=
 ⟨(
  us w g (i * 5) _ _ _ _ _).os,(us w g (i * 5) _ _ _ _ _).tape,(us w g (i * 5) _ _ _ _ _).output,(us w g (i * 5) _ _ _ _ _).size,fun k hk hp=>(us w g (i * 5) _ _ _ _ _).block k hk (fun e=>hp (by cases e;exact hP)),fun d v hv=>Sk hg d v hv,fun k c e _ hc=>by
  by_cases hk:k=g
  ·subst hk;rw[hg]at hc;simp only[Option.some.injEq,Obj.cells.injEq]at hc;obtain⟨rfl,rfl,-⟩:=hc;obtain⟨c',h1,h2⟩:=Sx hg (i * 5) (.int .i64 q) (.int .i64 0) (.string ⟨#[]⟩) (.slice none 0 0) (.slice none 0 0);exact⟨c',h1,h2,fun _ h9=>absurd rfl h9⟩
  ·exact⟨c,rfl,((us w g (i * 5) _ _ _ _ _).block k (MF.1 hc).1 (fun e=>hk (by cases e;rfl))).trans hc,fun _ _=>rfl⟩⟩
section
attribute [local go_sem ↓] Go.wp_at_zero Go.wp_at_succ
end
def ge (v p:V):V × Int:=if (!aE v || !aE p)=true then (v,1) else if aE (dH 12 v p)=true then (dH 12 v p,0) else (v,2)
theorem Fn(w:LC)(ok v p vv pv)(h:In w ok v vv)(hp:In w ok p pv):Calls prog 102 #[vv,pv] w fun e w'=>∃ r,e=.returned (.tuple #[r,.int .i64 (ge v p).2])/\La w w'/\In w' (bQ ok w.heap.size) (ge v p).1 r:=by
 have H:=aa h.low;have HP:=aa hp.low;obtain⟨l1,l2,l3⟩:=h.lens;obtain⟨l4,l5,l6⟩:=hp.lens;obtain⟨a1,a2,c1,c2,rfl⟩:=h.form;obtain⟨a3,a4,c3,c4,rfl⟩:=hp.form;clear h hp;have B3:Ll (∀ o1 o2 o3,La w (((w.alloc o1).alloc o2).alloc o3)):=fun o1 o2 o3=>ab (ab (ae _ _) (ae _ _)) (ae _ _);cases gv:aE v with
 | false=>
  have GV:=aa gv;clear gv;go_enter func102,ntmps102;go_wp2_with fail
  refine Lk (bG _ _ v _ (by exact H.o.bel (B3.o _ _ _))) fun w1 hb1=>?_;rw[GV.o];have K1:Ll (KY w1 w.heap.size v a1 c1 a2 c2/\KY w1 (w.heap.size+1) p a3 c3 a4 c4/\Lc w1 (w.heap.size+2)/\La w w1):=aa ⟨af hb1 (lI w _ _ _),af hb1 (mE w _ _ _),af hb1 (jI w _ _ _),ab (B3.o _ _ _) hb1⟩;clear hb1;have y0_:=K1.o.1.c;have z0_:=K1.o.2.2.1.c;have Z:Ll (_/\_):=my (ok:=ok) (g:=w.heap.size+2) (C:=w.heap.size+3) ((H.o.bel K1.o.2.2.2).weak aO) K1.o.2.2.2 (by omega) (by omega);have ZB:Ll _:=aa (LH K1.o.2.2.1.set v a1 c1 a2 c2);have HA:Ll (ge v p=(v,1)):=aa (by unfold ge;rw[if_pos (by simp[GV.o])]);go_wp2_with fail
  have q0_:=ZB.o.c;refine MM (v:=.tuple #[.agg (KV v a1 c1 a2 c2),.int .i64 1]) ?_ rfl ?_
  ·simp only[ar]at q0_;simp[results,results102,go_sem,q0_]
  ·exact⟨_,by rw[HA.o],Z.o.1,by rw[HA.o];exact Z.o.2⟩
 | true=>
  have GV:=aa gv;have NV:Ll (dz v):=dQ gv;clear gv;cases gp:aE p with
  | false=>
   have GP:=aa gp;clear gp;go_enter func102,ntmps102;go_wp2_with fail
   refine Lk (bG _ _ v _ (by exact H.o.bel (B3.o _ _ _))) fun w1 hb1=>?_;rw[GV.o];have K1:Ll (KY w1 w.heap.size v a1 c1 a2 c2/\KY w1 (w.heap.size+1) p a3 c3 a4 c4/\Lc w1 (w.heap.size+2)/\La w w1):=aa ⟨af hb1 (lI w _ _ _),af hb1 (mE w _ _ _),af hb1 (jI w _ _ _),ab (B3.o _ _ _) hb1⟩;clear hb1;have p0_:=K1.o.2.1.c;go_wp2_with fail
   refine Lk (bG _ _ p _ (by exact HP.o.bel K1.o.2.2.2)) fun w2 hb2=>?_;rw[GP.o];have K2:Ll (KY w2 w.heap.size v a1 c1 a2 c2/\KY w2 (w.heap.size+1) p a3 c3 a4 c4/\Lc w2 (w.heap.size+2)/\La w w2):=aa ⟨af hb2 K1.o.1,af hb2 K1.o.2.1,af hb2 K1.o.2.2.1,ab K1.o.2.2.2 hb2⟩;clear hb2;have y0_:=K2.o.1.c;have z0_:=K2.o.2.2.1.c;have Z:Ll (_/\_):=my (ok:=ok) (g:=w.heap.size+2) (C:=w.heap.size+3) ((H.o.bel K2.o.2.2.2).weak aO) K2.o.2.2.2 (by omega) (by omega);have ZB:Ll _:=aa (LH K2.o.2.2.1.set v a1 c1 a2 c2);have HA:Ll (ge v p=(v,1)):=aa (by unfold ge;rw[if_pos (by simp[GV.o,GP.o])]);go_wp2_with fail
   have q0_:=ZB.o.c;refine MM (v:=.tuple #[.agg (KV v a1 c1 a2 c2),.int .i64 1]) ?_ rfl ?_
   ·simp only[ar]at q0_;simp[results,results102,go_sem,q0_]
   ·exact⟨_,by rw[HA.o],Z.o.1,by rw[HA.o];exact Z.o.2⟩
  | true=>
   have GP:=aa gp;have NP:Ll (dz p):=dQ gp;have DP:Ll (Jd 12 p):=fO.dep 12 (fh gp);clear gp;go_enter func102,ntmps102;go_wp2_with fail
   refine Lk (bG _ _ v _ (by exact H.o.bel (B3.o _ _ _))) fun w1 hb1=>?_;rw[GV.o];have K1:Ll (KY w1 w.heap.size v a1 c1 a2 c2/\KY w1 (w.heap.size+1) p a3 c3 a4 c4/\Lc w1 (w.heap.size+2)/\La w w1):=aa ⟨af hb1 (lI w _ _ _),af hb1 (mE w _ _ _),af hb1 (jI w _ _ _),ab (B3.o _ _ _) hb1⟩;clear hb1;have p0_:=K1.o.2.1.c;go_wp2_with fail
   refine Lk (bG _ _ p _ (by exact HP.o.bel K1.o.2.2.2)) fun w2 hb2=>?_;rw[GP.o];have K2:Ll (KY w2 w.heap.size v a1 c1 a2 c2/\KY w2 (w.heap.size+1) p a3 c3 a4 c4/\Lc w2 (w.heap.size+2)/\La w w2):=aa ⟨af hb2 K1.o.1,af hb2 K1.o.2.1,af hb2 K1.o.2.2.1,ab K1.o.2.2.2 hb2⟩;clear hb2;have p0_:=K2.o.2.1.c;have y0_:=K2.o.1.c;go_wp2_with fail
   refine(Br 12 _ (bg ok w.heap.size (w.heap.size+3)) v p _ _ (by exact(H.o.bel K2.o.2.2.2).weak aO) (by exact(HP.o.bel K2.o.2.2.2).weak aO) NV.o NP.o DP.o).mono ?_;rintro e w4 ⟨r,rfl,hb4,hr⟩;obtain⟨m,hm⟩:∃ m,dH 12 v p=m:=⟨_,rfl⟩
   rw[hm]at hr;obtain⟨a5,a6,c5,c6,rfl⟩:=hr.form;have LW:=ab hb4 (ae w4 (.cells (KV m a5 c5 a6 c6) 39));have K4:Ll (KY (w4.alloc (.cells (KV m a5 c5 a6 c6) 39)) w.heap.size v a1 c1 a2 c2/\KY (w4.alloc (.cells (KV m a5 c5 a6 c6) 39)) (w.heap.size+1) p a3 c3 a4 c4/\Lc (w4.alloc (.cells (KV m a5 c5 a6 c6) 39)) (w.heap.size+2)/\La w (w4.alloc (.cells (KV m a5 c5 a6 c6) 39))):=aa ⟨af LW K2.o.1,af LW K2.o.2.1,af LW K2.o.2.2.1,ab K2.o.2.2.2 LW⟩;have M4:Ll (In (w4.alloc (.cells (KV m a5 c5 a6 c6) 39)) (bg ok w.heap.size (w.heap.size+3)) m (.agg (KV m a5 c5 a6 c6))/\KY (w4.alloc (.cells (KV m a5 c5 a6 c6) 39)) w4.heap.size m a5 c5 a6 c6):=aa ⟨(hr.weak (oK K2.o.2.2.1.lt)).bel (ae _ _),MN w4 _⟩;have HM:=aa hm;clear hm hr hb4 LW;go_wp2_with fail
   refine Lk (bG _ _ m _ (by exact M4.o.1)) fun w5 hb5=>?_;have K5:Ll (KY w5 w.heap.size v a1 c1 a2 c2/\KY w5 (w.heap.size+1) p a3 c3 a4 c4/\Lc w5 (w.heap.size+2)/\La w w5):=aa ⟨af hb5 K4.o.1,af hb5 K4.o.2.1,af hb5 K4.o.2.2.1,ab K4.o.2.2.2 hb5⟩;have M5:Ll (In w5 (bg ok w.heap.size (w.heap.size+3)) m (.agg (KV m a5 c5 a6 c6))/\KY w5 w4.heap.size m a5 c5 a6 c6):=aa ⟨M4.o.1.bel hb5,af hb5 M4.o.2⟩;clear hb5;cases gm:aE m with
   | false=>
    have GM:=aa gm;clear gm;have y0_:=K5.o.1.c;have z0_:=K5.o.2.2.1.c;have Z:Ll (_/\_):=my (ok:=ok) (g:=w.heap.size+2) (C:=w.heap.size+3) ((H.o.bel K5.o.2.2.2).weak aO) K5.o.2.2.2 (by omega) (by omega);have ZB:Ll _:=aa (LH K5.o.2.2.1.set v a1 c1 a2 c2);have HA:Ll (ge v p=(v,2)):=aa (by unfold ge;rw[if_neg (by simp[GV.o,GP.o]),HM.o,if_neg (by simp[GM.o])]);go_wp2_with fail
    have q0_:=ZB.o.c;refine MM (v:=.tuple #[.agg (KV v a1 c1 a2 c2),.int .i64 2]) ?_ rfl ?_
    ·simp only[ar]at q0_;simp[results,results102,go_sem,q0_]
    ·exact⟨_,by rw[HA.o],Z.o.1,by rw[HA.o];exact Z.o.2⟩
   | true=>
    have GM:=aa gm;clear gm;have y0_:=M5.o.2.c;have z0_:=K5.o.2.2.1.c;have Z:Ll (_/\_):=my (ok:=ok) (g:=w.heap.size+2) (C:=w.heap.size+3) M5.o.1 K5.o.2.2.2 (by omega) (by omega);have ZB:Ll _:=aa (LH K5.o.2.2.1.set m a5 c5 a6 c6);have HA:Ll (ge v p=(m,0)):=aa (by unfold ge;rw[if_neg (by simp[GV.o,GP.o]),HM.o,if_pos GM.o]);go_wp2_with fail
    have q0_:=ZB.o.c;refine MM (v:=.tuple #[.agg (KV m a5 c5 a6 c6),.int .i64 0]) ?_ rfl ?_
    ·simp only[ar]at q0_;simp[results,results102,go_sem,q0_]
    ·exact⟨_,by rw[HA.o],Z.o.1,by rw[HA.o];exact Z.o.2⟩
theorem Gc(f):zo f:=DC ut f
def iC (l:Lz):Option V:=(cH (l.length+1) l).bind fun p=>if p.2.dropWhile cw=[]/\aE p.1=true then some p.1 else none
def cW (l:Lz):V × Int:=if 2000 < l.length then (bC 0 0 [],2) else match iC l with | some t=>(t,0) | none=>(bC 0 0 [],1)
theorem FJ(w:LC)(l)(hl:l.length<=maxLen)(hG:cn w):Calls prog 74 #[aR l] w fun e w'=>∃ (t:V) (ee:Int) (a7 a8:Option Addr) (c7 c8:Nat),e=.returned (.tuple #[(.agg (KV t a7 c7 a8 c8)),.int .i64 ee])/\cW l=(t,ee)/\bu w' (fun k=>w.heap.size<=k) 2003 t (.agg (KV t a7 c7 a8 c8))/\La w w':=by
 unfold maxLen at hl;unfold aR;have HG:=aa hG;clear hG;by_cases h2:2000 < l.length
 ·have e0:2000 < (l.length:Int):=by omega
  have PS:Ll (cW l=(bC 0 0 [],2)):=aa (by simp[cW,h2]);go_enter func74,ntmps74;go_wp2_with fail
  refine MM (v:=.tuple #[cz 0 0 [],.int .i64 2]) (by simp[results,results74,go_sem,cz,aR]) rfl ?_;exact⟨bC 0 0 [],2,none,none,0,0,rfl,PS.o,fd _ _ 2002 _ _ _ (by unfold dW;omega) (by unfold dW;omega) (by simp),ae _ _⟩
 ·have e0:¬(2000 < (l.length:Int)):=by omega
  have PS0:Ll (cW l=match iC l with | some t=>(t,0) | none=>(bC 0 0 [],1)):=aa (by simp only[cW,if_neg h2]);go_enter func74,ntmps74;go_wp2_with fail
  have hrd:Ll (bf ((w.alloc fi).alloc (.cells #[.string ⟨l.toArray⟩,.int .i64 0,.bool false] 133)) (w.heap.size+1) ⟨l.toArray⟩ (some l)):=⟨0,⟨et w _ _,Nat.zero_le _,by simp[ByteArray.size];omega⟩,by simp⟩
  have hG2:Ll (cn ((w.alloc fi).alloc (.cells #[.string ⟨l.toArray⟩,.int .i64 0,.bool false] 133))):=HG.o.grown (bd (bd (az w none) _) _) (by simp);have L9:7<=w.heap.size+1:=by have:=HG.o.size;omega
  refine(Gc (l.length+1) _ (w.heap.size+1) ⟨l.toArray⟩ (some l) (by exact hrd.o) (by exact hG2.o) L9 (by simp)).mono ?_;rintro e w3 ⟨t,st3,a7,a8,c7,c8,rfl,hv3,hst3,hr3,hg3⟩;have K3:Ll (bu w3 (fun k=>w.heap.size+2<=k) (l.length+1) t (.agg (KV t a7 c7 a8 c8))/\(some l).bind (cH (l.length+1))=st3.map (fun l=>(t,l))/\bf w3 (w.heap.size+1) ⟨l.toArray⟩ st3/\Lc w3 w.heap.size/\w.grownBy w3 none):=
   ⟨by simpa using hv3,hst3,hr3,ag.grown (fb w _ _) hg3 (by simp),lC (bd (bd (az w none) _) _) hg3 (by omega)⟩
  have hsz3:w.heap.size+1 < w3.heap.size:=hr3.lt;clear hv3 hst3 hr3 hg3;go_wp2_with fail
  refine(rV _ (w.heap.size+1) ⟨l.toArray⟩ st3 (by exact K3.o.2.2.1.grown (World.grownBy_alloc w3 _ none) (by simp))).mono ?_;rintro e w4 ⟨rfl,hr4,hg4⟩;have K4:Ll (bf w4 (w.heap.size+1) ⟨l.toArray⟩ (st3.map (List.dropWhile cw))/\Lc w4 w.heap.size/\KY w4 w3.heap.size t a7 c7 a8 c8/\bu w4 (fun k=>w.heap.size+2<=k) (l.length+1) t (.agg (KV t a7 c7 a8 c8))/\w.grownBy w4 none):=
   ⟨hr4,(K3.o.2.2.2.1.grown (World.grownBy_alloc w3 _ none) (by simp)).grown hg4 (by simp),ag.grown (MN w3 _) hg4 (by simp;omega),(K3.o.1.grown (World.grownBy_alloc w3 _ none) (by simp)).grown hg4 (fun k hk e=>by simp at e;omega),lC (bd K3.o.2.2.2.2 _) hg4 (by omega)⟩
  clear hr4 hg4;have hval:cH (l.length+1) l=st3.map (fun l=>(t,l)):=K3.o.2.1;match st3,K3,K4,hval with
  | none,K3,K4,hval=>
   have PS:Ll (cW l=(bC 0 0 [],1)):=aa (by
    have:iC l=none:=by unfold iC;rw[hval];rfl
    rw[PS0.o,this])
   obtain⟨-,-,c2,-,-⟩:=(eA.nil K4.o.1).c;have EN:Ll (Lc w4 w.heap.size/\w.grownBy w4 none):=⟨K4.o.2.1,K4.o.2.2.2.2⟩
   clear hval;have x0_:=EN.o.1.c;obtain⟨z0,z1,z2,z3,z4,-⟩:=(EN.o.1.set (.int .i64 0) (.int .i64 0) (.string ⟨#[]⟩) (.slice none 0 0) (.slice none 0 0)).c;have Z:Ll (_/\_/\_/\_/\_):=⟨z0,z1,z2,z3,z4⟩
   go_wp2_with fail
   obtain⟨z0,z1,z2,z3,z4⟩:=Z.o;refine MM (v:=.tuple #[cz 0 0 [],.int .i64 1]) ?_ rfl ?_
   ·simp only[ar]at z0 z1 z2 z3 z4;simp[results,results74,go_sem,z0,z1,z2,z3,z4,cz,aR]
   ·exact⟨bC 0 0 [],1,none,none,0,0,rfl,PS.o,fd _ _ 2002 _ _ _ (by unfold dW;omega) (by unfold dW;omega) (by simp),bS (eD EN.o.2 (MG _) _ _ _ _ _)⟩
  | some r,K3,K4,hval=>
   obtain⟨i,hi,ei⟩:=K4.o.1;obtain⟨c0,c1,c2,-,-⟩:=hi.c;have hile:=hi.2.1;have hel:(ByteArray.mk l.toArray).size=l.length:=by simp[ByteArray.size]
   rw[hel]at hile;have EI:=aa ei;clear hi ei;cases hd:r.dropWhile cw with
   | cons x r2=>
    have hlt:(i:Int) < (l.length:Int):=by
     have h9:=EI.o;rw[show (some r).map (List.dropWhile cw)=some (r.dropWhile cw) from rfl,hd]at h9;have:=congrArg List.length h9;simp at this;omega
    have PS:Ll (cW l=(bC 0 0 [],1)):=aa (by
     have:iC l=none:=by unfold iC;rw[hval];simp[hd]
     rw[PS0.o,this])
    have EN:Ll (Lc w4 w.heap.size/\w.grownBy w4 none):=⟨K4.o.2.1,K4.o.2.2.2.2⟩
    clear hval hd;have x0_:=EN.o.1.c;obtain⟨z0,z1,z2,z3,z4,-⟩:=(EN.o.1.set (.int .i64 0) (.int .i64 0) (.string ⟨#[]⟩) (.slice none 0 0) (.slice none 0 0)).c;have Z:Ll (_/\_/\_/\_/\_):=⟨z0,z1,z2,z3,z4⟩
    go_wp2_with fail
    obtain⟨z0,z1,z2,z3,z4⟩:=Z.o;refine MM (v:=.tuple #[cz 0 0 [],.int .i64 1]) ?_ rfl ?_
    ·simp only[ar]at z0 z1 z2 z3 z4;simp[results,results74,go_sem,z0,z1,z2,z3,z4,cz,aR]
    ·exact⟨bC 0 0 [],1,none,none,0,0,rfl,PS.o,fd _ _ 2002 _ _ _ (by unfold dW;omega) (by unfold dW;omega) (by simp),bS (eD EN.o.2 (MG _) _ _ _ _ _)⟩
   | nil=>
    have hge:¬((i:Int) < (l.length:Int)):=by
     have h9:=EI.o;rw[show (some r).map (List.dropWhile cw)=some (r.dropWhile cw) from rfl,hd]at h9;have:=congrArg List.length h9;simp at this;omega
    have p0_:=K4.o.2.2.1.c;cases hgd:aE t with
    | true=>
     have PS:Ll (cW l=(t,0)):=aa (by
      have:iC l=some t:=by unfold iC;rw[hval];simp[hd,hgd]
      rw[PS0.o,this])
     have HGD:=aa hgd;clear hval hd hgd;go_wp2_with fail
     refine Lk (mr _ _ _ t _ (by exact K4.o.2.2.2.1)) fun w5 hb5=>?_;rw[HGD.o];have K5:Ll (Lc w5 w.heap.size/\KY w5 w3.heap.size t a7 c7 a8 c8/\bu w5 (fun k=>w.heap.size+2<=k) (l.length+1) t (.agg (KV t a7 c7 a8 c8))/\w.grownBy w5 none):=⟨af hb5 K4.o.2.1,af hb5 K4.o.2.2.1,K4.o.2.2.2.1.bel hb5,am K4.o.2.2.2.2 (aq hb5)⟩
     clear hb5;have p0_:=K5.o.2.1.c;have x0_:=K5.o.1.c;obtain⟨z0,z1,z2,z3,z4,-⟩:=(LH K5.o.1.set t a7 c7 a8 c8).c;have Z:Ll (_/\_/\_/\_/\_):=⟨z0,z1,z2,z3,z4⟩
     go_wp2_with fail
     obtain⟨z0,z1,z2,z3,z4⟩:=Z.o;refine MM (v:=.tuple #[(.agg (KV t a7 c7 a8 c8)),.int .i64 0]) ?_ rfl ?_
     ·simp only[ar]at z0 z1 z2 z3 z4;simp[results,results74,go_sem,z0,z1,z2,z3,z4]
     ·refine⟨t,0,a7,a8,c7,c8,rfl,PS.o,?_,bS (eD K5.o.2.2.2 (MG _) _ _ _ _ _)⟩;exact((K5.o.2.2.1.grown (LH (aI w5 w.heap.size) t a7 c7 a8 c8) (fun k hk e=>by simp at e;omega)).weak (fun k hk=>by omega)).le (by omega)
    | false=>
     have PS:Ll (cW l=(bC 0 0 [],1)):=aa (by
      have:iC l=none:=by unfold iC;rw[hval];simp[hgd]
      rw[PS0.o,this])
     have HGD:=aa hgd;clear hval hd hgd;go_wp2_with fail
     refine Lk (mr _ _ _ t _ (by exact K4.o.2.2.2.1)) fun w5 hb5=>?_;rw[HGD.o];have EN:Ll (Lc w5 w.heap.size/\w.grownBy w5 none):=⟨af hb5 K4.o.2.1,am K4.o.2.2.2.2 (aq hb5)⟩
     clear hb5;have x0_:=EN.o.1.c;obtain⟨z0,z1,z2,z3,z4,-⟩:=(EN.o.1.set (.int .i64 0) (.int .i64 0) (.string ⟨#[]⟩) (.slice none 0 0) (.slice none 0 0)).c;have Z:Ll (_/\_/\_/\_/\_):=⟨z0,z1,z2,z3,z4⟩
     go_wp2_with fail
     obtain⟨z0,z1,z2,z3,z4⟩:=Z.o;refine MM (v:=.tuple #[cz 0 0 [],.int .i64 1]) ?_ rfl ?_
     ·simp only[ar]at z0 z1 z2 z3 z4;simp[results,results74,go_sem,z0,z1,z2,z3,z4,cz,aR]
     ·exact⟨bC 0 0 [],1,none,none,0,0,rfl,PS.o,fd _ _ 2002 _ _ _ (by unfold dW;omega) (by unfold dW;omega) (by simp),bS (eD EN.o.2 (MG _) _ _ _ _ _)⟩
def dG (w:LC) (B:Nat) (v:Value) (acc:Lz):Prop:=w.ownsRow B 5 1 v acc.length (Lib.byteCells acc)
theorem dG.nil(w B):dG w B (.slice none 0 0) []:=World.ownsRow_nil _ _ _ _
theorem dG.drewN{acc}(h:dG w B v acc)(n):dG (w.drewN n) B v acc:=h
theorem dG.alloc{acc}(h:dG w B v acc)(o:Obj):dG (w.alloc o) B v acc:=World.ownsRow.alloc h o
def Fr (B:Nat) (w w':LC):Prop:=Below B w w'/\Lib.OthersKept 5 none w w'
theorem Fr.refl(B w):Fr B w w:=⟨MK B w,Lib.OthersKept.refl _ _ _⟩
theorem Fr.trans{a}(h:Fr B a w)(k:Fr B w w'):Fr B a w':=⟨h.1.trans k.1,h.2.trans k.2⟩
theorem Fr.size(h:Fr B w w'):w.heap.size<=w'.heap.size:=h.1.size
theorem Et{acc}(h:dG w B v acc)(hg:w.grownBy w' v.ownBlock)(hB:B<=w.heap.size):Fr B w w':=by
 refine⟨⟨hg.os,hg.tape,hg.output,hg.size,fun k hk=>hg.block k (by omega) (fun e=>by have:=(World.ownsRow.lt h k e.symm).1;omega)⟩,?_⟩;intro k o ho _ hno;have hk:k < w.heap.size:=(MF.1 ho).1;refine(hg.block k hk ?_).trans ho;intro e;rcases h.2 with⟨hv,-⟩ | ⟨g,cap,cur,hv,-,hh,-⟩
 ·subst hv;simp[Value.ownBlock]at e
 ·subst hv;simp only[Value.ownBlock,Option.some.injEq]at e;subst e;rw[hh]at ho;cases ho;exact hno _ _ rfl
theorem eq(w B)(o:Obj)(hB:B<=w.heap.size):Fr B w (w.alloc o):=⟨(MK B w).alloc hB o,(Lib.OthersKept.refl _ _ _).alloc o⟩
theorem Fr.box(h:Fr B w w'){c0 c1 c2 c3 c4}(hb:ag w g c0 c1 c2 c3 c4):ag w' g c0 c1 c2 c3 c4:=
 h.2 g _ hb (by simp) (by intro c fz e;simp at e)
theorem jg(acc news):Lib.byteCells acc++Lib.byteCells news=Lib.byteCells (acc++news):=by simp[Lib.byteCells]
theorem CK(news):∀ u∈Lib.byteCells news,u.oneCell'=true:=by
 intro u hu;simp only[Lib.byteCells,List.mem_map]at hu;obtain⟨c,-,rfl⟩:=hu;rfl
theorem DG(news):(Lib.byteCells news).length=news.length:=by simp[Lib.byteCells]
theorem uo{o:Oper}{a}{K:Act->LC->Prop}{Q:Exit->Act->LC->Prop}(s x:Operand)(ho:o.op=.call { callee:=.builtin .append,args:=#[s,x],argTypes:=#[101,101] })(B v acc news)(cs:Array Value)(Mb:cs.toList=Lib.byteCells news)(m)(hm:m=news.length)(hs:a.eval s=v)(hx:a.eval x=.slice (some ⟨w.heap.size,0,none⟩) m m)(hown:dG w B v acc)(hB:B<=w.heap.size)(hl:acc.length<=1000000000)(hn:m<=1000)(hK:∀ v' w',dG w' B v' (acc++news)->Fr B w w'->K (a.put o.dst v') w'):o.wp prog a (w.alloc (.cells cs 5)) K Q:=by
 obtain⟨i0,hi,hz0,hz1,hz2⟩:=info_parts infoByte;refine wp_append_own _ s x 101 ho B 5 i0 (.int .u8 0) 1 1 underlying101 hi hz0 hz1 hz2 rfl (by decide) v acc.length (Lib.byteCells acc) hs (World.ownsRow.alloc hown _) ⟨w.heap.size,0,none⟩ m m (Lib.byteCells news) hx (by rw[DG,hm];simp)
  ?_ (CK news) (by unfold maxLen;omega) (by omega) (by simp;omega) ?_
 ·intro j u hj;rw[<-Mb]at hj;rw[eh];simp only[World.cell?,MN,Nat.zero_add];simpa using hj
 ·intro v' w' h1 h2 _;rw[jg,hm,<-Mx]at h1;exact hK v' w' h1 ((eq w B _ hB).trans (Et (dG.alloc hown _) h2 (by simp;omega)))
theorem zn{ops:Array Oper}{o:Oper}{a}{K:Act->LC->Prop}{Q:Exit->Act->LC->Prop}{E:Prop}(hgd:o.guard=none)(s x:Operand)(ho:o.op=.call { callee:=.builtin .append,args:=#[s,x],argTypes:=#[101,101] })(B v acc news)(cs:Array Value)(Mb:cs.toList=Lib.byteCells news)(m)(hm:m=news.length)(hs:a.eval s=v)(hx:a.eval x=.slice (some ⟨w.heap.size,0,none⟩) m m)(hown:dG w B v acc)(hB:B<=w.heap.size)(hl:acc.length<=1000000000)(hn:m<=1000)(hK:∀ v' w',dG w' B v' (acc++news)->Fr B w w'->K (a.put o.dst v') w'):if Region.wanted o (yielded ops a.tmps)=true then Oper.wp prog o a (w.alloc (.cells cs 5)) K Q else E:=by
 have hw:Region.wanted o (yielded ops a.tmps)=true:=by simp[Region.wanted,hgd]
 rw[if_pos hw];exact uo s x ho B v acc news cs Mb m hm hs hx hown hB hl hn hK
theorem dp{ops:Array Oper}{rest:List Oper}{o:Oper}{a}{Q:Exit->Act->LC->Prop}(hgd:o.guard=none)(s x:Operand)(ho:o.op=.call { callee:=.builtin .append,args:=#[s,x],argTypes:=#[101,101] })(B v acc news)(cs:Array Value)(Mb:cs.toList=Lib.byteCells news)(m)(hm:m=news.length)(hs:a.eval s=v)(hx:a.eval x=.slice (some ⟨w.heap.size,0,none⟩) m m)(hown:dG w B v acc)(hB:B<=w.heap.size)(hl:acc.length<=1000000000)(hn:m<=1000)(hK:∀ v' w',dG w' B v' (acc++news)->Fr B w w'->wpList prog ops Q rest (a.put o.dst v') w'):wpList prog ops Q (o :: rest) a (w.alloc (.cells cs 5)):=
 wpList_plain hgd fun _ hKK=>uo s x ho B v acc news cs Mb m hm hs hx hown hB hl hn fun v' w' h2 h3=>hKK _ _ (hK v' w' h2 h3)
theorem jO{ops:Array Oper}{rest:List Oper}{o:Oper}{a}{Q:Exit->Act->LC->Prop}(hgd:o.guard=none)(s x:Operand)(ho:o.op=.call { callee:=.builtin .append,args:=#[s,x],argTypes:=#[101,9] })(B v acc news)(hs:a.eval s=v)(hx:a.eval x=.string ⟨news.toArray⟩)(hown:dG w B v acc)(hB:B<=w.heap.size)(hl:acc.length<=1000000000)(hn:news.length<=1000)(hK:∀ v' w',dG w' B v' (acc++news)->Fr B w w'->wpList prog ops Q rest (a.put o.dst v') w'):wpList prog ops Q (o :: rest) a w:=by
 obtain⟨i0,hi,hz0,hz1,hz2⟩:=info_parts infoByte;have he:(ByteArray.mk news.toArray).size=news.length:=by simp[ByteArray.size]
 refine Lib.wpList_append_own_string w hgd s x 101 9 ho B 5 i0 underlying101 underlying9 hi hz0 hz1 hz2 v acc.length (Lib.byteCells acc) hs hown ⟨news.toArray⟩ hx (by unfold maxLen;omega) (by omega) hB ?_;intro v' w' h1 h2 _;rw[Lib.strCells_toArray,jg,he,<-Mx]at h1;exact hK v' w' h1 (Et hown h2 hB)
def wT (b:Bool):Lz:=if b then [116,114,117,101] else [102,97,108,115,101]
theorem qK(w B v acc b)(h:dG w B v acc)(hB:B<=w.heap.size)(hl:acc.length<=1000000000):Calls prog 86 #[v,.bool b] w fun e w'=>∃ v',e=.returned v'/\dG w' B v' (acc++wT b)/\Fr B w w':=by
 have H:=aa h;clear h;cases b with
 | true=>
  go_enter func86,ntmps86;go_wp2_with (at_builtin;go_must (refine jO rfl _ _ rfl B v acc [116,114,117,101] rfl rfl H.o hB hl (by decide) ?_);intro v4 w4 LS LR;refine Ll.o ?_)
  refine aa ?_;have D:=aa (And.intro LS LR);clear LS LR;go_wp2
  go_ret;exact⟨v4,rfl,D.o⟩
 | false=>
  go_enter func86,ntmps86;go_wp2_with (at_builtin;go_must (refine jO rfl _ _ rfl B v acc [102,97,108,115,101] rfl rfl H.o hB hl (by decide) ?_);intro v4 w4 LS LR;refine Ll.o ?_)
  refine aa ?_;have D:=aa (And.intro LS LR);clear LS LR;go_wp2
  go_ret;exact⟨v4,rfl,D.o⟩
theorem qV(w B v acc b)(h:dG w B v acc)(hB:B<=w.heap.size)(hl:acc.length<=1000000000):Calls prog 69 #[v,.bool b] w fun e w'=>∃ v',e=.returned v'/\dG w' B v' (acc++wT b)/\Fr B w w':=by
 have H:=aa h;clear h;go_enter func69,ntmps69;go_wp2_with (go_at_call 86;refine(qK _ B v acc b H.o hB hl).mono ?_;rintro e w1 ⟨v1,rfl,h1,hb1⟩)
 have D:=aa (And.intro h1 hb1);clear h1 hb1;go_wp2
 go_ret;exact⟨v1,rfl,D.o⟩
def nh:Lz:=[34,92,8,12,10,13,9]
def zy:Lz:=[48,49,50,51,52,53,54,55,56,57,97,98,99,100,101,102]
def oy (n:Nat):UInt8:=zy.getD n 0
def kp (c:UInt8):Lz:=
 if c=34 then [92,34] else if c=92 then [92,92] else if c=8 then [92,98] else if c=12 then [92,102] else if c=10 then [92,110] else if c=13 then [92,114] else if c=9 then [92,116]
 else if c.toNat < 32\/c.toNat=127 then [92,117,48,48,oy (c.toNat / 16),oy (c.toNat % 16)] else [c]
theorem AU(c):(kp c).length<=6:=by
 unfold kp;repeat' split
 all_goals simp
theorem tw(c)(h:c∈nh):∃ i:Nat,i < 7/\Lib.indexByte nh c=i/\∃ d,([34,92,98,102,110,114,116]:Lz)[i]?=some d/\kp c=[92,d]:=by
 simp only[nh,List.mem_cons,List.not_mem_nil,or_false]at h;rcases h with rfl | rfl | rfl | rfl | rfl | rfl | rfl
 ·exact⟨0,by decide,by decide,34,rfl,by decide⟩
 ·exact⟨1,by decide,by decide,92,rfl,by decide⟩
 ·exact⟨2,by decide,by decide,98,rfl,by decide⟩
 ·exact⟨3,by decide,by decide,102,rfl,by decide⟩
 ·exact⟨4,by decide,by decide,110,rfl,by decide⟩
 ·exact⟨5,by decide,by decide,114,rfl,by decide⟩
 ·exact⟨6,by decide,by decide,116,rfl,by decide⟩
theorem vC(c):∀ (l:Lz),c ∉ l->Lib.indexByte l c=-1
 | [],_=>rfl
 | x :: l,h=>by
  have h1:(x == c)=false:=by rw[MO];rintro rfl;exact h (List.mem_cons_self ..)
  simp[Lib.indexByte,h1,vC c l fun hh=>h (List.mem_cons_of_mem _ hh)]
theorem yM(c)(h:c ∉ nh):kp c=if c.toNat < 32\/c.toNat=127 then [92,117,48,48,oy (c.toNat / 16),oy (c.toNat % 16)] else [c]:=by
 simp only[nh,List.mem_cons,List.not_mem_nil,or_false,not_or]at h;obtain⟨h1,h2,h3,h4,h5,h6,h7⟩:=h;simp[kp,h1,h2,h3,h4,h5,h6,h7]
variable {k i:Nat}
theorem mN{l:Lz}{d:UInt8}(hd:l[i]?=some d)(h:i < (ByteArray.mk l.toArray).size):(ByteArray.mk l.toArray)[i]=d:=by
 obtain⟨h1,h2⟩:=Mz.1 hd;rw[<-h2];rfl
theorem nJ{ops:Array Oper}{o:Oper}{a}{K:Act->LC->Prop}{Q:Exit->Act->LC->Prop}{E:Prop}(hgd:o.guard=none)(s x:Operand)(ho:o.op=.call { callee:=.builtin .append,args:=#[s,x],argTypes:=#[101,101] })(B v acc news)(cs:Array Value)(Mb:cs.toList=Lib.byteCells news)(m)(hm:m=news.length)(hs:a.eval s=v)(hx:a.eval x=.slice (some ⟨w.heap.size,0,none⟩) m m)(hown:dG w B v acc)(hB:B<=w.heap.size)(hl:acc.length<=1000000000)(hn:m<=1000)(hK:∀ v' w',dG w' B v' (acc++news)->Fr B w w'->K (a.put o.dst v') w'):if Region.wanted o (yielded ops a.tmps)=true then Oper.wp prog o a (w.alloc (.cells cs 5)).drew K Q else E:=
 zn (w:=w.drew) hgd s x ho B v acc news cs Mb m hm hs hx hown hB hl hn fun v' w' h1 h2=>hK v' w' h1 ⟨⟨h2.1.os,h2.1.tape,h2.1.output,h2.1.size,h2.1.block⟩,h2.2⟩
theorem qR(w B v acc c)(h:dG w B v acc)(hB:B<=w.heap.size)(hl:acc.length<=1000000000):Calls prog 88 #[v,.int .u8 c.toNat] w fun e w'=>∃ v',e=.returned v'/\dG w' B v' (acc++kp c)/\Fr B w w':=by
 have H:=aa h;clear h;have hc:((c.toNat:Int).toNat).toUInt8=c:=by simp
 by_cases hm:c∈nh
 ·obtain⟨i,hi,e1,d,hd,e2⟩:=tw c hm;have E2:=aa e2;clear e2 hm;have e1':Lib.indexByte (ByteArray.mk #[34,92,8,12,10,13,9]).data.toList ((c.toNat:Int).toNat).toUInt8=i:=by rw[hc];exact e1
  have hi7:i < (ByteArray.mk #[34,92,98,102,110,114,116]).size:=hi;have hd':=mN hd hi7;clear hd e1;go_enter func88,ntmps88;go_wp2_with fail
  refine LE (Tryz.strings_IndexByte _ _ _) ?_;rw[e1'];clear e1';go_wp2_with (at_builtin;go_must (refine dp rfl _ _ rfl B v acc [92,d] _ (by simp[Lib.byteCells,hd']) 2 rfl rfl rfl H.o hB hl (by decide) ?_);intro v4 w4 LS LR;refine Ll.o ?_)
  refine aa ?_;have D:=aa (And.intro LS LR);clear LS LR;go_wp2_with fail
  go_ret;exact⟨v4,rfl,by rw[E2.o];exact D.o.1,D.o.2⟩
 ·have e1':Lib.indexByte (ByteArray.mk #[34,92,8,12,10,13,9]).data.toList ((c.toNat:Int).toNat).toUInt8=-1:=by rw[hc];exact vC c _ hm
  have E2:=aa (yM c hm);clear hm;have hlt:c.toNat < 256:=c.toNat_lt;have fin:Ll (∀ (w':LC) (v':Value) (news:Lz),(c.toNat < 32\/c.toNat=127)->news=[92,117,48,48,oy (c.toNat / 16),oy (c.toNat % 16)]->dG w' B v' (acc++news)->dG w' B v' (acc++kp c)):=fun w' v' news h1 h2 h3=>by rw[E2.o,if_pos h1,<-h2];exact h3
  obtain⟨q,hq⟩:∃ q,q=c.toNat / 16:=⟨_,rfl⟩
  obtain⟨r,hr⟩:∃ r,r=c.toNat % 16:=⟨_,rfl⟩
  have q1:IntKind.u8.wrap ((c.toNat:Int) / 16)=(q:Int):=by
   rw[hq];simp only[IntKind.wrap,IntKind.signed,IntKind.bits];simp;omega
  have r1:((c.toNat:Int)).tmod 16=(r:Int):=by rw[hr,Int.tmod_eq_emod_of_nonneg (by omega)];omega
  have q6:IntKind.u8.wrap (q:Int)=(q:Int):=by
   simp only[IntKind.wrap,IntKind.signed,IntKind.bits];simp;omega
  have q5:(c.toNat:Int) / 16=(q:Int):=by omega
  have r5:(c.toNat:Int) % 16=(r:Int):=by omega
  have q2:(q:Int) < 16:=by omega
  have r2:(r:Int) < 16:=by omega
  have q3:q < (ByteArray.mk #[48,49,50,51,52,53,54,55,56,57,97,98,99,100,101,102]).size:=by show q < 16;omega
  have r3:r < (ByteArray.mk #[48,49,50,51,52,53,54,55,56,57,97,98,99,100,101,102]).size:=by show r < 16;omega
  have q4:(ByteArray.mk #[48,49,50,51,52,53,54,55,56,57,97,98,99,100,101,102])[q]=oy q:=mN (l:=zy) (by unfold oy;rw[List.getD_eq_getElem?_getD,Mw (show q < zy.length from q3)];rfl) q3;have r4:(ByteArray.mk #[48,49,50,51,52,53,54,55,56,57,97,98,99,100,101,102])[r]=oy r:=mN (l:=zy) (by unfold oy;rw[List.getD_eq_getElem?_getD,Mw (show r < zy.length from r3)];rfl) r3;have HQ:=aa hq;have HR:=aa hr;clear hq hr;by_cases h2:c.toNat < 32
  ·have g1:(c.toNat:Int) < 32:=by omega
   go_enter func88,ntmps88;go_wp2_with fail
   refine LE (Tryz.strings_IndexByte _ _ _) ?_;rw[e1'];clear e1';go_wp2_with fail
   go_region_law ((first | (refine nJ (by rfl) _ _ (by rfl) B v acc [92,117,48,48,oy q,oy r] _ (by simp[Lib.byteCells,q4,r4]) 6 (by rfl) (by rfl) (by rfl) (by exact H.o) (by exact hB) hl (by decide) ?_;intro v4 w4 LS LR) | fail))
   all_goals
    have D:=aa (And.intro LS LR);clear LS LR;go_wp2_with fail
    go_ret;exact⟨v4,rfl,fin.o _ _ _ (.inl h2) (by rw[HQ.o,HR.o]) D.o.1,D.o.2⟩
  ·have g1:¬(c.toNat:Int) < 32:=by omega
   by_cases h3:c.toNat=127
   ·have hc127:c=127:=UInt8.toNat_inj.1 h3;subst hc127;clear fin HQ HR q1 r1 q2 r2 q3 r3 q4 r4 q5 q6 r5 e1' E2 hlt g1 h2 h3 hc;show Calls prog 88 #[v,.int .u8 127] w _;have w7:IntKind.u8.wrap 7=7:=by decide
    have x7:(ByteArray.mk #[48,49,50,51,52,53,54,55,56,57,97,98,99,100,101,102])[7]'(by decide)=55:=mN (l:=zy) rfl _;have x15:(ByteArray.mk #[48,49,50,51,52,53,54,55,56,57,97,98,99,100,101,102])[15]'(by decide)=102:=mN (l:=zy) rfl _;go_enter func88,ntmps88;go_wp2_with fail
    refine LE (Tryz.strings_IndexByte _ _ _) ?_;rw[show Lib.indexByte (ByteArray.mk #[34,92,8,12,10,13,9]).data.toList (Int.toNat 127).toUInt8=-1 from by decide];go_wp2_with fail
    go_region_law ((first | (refine nJ (by rfl) _ _ (by rfl) B v acc [92,117,48,48,55,102] _ (by simp[Lib.byteCells,x7,x15]) 6 (by rfl) (by rfl) (by rfl) (by exact H.o) (by exact hB) hl (by decide) ?_;intro v4 w4 LS LR) | fail))
    all_goals
     have D:=aa (And.intro LS LR);clear LS LR;go_wp2_with fail
     go_ret;exact⟨v4,rfl,D.o.1,D.o.2⟩
   ·have g2:((c.toNat:Int) == 127)=false:=by rw[MO];omega
    go_enter func88,ntmps88;go_wp2_with fail
    refine LE (Tryz.strings_IndexByte _ _ _) ?_;rw[e1'];clear e1';go_wp2_with (at_builtin;go_must (refine dp rfl _ _ rfl B v acc [c] _ (by simp[Lib.byteCells]) 1 rfl rfl rfl H.o hB hl (by decide) ?_);intro v4 w4 LS LR;refine Ll.o ?_)
    refine aa ?_;have D:=aa (And.intro LS LR);clear LS LR;go_wp2_with fail
    go_ret;exact⟨v4,rfl,by rw[E2.o,if_neg (by omega)];exact D.o.1,D.o.2⟩
def fZ (s:Lz):Lz:=34 :: s.flatMap kp++[34]
theorem uJ(s:Lz):(s.flatMap kp).length<=6 * s.length:=by
 induction s with
 | nil=>simp
 | cons c s ih=>have:=AU c;simp only[List.flatMap_cons,Mx,My];omega
theorem gV{α:Type}{l:List α}{x:α}(h:l[k]?=some x):l.take (k+1)=l.take k++[x]:=by
 rw[List.take_add_one,h];rfl
theorem gH(w:LC)(B v acc s)(h:dG w B v acc)(hB:B<=w.heap.size)(hl:acc.length<=100000000)(hs:s.length<=1000000):Calls prog 71 #[v,aR s] w fun e w'=>∃ v',e=.returned v'/\dG w' B v' (acc++fZ s)/\Fr B w w':=by
 have H:=aa h;clear h;unfold aR;go_enter func71,ntmps71;go_wp2_with (at_builtin;go_must (refine dp rfl _ _ rfl B v acc [34] _ (by rfl) 1 rfl rfl rfl H.o hB (by omega) (by decide) ?_);intro v4 w4 LS LR;refine Ll.o ?_)
 refine aa ?_;have D:=aa (And.intro LS LR);clear LS LR;go_wp2_with fail
 go_loopg [0,5] s.length (fun gk u i wr=>∃ (k:Nat),k<=s.length/\gk=s.length - k/\i=.int .i64 k/\dG wr B u (acc++[34]++(s.take k).flatMap kp)/\Fr B w wr)
 case atStart=>exact⟨0,Nat.zero_le _,rfl,rfl,by simpa using D.o.1,D.o.2⟩
 case round=>
  obtain⟨k,hk,hgk,rfl,hrow,hbel⟩:=hrel;have LT:(acc++[34]++(s.take k).flatMap kp).length<=107000000:=by
   have:=uJ (s.take k);have h9:(s.take k).length<=1000000:=by rw[MC];omega
   simp only[Mx,My,List.length_nil];omega
  have A:=aa (And.intro hrow hbel);have hBr:B<=wr.heap.size:=MH hB hbel.size;clear hrow hbel;by_cases hlt:k < s.length
  ·have c1:(k:Int) < (s.length:Int):=by omega
   have c2:k < (ByteArray.mk s.toArray).size:=by simpa [ByteArray.size] using hlt
   have hx:s[k]?=some s[k]:=Mw hlt;have c3:=mN hx c2;go_wp2_with fail
   refine(qR _ B u0 _ s[k] A.o.1 hBr (by omega)).mono ?_;rintro e w5 ⟨v5,rfl,hrow5,hbel5⟩;have D5:=aa (And.intro hrow5 hbel5);clear hrow5 hbel5;go_wp2_with fail
   go_roundg (s.length - (k+1))
   case measure=>omega
   case rel=>exact⟨k+1,hlt,rfl,rfl,by rw[gV hx,List.flatMap_append,<-List.append_assoc];simpa using D5.o.1,A.o.2.trans D5.o.2⟩
  ·have c1:¬(k:Int) < (s.length:Int):=by omega
   have hk':k=s.length:=by omega
   subst hk';go_wp2_with (at_builtin;go_must (refine dp rfl _ _ rfl B u0 _ [34] _ (by rfl) 1 rfl rfl rfl A.o.1 hBr (by omega) (by decide) ?_);intro v5 w5 hown5 hgrow5;refine Ll.o ?_)
   refine aa ?_;have D5:=aa (And.intro hown5 hgrow5);clear hown5 hgrow5;go_wp2_with fail
   go_ret;exact⟨v5,rfl,by simpa [fZ] using D5.o.1,A.o.2.trans D5.o.2⟩
variable {d:Nat}
def aZ:List Lz->Lz
 | []=>[]
 | [x]=>x
 | x :: y :: r=>x++44 :: aZ (y :: r)
theorem R8(x):∀ xs,aZ (xs++[x])=(if xs=[] then [] else aZ xs++[44])++x
 | []=>by simp[aZ]
 | [y]=>by simp[aZ]
 | y :: z :: r=>by
  have h:=R8 x (z :: r);simp only[List.cons_append,aZ,reduceCtorEq,if_false]at h ⊢;rw[h];simp
theorem lj:∀ (xs:List Lz) (k:Nat),∃ r,aZ xs=aZ (xs.take k)++r
 | [],k=>⟨[],by simp[aZ]⟩
 | [x],0=>⟨x,by simp[aZ]⟩
 | [x],k+1=>⟨[],by simp[aZ]⟩
 | x :: y :: r,0=>⟨_,by simp[aZ];rfl⟩
 | x :: y :: r,1=>⟨44 :: aZ (y :: r),by simp[aZ]⟩
 | x :: y :: r,k+2=>by
  obtain⟨s,h⟩:=lj (y :: r) (k+1);refine⟨s,?_⟩;simp only[List.take_succ_cons,aZ]at h ⊢;rw[h];simp
def dL (g:V->Lz) (ks:List Lz) (l:List V):List Lz:=List.zipWith (fun k x=>fZ k++58 :: g x) ks l
def aH:Nat->V->Lz
 | 0,_=>[]
 | d+1,t=>if t.kind=0 then [110,117,108,108] else if t.kind=1 then wT (t.n == 1) else if t.kind=2 then Lib.itoa t.n else if t.kind=3 then fZ t.s
  else if t.kind=4 then 91 :: aZ (t.l.map (aH d))++[93] else 123 :: aZ (dL (aH d) t.keys t.l)++[125]
def jo:Nat->V->Prop
 | 0,_=>True
 | d+1,t=>t.s.length<=1000/\(t.kind≠4->t.l.length<=t.keys.length)/\(∀ k∈t.keys,k.length<=1000)/\∀ x∈t.l,jo d x
def Dp (d:Nat):Prop:=∀ (w:LC) (B:Nat) (v:Value) (acc:Lz) (t:V) (val:Value),bu w (fun k=>k < B) d t val->jo d t->dG w B v acc->B<=w.heap.size->cn w->7<=B->acc.length+(aH d t).length<=100000000 ->
 Calls prog 54 #[v,val] w fun e w'=>∃ v',e=.returned v'/\dG w' B v' (acc++aH d t)/\Fr B w w'
theorem bu.fr(h:bu w (fun k=>k < B) d t v)(hf:Fr B w w'):bu w' (fun k=>k < B) d t v:=
 bu.imp (fun a x h1 h2=>⟨h1,(World.cell?_of_block (hf.1.block _ h1)).trans h2⟩) d h
theorem cn.fr(h:cn w)(hf:Fr B w w')(hB:7<=B):cn w':=by
 obtain⟨⟨tp,p,t,f,h1⟩,⟨tq,q,t2,f2,h2⟩,⟨t3,f3,h3⟩⟩:=h;exact⟨⟨tp,p,t,f,(hf.1.block _ (by omega)).trans h1⟩,⟨tq,q,t2,f2,(hf.1.block _ (by omega)).trans h2⟩,⟨t3,f3,(hf.1.block _ (by omega)).trans h3⟩⟩
theorem wL{xs x}(hx:xs[k]?=some x):(aZ (xs.take k)).length+(if k=0 then 0 else 1)+x.length<=(aZ xs).length:=by
 obtain⟨r,hr⟩:=lj xs (k+1);rw[gV hx,R8]at hr;have hlt:=(Mz.1 hx).1;rw[hr];by_cases hk:k=0
 ·subst hk;simp[aZ]
 ·have h9:xs.take k≠[]:=by
   intro e;have:=congrArg List.length e;simp only[MC,List.length_nil]at this;omega
  simp only[if_neg h9,if_neg hk,Mx,My,List.length_nil];omega
theorem gn{ops:Array Oper}{rest:List Oper}{o:Oper}{a}{Q:Exit->Act->LC->Prop}(hgd:o.guard=none)(s x:Operand)(ho:o.op=.call { callee:=.builtin .append,args:=#[s,x],argTypes:=#[101,101] })(B v acc news)(cs:Array Value)(Mb:cs.toList=Lib.byteCells news)(m)(hm:m=news.length)(hs:a.eval s=v)(g)(hg:w.heap.size=g)(hx:a.eval x=.slice (some ⟨g,0,none⟩) m m)(hown:dG w B v acc)(hB:B<=w.heap.size)(hl:acc.length<=1000000000)(hn:m<=1000)(hK:∀ v' w',dG w' B v' (acc++news)->Fr B w w'->wpList prog ops Q rest (a.put o.dst v') w'):wpList prog ops Q (o :: rest) a (w.alloc (.cells cs 5)):=
 dp hgd s x ho B v acc news cs Mb m hm hs (by rw[hg];exact hx) hown hB hl hn hK
theorem qL(d)(ih:Dp d)(w:LC)(B v acc t val)(hv:bu w (fun k=>k < B) (d+1) t val)(hsm:jo (d+1) t)(h:dG w B v acc)(hB:B<=w.heap.size)(hG:cn w)(hgB:7<=B)(hl:acc.length+(aZ (t.l.map (aH d))).length+2<=100000000):Calls prog 72 #[v,val] w fun e w'=>∃ v',e=.returned v'/\dG w' B v' (acc++(91 :: aZ (t.l.map (aH d))++[93]))/\Fr B w w':=by
 obtain⟨a7,a8,c7,c8,rfl⟩:=hv.shape;have HV:=aa hv;have IH:=aa ih;have H:=aa h;have HG:=aa hG;have HS:=aa hsm;have l2:t.l.length<=maxLen:=by obtain⟨ks,ls,e,h1,h2,h3,h4,h5⟩:=hv;exact h5.1
 unfold maxLen at l2;clear hv ih h hG hsm;have hB1:B<=(w.alloc (.cells (KV t a7 c7 a8 c8) 39)).heap.size:=by simp;omega
 go_enter func72,ntmps72;go_wp2_with (at_builtin;go_must (refine gn rfl _ _ rfl B v acc [91] _ (by rfl) 1 rfl rfl (w.heap.size+1) (by simp) rfl (by exact H.o.alloc _) hB1 (by omega) (by decide) ?_);intro v4 w4 LS LR;refine Ll.o ?_)
 refine aa ?_;have q4:=(LR.box (g:=w.heap.size) (MN w _)).c.2.2.2.2.1;have D:=aa (And.intro LS ((eq w B _ hB).trans LR));clear LS LR;go_wp2_with fail
 go_loopg [0,13] t.l.length (fun gk u i wr=>∃ (k:Nat),k<=t.l.length/\gk=t.l.length - k/\i=.int .i64 k/\dG wr B u (acc++[91]++aZ ((t.l.map (aH d)).take k))/\Fr B w wr)
 case atStart=>exact⟨0,Nat.zero_le _,rfl,rfl,by simpa [aZ] using D.o.1,D.o.2⟩
 case round=>
  obtain⟨k,hk,hgk,rfl,hrow,hbel⟩:=hrel;have A:=aa (And.intro hrow hbel);have hBr:B<=wr.heap.size:=MH hB hbel.size;clear hrow hbel q4;by_cases hlt:k < t.l.length
  ·have hvr:=HV.o.fr A.o.2;have hxm:(t.l.map (aH d))[k]?=some (aH d t.l[k]):=by rw[List.getElem?_map,Mw hlt];rfl
   have hpl:=wL hxm;have HX:=aa hxm;clear hxm;obtain⟨ks,ls,e,-,-,-,-,h5⟩:=hvr;simp only[Value.agg.injEq,Array.mk.injEq,List.cons.injEq,and_true]at e;obtain⟨-,-,-,-,rfl⟩:=e;obtain⟨_,h5⟩:=h5;rcases h5 with⟨e,_⟩ | ⟨b,off,c,hls,hc1,hc2,Mb⟩
   ·rw[e]at hlt;simp at hlt
   simp only[Value.slice.injEq]at hls;obtain⟨rfl,-,rfl⟩:=hls;obtain⟨v0,v1,v2,v3,v4',g',g0,g1,g2,g3,g4,g5⟩:=Mb k t.l[k] (Mw hlt);have G5:=aa g5;obtain⟨rfl,rfl,rfl,⟨a5,c5,rfl⟩,⟨a6,c6,rfl⟩⟩:=g5.agg;clear Mb g5;unfold maxLen at hc2;have hsx:Ll (jo d t.l[k]):=HS.o.2.2.2 _ (List.getElem_mem hlt);have hBr1:∀ o,B<=(wr.alloc o).heap.size:=fun o=>by simp;omega
   by_cases hk0:k=0
   ·subst hk0;simp only[Nat.zero_mul,Nat.add_zero]at g0 g1 g2 g3 g4;go_wp2_with fail
    refine(IH.o _ B u0 (acc++[91]++aZ ((t.l.map (aH d)).take 0)) t.l[0] _ (by exact G5.o.fr (eq _ _ _ hBr)) hsx.o (by exact A.o.1.alloc _) (by exact hBr1 _) (by exact HG.o.fr (A.o.2.trans (eq _ _ _ hBr)) hgB) hgB ?_).mono ?_
    ·simp only[if_true]at hpl;simp only[Mx,My,List.length_nil];omega
    rintro e w5 ⟨v5,rfl,hrow5,hbel5⟩;have D5:=aa (And.intro hrow5 hbel5);clear hrow5 hbel5;go_wp2_with fail
    go_roundg (t.l.length - 1)
    case measure=>omega
    case rel=>exact⟨1,hlt,rfl,by go_num,by rw[gV HX.o,R8];simpa [aZ] using D5.o.1,A.o.2.trans ((eq _ _ _ hBr).trans D5.o.2)⟩
   ·have hk1:0 < (k:Int):=by omega
    have h9:Ll ((t.l.map (aH d)).take k≠[]):=by
     intro e;have:=congrArg List.length e;simp only[MC,List.length_map,List.length_nil]at this;omega
    have hl9:(acc++[91]++aZ ((t.l.map (aH d)).take k)).length<=1000000000:=by
     simp only[Mx,My,List.length_nil];omega
    go_wp2_with (at_builtin;go_must (refine gn rfl _ _ rfl B u0 _ [44] _ (by rfl) 1 rfl rfl (wr.heap.size+1) (by simp) rfl (by exact A.o.1.alloc _) (hBr1 _) hl9 (by decide) ?_);intro v6 w6 hown6 hgrow6;refine Ll.o ?_)
    refine aa ?_;have p0_:=(hgrow6.box (g:=wr.heap.size) (MN wr _)).c;have D6:=aa (And.intro hown6 ((eq wr B _ hBr).trans hgrow6));have hB6:B<=w6.heap.size:=MH hBr D6.o.2.size;clear hown6 hgrow6;go_wp2_with fail
    refine(IH.o _ B v6 (acc++[91]++aZ ((t.l.map (aH d)).take k)++[44]) t.l[k] _ (by exact G5.o.fr D6.o.2) hsx.o (by exact D6.o.1) hB6 (by exact HG.o.fr (A.o.2.trans D6.o.2) hgB) hgB ?_).mono ?_
    ·simp only[if_neg hk0]at hpl;simp only[Mx,My,List.length_nil];omega
    rintro e w5 ⟨v5,rfl,hrow5,hbel5⟩;have D5:=aa (And.intro hrow5 hbel5);clear hrow5 hbel5;go_wp2_with fail
    go_roundg (t.l.length - (k+1))
    case measure=>omega
    case rel=>exact⟨k+1,hlt,rfl,by go_num,by rw[gV HX.o,R8,if_neg h9.o];simpa using D5.o.1,A.o.2.trans (D6.o.2.trans D5.o.2)⟩
  ·have Mc:k=t.l.length:=by omega
   subst Mc;have htk:Ll ((t.l.map (aH d)).take t.l.length=t.l.map (aH d)):=MD (by simp);have hl9:(acc++[91]++aZ ((t.l.map (aH d)).take t.l.length)).length<=1000000000:=by
    rw[htk.o];simp only[Mx,My,List.length_nil];omega
   go_wp2_with (at_builtin;go_must (refine dp rfl _ _ rfl B u0 _ [93] _ (by rfl) 1 rfl rfl rfl A.o.1 hBr hl9 (by decide) ?_);intro v5 w5 hown5 hgrow5;refine Ll.o ?_)
   refine aa ?_;have D5:=aa (And.intro hown5 hgrow5);clear hown5 hgrow5;go_wp2_with fail
   go_ret;have h8:=D5.o.1;rw[htk.o]at h8;exact⟨v5,rfl,by simpa using h8,A.o.2.trans D5.o.2⟩
theorem nZ(d)(ih:Dp d)(w:LC)(B v acc t val)(hv:bu w (fun k=>k < B) (d+1) t val)(hsm:jo (d+1) t)(h:dG w B v acc)(hB:B<=w.heap.size)(hG:cn w)(hgB:7<=B)(hkd:t.kind≠4)(hl:acc.length+(aZ (dL (aH d) t.keys t.l)).length+2<=100000000):Calls prog 73 #[v,val] w fun e w'=>∃ v',e=.returned v'/\dG w' B v' (acc++(123 :: aZ (dL (aH d) t.keys t.l)++[125]))/\Fr B w w':=by
 obtain⟨a7,a8,c7,c8,rfl⟩:=hv.shape;have HV:=aa hv;have IH:=aa ih;have H:=aa h;have HG:=aa hG;have HS:=aa hsm;have l2:t.l.length<=maxLen:=by obtain⟨ks,ls,e,h1,h2,h3,h4,h5⟩:=hv;exact h5.1
 have lk:t.l.length<=t.keys.length:=hsm.2.1 hkd;have lk2:t.keys.length<=maxLen:=by obtain⟨ks,ls,e,h1,h2,h3,h4,h5⟩:=hv;exact h4.1
 unfold maxLen at l2 lk2;clear hv ih h hG hsm;have hB1:B<=(w.alloc (.cells (KV t a7 c7 a8 c8) 39)).heap.size:=by simp;omega
 go_enter func73,ntmps73;go_wp2_with (at_builtin;go_must (refine gn rfl _ _ rfl B v acc [123] _ (by rfl) 1 rfl rfl (w.heap.size+1) (by simp) rfl (by exact H.o.alloc _) hB1 (by omega) (by decide) ?_);intro v4 w4 LS LR;refine Ll.o ?_)
 refine aa ?_;have Q4:=aa (LR.box (g:=w.heap.size) (MN w _));have q4:=Q4.o.c.2.2.2.2.1;have D:=aa (And.intro LS ((eq w B _ hB).trans LR));clear LS LR;go_wp2_with fail
 go_loopg [0,13] t.l.length (fun gk u i wr=>∃ (k:Nat),k<=t.l.length/\gk=t.l.length - k/\i=.int .i64 k/\dG wr B u (acc++[123]++aZ ((dL (aH d) t.keys t.l).take k))/\Fr B w wr/\KY wr w.heap.size t a7 c7 a8 c8)
 case atStart=>exact⟨0,Nat.zero_le _,rfl,rfl,by simpa [aZ] using D.o.1,D.o.2,Q4.o⟩
 case round=>
  obtain⟨k,hk,hgk,rfl,hrow,hbel,hbox⟩:=hrel;have A:=aa (And.intro hrow hbel);have BX:=aa hbox;have hBr:B<=wr.heap.size:=MH hB hbel.size;clear hrow hbel hbox q4;by_cases hlt:k < t.l.length
  ·have hlk:k < t.keys.length:=by omega
   have hvr:=HV.o.fr A.o.2;have hxm:(dL (aH d) t.keys t.l)[k]?=some (fZ t.keys[k]++58 :: aH d t.l[k]):=by simp[dL,List.getElem?_zipWith,hlt,hlk]
   have hpl:=wL hxm;have HX:=aa hxm;clear hxm;obtain⟨ks,ls,e,-,-,-,h4,h5⟩:=hvr;simp only[Value.agg.injEq,Array.mk.injEq,List.cons.injEq,and_true]at e;obtain⟨-,-,-,rfl,rfl⟩:=e;obtain⟨_,h5⟩:=h5;rcases h5 with⟨e,_⟩ | ⟨b,off,c,hls,hc1,hc2,Mb⟩
   ·rw[e]at hlt;simp at hlt
   simp only[Value.slice.injEq]at hls;obtain⟨rfl,-,rfl⟩:=hls;obtain⟨v0,v1,v2,v3,v4',g',g0,g1,g2,g3,g4,g5⟩:=Mb k t.l[k] (Mw hlt);have G5:=aa g5;obtain⟨rfl,rfl,rfl,⟨a5,c5,rfl⟩,⟨a6,c6,rfl⟩⟩:=g5.agg;clear Mb g5;unfold maxLen at hc2;have hsx:Ll (jo d t.l[k]):=HS.o.2.2.2 _ (List.getElem_mem hlt);have hBr1:∀ o,B<=(wr.alloc o).heap.size:=fun o=>by simp;omega
   have hkl:Ll (t.keys[k].length<=1000000):=MH (HS.o.2.2.1 _ (List.getElem_mem hlk)) (by decide);have hbxs:w.heap.size < wr.heap.size:=BX.o.lt;obtain⟨b2,off2,rfl,kcell,hb2⟩:∃ b2 off2,a7=some ⟨b2,off2,none⟩/\wr.cell? ⟨b2,off2+k,none⟩=some (.string ⟨t.keys[k].toArray⟩)/\b2 < B:=by
    rcases h4.2 with⟨e,_⟩ | ⟨b2,off2,c2,e,-,-,hcs2⟩
    ·rw[e]at hlk;simp at hlk
    ·simp only[Value.slice.injEq]at e;obtain⟨rfl,-,-⟩:=e;obtain⟨-,g1,g2⟩:=hcs2 k t.keys[k] (Mw hlk);exact⟨b2,off2,rfl,g2,g1⟩
   clear h4;have KC:Ll (∀ w',Fr B wr w'->w'.cell? ⟨b2,off2+k,none⟩=some (.string ⟨t.keys[k].toArray⟩)):=fun w' hf=>(World.cell?_of_block (hf.1.block _ hb2)).trans kcell;have hpl':=hpl;simp only[Mx,My]at hpl';clear hpl;by_cases hk0:k=0
   ·subst hk0;simp only[Nat.zero_mul,Nat.add_zero]at g0 g1 g2 g3 g4;have kq:∀ o,(wr.alloc o).cell? ⟨b2,off2,none⟩=some (.string ⟨t.keys[0].toArray⟩):=fun o=>KC.o _ (eq _ _ _ hBr);have x3:∀ o,(wr.alloc o).cell? ⟨w.heap.size,3,none⟩=some (.slice (some ⟨b2,off2,none⟩) t.keys.length c7):=fun o=>((eq wr B o hBr).box BX.o).c.2.2.2.1;have x3':=BX.o.c.2.2.2.1;simp only[Nat.add_zero]at kcell;simp only[if_true]at hpl';go_wp2_with fail
    refine(gH _ B u0 (acc++[123]++aZ ((dL (aH d) t.keys t.l).take 0)) t.keys[0] (by exact A.o.1.alloc _) (by exact hBr1 _) ?_ hkl.o).mono ?_
    ·skip
     simp only[Mx,My,List.length_nil];omega
    rintro e w7 ⟨v7,rfl,hrow7,hbel7⟩;have IB7:=aa (hbel7.box (g:=wr.heap.size) (MN wr _));have D7:=aa (And.intro hrow7 ((eq wr B _ hBr).trans hbel7));have hB7:B<=w7.heap.size:=MH hBr D7.o.2.size;clear hrow7 hbel7;have hl8:((acc++([123]:Lz)++aZ ((dL (aH d) t.keys t.l).take 0):Lz)++fZ t.keys[0]).length<=1000000000:=by
     skip
     simp only[Mx,My,List.length_nil];omega
    go_wp2_with (at_builtin;go_must (refine dp rfl _ _ rfl B v7 _ [58] _ (by rfl) 1 rfl rfl rfl D7.o.1 hB7 hl8 (by decide) ?_);intro v8 w8 hown8 hgrow8;refine Ll.o ?_)
    refine aa ?_;have r0_:=(hgrow8.box IB7.o).c;have D8:=aa (And.intro hown8 (D7.o.2.trans hgrow8));have hB8:B<=w8.heap.size:=MH hBr D8.o.2.size;clear hown8 hgrow8;go_wp2_with fail
    refine(IH.o _ B v8 ((acc++([123]:Lz)++aZ ((dL (aH d) t.keys t.l).take 0):Lz)++fZ t.keys[0]++([58]:Lz)) t.l[0] _ (by exact G5.o.fr D8.o.2) hsx.o (by exact D8.o.1) hB8 (by exact HG.o.fr (A.o.2.trans D8.o.2) hgB) hgB ?_).mono ?_
    ·skip
     simp only[Mx,My,List.length_nil];omega
    rintro e w5 ⟨v5,rfl,hrow5,hbel5⟩;have D5:=aa (And.intro hrow5 (D8.o.2.trans hbel5));clear hrow5 hbel5;go_wp2_with fail
    go_roundg (t.l.length - (0+1))
    case measure=>omega
    case rel=>exact⟨0+1,hlt,rfl,by go_num,by rw[gV HX.o,R8];simpa [aZ] using D5.o.1,A.o.2.trans D5.o.2,D5.o.2.box BX.o⟩
   ·have hk1:0 < (k:Int):=by omega
    have h9:Ll ((dL (aH d) t.keys t.l).take k≠[]):=by
     intro e;have:=congrArg List.length e;simp only[MC,dL,List.length_zipWith,List.length_nil]at this;omega
    simp only[if_neg hk0]at hpl';have hl9:(acc++[123]++aZ ((dL (aH d) t.keys t.l).take k)).length<=1000000000:=by
     simp only[Mx,My,List.length_nil];omega
    go_wp2_with (at_builtin;go_must (refine gn rfl _ _ rfl B u0 _ [44] _ (by rfl) 1 rfl rfl (wr.heap.size+1) (by simp) rfl (by exact A.o.1.alloc _) (hBr1 _) hl9 (by decide) ?_);intro v6 w6 hown6 hgrow6;refine Ll.o ?_)
    refine aa ?_;have IB6:=aa (hgrow6.box (g:=wr.heap.size) (MN wr _));have D6:=aa (And.intro hown6 ((eq wr B _ hBr).trans hgrow6));have hB6:B<=w6.heap.size:=MH hBr D6.o.2.size;have kq:=KC.o _ D6.o.2;have x3:=(D6.o.2.box BX.o).c.2.2.2.1;clear hown6 hgrow6;go_wp2_with fail
    refine(gH _ B v6 (acc++[123]++aZ ((dL (aH d) t.keys t.l).take k)++[44]) t.keys[k] (by exact D6.o.1) (by exact hB6) ?_ hkl.o).mono ?_
    ·skip
     simp only[Mx,My,List.length_nil];omega
    rintro e w7 ⟨v7,rfl,hrow7,hbel7⟩;have IB7:=aa (hbel7.box (g:=wr.heap.size) IB6.o);have D7:=aa (And.intro hrow7 ((D6.o.2).trans hbel7));have hB7:B<=w7.heap.size:=MH hBr D7.o.2.size;clear hrow7 hbel7;have hl8:((acc++([123]:Lz)++aZ ((dL (aH d) t.keys t.l).take k)++[44]:Lz)++fZ t.keys[k]).length<=1000000000:=by
     skip
     simp only[Mx,My,List.length_nil];omega
    go_wp2_with (at_builtin;go_must (refine dp rfl _ _ rfl B v7 _ [58] _ (by rfl) 1 rfl rfl rfl D7.o.1 hB7 hl8 (by decide) ?_);intro v8 w8 hown8 hgrow8;refine Ll.o ?_)
    refine aa ?_;have r0_:=(hgrow8.box IB7.o).c;have D8:=aa (And.intro hown8 (D7.o.2.trans hgrow8));have hB8:B<=w8.heap.size:=MH hBr D8.o.2.size;clear hown8 hgrow8;go_wp2_with fail
    refine(IH.o _ B v8 ((acc++([123]:Lz)++aZ ((dL (aH d) t.keys t.l).take k)++[44]:Lz)++fZ t.keys[k]++([58]:Lz)) t.l[k] _ (by exact G5.o.fr D8.o.2) hsx.o (by exact D8.o.1) hB8 (by exact HG.o.fr (A.o.2.trans D8.o.2) hgB) hgB ?_).mono ?_
    ·skip
     simp only[Mx,My,List.length_nil];omega
    rintro e w5 ⟨v5,rfl,hrow5,hbel5⟩;have D5:=aa (And.intro hrow5 (D8.o.2.trans hbel5));clear hrow5 hbel5;go_wp2_with fail
    go_roundg (t.l.length - (k+1))
    case measure=>omega
    case rel=>exact⟨k+1,hlt,rfl,by go_num,by rw[gV HX.o,R8,if_neg h9.o];simpa [aZ] using D5.o.1,A.o.2.trans D5.o.2,D5.o.2.box BX.o⟩
  ·have Mc:k=t.l.length:=by omega
   subst Mc;have htk:Ll ((dL (aH d) t.keys t.l).take t.l.length=dL (aH d) t.keys t.l):=MD (by simp only[dL,List.length_zipWith];omega);have hl9:(acc++[123]++aZ ((dL (aH d) t.keys t.l).take t.l.length)).length<=1000000000:=by
    rw[htk.o];simp only[Mx,My,List.length_nil];omega
   go_wp2_with (at_builtin;go_must (refine dp rfl _ _ rfl B u0 _ [125] _ (by rfl) 1 rfl rfl rfl A.o.1 hBr hl9 (by decide) ?_);intro v5 w5 hown5 hgrow5;refine Ll.o ?_)
   refine aa ?_;have D5:=aa (And.intro hown5 hgrow5);clear hown5 hgrow5;go_wp2_with fail
   go_ret;have h8:=D5.o.1;rw[htk.o]at h8;exact⟨v5,rfl,by simpa using h8,A.o.2.trans D5.o.2⟩
theorem Cl(hG:cn w)(hB:7<=B):Lib.TabBelow prog B w "internal/strconv.uint64pow10" .u64 Lib.pow10Tab:=by
 intro w' hb;obtain⟨_,_,t3,f3,h3⟩:=hG;have h4:=(hb.block 1 (by omega)).trans h3;unfold Lib.TabIs World.var?;rw[show Program.globalNamed prog _=some 1 from by kernel_rfl];simp[h4]
theorem tU(w:LC)(B:Nat)(v)(acc:Lz)(n:Int)(hn:dW n)(h:dG w B v acc)(hB:B<=w.heap.size)(hl:acc.length<=1000000000)(hG:cn w)(hgB:7<=B):Calls prog 70 #[v,.int .i64 n,.int .i64 10] w fun e w'=>∃ v',e=.returned v'/\dG w' B v' (acc++Lib.itoa n)/\Fr B w w':=by
 refine(Tryz.strconv_AppendInt_10 B acc.length n hn.1 hn.2 v (Lib.byteCells acc) w h hB (by omega) (Cl hG hgB)).mono ?_;rintro e w' ⟨v',rfl,h1,h2,h3⟩;rw[jg,<-Mx]at h1;exact⟨v',rfl,h1,h2,h3⟩
theorem FW:Dp 0:=fun _ _ _ _ _ _ hv=>hv.elim
theorem Eu(d)(ih:Dp d):Dp (d+1):=by
 intro w B v acc t val hv hsm h hB hG hgB hl;have HV:=aa hv;have IH:=aa ih;have H:=aa h;have HG:=aa hG;have HS:=aa hsm;obtain⟨a7,a8,c7,c8,rfl⟩:=hv.shape;have hn:dW t.n:=by obtain⟨ks,ls,e,h1,h2,h3,h4,h5⟩:=hv;exact h2
 have HN:=aa hn;have hs6:=hsm.1;clear hv ih h hG hsm hn;have hB1:B<=(w.alloc (.cells (KV t a7 c7 a8 c8) 39)).heap.size:=by simp;omega
 have F1:Ll (Fr B w (w.alloc (.cells (KV t a7 c7 a8 c8) 39))):=eq _ _ _ hB;have hla:acc.length<=1000000000:=by omega
 by_cases k0:t.kind=0
 ·have e0:(t.kind == 0)=true:=by simp[k0]
  have P:Ll (aH (d+1) t=[110,117,108,108]):=aa (by simp[aH,k0]);rw[P.o]at hl;have K:=aa k0;clear k0;go_enter func54,ntmps54;go_wp2_with (at_builtin;go_must (refine jO rfl _ _ rfl B v acc [110,117,108,108] rfl rfl (by exact H.o.alloc _) hB1 hla (by decide) ?_);intro v4 w4 LS LR;refine Ll.o ?_)
  refine aa ?_;have D:=aa (And.intro LS (F1.o.trans LR));clear LS LR;go_wp2_with fail
  go_ret;exact⟨v4,rfl,by rw[P.o];exact D.o.1,D.o.2⟩
 by_cases k1:t.kind=1
 ·have e1:(t.kind == 1)=true:=by simp[k1]
  have f0:(t.kind == 0)=false:=by simp[k1]
  have P:Ll (aH (d+1) t=wT (t.n == 1)):=aa (by simp[aH,k1]);rw[P.o]at hl;have K:=aa k1;clear k1;go_enter func54,ntmps54;go_wp2_with fail
  refine(qV _ B v acc (t.n == 1) (by exact H.o.alloc _) (by exact hB1) hla).mono ?_;rintro e w4 ⟨v4,rfl,LS,LR⟩;have D:=aa (And.intro LS (F1.o.trans LR));clear LS LR;go_wp2_with fail
  go_ret;exact⟨v4,rfl,by rw[P.o];exact D.o.1,D.o.2⟩
 by_cases k2:t.kind=2
 ·have e2:(t.kind == 2)=true:=by simp[k2]
  have f0:(t.kind == 0)=false:=by simp[k2]
  have f1:(t.kind == 1)=false:=by simp[k2]
  have P:Ll (aH (d+1) t=Lib.itoa t.n):=aa (by simp[aH,k2]);rw[P.o]at hl;have K:=aa k2;clear k2;go_enter func54,ntmps54;go_wp2_with fail
  refine(tU _ B v acc t.n HN.o (by exact H.o.alloc _) (by exact hB1) hla (by exact HG.o.fr F1.o hgB) hgB).mono ?_;rintro e w4 ⟨v4,rfl,LS,LR⟩;have D:=aa (And.intro LS (F1.o.trans LR));clear LS LR;go_wp2_with fail
  go_ret;exact⟨v4,rfl,by rw[P.o];exact D.o.1,D.o.2⟩
 by_cases k3:t.kind=3
 ·have e3:(t.kind == 3)=true:=by simp[k3]
  have f0:(t.kind == 0)=false:=by simp[k3]
  have f1:(t.kind == 1)=false:=by simp[k3]
  have f2:(t.kind == 2)=false:=by simp[k3]
  have P:Ll (aH (d+1) t=fZ t.s):=aa (by simp[aH,k3]);rw[P.o]at hl;have K:=aa k3;clear k3;go_enter func54,ntmps54;go_wp2_with fail
  refine(gH _ B v acc t.s (by exact H.o.alloc _) (by exact hB1) (by omega) (by omega)).mono ?_;rintro e w4 ⟨v4,rfl,LS,LR⟩;have D:=aa (And.intro LS (F1.o.trans LR));clear LS LR;go_wp2_with fail
  go_ret;exact⟨v4,rfl,by rw[P.o];exact D.o.1,D.o.2⟩
 by_cases k4:t.kind=4
 ·have e4:(t.kind == 4)=true:=by simp[k4]
  have f0:(t.kind == 0)=false:=by simp[k4]
  have f1:(t.kind == 1)=false:=by simp[k4]
  have f2:(t.kind == 2)=false:=by simp[k4]
  have f3:(t.kind == 3)=false:=by simp[k4]
  have P:Ll (aH (d+1) t=91 :: aZ (t.l.map (aH d))++[93]):=aa (by simp[aH,k4]);rw[P.o]at hl;have K:=aa k4;clear k4;go_enter func54,ntmps54;go_wp2_with fail
  refine(qL d IH.o _ B v acc t _ (by exact HV.o.fr F1.o) HS.o (by exact H.o.alloc _) (by exact hB1) (by exact HG.o.fr F1.o hgB) hgB (by simp only[Mx,My,List.length_nil]at hl;omega)).mono ?_;rintro e w4 ⟨v4,rfl,LS,LR⟩;have D:=aa (And.intro LS (F1.o.trans LR));clear LS LR;go_wp2_with fail
  go_ret;exact⟨v4,rfl,by rw[P.o];exact D.o.1,D.o.2⟩
 have f0:(t.kind == 0)=false:=by rw[MO];exact k0
 have f1:(t.kind == 1)=false:=by rw[MO];exact k1
 have f2:(t.kind == 2)=false:=by rw[MO];exact k2
 have f3:(t.kind == 3)=false:=by rw[MO];exact k3
 have f4:(t.kind == 4)=false:=by rw[MO];exact k4
 have P:Ll (aH (d+1) t=123 :: aZ (dL (aH d) t.keys t.l)++[125]):=aa (by simp only[aH,if_neg k0,if_neg k1,if_neg k2,if_neg k3,if_neg k4]);rw[P.o]at hl;have K4:=aa k4;clear k0 k1 k2 k3 k4;go_enter func54,ntmps54;go_wp2_with fail
 refine(nZ d IH.o _ B v acc t _ (by exact HV.o.fr F1.o) HS.o (by exact H.o.alloc _) (by exact hB1) (by exact HG.o.fr F1.o hgB) hgB K4.o (by simp only[Mx,My,List.length_nil]at hl;omega)).mono ?_;rintro e w4 ⟨v4,rfl,LS,LR⟩;have D:=aa (And.intro LS (F1.o.trans LR));clear LS LR;go_wp2_with fail
 go_ret;exact⟨v4,rfl,by rw[P.o];exact D.o.1,D.o.2⟩
theorem II(d):Dp d:=by
 induction d with
 | zero=>exact FW
 | succ d ih=>exact Eu d ih
theorem uS:∀ (ks:List Lz) (p:Option Lz),el p ks=true->∀ k∈ks,k.length<=60
 | [],_,_,k,hk=>by simp at hk
 | x :: ks,p,h,k,hk=>by
  simp only[el,MJ]at h;rcases List.mem_cons.1 hk with rfl | hk
  ·have:=h.1.1;simp only[eK,MJ,decide_eq_true_eq]at this;exact this.1
  ·exact uS ks _ h.2 k hk
theorem ml(h:ce t=true):t.s.length<=60/\(t.kind≠4->t.l.length<=t.keys.length)/\(∀ k∈t.keys,k.length<=60)/\-9007199254740992<=t.n/\t.n<=9007199254740992:=by
 have nk:t.keys.length=0->∀ k∈t.keys,k.length<=60:=fun e k hk=>by rw[List.eq_nil_of_length_eq_zero e]at hk;simp at hk
 unfold ce at h;split at h
 ·simp only[cp,MJ,decide_eq_true_eq]at h;obtain⟨⟨h1,h2⟩,h3,h4⟩:=h;exact⟨by rw[h2];simp,fun _=>by omega,nk h3,by omega,by omega⟩
 split at h
 ·simp only[cp,MJ,Bool.or_eq_true,decide_eq_true_eq]at h;obtain⟨⟨h1,h2⟩,h3,h4⟩:=h;exact⟨by rw[h2];simp,fun _=>by omega,nk h3,by omega,by omega⟩
 split at h
 ·simp only[cp,MJ,decide_eq_true_eq]at h;obtain⟨⟨⟨h0,h1⟩,h2⟩,h3,h4⟩:=h;exact⟨by rw[h2];simp,fun _=>by omega,nk h3,by omega,by omega⟩
 split at h
 ·simp only[cp,eK,MJ,decide_eq_true_eq]at h;obtain⟨⟨h1,h2,_⟩,h3,h4⟩:=h;exact⟨h2,fun _=>by omega,nk h3,by omega,by omega⟩
 split at h
 ·rename_i hk;simp only[MJ,decide_eq_true_eq]at h;obtain⟨⟨h1,h2⟩,h3⟩:=h;exact⟨by rw[h2];simp,fun e=>absurd hk e,nk h3,by omega,by omega⟩
 split at h
 ·simp only[MJ,decide_eq_true_eq]at h;obtain⟨⟨⟨h1,h2⟩,h3⟩,h4⟩:=h;exact⟨by rw[h2];simp,fun _=>by omega,uS _ _ h4,by omega,by omega⟩
 ·cases h
theorem yq(d):∀ (D:Nat) (t:V) (r p:Int),bn D t r=(true,p)->jo d t:=by
 induction d with
 | zero=>intro D t r p _;trivial
 | succ d ih=>
  intro D t r p h;obtain⟨D',rfl,hs,h0,hf⟩:=io h;obtain⟨s1,s2,s3,-,-⟩:=ml hs;refine⟨by omega,s2,fun k hk=>MH (s3 k hk) (by decide),?_⟩;have:∀ (l:List V) (r p:Int),eb D' l r=(true,p)->∀ x∈l,jo d x:=by
   intro l;induction l with
   | nil=>intro r p _ x hx;simp at hx
   | cons y l ihl=>
    intro r p hf x hx;obtain⟨q,h1,h2⟩:=jv hf;rcases List.mem_cons.1 hx with rfl | hx
    ·exact ih D' _ r q h1
    ·exact ihl q p h2 x hx
  exact this t.l _ _ hf
theorem sG(x xs):(aZ (x :: xs)).length<=x.length+1+(aZ xs).length:=by
 cases xs with
 | nil=>simp[aZ]
 | cons y ys=>simp only[aZ,Mx,My];omega
theorem rX(s)(h:s.length<=60):(fZ s).length<=362:=by
 have:=uJ s;simp only[fZ,Mx,My,List.length_nil];omega
theorem Fj(d):∀ (D:Nat) (t:V) (r p:Int),0<=r->bn D t r=(true,p)->((aH d t).length:Int)+400<=1000 * (r - p):=by
 induction d with
 | zero=>
  intro D t r p hr h;obtain⟨D',rfl,hs,h0,hf⟩:=io h;have:=(nt (ic D') t.l (r - 1) h0).2.1;have e:(eb D' t.l (r - 1)).2=p:=by rw[hf]
  unfold eb at e;rw[e]at this;simp only[aH,List.length_nil];omega
 | succ d ih=>
  intro D t r p hr h;obtain⟨D',rfl,hs,h0,hf⟩:=io h;have hp:p<=r - 1:=by
   have:=(nt (ic D') t.l (r - 1) h0).2.1;have e:(eb D' t.l (r - 1)).2=p:=by rw[hf]
   unfold eb at e;rwa [e]at this
  obtain⟨s1,s2,s3,s4,s5⟩:=ml hs;have sums:∀ (l:List V) (ks:List Lz) (r p:Int),0<=r->(∀ k∈ks,k.length<=60)->eb D' l r=(true,p)->((aZ (l.map (aH d))).length:Int)<=1000 * (r - p)/\((aZ (dL (aH d) ks l)).length:Int)<=1000 * (r - p):=by
   intro l;induction l with
   | nil=>
    intro ks r p _ _ hf;have e:(true,r)=(true,p):=hf;cases e;simp[aZ,dL]
   | cons x l ihl=>
    intro ks r p hr hks hf;obtain⟨q,h1,h2⟩:=jv hf;have g1:=ih D' x r q hr h1;have hq:0<=q:=by have:=(ic D' x r hr).2.2;rw[h1]at this;exact this rfl
    constructor
    ·obtain⟨g2,-⟩:=ihl [] q p hq (by simp) h2;have:=sG (aH d x) (l.map (aH d));simp only[List.map_cons];omega
    ·cases ks with
     | nil=>
      obtain⟨-,g2⟩:=ihl [] q p hq (by simp) h2;simp only[dL,List.zipWith_nil_left,aZ,List.length_nil]at g2 ⊢;omega
     | cons k ks=>
      obtain⟨-,g2⟩:=ihl ks q p hq (fun j hj=>hks j (List.mem_cons_of_mem _ hj)) h2;have:=sG (fZ k++58 :: aH d x) (dL (aH d) ks l);have h9:=rX k (hks k (List.mem_cons_self ..));simp only[Mx,My]at this;simp only[dL,List.zipWith_cons_cons]at this g2 ⊢;omega
  obtain⟨m1,m2⟩:=sums t.l t.keys (r - 1) p h0 s3 hf;have hi:=Lib.itoa_length_le t.n (by omega) (by omega);have hq:=rX t.s s1;simp only[aH];split
  ·simp only[My,List.length_nil];omega
  split
  ·unfold wT;split <;> simp only[My,List.length_nil] <;> omega
  split
  ·omega
  split
  ·omega
  split
  ·simp only[Mx,My,List.length_nil];omega
  ·simp only[Mx,My,List.length_nil];omega
def eP (d:Nat) (t:V):Lz × Int:=if aE t then (if (aH d t).length<=2000 then (aH d t,0) else ([],2)) else ([],1)
theorem EU(w:LC)(ok d t v)(h:bu w ok d t v)(hG:cn w):Calls prog 37 #[v] w fun e w'=>∃ (l:Lz) (ee:Int),e=.returned (.tuple #[.string ⟨l.toArray⟩,.int .i64 ee])/\eP d t=(l,ee)/\La w w':=by
 obtain⟨a7,a8,c7,c8,rfl⟩:=h.shape;have HV:=aa h;have HG:=aa hG;clear h hG;cases hgd:aE t with
 | false=>
  have P:Ll (eP d t=([],1)):=aa (by simp[eP,hgd]);have HGD:=aa hgd;clear hgd;go_enter func37,ntmps37;go_wp2_with fail
  refine Lk (mr _ ok d t _ (by exact HV.o.bel (ae _ _))) fun w2 hb2=>?_;rw[HGD.o];have B2:=aa (ab (ae w _) hb2);clear hb2;go_wp2_with fail
  refine MM (v:=.tuple #[.string ⟨#[]⟩,.int .i64 1]) (by simp[results,results37,go_sem] <;> rfl) rfl ?_;exact⟨[],1,rfl,P.o,B2.o⟩
 | true=>
  have HGD:=aa hgd;have P:Ll (eP d t=if (aH d t).length<=2000 then (aH d t,0) else ([],2)):=aa (by simp[eP,hgd]);have hg:bn 12 t 120=(true,(bn 12 t 120).2):=by unfold aE at hgd;rw[<-hgd]
  have hln:((aH d t).length:Int)<=122000:=by
   have h1:=Fj d 12 t 120 _ (by decide) hg;have h2:=(ic 12 t 120 (by decide)).1;omega
  have SM:Ll (jo d t):=yq d 12 t 120 _ hg;clear hgd hg;go_enter func37,ntmps37;go_wp2_with fail
  refine Lk (mr _ ok d t _ (by exact HV.o.bel (ae _ _))) fun w2 hb2=>?_;rw[HGD.o];have p0_:=(af hb2 (MN w _)).c;have V2:=aa ((HV.o.bel (ab (ae w _) hb2)).below.weak (ok':=fun k=>k < w2.heap.size) fun k hk=>hk.2);have B2:=aa (ab (ae w _) hb2);have G2:Ll (cn w2):=HG.o.grown (aq (r:=none) B2.o) (by simp);have L9:=G2.o.size;clear hb2;go_wp2_with fail
  refine(II d w2 w2.heap.size (.slice none 0 0) [] t _ V2.o SM.o (dG.nil _ _) (MG _) G2.o L9 (by simp only[List.length_nil];omega)).mono ?_;rintro e w3 ⟨v3,rfl,h3,hb3⟩;rw[List.nil_append]at h3;have B3:Ll (La w w3):=ab B2.o hb3.1;clear hb3;rcases h3.2 with⟨hv,hn⟩ | ⟨g,cap,cur,hv,-,-,hn1,hn2,-,-⟩
  ·subst hv;have hnil:aH d t=[]:=List.eq_nil_of_length_eq_zero hn;have hcv:=run_convert_bytes_nil (P:=prog) (w:=w3) 101 5 underlying101 underlying5 0 0;have HN:=aa hnil;clear h3 hn hnil;go_wp2_with fail
   refine MM (v:=.tuple #[.string ⟨#[]⟩,.int .i64 0]) (by simp[results,results37,go_sem] <;> rfl) rfl ?_;exact⟨[],0,rfl,by rw[P.o,HN.o];rfl,B3.o⟩
  ·subst hv;unfold maxLen at hn2;have hcv:=run_convert_bytes_back (P:=prog) w3 101 9 5 ⟨g,0,none⟩ cap (aH d t) underlying101 underlying5 underlying9 (fun j hj=>World.ownsRow.cells h3 (g:=g) rfl j _ (by simp[Lib.byteCells,hj]));clear h3;by_cases hle:(aH d t).length<=2000
   ·have c1:¬(2000 < ((aH d t).length:Int)):=by omega
    go_wp2_with fail
    refine MM (v:=.tuple #[.string ⟨(aH d t).toArray⟩,.int .i64 0]) (by simp[results,results37,go_sem] <;> rfl) rfl ?_;exact⟨aH d t,0,rfl,by rw[P.o,if_pos hle],B3.o⟩
   ·have c1:2000 < ((aH d t).length:Int):=by omega
    clear hcv;go_wp2_with fail
    refine MM (v:=.tuple #[.string ⟨#[]⟩,.int .i64 2]) (by simp[results,results37,go_sem] <;> rfl) rfl ?_;exact⟨[],2,rfl,by rw[P.o,if_neg hle],B3.o⟩
section
theorem ng{ops:Array Oper}{o:Oper}{a}{K:Act->LC->Prop}{Q:Exit->Act->LC->Prop}{E:Prop}(hgd:o.guard=none)(s x:Operand)(t:TypeId)(ho:o.op=.call { callee:=.builtin .append,args:=#[s,x],argTypes:=#[t,t] })(v u)(hs:a.eval s=v)(hx:a.eval x=u)(R:Value->LC->Prop)(hr:∀ ty,∃ v' w',(Builtin.append_ #[t,t] ty #[v,u]).run prog w=.ok v' w'/\R v' w')(hK:∀ v' w',R v' w'->K (a.put o.dst v') w'):if Region.wanted o (yielded ops a.tmps)=true then Oper.wp prog o a w K Q else E:=by
 have hw:Region.wanted o (yielded ops a.tmps)=true:=by simp[Region.wanted,hgd]
 rw[if_pos hw];obtain⟨v',w',h1,h2⟩:=hr o.type;unfold Oper.wp execOp;simp only[ho,resolve,invoke,builtin,Sem.run_bind,Sem.run_pure,Result.andThen_ok,List.map_toArray,List.map_cons,List.map_nil,hs,hx,h1];exact hK v' w' h2
theorem F6{e:TypeId}{size xs}(h:w.ownsRow B e size v n xs)(hh:w'.heap=w.heap):w'.ownsRow B e size v n xs:=bM h fun g _=>by rw[hh]
theorem pP{wq:LC}{cs k}(hh:W.heap=(wq.alloc (.cells #[.string k] 9)).heap)(h1:W.os=wq.os)(h2:W.tape=wq.tape)(h3:W.output=wq.output)(ho:wq.ownsRow B 9 1 v n cs)(hn:n<=4000000)(hB:B<=wq.heap.size)(ty:TypeId):∃ v' w',(Builtin.append_ #[36,36] ty #[v,.slice (some ⟨wq.heap.size,0,none⟩) 1 1]).run prog W=.ok v' w'/\(∃ g cap,v'=.slice (some ⟨g,0,none⟩) (n+1) cap/\w'.ownsRow B 9 1 (.slice (some ⟨g,0,none⟩) (n+1) cap) (n+1) (cs++[.string k])/\(wq.alloc (.cells #[.string k] 9)).grownBy w' v.ownBlock/\(v.ownBlock=some g\/(wq.alloc (.cells #[.string k] 9)).heap.size=g)):=by
 obtain⟨i0,hi,hz0,hz1,hz2⟩:=info_parts wG;have hnb:W.heap[wq.heap.size]?=some (.cells #[.string k] 9):=by rw[hh];exact MN _ _
 have hoW:W.ownsRow B 9 1 v n cs:=F6 (bM ho fun g hg=>(ae wq (.cells #[.string k] 9)).block g (bY ho hg).2) hh;obtain⟨g,cap,W',hr,g1,g2,g3,-⟩:=run_append_lies (P:=prog) W 36 ty B 9 i0 _ 1 16 underlying36 hi hz0 hz1 hz2 rfl (by decide) v n cs hoW ⟨wq.heap.size,0,none⟩ 1 1 [.string k] rfl
  (World.news_of_block (cs:=#[.string k]) hnb) (by intro u hu;simp only[List.mem_cons,List.not_mem_nil,or_false]at hu;subst hu;rfl) (by decide) (by unfold maxLen;omega) (by omega) (by rw[hh];have:=(ae wq (.cells #[.string k] 9)).size;omega) W.heap.size rfl
 exact⟨_,W',hr,g,cap,rfl,g1,⟨g2.os.trans h1,g2.tape.trans h2,g2.output.trans h3,by rw[<-hh];exact g2.size,fun i hi hr=>by rw[<-hh]at hi ⊢;exact g2.block i hi hr⟩,g3.imp id fun e=>by rw[<-hh];exact e.symm⟩
theorem dJ{e:TypeId}{size cap xs}(h:w.ownsRow B e size (.slice (some ⟨g,0,none⟩) n cap) n xs)(hn:0 < n)(hi:xs[i]?=some v):w.cell? ⟨g,i,none⟩=some v/\w.frozen? ⟨g,i,none⟩=false:=by
 rcases h.2 with⟨h0,-⟩ | ⟨g',cap',cur,e1,h1,h2,h3,h4,h5,h6⟩
 ·cases h0
 ·cases e1;have e9:=congrArg (fun l=>l[i]?) h6;simp only[hi,List.getElem?_take]at e9;split at e9
  ·have:cur[i]?=some v:=by simpa using e9
   exact⟨by simp[World.cell?,h2,this],by simp[World.frozen?,h2]⟩
  ·cases e9
theorem iX{init o F gb oc pl pin Z}(h:gG w0 init (some o) F W (.slice (some ⟨gb,0,none⟩) (init.length+1) oc) pl pin Z):W.cell? ⟨gb,init.length * 2+1,none⟩=some pl/\W.cell? ⟨gb,init.length * 2,none⟩=some (.string ⟨o.name.toArray⟩):=by
 have hl:=h.last.1;have LT:=fS init pin h.plen;refine⟨(dJ hl (by omega) ?_).1,(dJ hl (by omega) ?_).1⟩
 ·rw[eG _ _ _ _ h.plen,List.getElem?_append_right (by omega),LT,show init.length * 2+1 - init.length * 2=1 by omega];rfl
 ·rw[eG _ _ _ _ h.plen,List.getElem?_append_right (by omega),LT,Nat.sub_self];rfl
theorem qg{init o F W9}{ob:Obj}{gb oc pl pin Z}(h:gG w0 init (some o) F W (.slice (some ⟨gb,0,none⟩) (init.length+1) oc) pl pin Z)(hg:(W.alloc ob).grownBy W9 pl.ownBlock):W9.cell? ⟨gb,init.length * 2+1,none⟩=some pl/\W9.frozen? ⟨gb,init.length * 2+1,none⟩=false:=by
 have hl:=h.last.1;have hr:=h.rows.1 gb rfl;have LT:=fS init pin h.plen;refine dJ (bM hl fun g' hg'=>?_) (by omega) ?_
 ·have e9:gb=g':=by simpa [Value.ownBlock] using hg'
  subst e9;have ha:=ae W ob;rw[hg.block gb (MI hr.2 ha.size) (fun e=>h.off gb rfl e.symm),ha.block gb hr.2]
 ·rw[eG _ _ _ _ h.plen,List.getElem?_append_right (by omega),LT,show init.length * 2+1 - init.length * 2=1 by omega];rfl
theorem Fi{init o F ov pl pin Z}(h:gG w0 init (some o) F W ov pl pin Z):∃ gb oc,ov=.slice (some ⟨gb,0,none⟩) (init.length+1) oc:=by
 rcases h.last.1.2 with⟨-,h0⟩ | ⟨g,cap,cur,e,-⟩
 ·omega
 ·exact⟨g,cap,e⟩
attribute [local go_sem ↓] Go.wp_at_zero Go.wp_at_succ
theorem Eg(w0 W gs g)(lb:Array Value)(stays:Lz->Lz->Bool)(os F n p)(eg:∀ args w,(callFunc g args).run prog w=.ok (.enter g args) w)(hI:D4 w0 os F W)(hgs:w0.cell? ⟨gs,0,none⟩=some (.func (.func g) #[] lb))(hp:p.length<=maxLen)(hst:Calls prog g (#[.string ⟨n.toArray⟩,.string ⟨p.toArray⟩]++lb) W fun e w'=>e=.returned (.bool (stays n p))/\La W w')(hN:os.length<=4000000)(hP:∀ o∈os,o.paths.length<=4000000):Calls prog 123 #[.string ⟨n.toArray⟩,.string ⟨p.toArray⟩,.pointer (some ⟨gs,0,none⟩),.pointer (some ⟨w0.heap.size,0,none⟩)] W fun e w'=>e=.returned (.tuple #[])/\D4 w0 (if stays n p=true then kv os n p else os) F w'/\W.heap.size<=w'.heap.size/\∀ k,F k->k < W.heap.size->w'.heap[k]?=W.heap[k]?:=by
 obtain⟨init,LZ,ov,pl,pin,Z,hos,hK⟩:=hI;have PLX:=aa hp;have c0:=ah hK.low hgs;have KK:=aa hK;have ST:=aa hst;clear hK hgs hp hst;obtain⟨b,hb⟩:∃ b,stays n p=b:=⟨_,rfl⟩
 rw[hb]at ST ⊢;clear hb;cases b with
 | false=>
  go_enter func123,ntmps123;go_wp2_with (go_at_fn g;refine ST.o.mono ?_;rintro e w1 ⟨rfl,hb⟩;have B1:=aa hb;clear hb)
  try simp only[Exit.inBlock,Exit.then]
  refine MM (results_none rfl _ _ _) rfl ?_;exact⟨rfl,⟨init,LZ,ov,pl,pin,Z,(by first | rfl | (simp[hos])),KK.o.bel B1.o⟩,B1.o.size,fun k hk hlt=>B1.o.block k hlt⟩
 | true=>
  rw[if_pos rfl];go_enter func123,ntmps123;go_upto_region 1 with (go_at_fn g;refine ST.o.mono ?_;rintro e w1 ⟨rfl,hb⟩;have B1:=aa hb;clear hb)
  clear c0;have K1:=aa (KK.o.bel B1.o);have c1:w1.cell? ⟨w0.heap.size,0,none⟩=some ov:=by have h9:=K1.o.box;simp[World.cell?,h9]
  have FR:Ll (∀ w',D4 w0 (kv os n p) F w'/\w1.heap.size<=w'.heap.size/\(∀ k,F k->k < w1.heap.size->w'.heap[k]?=w1.heap[k]?)->D4 w0 (kv os n p) F w'/\W.heap.size<=w'.heap.size/\∀ k,F k->k < W.heap.size->w'.heap[k]?=W.heap[k]?):=aa (fun w' h=>⟨h.1,MH B1.o.size h.2.1,fun k hk hlt=>by rw[h.2.2 k hk (MI hlt B1.o.size),B1.o.block k hlt]⟩);clear KK B1;cases LZ with
  | none=>
   obtain⟨hin,hpl,hrow⟩:=K1.o.last;subst hin;subst hpl;have hpn:pin=[]:=List.length_eq_zero_iff.1 K1.o.plen.symm;subst hpn;have hoe:os=[]:=by simpa using hos
   obtain⟨oa,oc,hov⟩:∃ oa oc,ov=.slice oa 0 oc:=by
    rcases hrow.2 with⟨h9,-⟩ | ⟨g9,c9,_,h9,-⟩
    ·exact⟨_,_,h9⟩
    ·exact⟨_,_,h9⟩
   subst hov;have ADD:Ll (kv os n p=[⟨n,[]++[p]⟩]):=aa (by rw[hoe];rfl);have PLN:Ll ((([]:List Lz)).length<=4000000):=aa (by simp);clear hos hP hN hoe;obtain⟨g7,c7,W7,hR,ho7,hg7,hf7⟩:=mW (W:=w1.alloc (.cells #[.string ⟨n.toArray⟩,.slice none 0 0] 47)) (B:=w0.heap.size+1) (v:=.slice oa 0 oc) (n:=0) (cs:=[]) (nb:=w1.heap.size) (k:=⟨n.toArray⟩) (pa:=none) (pn:=0) (pc:=0) (bM hrow fun g hg=>(ae _ _).block g (bY hrow hg).2) (MN _ _) (by omega) (by have:=(ae w1 (.cells #[.string ⟨n.toArray⟩,.slice none 0 0] 47)).size;have:=(MF.1 K1.o.box).1;omega) 40;have KN:=aa (AI (n:=n) (N:=0) (cells:=[]) K1.o (by simp) rfl ho7 hg7 hf7);have HR:=aa hR;have hgl:w0.heap.size < w1.heap.size:=(MF.1 K1.o.box).1;have c0a:∀ o,(w1.alloc o).cell? ⟨w0.heap.size,0,none⟩=some (.slice oa 0 oc):=fun o=>ah (ae _ _) c1;have hb7:W7.heap[w0.heap.size]?=some (.cells #[.slice oa 0 oc] 40):=by
    rw[hg7.block _ (MI hgl (ae w1 _).size) (fun e=>by have:=(bY hrow e.symm).1;omega),(ae w1 _).block _ hgl,K1.o.box]
   have c7a:W7.cell? ⟨w0.heap.size,0,none⟩=some (.slice oa 0 oc):=by simp[World.cell?,hb7]
   have c7f:W7.frozen? ⟨w0.heap.size,0,none⟩=false:=by simp[World.frozen?,hb7]
   clear hR ho7 hg7 hf7 hb7 hrow;go_wp2_with (at_builtin;go_must (refine Lib.wpList_append_run _ rfl _ _ _ _ rfl (.slice oa 0 oc) (.slice (some ⟨w1.heap.size,0,none⟩) 1 1) rfl rfl _ _ HR.o ?_);refine Ll.o ?_)
   refine aa ?_;go_upto_region 5 with fail
   obtain⟨wq,hwq⟩:∃ wq,wq=W7.setCell ⟨w0.heap.size,0,none⟩ (.slice (some ⟨g7,0,none⟩) (0+1) c7):=⟨_,rfl⟩
   rw[<-hwq]at KN ⊢;clear hwq c1 c0a c7a c7f;obtain⟨in2,hin2⟩:∃ i:List aL,[]=i:=⟨_,rfl⟩
   have LT:in2.length=0:=by rw[<-hin2];rfl
   obtain⟨pin2,hpin2⟩:∃ i:List Value,[]=i:=⟨_,rfl⟩
   obtain⟨Z2,hZ2⟩:∃ i,(fun k=>Z k\/(Value.slice none 0 0).ownBlock=some k)=i:=⟨_,rfl⟩
   have KQ:Ll (gG w0 in2 (some ⟨n,[]⟩) F wq (.slice (some ⟨g7,0,none⟩) (in2.length+1) c7) (.slice none 0 0) pin2 Z2):=aa (by
    rw[LT,<-hin2,<-hpin2,<-hZ2];exact KN.o.1)
   have FK:=aa KN.o.2;have HLEN:=aa LT;have FINAL:Ll (∀ w' pl',gG w0 in2 (some ⟨n,[]++[p]⟩) F w' (.slice (some ⟨g7,0,none⟩) (in2.length+1) c7) pl' pin2 Z2/\wq.heap.size<=w'.heap.size/\(∀ k,F k->k < wq.heap.size->w'.heap[k]?=wq.heap[k]?)->D4 w0 (kv os n p) F w'/\W.heap.size<=w'.heap.size/\∀ k,F k->k < W.heap.size->w'.heap[k]?=W.heap[k]?):=aa (fun w' pl' h=>FR.o w' ⟨⟨in2,some ⟨n,[]++[p]⟩,_,pl',pin2,Z2,by rw[ADD.o,<-hin2];rfl,h.1⟩,MH FK.o.1 h.2.1,fun k hk hlt=>by rw[h.2.2 k hk (MI hlt FK.o.1),FK.o.2 k hk hlt]⟩);clear LT KN K1 hin2 hpin2 hZ2;obtain⟨pl9,hpl9⟩:∃ x:Value,x=.slice none 0 0:=⟨_,rfl⟩
   rw[<-hpl9]at KQ;clear hpl9;have C0:Ll (wq.cell? ⟨w0.heap.size,0,none⟩=some (.slice (some ⟨g7,0,none⟩) (0+1) c7)):=aa (by have h9:=KQ.o.box;rw[HLEN.o]at h9;simp[World.cell?,h9]);have N0:Ll (some w0.heap.size≠pl9.ownBlock):=aa (fun e=>by have:=(KQ.o.rows.2 _ e.symm).1;omega);have C1:Ll (wq.cell? ⟨g7,0 * 2+1,none⟩=some pl9):=aa (by have h9:=(iX KQ.o).1;rw[HLEN.o]at h9;exact h9);have N1:Ll (some g7≠pl9.ownBlock):=aa (fun e=>KQ.o.off g7 rfl e.symm);have PLF:=KQ.o.last.2.1;obtain⟨sa,sn,sc,hsv⟩:∃ sa sn sc,pl9=.slice sa sn sc:=by
    rcases PLF.2 with⟨h9,-⟩ | ⟨_,_,_,h9,-⟩
    ·exact⟨_,_,_,h9⟩
    ·exact⟨_,_,_,h9⟩
   subst hsv;clear PLF;refine aD (fun wS=>World.grownBy wq wS (Value.slice sa sn sc).ownBlock) [12] (by kernel_rfl) (oD (az _ _)) (fun LI=>?_);refine WT.out ?_;iterate 8
    first
     | refine OJ 0 ?_ [10,11,12] LI ?_ ?_
     | refine OJ 1 ?_ [10,11,12] LI ?_ ?_
     | refine OJ 2 ?_ [4,5,6,9,10,11,12] LI ?_ ?_
     | refine OJ 3 ?_ [4,5,6,9,10,11,12] LI ?_ ?_
     | refine OJ 4 ?_ [5,6,9,10,11,12] LI ?_ ?_
     | refine OJ 5 ?_ [6,9,10,11,12] LI ?_ ?_
     | refine OJ 6 ?_ [9,10,11,12] LI ?_ ?_
     | refine OJ 7 ?_ [8,9,10,11,12] LI ?_ ?_
    rotate_left
    ·intro wS LN;have u0:=LN.cell C0.o N0.o;have u1:=LN.cell C1.o N1.o;go_simp;all_goals with_reducible rfl
    simp only[av,List.set]
   repeat' (first
    | exact nl
    |(refine ON 8 (fun K hK=>?_) ?_
      go_simp;refine hK.out _ _ (bd LI _) (fun LJ=>?_);clear hK K;replace LI:=LJ;clear LJ;try simp only[Act.put,Mt,Mu,Mv])
    |(refine ip (i:=9) (o:={ dst:=some 42,op:=Go.Op.call { callee:=Go.Callee.builtin Go.Builtin.append,args:=#[Go.Operand.tmp 39,Go.Operand.tmp 41],argTypes:=#[36,36] },type:=36,pos:= "owner.go:130",after:=#[{ on:=6,ground:=Go.Ground.data },{ on:=8,ground:=Go.Ground.data }],guard:=none }) rfl (fun K hK=>?_) ?_
      refine ng (by rfl) (.tmp 39) (.tmp 41) 36 (by rfl) _ _ (by rfl) (by rfl) _ (fun ty=>pP (wq:=wq) (by rfl) (by rfl) (by rfl) (by rfl) KQ.o.last.2.1 PLN.o (by have:=(MF.1 KQ.o.box).1;omega) ty) (fun v9 W9 hR=>?_);obtain⟨g9,c9,rfl,ho9,hg9,hf9⟩:=hR;have FIN:=aa (oW KQ.o PLX.o ho9 hg9 hf9);have ROWS:=aa (qg KQ.o hg9);refine hK.out _ _ (am (World.grownBy_alloc wq _ _) hg9) (fun LJ=>?_);clear ho9 hg9 hf9;clear hK K;replace LI:=LJ;clear LJ;try simp only[Act.put,Mt,Mu,Mv])
    |(refine OO 12 (fun K hK=>?_)
      obtain⟨n0,m0⟩:=ROWS.o;rw[HLEN.o]at n0 m0;have FIN2:=FINAL.o _ _ FIN.o;rw[HLEN.o]at FIN2;have FIN3:=aa FIN2;clear FIN2;go_simp;refine hK.out _ _ ?_;clear hK K;try simp only[Act.put,Mt,Mu,Mv])
    |(first
       | refine OJ 10 ?_ [11,12] (by exact LI) ?_ ?_
       | refine OJ 11 ?_ [12] (by exact LI) ?_ ?_
      rotate_left
      ·intro wS LN;go_simp;all_goals with_reducible rfl
      simp only[av,List.set])
    | refine OL [8] ?_
    | refine OL [9] ?_
    | fail)
   all_goals
    refine dn (by kernel_rfl) ?_;clear n0 m0;go_wp2
    go_end0
    exact⟨rfl,FIN3.o⟩
  | some o=>
   obtain⟨gb,oc,hov⟩:=Fi K1.o;subst hov;by_cases hn:o.name=n
   ·subst hn;have ADD:Ll (kv os o.name p=init++[⟨o.name,o.paths++[p]⟩]):=aa (by rw[hos];exact nu init o p);have c2:=(iX K1.o).2;have PLN:Ll (o.paths.length<=4000000):=aa (hP o (by rw[hos];simp));have hnl:init.length+1<=4000000:=by rw[hos]at hN;simpa using hN
    clear hos hP hN;obtain⟨wq,hwq⟩:∃ wq,wq=w1:=⟨_,rfl⟩
    subst hwq;have FINAL:Ll (∀ w' pl',gG w0 init (some ⟨o.name,o.paths++[p]⟩) F w' (.slice (some ⟨gb,0,none⟩) (init.length+1) oc) pl' pin Z/\wq.heap.size<=w'.heap.size/\(∀ k,F k->k < wq.heap.size->w'.heap[k]?=wq.heap[k]?)->D4 w0 (kv os o.name p) F w'/\W.heap.size<=w'.heap.size/\∀ k,F k->k < W.heap.size->w'.heap[k]?=W.heap[k]?):=aa (fun w' pl' h=>FR.o w' ⟨⟨init,some ⟨o.name,o.paths++[p]⟩,_,pl',pin,Z,by rw[ADD.o];rfl,h.1⟩,h.2⟩);have KQ:=K1;clear K1;go_upto_region 5 with fail
    clear c1 c2;have C0:Ll (wq.cell? ⟨w0.heap.size,0,none⟩=some (.slice (some ⟨gb,0,none⟩) (init.length+1) oc)):=aa (by have h9:=KQ.o.box;simp[World.cell?,h9]);have N0:Ll (some w0.heap.size≠pl.ownBlock):=aa (fun e=>by have:=(KQ.o.rows.2 _ e.symm).1;omega);have C1:Ll (wq.cell? ⟨gb,init.length * 2+1,none⟩=some pl):=aa (by have h9:=(iX KQ.o).1;exact h9);have N1:Ll (some gb≠pl.ownBlock):=aa (fun e=>KQ.o.off gb rfl e.symm);have PLF:=KQ.o.last.2.1;obtain⟨sa,sn,sc,hsv⟩:∃ sa sn sc,pl=.slice sa sn sc:=by
     rcases PLF.2 with⟨h9,-⟩ | ⟨_,_,_,h9,-⟩
     ·exact⟨_,_,_,h9⟩
     ·exact⟨_,_,_,h9⟩
    subst hsv;clear PLF;refine aD (fun wS=>World.grownBy wq wS (Value.slice sa sn sc).ownBlock) [12] (by kernel_rfl) (oD (az _ _)) (fun LI=>?_);refine WT.out ?_;iterate 8
     first
      | refine OJ 0 ?_ [10,11,12] LI ?_ ?_
      | refine OJ 1 ?_ [10,11,12] LI ?_ ?_
      | refine OJ 2 ?_ [4,5,6,9,10,11,12] LI ?_ ?_
      | refine OJ 3 ?_ [4,5,6,9,10,11,12] LI ?_ ?_
      | refine OJ 4 ?_ [5,6,9,10,11,12] LI ?_ ?_
      | refine OJ 5 ?_ [6,9,10,11,12] LI ?_ ?_
      | refine OJ 6 ?_ [9,10,11,12] LI ?_ ?_
      | refine OJ 7 ?_ [8,9,10,11,12] LI ?_ ?_
     rotate_left
     ·intro wS LN;have u0:=LN.cell C0.o N0.o;have u1:=LN.cell C1.o N1.o;go_simp;all_goals with_reducible rfl
     simp only[av,List.set]
    repeat' (first
     | exact nl
     |(refine ON 8 (fun K hK=>?_) ?_
       go_simp;refine hK.out _ _ (bd LI _) (fun LJ=>?_);clear hK K;replace LI:=LJ;clear LJ;try simp only[Act.put,Mt,Mu,Mv])
     |(refine ip (i:=9) (o:={ dst:=some 42,op:=Go.Op.call { callee:=Go.Callee.builtin Go.Builtin.append,args:=#[Go.Operand.tmp 39,Go.Operand.tmp 41],argTypes:=#[36,36] },type:=36,pos:= "owner.go:130",after:=#[{ on:=6,ground:=Go.Ground.data },{ on:=8,ground:=Go.Ground.data }],guard:=none }) rfl (fun K hK=>?_) ?_
       refine ng (by rfl) (.tmp 39) (.tmp 41) 36 (by rfl) _ _ (by rfl) (by rfl) _ (fun ty=>pP (wq:=wq) (by rfl) (by rfl) (by rfl) (by rfl) KQ.o.last.2.1 PLN.o (by have:=(MF.1 KQ.o.box).1;omega) ty) (fun v9 W9 hR=>?_);obtain⟨g9,c9,rfl,ho9,hg9,hf9⟩:=hR;have FIN:=aa (oW KQ.o PLX.o ho9 hg9 hf9);have ROWS:=aa (qg KQ.o hg9);refine hK.out _ _ (am (World.grownBy_alloc wq _ _) hg9) (fun LJ=>?_);clear ho9 hg9 hf9;clear hK K;replace LI:=LJ;clear LJ;try simp only[Act.put,Mt,Mu,Mv])
     |(refine OO 12 (fun K hK=>?_)
       obtain⟨n0,m0⟩:=ROWS.o;have FIN3:=aa (FINAL.o _ _ FIN.o);go_simp;refine hK.out _ _ ?_;clear hK K;try simp only[Act.put,Mt,Mu,Mv])
     |(first
        | refine OJ 10 ?_ [11,12] (by exact LI) ?_ ?_
        | refine OJ 11 ?_ [12] (by exact LI) ?_ ?_
       rotate_left
       ·intro wS LN;go_simp;all_goals with_reducible rfl
       simp only[av,List.set])
     | refine OL [8] ?_
     | refine OL [9] ?_
     | fail)
    all_goals
     refine dn (by kernel_rfl) ?_;clear n0 m0;go_wp2
     go_end0
     exact⟨rfl,FIN3.o⟩
   ·have e9:(o.name == n)=false:=by simpa using hn
    have i9:(0:Int)<=(init.length:Int)+1:=by omega
    have ADD:Ll (kv os n p=(init++[o])++[⟨n,[]++[p]⟩]):=aa (by rw[hos];exact oT init o n p hn);have c2:=(iX K1.o).2;have hnl:init.length+1<=4000000:=by rw[hos]at hN;simpa using hN
    have PLN:Ll ((([]:List Lz)).length<=4000000):=aa (by simp);clear hos hP hN;obtain⟨g7,c7,W7,hR,ho7,hg7,hf7⟩:=mW (W:=w1.alloc (.cells #[.string ⟨n.toArray⟩,.slice none 0 0] 47)) (B:=w0.heap.size+1) (v:=.slice (some ⟨gb,0,none⟩) (init.length+1) oc) (n:=init.length+1) (cs:=ba (init++[o]) (pin++[pl])) (nb:=w1.heap.size) (k:=⟨n.toArray⟩) (pa:=none) (pn:=0) (pc:=0) (bM K1.o.last.1 fun g hg=>(ae _ _).block g (bY K1.o.last.1 hg).2) (MN _ _) hnl (by have:=(ae w1 (.cells #[.string ⟨n.toArray⟩,.slice none 0 0] 47)).size;have:=(MF.1 K1.o.box).1;omega) 40;have KN:=aa (AI (n:=n) (N:=init.length+1) (cells:=ba (init++[o]) (pin++[pl])) K1.o (by simp) rfl ho7 hg7 hf7);have HR:=aa hR;have hgl:w0.heap.size < w1.heap.size:=(MF.1 K1.o.box).1;have c0a:∀ o,(w1.alloc o).cell? ⟨w0.heap.size,0,none⟩=some (.slice (some ⟨gb,0,none⟩) (init.length+1) oc):=fun o=>ah (ae _ _) c1;have hb7:W7.heap[w0.heap.size]?=some (.cells #[.slice (some ⟨gb,0,none⟩) (init.length+1) oc] 40):=by
     rw[hg7.block _ (MI hgl (ae w1 _).size) (fun e=>by have:=(bY K1.o.last.1 e.symm).1;omega),(ae w1 _).block _ hgl,K1.o.box]
    have c7a:W7.cell? ⟨w0.heap.size,0,none⟩=some (.slice (some ⟨gb,0,none⟩) (init.length+1) oc):=by simp[World.cell?,hb7]
    have c7f:W7.frozen? ⟨w0.heap.size,0,none⟩=false:=by simp[World.frozen?,hb7]
    clear hR ho7 hg7 hf7 hb7;go_wp2_with (at_builtin;go_must (refine Lib.wpList_append_run _ rfl _ _ _ _ rfl (.slice (some ⟨gb,0,none⟩) (init.length+1) oc) (.slice (some ⟨w1.heap.size,0,none⟩) 1 1) rfl rfl _ _ HR.o ?_);refine Ll.o ?_)
    refine aa ?_;go_upto_region 5 with fail
    obtain⟨wq,hwq⟩:∃ wq,wq=W7.setCell ⟨w0.heap.size,0,none⟩ (.slice (some ⟨g7,0,none⟩) (init.length+1+1) c7):=⟨_,rfl⟩
    rw[<-hwq]at KN ⊢;clear hwq c1 c2 c0a c7a c7f;obtain⟨in2,hin2⟩:∃ i,init++[o]=i:=⟨_,rfl⟩
    have LT:in2.length=init.length+1:=by rw[<-hin2];simp
    obtain⟨pin2,hpin2⟩:∃ i,pin++[pl]=i:=⟨_,rfl⟩
    obtain⟨Z2,hZ2⟩:∃ i,(fun k=>Z k\/pl.ownBlock=some k)=i:=⟨_,rfl⟩
    have KQ:Ll (gG w0 in2 (some ⟨n,[]⟩) F wq (.slice (some ⟨g7,0,none⟩) (in2.length+1) c7) (.slice none 0 0) pin2 Z2):=aa (by
     rw[LT,<-hin2,<-hpin2,<-hZ2];exact KN.o.1)
    have FK:=aa KN.o.2;have HLEN:=aa LT;have FINAL:Ll (∀ w' pl',gG w0 in2 (some ⟨n,[]++[p]⟩) F w' (.slice (some ⟨g7,0,none⟩) (in2.length+1) c7) pl' pin2 Z2/\wq.heap.size<=w'.heap.size/\(∀ k,F k->k < wq.heap.size->w'.heap[k]?=wq.heap[k]?)->D4 w0 (kv os n p) F w'/\W.heap.size<=w'.heap.size/\∀ k,F k->k < W.heap.size->w'.heap[k]?=W.heap[k]?):=aa (fun w' pl' h=>FR.o w' ⟨⟨in2,some ⟨n,[]++[p]⟩,_,pl',pin2,Z2,by rw[ADD.o,hin2];rfl,h.1⟩,MH FK.o.1 h.2.1,fun k hk hlt=>by rw[h.2.2 k hk (MI hlt FK.o.1),FK.o.2 k hk hlt]⟩);clear LT KN K1 hin2 hpin2 hZ2;obtain⟨pl9,hpl9⟩:∃ x:Value,x=.slice none 0 0:=⟨_,rfl⟩
    rw[<-hpl9]at KQ;clear hpl9;have C0:Ll (wq.cell? ⟨w0.heap.size,0,none⟩=some (.slice (some ⟨g7,0,none⟩) (init.length+1+1) c7)):=aa (by have h9:=KQ.o.box;rw[HLEN.o]at h9;simp[World.cell?,h9]);have N0:Ll (some w0.heap.size≠pl9.ownBlock):=aa (fun e=>by have:=(KQ.o.rows.2 _ e.symm).1;omega);have C1:Ll (wq.cell? ⟨g7,(init.length+1) * 2+1,none⟩=some pl9):=aa (by have h9:=(iX KQ.o).1;rw[HLEN.o]at h9;exact h9);have N1:Ll (some g7≠pl9.ownBlock):=aa (fun e=>KQ.o.off g7 rfl e.symm);have PLF:=KQ.o.last.2.1;obtain⟨sa,sn,sc,hsv⟩:∃ sa sn sc,pl9=.slice sa sn sc:=by
     rcases PLF.2 with⟨h9,-⟩ | ⟨_,_,_,h9,-⟩
     ·exact⟨_,_,_,h9⟩
     ·exact⟨_,_,_,h9⟩
    subst hsv;clear PLF;refine aD (fun wS=>World.grownBy wq wS (Value.slice sa sn sc).ownBlock) [12] (by kernel_rfl) (oD (az _ _)) (fun LI=>?_);refine WT.out ?_;iterate 8
     first
      | refine OJ 0 ?_ [10,11,12] LI ?_ ?_
      | refine OJ 1 ?_ [10,11,12] LI ?_ ?_
      | refine OJ 2 ?_ [4,5,6,9,10,11,12] LI ?_ ?_
      | refine OJ 3 ?_ [4,5,6,9,10,11,12] LI ?_ ?_
      | refine OJ 4 ?_ [5,6,9,10,11,12] LI ?_ ?_
      | refine OJ 5 ?_ [6,9,10,11,12] LI ?_ ?_
      | refine OJ 6 ?_ [9,10,11,12] LI ?_ ?_
      | refine OJ 7 ?_ [8,9,10,11,12] LI ?_ ?_
     rotate_left
     ·intro wS LN;have u0:=LN.cell C0.o N0.o;have u1:=LN.cell C1.o N1.o;go_simp;all_goals with_reducible rfl
     simp only[av,List.set]
    repeat' (first
     | exact nl
     |(refine ON 8 (fun K hK=>?_) ?_
       go_simp;refine hK.out _ _ (bd LI _) (fun LJ=>?_);clear hK K;replace LI:=LJ;clear LJ;try simp only[Act.put,Mt,Mu,Mv])
     |(refine ip (i:=9) (o:={ dst:=some 42,op:=Go.Op.call { callee:=Go.Callee.builtin Go.Builtin.append,args:=#[Go.Operand.tmp 39,Go.Operand.tmp 41],argTypes:=#[36,36] },type:=36,pos:= "owner.go:130",after:=#[{ on:=6,ground:=Go.Ground.data },{ on:=8,ground:=Go.Ground.data }],guard:=none }) rfl (fun K hK=>?_) ?_
       refine ng (by rfl) (.tmp 39) (.tmp 41) 36 (by rfl) _ _ (by rfl) (by rfl) _ (fun ty=>pP (wq:=wq) (by rfl) (by rfl) (by rfl) (by rfl) KQ.o.last.2.1 PLN.o (by have:=(MF.1 KQ.o.box).1;omega) ty) (fun v9 W9 hR=>?_);obtain⟨g9,c9,rfl,ho9,hg9,hf9⟩:=hR;have FIN:=aa (oW KQ.o PLX.o ho9 hg9 hf9);have ROWS:=aa (qg KQ.o hg9);refine hK.out _ _ (am (World.grownBy_alloc wq _ _) hg9) (fun LJ=>?_);clear ho9 hg9 hf9;clear hK K;replace LI:=LJ;clear LJ;try simp only[Act.put,Mt,Mu,Mv])
     |(refine OO 12 (fun K hK=>?_)
       obtain⟨n0,m0⟩:=ROWS.o;rw[HLEN.o]at n0 m0;have FIN2:=FINAL.o _ _ FIN.o;rw[HLEN.o]at FIN2;have FIN3:=aa FIN2;clear FIN2;go_simp;refine hK.out _ _ ?_;clear hK K;try simp only[Act.put,Mt,Mu,Mv])
     |(first
        | refine OJ 10 ?_ [11,12] (by exact LI) ?_ ?_
        | refine OJ 11 ?_ [12] (by exact LI) ?_ ?_
       rotate_left
       ·intro wS LN;go_simp;all_goals with_reducible rfl
       simp only[av,List.set])
     | refine OL [8] ?_
     | refine OL [9] ?_
     | fail)
    all_goals
     refine dn (by kernel_rfl) ?_;clear n0 m0;go_wp2
     go_end0
     exact⟨rfl,FIN3.o⟩
end
def fA (w:LC) (B:Nat) (os:List aL) (r:Value):Prop:=∃ pvs,os.length=pvs.length/\w.ownsRow B 47 2 r os.length (ba os pvs) /\
 ∀ (i:Nat) (o:aL) (v:Value),os[i]?=some o->pvs[i]?=some v->(∃ a c,v=.slice a o.paths.length c)/\ao w (fun k=>B<=k/\some k≠r.ownBlock) o.paths v
theorem kN:∀ (os:List aL) (vs:List Value) (i:Nat) (o:aL) (v:Value),os[i]?=some o->vs[i]?=some v->(ba os vs)[i * 2]?=some (.string ⟨o.name.toArray⟩)/\(ba os vs)[i * 2+1]?=some v
 | [],_,i,o,v,h,_=>by simp at h
 | _ :: _,[],i,o,v,_,h=>by simp at h
 | o' :: os,v' :: vs,0,o,v,h1,h2=>by simp at h1 h2;subst h1;subst h2;exact⟨rfl,rfl⟩
 | o' :: os,v' :: vs,i+1,o,v,h1,h2=>by
  have:=kN os vs i o v (by simpa using h1) (by simpa using h2);rw[show (i+1) * 2=i * 2+1+1 by omega];exact this
theorem fA.owns{os r}(h:fA w B os r)(hn:∀ o∈os,o.name.length<=maxLen):aB w (fun k=>B<=k) os r:=by
 obtain⟨pvs,h1,h2,h3⟩:=h;rcases h2.2 with⟨rfl,h0⟩ | ⟨g,cap,cur,rfl,g1,g2,g3,g4,g5,g6⟩
 ·have e:os=[]:=List.length_eq_zero_iff.1 h0;subst e;exact aB.nil _ _
 ·refine⟨by omega,?_⟩;by_cases h0:os=[]
  ·subst h0;have:cap=cap:=rfl;refine .inr ⟨g,0,cap,rfl,g3,g4,fun i x hx=>by simp at hx⟩
  ·refine .inr ⟨g,0,cap,rfl,g3,g4,fun i x hx=>?_⟩;obtain⟨hi,rfl⟩:=Mz.1 hx;obtain⟨v,hv⟩:∃ v,pvs[i]?=some v:=⟨_,Mw (by omega)⟩
   obtain⟨⟨a,c,rfl⟩,hs⟩:=h3 i _ v hx hv;obtain⟨e1,e2⟩:=kN os pvs i _ _ hx hv;have hpos:0 < os.length:=List.length_pos_iff.2 h0;refine⟨a,_,c,hn _ (List.getElem_mem hi),g1,?_,?_,hs.imp fun a x q1 q2=>⟨q1.1,q2⟩⟩
   ·rw[Nat.zero_add];exact(dJ h2 hpos e1).1
   ·rw[Nat.zero_add];exact(dJ h2 hpos e2).1
theorem fA.base{B' os r}(h:fA w B os r)(hb:B'<=B):fA w B' os r:=by
 obtain⟨pvs,h1,h2,h3⟩:=h;exact⟨pvs,h1,cV h2 hb,fun i o v g1 g2=>⟨(h3 i o v g1 g2).1,(h3 i o v g1 g2).2.imp fun a x q1 q2=>⟨⟨MH hb q1.1,q1.2⟩,q2⟩⟩⟩
theorem D4.row{os F}(h:D4 w0 os F W):∃ ov,W.heap[w0.heap.size]?=some (.cells #[ov] 40)/\fA W (w0.heap.size+1) os ov:=by
 obtain⟨init,LZ,ov,pl,pin,Z,rfl,h⟩:=h;refine⟨ov,h.box,?_⟩;have hl:=h.last;have hr:=h.rows;have hZ:∀ k,Z k->w0.heap.size+1<=k/\some k≠ov.ownBlock:=fun k hk=>⟨h.zlow k hk,(h.keep k (.inr hk)).2.2.1⟩
 cases LZ with
 | none=>
  obtain⟨rfl,-,hrow⟩:=hl;exact⟨[],rfl,hrow,fun i o v h1=>by simp at h1⟩
 | some o=>
  refine⟨pin++[pl],by simp[h.plen],by simpa using hl.1,fun i o' v h1 h2=>?_⟩;by_cases hi:i < init.length
  ·rw[List.getElem?_append_left hi]at h1;rw[List.getElem?_append_left (by rw[<-h.plen];exact hi)]at h2;obtain⟨g1,g2⟩:=h.ini i o' v h1 h2;exact⟨g1,g2.imp fun a x q1 q2=>⟨hZ _ q1,q2⟩⟩
  ·rw[List.getElem?_append_right (by omega)]at h1;rw[List.getElem?_append_right (by rw[<-h.plen];omega),<-h.plen]at h2;cases h8:i - init.length with
   | succ m=>rw[h8]at h1;simp at h1
   | zero=>
    rw[h8]at h1 h2;simp at h1 h2;subst h1;subst h2;exact sA hl.2.1 hl.2.2 fun g' hg'=>⟨(hr.2 g' hg').1,fun e=>h.off g' e.symm hg'⟩
theorem Hp(stays:Lz->Lz->Bool)(d:List (Lz × Lz)):(xz stays d).length<=d.length/\∀ o∈xz stays d,o.paths.length<=d.length:=by
 have key:∀ (k:Nat) (d:List (Lz × Lz)),d.length=k->(xz stays d).length<=d.length/\∀ o∈xz stays d,o.paths.length<=d.length:=by
  intro k;induction k with
  | zero=>intro d hd;rw[List.length_eq_zero_iff.1 hd];simp[xz]
  | succ k ih=>
   intro d hd;rcases List.eq_nil_or_concat d with rfl | ⟨r,c,rfl⟩
   ·simp at hd
   ·rw[List.concat_eq_append]at hd ⊢;obtain⟨n,p⟩:=c;obtain⟨h1,h2⟩:=ih r (by simpa using hd);rw[wQ,Mx,List.length_singleton];split
    ·rcases List.eq_nil_or_concat (xz stays r) with h9 | ⟨q,o,h9⟩
     ·rw[h9,Ev];refine⟨by simp,fun o ho=>?_⟩;rw[List.mem_singleton]at ho;rw[ho];simp
     ·rw[List.concat_eq_append]at h9;rw[h9]at h1 h2 ⊢;by_cases hn:o.name=n
      ·subst hn;rw[nu];refine⟨by simp at h1 ⊢;omega,fun x hx=>?_⟩;rcases List.mem_append.1 hx with hx | hx
       ·have:=h2 x (by simp[hx]);omega
       ·rw[List.mem_singleton]at hx;have:=h2 o (by simp);rw[hx];simp;omega
      ·rw[oT _ _ _ _ hn];refine⟨by simp at h1 ⊢;omega,fun x hx=>?_⟩;rcases List.mem_append.1 hx with hx | hx
       ·have:=h2 x hx;omega
       ·rw[List.mem_singleton]at hx;rw[hx];simp
    ·exact⟨by omega,fun o ho=>by have:=h2 o ho;omega⟩
 exact key _ d rfl
theorem sS:∀ args w,(callFunc 123 args).run prog w=.ok (.enter 123 args) w:=enters_of func123 (by kernel_rfl) rfl
theorem DQ{l:List aL}{vl:Value}{gs:Nat}{lb:Array Value}{stays:Lz->Lz->Bool}(eg:∀ args w,(callFunc g args).run prog w=.ok (.enter g args) w)(hgs:w0.cell? ⟨gs,0,none⟩=some (.func (.func g) #[] lb))(hst:∀ W n p,La w0 W->(n,p)∈bA l->Calls prog g (#[.string ⟨n.toArray⟩,.string ⟨p.toArray⟩]++lb) W fun e w'=>e=.returned (.bool (stays n p))/\La W w')(hl:aB w0 ok l vl)(hok:∀ k,ok k->k < w0.heap.size)(hN:(bA l).length<=4000000)(hP:∀ o∈l,∀ x∈o.paths,x.length<=maxLen):ES w0 123 #[.pointer (some ⟨gs,0,none⟩),.pointer (some ⟨w0.heap.size,0,none⟩)] l ok vl (fun d F W=>D4 w0 (xz stays d) F W) where
 owns:=hl
 cells d F W hI a x h1 h2:=by
  obtain⟨_,_,_,_,_,_,-,h⟩:=hI;exact(World.cell?_of_block (h.low.block _ (hok _ h1))).trans h2
 alloc d F W o hI:=by
  obtain⟨a1,a2,a3,a4,a5,a6,e,h⟩:=hI;exact⟨a1,a2,a3,a4,a5,a6,e,h.alloc o⟩
 low d F G W hI hg:=by
  obtain⟨a1,a2,a3,a4,a5,a6,e,h⟩:=hI;exact⟨a1,a2,a3,a4,a5,a6,e,h.lower hg⟩
 step d F W n p hI hpre:=by
  have hm:(n,p)∈bA l:=hpre.subset (by simp);obtain⟨o,ho,rfl,hp⟩:=kL hm;have LT:=hpre.length_le;rw[Mx]at LT;have hlow:La w0 W:=by
   obtain⟨_,_,_,_,_,_,-,h⟩:=hI;exact h.low
  obtain⟨g1,g2⟩:=Hp stays d;have:=Eg w0 W gs g lb stays (xz stays d) F o.name p eg hI hgs (hP o ho p hp) (hst W o.name p hlow hm) (by omega) (fun x hx=>by have:=g2 x hx;omega);rw[<-wQ]at this;exact this
theorem Am(w:LC)(ok l vl g)(lb:Array Value)(stays:Lz->Lz->Bool)(eg:∀ args w,(callFunc g args).run prog w=.ok (.enter g args) w)(hst:∀ W n p,La w W->(n,p)∈bA l->Calls prog g (#[.string ⟨n.toArray⟩,.string ⟨p.toArray⟩]++lb) W fun e w'=>e=.returned (.bool (stays n p))/\La W w')(hl:aB w ok l vl)(hr:bD (l.map aL.name))(hN:(bA l).length<=4000000)(hP:∀ o∈l,∀ x∈o.paths,x.length<=maxLen):Calls prog 95 #[vl,.func (.func g) #[] lb] w fun e w'=>∃ a c,e=.returned (.slice a (dV stays l).length c)/\fA w' w.heap.size (dV stays l) (.slice a (dV stays l).length c)/\La w w':=by
 have HL:=aa hl.low;obtain⟨la,lc,rfl⟩:=hl.form;have ll:=hl.1;unfold maxLen at ll;have HR:=aa (Gn (stays:=stays) hr);obtain⟨W1,hW1⟩:∃ W,W=w.alloc (.cells #[.func (.func g) #[] lb] 142):=⟨_,rfl⟩
 have B1:Ll (La w W1):=aa (by rw[hW1];exact ae _ _);have CS:Ll (W1.cell? ⟨w.heap.size,0,none⟩=some (.func (.func g) #[] lb)):=aa (by
  have h9:W1.heap[w.heap.size]?=some (.cells #[.func (.func g) #[] lb] 142):=by rw[hW1];exact MN _ _
  simp[World.cell?,h9])
 have SZ:Ll (W1.heap.size=w.heap.size+1):=aa (by rw[hW1];simp);have SEES:=aa (DQ (w0:=W1) (gs:=w.heap.size) (stays:=stays) eg CS.o (fun W n p hb hm=>hst W n p (B1.o.trans (hb.mono B1.o.size)) hm) (HL.o.bel B1.o) (fun k hk=>by have:=hk.2;have:=SZ.o;omega) hN hP);have CALL:=aa (nW W1 (W1.alloc (.cells #[.slice none 0 0] 40)) _ l _ _ _ _ (fun k=>k < W1.heap.size) sS SEES.o ⟨[],none,_,_,[],_,rfl,A0 W1⟩);have HW1:=aa hW1;clear hl hr hN hP hst hW1;go_enter func95,ntmps95;go_upto_region 1 with fail
 rw[<-HW1.o];go_upto_region 3 with (go_at_call 120;refine CALL.o.mono ?_;rintro e w7 ⟨rfl,hi7⟩;have I7:=aa hi7;clear hi7)
 obtain⟨ov,r1,r2⟩:=D4.row I7.o;rw[HR.o]at r2;have c0:w7.cell? ⟨W1.heap.size,0,none⟩=some ov:=by simp[World.cell?,r1]
 obtain⟨sa,sc,hsv⟩:∃ sa sc,ov=.slice sa (dV stays l).length sc:=by
  obtain⟨pvs,-,h2,-⟩:=r2;rcases h2.2 with⟨h9,h8⟩ | ⟨_,_,_,h9,-⟩
  ·exact⟨none,0,by rw[h8];exact h9⟩
  ·exact⟨_,_,h9⟩
 subst hsv;have ROW:=aa r2;have LOW:Ll (La w w7):=aa (by
  obtain⟨_,_,_,_,_,_,-,h⟩:=I7.o;exact B1.o.trans (h.low.mono B1.o.size))
 have S1:=aa B1.o.size;clear r1 r2;go_wp2
 go_ret;exact⟨sa,sc,rfl,ROW.o.base (by have:=S1.o;omega),LOW.o⟩
theorem kR(w)(ty:TypeId)(g o dLen dCap a sLen sCap)(cur:Array Value)(t:TypeId)(cs)(hg:w.heap[g]?=some (.cells cur t (0,0)))(hn:cs.length=Nat.min sLen dLen * 2)(hsrc:∀ j v,cs[j]?=some v->w.cell? (a.add j)=some v)(hfit:o+cs.length<=cur.size)(h1:∀ v∈cs,v.oneCell'=true):(Builtin.copy_ #[40,40] ty #[.slice (some ⟨g,o,none⟩) dLen dCap,.slice (some a) sLen sCap]).run prog w =
 .ok (goInt (Nat.min sLen dLen)) (w.setRow g (cur.toList.take o++cs++cur.toList.drop (o+cs.length)).toArray):=by
 have hl:=run_loadCells_list (P:=prog) w a cs hsrc;have hst:=run_storeCells_at prog g o t cs 0 cur w hg (by simpa using hfit) h1;obtain⟨i0,hi,hz0,hz1,hz2⟩:=info_parts Sn;simp[Builtin.copy_,run_underlying underlying40,Builtin.lenOf,Builtin.firstCells,sizeOf,typeInfo,hi,hz1,<-hn,hl,hst]
theorem nC:∀ (os:List aL) (vs:List Value) (i:Nat),os.length=vs.length->ba (os.take i) (vs.take i)=(ba os vs).take (i * 2)
 | [],[],i,_=>by simp[ba]
 | [],_ :: _,i,h=>by simp at h
 | _ :: _,[],i,h=>by simp at h
 | o :: os,v :: vs,0,_=>by simp[ba]
 | o :: os,v :: vs,i+1,h=>by
  rw[List.take_succ_cons,List.take_succ_cons,ba,ba,nC os vs i (by simpa using h),show (i+1) * 2=i * 2+1+1 by omega,List.take_succ_cons,List.take_succ_cons]
theorem nS:∀ (os:List aL) (vs:List Value) (i:Nat),os.length=vs.length->ba (os.drop i) (vs.drop i)=(ba os vs).drop (i * 2)
 | [],[],i,_=>by simp[ba]
 | [],_ :: _,i,h=>by simp at h
 | _ :: _,[],i,h=>by simp at h
 | o :: os,v :: vs,0,_=>by simp
 | o :: os,v :: vs,i+1,h=>by
  rw[List.drop_succ_cons,List.drop_succ_cons,ba,nS os vs i (by simpa using h),show (i+1) * 2=i * 2+1+1 by omega,List.drop_succ_cons,List.drop_succ_cons]
theorem kY:∀ (a:List aL) (va:List Value) (b:List aL) (vb:List Value),a.length=va.length->ba (a++b) (va++vb)=ba a va++ba b vb
 | [],[],b,vb,_=>rfl
 | [],_ :: _,b,vb,h=>by simp at h
 | _ :: _,[],b,vb,h=>by simp at h
 | o :: a,v :: va,b,vb,h=>by simp only[List.cons_append,ba,kY a va b vb (by simpa using h)]
theorem xG{os vs o}(h:os.length=vs.length):ba (os.take i++o :: os.drop i) (vs.take i++v :: vs.drop i)=(ba os vs).take (i * 2)++[.string ⟨o.name.toArray⟩,v]++(ba os vs).drop (i * 2):=by
 rw[kY _ _ _ _ (by simp[h]),nC _ _ _ h];simp only[ba,nS _ _ _ h];simp
theorem oZ:∀ (os:List aL) (vs:List Value),(∀ v∈vs,v.oneCell'=true)->∀ u∈ba os vs,u.oneCell'=true
 | [],_,_,u,hu=>by simp[ba]at hu
 | _ :: _,[],_,u,hu=>by simp[ba]at hu
 | o :: os,v :: vs,h,u,hu=>by
  simp only[ba,List.mem_cons]at hu;rcases hu with rfl | rfl | hu
  ·rfl
  ·exact h _ (by simp)
  ·exact oZ os vs (fun x hx=>h x (by simp[hx])) u hu
theorem ux(w vb b off lb cb)(tA tB:TypeId)(kA kB)(hne:vb≠b)(hsa:w.shape? vb=some (tA,kA))(hsb:w.shape? b=some (tB,kB))(hkB:kB≠0)(hfa:w.frozen? ⟨vb,0,none⟩=false)(hfe:w.frozen? ⟨vb,kA,none⟩=false):(callFunc 166 #[.slice (some ⟨vb,0,none⟩) 1 1,.slice (some ⟨b,off,none⟩) lb cb]).run prog w=.ok (.value (.bool false)) w:=by
 rw[run_callFunc_extern func166 (by kernel_rfl) (by kernel_rfl) (by kernel_rfl) (e:=Extern.SlicesOverlaps.overlaps #[40,40] #[4]) (by kernel_rfl),
  Lib.run_overlaps_apart w 40 4 47 underlying40 2 Tryz.sizeOf47 ⟨vb,0,none⟩ ⟨b,off,none⟩ 1 1 lb cb hne tA tB kA kB hsa hsb hkB hfa hfe]
 rfl
variable {c:Nat}
theorem zQ(n i)(h:i < n):Nat.min 1 (n+1 - i)=1:=by simp only[Nat.min_def];split <;> omega
theorem Dm{cur:List Value}{cells two:List Value}(hs:cur.length=c * 2)(hx:cur.take (n * 2)=cells)(hl:cells.length=n * 2)(h2:two.length=2)(hi:i < n)(hroom:n+1<=c):let a1:=cur.take ((i+1) * 2)++cells.drop (i * 2)++cur.drop ((i+1) * 2+(cells.drop (i * 2)).length)
 let a2:=a1.take (i * 2)++two++a1.drop (i * 2+two.length)
 a1.length=c * 2/\a2.length=c * 2/\a2.take ((n+1) * 2)=cells.take (i * 2)++two++cells.drop (i * 2):=by
 intro a1 a2;have e1:(cur.take ((i+1) * 2)).length=(i+1) * 2:=by rw[MC];omega
 have e2:(cells.drop (i * 2)).length=n * 2 - i * 2:=by rw[MB,hl]
 have l1:a1.length=c * 2:=by simp only[a1,Mx,MB,e1,hs,hl];omega
 have t1:a1.take (i * 2)=cells.take (i * 2):=by
  simp only[a1];rw[List.append_assoc,List.take_append_of_le_length (by rw[e1];omega),List.take_take,<-hx,List.take_take,Nat.min_eq_left (by omega),Nat.min_eq_left (by omega)]
 have t2:a1.drop (i * 2+two.length)=cells.drop (i * 2)++cur.drop ((i+1) * 2+(cells.drop (i * 2)).length):=by
  simp only[a1];rw[h2,List.append_assoc,show i * 2+2=(cur.take ((i+1) * 2)).length by rw[e1];omega,List.drop_left]
 have l2:a2.length=c * 2:=by
  simp only[a2,t1,t2,Mx,MC,MB,hl,hs,h2];omega
 refine⟨l1,l2,?_⟩;simp only[a2,t1,t2];rw[<-List.append_assoc,List.take_append_of_le_length (by simp only[Mx,MC,MB,hl,h2];omega),MD (by simp only[Mx,MC,MB,hl,h2];omega)]
theorem wy(w:LC)(B g n c i vb:Nat)(cur:Array Value)(cells)(name:Lz)(pa)(pn pc:Nat)(hi:i < n)(hroom:n+1<=c)(hc:c<=maxLen)(hBg:B<=g)(hg:w.heap[g]?=some (.cells cur 47 (0,0)))(hs:cur.size=c * 2)(hx:cur.toList.take (n * 2)=cells)(hl:cells.length=n * 2)(hv:w.heap[vb]?=some (.cells #[Value.string ⟨name.toArray⟩,Value.slice pa pn pc] 47))(hvb:vb≠g)(h1:∀ u∈cells,u.oneCell'=true):Calls prog 134 #[.slice (some ⟨g,0,none⟩) n c,.int .i64 i,.slice (some ⟨vb,0,none⟩) 1 1] w fun e w'=>e=.returned (.slice (some ⟨g,0,none⟩) (n+1) c)/\w'.ownsRow B 47 2 (.slice (some ⟨g,0,none⟩) (n+1) c) (n+1) (cells.take (i * 2)++[Value.string ⟨name.toArray⟩,Value.slice pa pn pc]++cells.drop (i * 2))/\w.grownBy w' (some g):=by
 have hov:=fun off lb cb=>ux w vb g off lb cb _ _ 2 (c * 2) hvb (by simp[World.shape?,hv];rfl) (by simp[World.shape?,hg,hs];rfl) (by omega) (by simp[World.frozen?,hv]) (by simp[World.frozen?,hv]);obtain⟨l1,l2,l3⟩:=Dm (cur:=cur.toList) (two:=[Value.string ⟨name.toArray⟩,Value.slice pa pn pc]) (by simpa using hs) hx hl rfl hi hroom;have hcp1:∀ ty dc sc,(Builtin.copy_ #[40,40] ty #[.slice (some ⟨g,(i+1) * 2,none⟩) (n - i) dc,.slice (some ⟨g,i * 2,none⟩) (n+1 - i) sc]).run prog w.drew=.ok (goInt (Nat.min (n+1 - i) (n - i))) (w.drew.setRow g (cur.toList.take ((i+1) * 2)++cells.drop (i * 2)++cur.toList.drop ((i+1) * 2+(cells.drop (i * 2)).length)).toArray):=fun ty dc sc=>
  kR w.drew ty g ((i+1) * 2) (n - i) dc ⟨g,i * 2,none⟩ (n+1 - i) sc cur _ (cells.drop (i * 2)) hg (by rw[MB,hl];simp only[Nat.min_def];split <;> omega)
   (fun j v hj=>by
    rw[List.getElem?_drop,<-hx,List.getElem?_take]at hj;split at hj
    ·rw[Addr.add_lit];simp only[World.cell?,show w.drew.heap=w.heap from rfl,hg];simpa using hj
    ·cases hj)
   (by rw[MB,hl];omega) (fun v hv=>h1 v (List.mem_of_mem_drop hv))
 obtain⟨A1,hA1⟩:∃ A1,A1=(cur.toList.take ((i+1) * 2)++cells.drop (i * 2)++cur.toList.drop ((i+1) * 2+(cells.drop (i * 2)).length)):=⟨_,rfl⟩
 rw[<-hA1]at hcp1 l1 l2 l3;have hgW:(w.drew.setRow g A1.toArray).heap[g]?=some (.cells A1.toArray 47 (0,0)):=setRow_heap w.drew g cur _ _ _ hg;have hvW:(w.drew.setRow g A1.toArray).heap[vb]?=some (.cells #[Value.string ⟨name.toArray⟩,Value.slice pa pn pc] 47):=(setRow_other w.drew g vb _ hvb).trans hv;have hcp2:∀ (W:LC),(∀ k,W.heap[k]?=(w.drew.setRow g A1.toArray).heap[k]?)->∀ ty dc,(Builtin.copy_ #[40,40] ty #[.slice (some ⟨g,i * 2,none⟩) (n+1 - i) dc,.slice (some ⟨vb,0,none⟩) 1 1]).run prog W=.ok (goInt (Nat.min 1 (n+1 - i))) (W.setRow g (A1.take (i * 2)++[Value.string ⟨name.toArray⟩,Value.slice pa pn pc]++A1.drop (i * 2+2)).toArray):=fun W hW ty dc=>
  kR W ty g (i * 2) (n+1 - i) dc ⟨vb,0,none⟩ 1 1 A1.toArray _ [Value.string ⟨name.toArray⟩,Value.slice pa pn pc] ((hW g).trans hgW) (by rw[zQ n i hi];rfl)
   (fun j v hj=>by
    rw[Addr.add_lit];simp only[World.cell?,hW,hvW];simpa using hj)
   (by simp only[My,List.length_nil,List.size_toArray,l1];omega) (by intro u hu;simp only[List.mem_cons,List.not_mem_nil,or_false]at hu;rcases hu with rfl | rfl <;> rfl)
 have HF:Ll (∀ W:LC,W=(w.drew.setRow g A1.toArray).drew.setRow g (A1.take (i * 2)++[Value.string ⟨name.toArray⟩,Value.slice pa pn pc]++A1.drop (i * 2+2)).toArray\/W=(w.drew.setRow g A1.toArray).setRow g (A1.take (i * 2)++[Value.string ⟨name.toArray⟩,Value.slice pa pn pc]++A1.drop (i * 2+2)).toArray->W.ownsRow B 47 2 (.slice (some ⟨g,0,none⟩) (n+1) c) (n+1) (cells.take (i * 2)++[Value.string ⟨name.toArray⟩,Value.slice pa pn pc]++cells.drop (i * 2))/\w.grownBy W (some g)):=aa (by
  intro W hW;have e0:W.heap[g]?=some (.cells (A1.take (i * 2)++[Value.string ⟨name.toArray⟩,Value.slice pa pn pc]++A1.drop (i * 2+2)).toArray 47 (0,0)):=by
   rcases hW with rfl | rfl
   ·exact setRow_heap _ g _ _ _ _ hgW
   ·exact setRow_heap _ g _ _ _ _ hgW
  refine⟨⟨?_,.inr ⟨g,c,_,rfl,hBg,e0,hroom,hc,by simpa using l2,by simpa using l3⟩⟩,?_⟩
  ·simp only[Mx,MC,MB,hl,My,List.length_nil];omega
  ·rcases hW with rfl | rfl <;> refine⟨rfl,rfl,rfl,by simp[World.setRow],fun k hk hne=>?_⟩
   ·have:k≠g:=fun e=>hne (by rw[e]);exact(setRow_other _ g k _ this).trans (setRow_other w.drew g k _ this)
   ·have:k≠g:=fun e=>hne (by rw[e]);exact(setRow_other _ g k _ this).trans (setRow_other w.drew g k _ this))
 have q0:((i:Int) == (n:Int))=false:=by rw[MO];omega
 have q1:(0:Int)<=(i:Int):=by omega
 have q2:(i:Int)<=(n:Int):=by omega
 have q3:¬(c:Int) < (n:Int)+1:=by omega
 have q4:(n:Int)+1<=(c:Int):=by omega
 have q5:(0:Int)<=(n:Int)+1:=by omega
 have q6:(i:Int)+1<=(n:Int)+1:=by omega
 have q7:(0:Int)<=(i:Int)+1:=by omega
 unfold maxLen at hc;have hcl:(c:Int)<=9223372036854775807:=by omega
 have hw1:IntKind.i64.wrap ((i:Int)+1)=(i:Int)+1:=by rw[IntKind.wrap_i64];omega
 have htn:((i:Int)+1).toNat=i+1:=by omega
 have q8:(i:Int)<=(n:Int)+1:=by omega
 have hc1:=hcp1 3 (c - (i+1)) (c - i);have hc2:=hcp2 (w.drew.setRow g A1.toArray) (fun _=>rfl) 3 (c - i);have z1:¬(c=i):=by omega
 have z2:¬(c=i+1):=by omega
 clear hcp1 hcp2 hgW hvW l1 l2 l3 hA1 hx hl h1 hv hg hs;go_enter func134,ntmps134;go_wp2_with (simp only[hov])
 go_region
 go_wp2_with (simp only[hc2])
 go_ret;exact⟨rfl,HF.o _ (.inr (by simp))⟩
theorem Cf{R cells two Z:List Value}{G:Nat}(hR:R=cells.take (i * 2)++Z)(hZ:Z.length=(G - i) * 2)(hl:cells.length=n * 2)(h2:two.length=2)(hi:i < n)(hG:n+1<=G):let a1:=R.take (i * 2)++two++R.drop (i * 2+two.length)
 let a2:=a1.take ((i+1) * 2)++cells.drop (i * 2)++a1.drop ((i+1) * 2+(cells.drop (i * 2)).length)
 R.length=G * 2/\a1.length=G * 2/\a2.length=G * 2/\a2.take ((n+1) * 2)=cells.take (i * 2)++two++cells.drop (i * 2):=by
 intro a1 a2;have e1:(cells.take (i * 2)).length=i * 2:=by rw[MC];omega
 have l0:R.length=G * 2:=by rw[hR,Mx,e1,hZ];omega
 have t1:R.take (i * 2)=cells.take (i * 2):=by rw[hR,List.take_append_of_le_length (by omega),MD (by omega)]
 have l1:a1.length=G * 2:=by simp only[a1,t1,Mx,MB,e1,l0,h2];omega
 have t2:a1.take ((i+1) * 2)=cells.take (i * 2)++two:=by
  simp only[a1,t1];rw[List.take_append_of_le_length (by rw[Mx];omega),MD (by rw[Mx];omega)]
 have l2:a2.length=G * 2:=by simp only[a2,t2,Mx,MB,e1,h2,l1,hl];omega
 refine⟨l0,l1,l2,?_⟩;simp only[a2,t2];rw[List.take_append_of_le_length (by simp only[Mx,MB,e1,hl,h2];omega),MD (by simp only[Mx,MB,e1,hl,h2];omega)]
theorem uy(w:LC)(B g n c i vb:Nat)(cur:Array Value)(cells)(name:Lz)(pa)(pn pc:Nat)(hi:i < n)(hnc:n<=c)(hroom:c < n+1)(hn:n<=4000000)(hB:B<=w.heap.size)(hg:w.heap[g]?=some (.cells cur 47 (0,0)))(hx:cur.toList.take (n * 2)=cells)(hl:cells.length=n * 2)(hv:w.heap[vb]?=some (.cells #[.string ⟨name.toArray⟩,.slice pa pn pc] 47))(h1:∀ u∈cells,u.oneCell'=true):Calls prog 134 #[.slice (some ⟨g,0,none⟩) n c,.int .i64 i,.slice (some ⟨vb,0,none⟩) 1 1] w fun e w'=>∃ G,e=.returned (.slice (some ⟨w.heap.size,0,none⟩) (n+1) G)/\w'.ownsRow B 47 2 (.slice (some ⟨w.heap.size,0,none⟩) (n+1) G) (n+1) (cells.take (i * 2)++[Value.string ⟨name.toArray⟩,Value.slice pa pn pc]++cells.drop (i * 2))/\w.grownBy w' none:=by
 obtain⟨i0,hi0,hz0,hz1,hz2⟩:=info_parts Sn;have hgl:=(MF.1 hg).1;have hvl:=(MF.1 hv).1;have LV:∀ j v,cells[j]?=some v->w.cell? ⟨g,j,none⟩=some v:=fun j v hj=>by
  rw[<-hx,List.getElem?_take]at hj;split at hj
  ·simp only[World.cell?,hg];simpa using hj
  ·cases hj
 have hold:(Builtin.firstCells i0.size i (.slice (some ⟨g,0,none⟩) i c)).run prog w.drew=.ok (cells.take (i * 2)).toArray w.drew:=by
  rw[hz1];exact run_firstCells_some w.drew 2 i ⟨g,0,none⟩ i c (cells.take (i * 2)) (by rw[MC];omega) (fun j v hj=>by
   rw[Addr.add_lit,Nat.zero_add];rw[List.getElem?_take]at hj;split at hj
   ·exact LV j v hj
   ·cases hj)
 have hik:i+(n+1 - i)=n+1:=by omega
 have hkk:(n:Int)+1 - (i:Int)=((n+1 - i:Nat):Int):=by omega
 have hrz:=Lib.run_append_grow_zeros w 40 3 40 47 i0 _ .i64 .i64 underlying40 underlying3 hi0 hz0 (some ⟨g,0,none⟩) i c (cells.take (i * 2)) hold (n+1 - i) (by omega) (by omega) (by omega) (by omega) (by rw[hz2];omega) (by rw[hz2,hik];exact growslice_fits hroom (by omega));rw[hik,<-hkk]at hrz;have hGn:=grownCap_ge w (n+1) c 47;have hGm:=grownCap_le_maxLen w (n+1) c 47 (by unfold maxLen;omega);obtain⟨G,hG⟩:∃ G,G=grownCap w (n+1) c 47:=⟨_,rfl⟩
 rw[<-hG]at hrz hGn hGm;obtain⟨Z,hZ,hZl⟩:∃ Z:List Value,(Builtin.zeroCells (Value.agg #[.string ⟨#[]⟩,.slice none 0 0]).cells (n+1 - i)).toList++(Builtin.zeroCells (Value.agg #[.string ⟨#[]⟩,.slice none 0 0]).cells (G - (n+1))).toList=Z/\Z.length=(G - i) * 2:=⟨_,rfl,by
  simp only[Mx,Array.length_toList,size_zeroCells];have:(Value.agg #[.string ⟨#[]⟩,.slice none 0 0]).cells.size=2:=by rfl
  rw[this];omega⟩
 obtain⟨R,hR⟩:∃ R:List Value,R=cells.take (i * 2)++Z:=⟨_,rfl⟩
 obtain⟨l0,l1,l2,l3⟩:=Cf (two:=[Value.string ⟨name.toArray⟩,Value.slice pa pn pc]) hR hZl hl rfl hi hGn;have hRR:(cells.take (i * 2)).toArray++Builtin.zeroCells (Value.agg #[.string ⟨#[]⟩,.slice none 0 0]).cells (n+1 - i)++Builtin.zeroCells (Value.agg #[.string ⟨#[]⟩,.slice none 0 0]).cells (G - (n+1))=R.toArray:=by
  apply Array.toList_inj.1;rw[hR,<-hZ];simp
 rw[hRR]at hrz;obtain⟨A1,hA1⟩:∃ A1,A1=R.take (i * 2)++[Value.string ⟨name.toArray⟩,Value.slice pa pn pc]++R.drop (i * 2+2):=⟨_,rfl⟩
 have e2:[Value.string ⟨name.toArray⟩,Value.slice pa pn pc].length=2:=rfl;rw[e2,<-hA1]at l1 l2 l3;have hgW:∀ k,k < w.heap.size->(w.drew.alloc (.cells R.toArray 47)).heap[k]?=w.heap[k]?:=fun k hk=>heap_alloc_old w.drew _ hk;have hnW:(w.drew.alloc (.cells R.toArray 47)).heap[w.heap.size]?=some (.cells R.toArray 47 (0,0)):=MN w.drew _;have hcpA:∀ (W:LC),(∀ k,W.heap[k]?=(w.drew.alloc (.cells R.toArray 47)).heap[k]?)->∀ ty dc,(Builtin.copy_ #[40,40] ty #[.slice (some ⟨w.heap.size,i * 2,none⟩) (n+1 - i) dc,.slice (some ⟨vb,0,none⟩) 1 1]).run prog W=.ok (goInt (Nat.min 1 (n+1 - i))) (W.setRow w.heap.size A1.toArray):=fun W hW ty dc=>by
  rw[hA1];exact kR W ty w.heap.size (i * 2) (n+1 - i) dc ⟨vb,0,none⟩ 1 1 R.toArray _ [.string ⟨name.toArray⟩,.slice pa pn pc] ((hW _).trans hnW) (by rw[zQ n i hi];rfl)
   (fun j v hj=>by
    rw[Addr.add_lit];simp only[World.cell?,hW,hgW vb hvl,hv];simpa using hj)
   (by simp only[My,List.length_nil,List.size_toArray,l0];omega) (by intro u hu;simp only[List.mem_cons,List.not_mem_nil,or_false]at hu;rcases hu with rfl | rfl <;> rfl)
 have hcpB:∀ (W W0:LC),(∀ k,W0.heap[k]?=(w.drew.alloc (.cells R.toArray 47)).heap[k]?)->(∀ k,W.heap[k]?=(W0.setRow w.heap.size A1.toArray).heap[k]?)->∀ ty dc sc,(Builtin.copy_ #[40,40] ty #[.slice (some ⟨w.heap.size,(i+1) * 2,none⟩) (n - i) dc,.slice (some ⟨g,i * 2,none⟩) (n - i) sc]).run prog W=.ok (goInt (Nat.min (n - i) (n - i))) (W.setRow w.heap.size (A1.take ((i+1) * 2)++cells.drop (i * 2)++A1.drop ((i+1) * 2+(cells.drop (i * 2)).length)).toArray):=fun W W0 hW0 hW ty dc sc=>
  kR W ty w.heap.size ((i+1) * 2) (n - i) dc ⟨g,i * 2,none⟩ (n - i) sc A1.toArray _ (cells.drop (i * 2)) ((hW _).trans (setRow_heap W0 _ R.toArray _ _ _ ((hW0 _).trans hnW))) (by rw[MB,hl];simp only[Nat.min_def];split <;> omega)
   (fun j v hj=>by
    rw[List.getElem?_drop]at hj;have:=LV _ v hj;rw[Addr.add_lit];simp only[World.cell?]at this ⊢;rw[hW,setRow_other W0 w.heap.size g _ (Nat.ne_of_lt hgl),hW0,hgW g hgl];exact this)
   (by simp only[MB,hl,List.size_toArray,l1];omega) (fun v hv=>h1 v (List.mem_of_mem_drop hv))
 have HF:Ll (∀ (W W0 W1:LC),(∀ k,W0.heap[k]?=(w.drew.alloc (.cells R.toArray 47)).heap[k]?)->(∀ k,W1.heap[k]?=(W0.setRow w.heap.size A1.toArray).heap[k]?)->W=W1.setRow w.heap.size (A1.take ((i+1) * 2)++cells.drop (i * 2)++A1.drop ((i+1) * 2+(cells.drop (i * 2)).length)).toArray->w.os=W.os->w.tape=W.tape->w.output=W.output->w.heap.size<=W.heap.size->W.ownsRow B 47 2 (.slice (some ⟨w.heap.size,0,none⟩) (n+1) G) (n+1) (cells.take (i * 2)++[Value.string ⟨name.toArray⟩,Value.slice pa pn pc]++cells.drop (i * 2))/\w.grownBy W none):=aa (by
  intro W W0 W1 hW0 hW1 hW g1 g2 g3 g4;have e1:=(hW1 w.heap.size).trans (setRow_heap W0 w.heap.size R.toArray A1.toArray _ _ ((hW0 _).trans hnW));have e0:=setRow_heap W1 w.heap.size A1.toArray (A1.take ((i+1) * 2)++cells.drop (i * 2)++A1.drop ((i+1) * 2+(cells.drop (i * 2)).length)).toArray _ _ e1;rw[<-hW]at e0;refine⟨⟨?_,.inr ⟨w.heap.size,G,_,rfl,hB,e0,hGn,hGm,by simpa using l2,by simpa using l3⟩⟩,⟨g1.symm,g2.symm,g3.symm,g4,fun k hk _=>?_⟩⟩
  ·simp only[Mx,MC,MB,hl,My,List.length_nil];omega
  ·have:k≠w.heap.size:=by omega
   rw[hW,setRow_other W1 _ k _ this,hW1,setRow_other W0 _ k _ this,hW0,hgW k hk])
 unfold maxLen at hGm;have HA:=aa hcpA;have HB2:=aa hcpB;have q0:((i:Int) == (n:Int))=false:=by rw[MO];omega
 have q1:(0:Int)<=(i:Int):=by omega
 have q2:(i:Int)<=(n:Int):=by omega
 have q3:(c:Int) < (n:Int)+1:=by omega
 have q8:(i:Int)<=(c:Int):=by omega
 have hw1:IntKind.i64.wrap ((i:Int)+1)=(i:Int)+1:=by rw[IntKind.wrap_i64];omega
 have hw2:IntKind.i64.wrap ((n:Int)+1 - (i:Int))=(n:Int)+1 - (i:Int):=by rw[IntKind.wrap_i64];omega
 have htn:((i:Int)+1).toNat=i+1:=by omega
 have q6:(i:Int)+1<=(n:Int)+1:=by omega
 have q7:(0:Int)<=(i:Int)+1:=by omega
 have q9:(i:Int)<=(n:Int)+1:=by omega
 have hGi:¬(G=i):=by omega
 have hGim:¬(G=i+1):=by omega
 have hci:¬(c=i):=by omega
 have hcl:(c:Int)<=9223372036854775807:=by omega
 have hrz2:=aa hrz;clear hcpA hcpB hA1 hR hRR hZ hZl l0 l1 l2 l3 e2 hgW hnW hx hl h1 hg hv hold hik hkk hz0 hz1 hz2 hi0 LV hrz hG;go_enter func134,ntmps134;go_wp2_with (at_builtin;refine Lib.wpList_append_run _ rfl _ _ _ _ rfl (.slice (some ⟨g,0,none⟩) i c) (.int .i64 ((n:Int)+1 - (i:Int))) rfl rfl _ _ hrz2.o ?_)
 have hA:=HA.o ((w.alloc (.cells R.toArray 47)).drew) (fun _=>rfl) 3 (G - i);go_wp2_with (simp only[hA])
 have hB9:=HB2.o (((w.alloc (.cells R.toArray 47)).drew.setRow w.heap.size A1.toArray).drew) _ (fun _=>rfl) (fun _=>rfl) 3 (G - (i+1)) (c - i);go_region
 go_wp2
 go_ret;exact⟨G,rfl,HF.o _ ((w.alloc (.cells R.toArray 47)).drew) (((w.alloc (.cells R.toArray 47)).drew.setRow w.heap.size A1.toArray).drew) (fun _=>rfl) (fun _=>rfl) (by simp) rfl rfl rfl (by simp[World.setRow])⟩
theorem yz(w:LC)(B n vb:Nat)(r cells)(name:Lz)(pa)(pn pc:Nat)(h:w.ownsRow B 47 2 r n cells)(hv:w.heap[vb]?=some (.cells #[.string ⟨name.toArray⟩,.slice pa pn pc] 47))(hn:n<=4000000)(hB:B<=w.heap.size):Calls prog 134 #[r,.int .i64 n,.slice (some ⟨vb,0,none⟩) 1 1] w fun e w'=>∃ g cap,e=.returned (.slice (some ⟨g,0,none⟩) (n+1) cap)/\w'.ownsRow B 47 2 (.slice (some ⟨g,0,none⟩) (n+1) cap) (n+1) (cells++[.string ⟨name.toArray⟩,.slice pa pn pc])/\w.grownBy w' r.ownBlock/\(r.ownBlock=some g\/w.heap.size=g):=by
 obtain⟨g,cap,W',hR,ho,hg,hgg⟩:=mW h hv hn hB 40;have HR:=aa hR;have HO:=aa ho;have HG:=aa hg;have HH:=aa hgg;have q1:((n:Int) == (n:Int))=true:=by simp
 rcases h.2 with⟨rfl,h0⟩ | ⟨g0,c0,cur,rfl,h1,h2,h3,h4,h5,h6⟩
 ·subst h0;clear hR ho hg h hgg;go_enter func134,ntmps134;go_wp2_with (at_builtin;go_must (refine Lib.wpList_append_run _ rfl _ _ _ _ rfl (.slice none 0 0) (.slice (some ⟨vb,0,none⟩) 1 1) rfl rfl _ _ HR.o ?_);refine Ll.o ?_)
  refine aa ?_;go_wp2
  go_ret;exact⟨g,cap,rfl,HO.o,HG.o,HH.o⟩
 ·unfold maxLen at h4;have x1:(n:Int)<=(c0:Int):=by omega
  have x2:(0:Int)<=(n:Int):=by omega
  have x3:(n:Int)<=9223372036854775807:=by omega
  clear hR ho hg h h1 h2 h5 h6 hgg;go_enter func134,ntmps134;go_wp2_with (at_builtin;go_must (refine Lib.wpList_append_run _ rfl _ _ _ _ rfl (.slice (some ⟨g0,0,none⟩) n c0) (.slice (some ⟨vb,0,none⟩) 1 1) rfl rfl _ _ HR.o ?_);refine Ll.o ?_)
  all_goals
   refine aa ?_;go_wp2
   go_ret;exact⟨g,cap,rfl,HO.o,HG.o,HH.o⟩
theorem BJ(w:World)(B n i vb:Nat)(r cells)(name:List UInt8)(pa)(pn pc:Nat)(h:w.ownsRow B 47 2 r n cells)(hv:w.heap[vb]?=some (.cells #[.string ⟨name.toArray⟩,.slice pa pn pc] 47))(hi:i<=n)(hn:n<=4000000)(hB:B<=w.heap.size)(hvb:∀ g,r.ownBlock=some g->vb≠g)(h1:∀ u∈cells,u.oneCell'=true):Calls prog 134 #[r,.int .i64 i,.slice (some ⟨vb,0,none⟩) 1 1] w fun e w'=>∃ g cap,e=.returned (.slice (some ⟨g,0,none⟩) (n+1) cap)/\w'.ownsRow B 47 2 (.slice (some ⟨g,0,none⟩) (n+1) cap) (n+1) (cells.take (i * 2)++[Value.string ⟨name.toArray⟩,Value.slice pa pn pc]++cells.drop (i * 2))/\w.grownBy w' r.ownBlock:=by
 by_cases he:i=n
 ·subst he;refine(yz w B i vb r cells name pa pn pc h hv hn hB).mono ?_;rintro e w' ⟨g,cap,rfl,h2,h3,-⟩;refine⟨g,cap,rfl,?_,h3⟩;rw[MD (by rw[h.1];omega),List.drop_eq_nil_of_le (by rw[h.1];omega),List.append_nil];exact h2
 ·rcases h.2 with⟨rfl,h0⟩ | ⟨g,c,cur,rfl,g1,g2,g3,g4,g5,g6⟩
  ·omega
  ·by_cases hroom:n+1<=c
   ·refine(wy w B g n c i vb cur cells name pa pn pc (by omega) hroom g4 g1 g2 g5 g6 h.1 hv (hvb g rfl) h1).mono ?_;rintro e w' ⟨rfl,h2,h3⟩;exact⟨g,c,rfl,h2,h3⟩
   ·refine(uy w B g n c i vb cur cells name pa pn pc (by omega) g3 (by omega) hn hB g2 g6 h.1 hv h1).mono ?_;rintro e w' ⟨G,rfl,h2,h3⟩;exact⟨_,G,rfl,h2,h3.os,h3.tape,h3.output,h3.size,fun k hk _=>h3.block k hk (by simp)⟩
theorem Ds{os:List aL}{pvs:List Value}{i:Nat}{o:aL}{v}{P:aL->Value->Prop}(hl:os.length=pvs.length)(hi:i<=os.length)(hP:∀ (j:Nat) (x:aL) (u:Value),os[j]?=some x->pvs[j]?=some u->P x u)(ho:P o v):∀ (j:Nat) (x:aL) (u:Value),(os.take i++o :: os.drop i)[j]?=some x->(pvs.take i++v :: pvs.drop i)[j]?=some u->P x u:=by
 intro j x u hx hu;have e1:(os.take i).length=i:=by rw[MC];omega
 have e2:(pvs.take i).length=i:=by rw[MC];omega
 by_cases h1:j < i
 ·rw[List.getElem?_append_left (by omega),List.getElem?_take_of_lt h1]at hx hu;exact hP j x u hx hu
 ·rw[List.getElem?_append_right (by omega)]at hx hu;rw[e1]at hx;rw[e2]at hu;rcases hd:j - i with _ | d
  ·rw[hd]at hx hu;simp only[List.getElem?_cons_zero,Option.some.injEq]at hx hu;subst hx;subst hu;exact ho
  ·rw[hd]at hx hu;simp only[List.getElem?_cons_succ,List.getElem?_drop]at hx hu;exact hP _ x u hx hu
theorem zB{w w':World}{B i g cap:Nat}{os:List aL}{pvs:List Value}{r:Value}{o:aL}{pa:Option Addr}{pc:Nat}{okp:Nat->Prop}(h1:os.length=pvs.length)(h3:∀ (i:Nat) (o:aL) (v:Value),os[i]?=some o->pvs[i]?=some v->(∃ a c,v=.slice a o.paths.length c)/\ao w (fun k=>B<=k/\some k≠r.ownBlock) o.paths v)(hi:i<=os.length)(hn:∀ o∈os,o.name.length<=maxLen)(hno:o.name.length<=maxLen)(ho:ao w okp o.paths (.slice pa o.paths.length pc))(hoff:∀ k,okp k->some k≠r.ownBlock)(hrow:w'.ownsRow B 47 2 (.slice (some ⟨g,0,none⟩) (os.length+1) cap) (os.length+1) ((ba os pvs).take (i * 2)++[Value.string ⟨o.name.toArray⟩,Value.slice pa o.paths.length pc]++(ba os pvs).drop (i * 2)))(hg:w.grownBy w' r.ownBlock):aB w' (fun k=>B<=k\/okp k) (os.take i++o :: os.drop i) (.slice (some ⟨g,0,none⟩) (os.take i++o :: os.drop i).length cap):=by
 have LT:(os.take i++o :: os.drop i).length=os.length+1:=by simp only[Mx,My,MC,MB];omega
 have hlenv:(pvs.take i++.slice pa o.paths.length pc :: pvs.drop i).length=os.length+1:=by simp only[Mx,My,MC,MB];omega
 have hp:=Ds (P:=fun x u=>x.name.length<=maxLen/\(∃ a c,u=.slice a x.paths.length c)/\ao w' (fun k=>B<=k\/okp k) x.paths u) (o:=o) (v:=.slice pa o.paths.length pc) h1 hi
  (fun j x u hx hu=>⟨hn x (List.mem_of_getElem? hx),(h3 j x u hx hu).1,(h3 j x u hx hu).2.imp fun a y q1 q2=>⟨.inl q1.1,hg.cell q2 q1.2⟩⟩)
  ⟨hno,⟨_,_,rfl⟩,ho.imp fun a y q1 q2=>⟨.inr q1,hg.cell q2 (hoff _ q1)⟩⟩
 rw[<-xG h1]at hrow;obtain⟨g1,g3,g4⟩:B<=g/\os.length+1<=cap/\cap<=maxLen:=by
  rcases hrow.2 with⟨h0,-⟩ | ⟨g',cap',cur,e,q1,q2,q3,q4,q5,q6⟩
  ·cases h0
  ·cases e;exact⟨q1,q3,q4⟩
 refine⟨by rw[LT];omega,.inr ⟨g,0,cap,rfl,by rw[LT];exact g3,g4,fun j x hx=>?_⟩⟩;obtain⟨hj,-⟩:=Mz.1 hx;obtain⟨u,hu⟩:∃ u,(pvs.take i++.slice pa o.paths.length pc :: pvs.drop i)[j]?=some u:=⟨_,Mw (by omega)⟩
 obtain⟨p1,⟨a,c,rfl⟩,p3⟩:=hp j x u hx hu;obtain⟨e1,e2⟩:=kN _ _ j _ _ hx hu;refine⟨a,_,c,p1,.inl g1,?_,?_,p3⟩
 ·rw[Nat.zero_add];exact(dJ hrow (by omega) e1).1
 ·rw[Nat.zero_add];exact(dJ hrow (by omega) e2).1
theorem Dy(os p):bB os p<=os.length:=by
 unfold bB;exact List.countP_le_length
theorem JW{w:World}{B:Nat}{os:List aL}{pvs:List Value}{ok}(h1:os.length=pvs.length)(h3:∀ (i:Nat) (o:aL) (v:Value),os[i]?=some o->pvs[i]?=some v->(∃ a c,v=.slice a o.paths.length c)/\ao w ok o.paths v):∀ v∈pvs,v.oneCell'=true:=by
 intro v hv;obtain⟨i,hi,rfl⟩:=List.getElem_of_mem hv;obtain⟨⟨a,c,e⟩,-⟩:=h3 i _ _ (Mw (by omega)) (Mw hi);rw[e];rfl
theorem ue(w:World)(B os r o pa pc okp)(h:fA w B os r)(hn:∀ o∈os,o.name.length<=maxLen)(hr:bD (os.map aL.name))(LT:os.length<=4000000)(hB:B<=w.heap.size)(hno:o.name.length<=maxLen)(ho:ao w okp o.paths (.slice pa o.paths.length pc))(hoff:∀ k,okp k->some k≠r.ownBlock):Calls prog 101 #[r,.agg #[.string ⟨o.name.toArray⟩,.slice pa o.paths.length pc]] w fun e w'=>∃ a c,e=.returned (.slice a (bP os o).length c)/\aB w' (fun k=>B<=k\/okp k) (bP os o) (.slice a (bP os o).length c)/\w.grownBy w' r.ownBlock:=by
 have OW:=aa (h.owns hn);obtain⟨ra,rc,hform⟩:=(h.owns hn).form;by_cases hp0:o.paths=[]
 ·have E:Ll (bP os o=os):=aa (by unfold bP;rw[if_pos hp0]);have z0:o.paths.length=0:=by rw[hp0];rfl
  rw[z0];subst hform;have GB:Ll (∀ o,w.grownBy (w.alloc o) (Value.slice ra os.length rc).ownBlock):=aa (fun o=>aq (ae w o));clear hp0 z0 ho h hn hr;go_enter func101,ntmps101;go_wp2
  go_ret;exact⟨ra,rc,by rw[E.o];rfl,by rw[E.o];exact(OW.o.bel (ae w _)).weak fun k hk=>.inl hk,GB.o _⟩
 ·have E:Ll (bP os o=os.take (bB os o.name)++o :: os.drop (bB os o.name)):=aa (by unfold bP;rw[if_neg hp0]);have z0:((o.paths.length:Int) == 0)=false:=by
   rw[MO];have:o.paths.length≠0:=fun e=>hp0 (List.length_eq_zero_iff.1 e);omega
  obtain⟨pvs,h1,h2,h3⟩:=h;have FI:Ll (∀ W,La w W->Calls prog 133 #[r,.string ⟨o.name.toArray⟩] W fun e w'=>e=.returned (.tuple #[.int .i64 (bB os o.name:Nat),.bool ((os.map aL.name).contains o.name)])/\La W w'):=aa (fun W hW=>qo W _ os r o.name (OW.o.bel hW) hr (by omega));obtain⟨i,hie⟩:∃ i,bB os o.name=i:=⟨_,rfl⟩
  have hi:i<=os.length:=hie ▸ Dy os o.name;have IN:Ll (∀ W vb,La w W->w.heap.size<=vb->W.heap[vb]?=some (.cells #[.string ⟨o.name.toArray⟩,.slice pa o.paths.length pc] 47)->Calls prog 134 #[r,.int .i64 i,.slice (some ⟨vb,0,none⟩) 1 1] W fun e w'=>∃ g cap,e=.returned (.slice (some ⟨g,0,none⟩) (os.length+1) cap)/\aB w' (fun k=>B<=k\/okp k) (os.take i++o :: os.drop i) (.slice (some ⟨g,0,none⟩) (os.take i++o :: os.drop i).length cap)/\w.grownBy w' r.ownBlock):=aa (fun W vb hW hvb hv=>by
   refine(BJ W B os.length i vb r (ba os pvs) o.name pa o.paths.length pc (bM h2 fun g hg=>hW.block g (bY h2 hg).2) hv hi LT (by have:=hW.size;omega) (fun g hg=>by have:=(bY h2 hg).2;omega) (oZ os pvs (JW (B:=B) h1 h3))).mono ?_;rintro e w' ⟨g,cap,rfl,q1,q2⟩;have q3:=am (aq hW) q2;exact⟨g,cap,rfl,zB h1 h3 hi hn hno ho hoff q1 q3,q3⟩)
  obtain⟨bb,LW⟩:∃ bb,(os.map aL.name).contains o.name=bb:=⟨_,rfl⟩
  rw[LW]at FI;rw[hie]at E FI;clear hie LW hp0 h1 h2 h3 hn hr ho OW;subst hform;have B0:Ll (∀ o,La w (w.alloc o)):=aa (fun o=>ae w o);have A1:Ll (∀ w1,La (w.alloc (.cells #[.string ⟨o.name.toArray⟩,.slice pa o.paths.length pc] 47)) w1->w1.cell? ⟨w.heap.size,0,none⟩=some (.string ⟨o.name.toArray⟩)/\w1.cell? ⟨w.heap.size,1,none⟩=some (.slice pa o.paths.length pc)/\w.heap.size<=w1.heap.size/\∀ o,La w (w1.alloc o)):=aa (fun w1 hb=>by
   refine⟨ah hb (by rw[World.cell?_alloc_at _ _ _ _ rfl];rfl),ah hb (by rw[World.cell?_alloc_at _ _ _ _ rfl];rfl),?_,fun o=>?_⟩
   ·have:=hb.size;simp at this;omega
   ·have b1:=(ae w _).trans (hb.mono (by simp));exact b1.trans ((ae w1 o).mono b1.size))
  have NB:Ll (∀ (w1:World) o,(w1.alloc o).heap[w1.heap.size]?=some o):=aa (fun w1 o=>MN w1 o);go_enter func101,ntmps101;go_wp2_with (first
   |(go_at_call 133;go_must (refine(FI.o _ (B0.o _)).mono ?_);rintro e w1 ⟨rfl,hb⟩;obtain⟨c0,c1,s1,b1⟩:=A1.o _ hb;have S1:=aa s1;have B1:=aa b1;clear hb s1 b1)
   |(go_at_call 134;go_must (refine(IN.o _ _ (B1.o _) S1.o (NB.o _ _)).mono ?_);rintro e w3 ⟨g,cap,rfl,p1,p2⟩;have P1:=aa p1;have P2:=aa p2;clear p1 p2))
  go_ret;refine⟨some ⟨g,0,none⟩,cap,?_,?_,P2.o⟩
  ·rw[E.o];have:(os.take i++o :: os.drop i).length=os.length+1:=by simp only[Mx,My,MC,MB];omega
   rw[this];rfl
  ·rw[E.o];exact P1.o
variable {wr:World}
section
def jG (w:LC) (ok:Nat->Prop) (LQ:V) (L:List Lz) (la a5 b5:Option Addr) (lc c5 d5:Nat) (y:V) (a2 b2:Option Addr) (c2 d2:Nat) (wr:LC):Prop:=wr.heap[w.heap.size]?=some (.cells #[.int .i64 LQ.kind,.int .i64 LQ.n,.string ⟨LQ.s.toArray⟩,.slice a5 LQ.keys.length c5,.slice b5 LQ.l.length d5,.slice la L.length lc] 138)/\KY wr (w.heap.size+1) y a2 c2 b2 d2/\Lc wr (w.heap.size+2)/\La w wr/\In wr (bg ok w.heap.size (w.heap.size+3)) y (.agg (KV y a2 c2 b2 d2))
theorem jG.bel{wr':LC}{LQ L la a5 b5 lc c5 d5 a2 b2 c2 d2}(h:jG w ok LQ L la a5 b5 lc c5 d5 y a2 b2 c2 d2 wr)(hb:La wr wr'):jG w ok LQ L la a5 b5 lc c5 d5 y a2 b2 c2 d2 wr':=
 ⟨bR hb h.1,af hb h.2.1,af hb h.2.2.1,ab h.2.2.2.1 hb,h.2.2.2.2.bel hb⟩
theorem jG.put{LQ L la a5 b5 lc c5 d5 z a2 b2 a4 b4 c2 d2 c4 d4}(h:jG w ok LQ L la a5 b5 lc c5 d5 y a2 b2 c2 d2 wr)(hz:In wr (bg ok w.heap.size (w.heap.size+3)) z (.agg (KV z a4 c4 b4 d4))):jG w ok LQ L la a5 b5 lc c5 d5 z a4 b4 c4 d4 (LG wr (w.heap.size+1) z a4 c4 b4 d4):=by
 have gb:=aI wr (w.heap.size+1) (.int .i64 z.kind) (.int .i64 z.n) (.string ⟨z.s.toArray⟩) (.slice a4 z.keys.length c4) (.slice b4 z.l.length d4);exact⟨(gb.block _ (MF.1 h.1).1 (by simp)).trans h.1,h.2.1.set _ _ _ _ _,h.2.2.1.grown gb (by simp),aP h.2.2.2.1 (by omega) _ _ _ _ _,hz.box (by omega) (by omega) _ _ _ _ _⟩
theorem jG.size{LQ L la a5 b5 lc c5 d5 a2 b2 c2 d2}(h:jG w ok LQ L la a5 b5 lc c5 d5 y a2 b2 c2 d2 wr):w.heap.size+3<=wr.heap.size:=h.2.2.1.lt
theorem Ka{C z}(h:In W (bQ (bg ok B (B+3)) C) z v)(hC:B+3<=C):In W (bg ok B (B+3)) z v:=h.weak fun k hk=>by
 rcases hk with hk | hk
 ·exact hk
 ·exact Or.inr (MH hC hk)
theorem Ft{C z}(h:In W (fun k=>ok k/\k < B) z v):In W (bg ok B C) z v:=h.weak fun k hk=>.inl hk
attribute [local go_sem ↓] Go.wp_at_zero Go.wp_at_succ
theorem uz(w:LC)(ok LQ t L wv v)(h:dB w ok LQ L wv)(ht:In w ok t v)(hM:bj w)(hob:fL t)(hwo:fL LQ)(hL:∀ p∈L,p.length<=140737488351232/\aw p≠[]/\(aw p).length+fa ((dr (aw p) LQ).getD aM)<=300)(hn:L.length<=200)(hc:fa t<=20000):Calls prog 98 #[wv,v] w fun e w'=>∃ r,e=.returned r/\In w' (bQ ok w.heap.size) (ed LQ L t) r/\La w w':=by
 obtain⟨a5,b5,la,c5,d5,lc,rfl,h1,h2⟩:=h;obtain⟨a1,b1,c1,d1,rfl⟩:=ht.form;have HT:=aa ht.low;have HW:=aa h1.low;have HLS:=aa h2;have GM:Ll (∀ W,La w W->bj W):=fun W hW=>hM.bel hW;have HWO:=aa hwo;have HL:=aa hL;have HN:=aa hn;have ll:=h2.1;unfold maxLen at ll;have I0:Ll (∃ (y:V) (a2 b2:Option Addr) (c2 d2:Nat),Ll (ed LQ L t=ed LQ (L.drop 0) y/\fL y/\fa y<=20000+0 * 300)/\Ll (jG w ok LQ L la a5 b5 lc c5 d5 y a2 b2 c2 d2 (((w.alloc (.cells #[.int .i64 LQ.kind,.int .i64 LQ.n,.string ⟨LQ.s.toArray⟩,.slice a5 LQ.keys.length c5,.slice b5 LQ.l.length d5,.slice la L.length lc] 138)).alloc (.cells (KV t a1 c1 b1 d1) 39)).alloc (.cells Lb 39)))):=aa ⟨t,a1,b1,c1,d1,aa ⟨rfl,hob,by omega⟩,aa ⟨lI _ _ _ _,mE _ _ _ _,jI _ _ _ _,ab (ab (ae _ _) (ae _ _)) (ae _ _),(Ft HT.o).bel (ab (ab (ae _ _) (ae _ _)) (ae _ _))⟩⟩;clear h1 h2 ht hM hob hwo hL hn hc;obtain⟨WV,hWV⟩:∃ W,W=((w.alloc (.cells #[.int .i64 LQ.kind,.int .i64 LQ.n,.string ⟨LQ.s.toArray⟩,.slice a5 LQ.keys.length c5,.slice b5 LQ.l.length d5,.slice la L.length lc] 138)).alloc (.cells (KV t a1 c1 b1 d1) 39)).alloc (.cells Lb 39):=⟨_,rfl⟩
 rw[<-hWV]at I0;have q5:WV.cell? ⟨w.heap.size,5,none⟩=some (.slice la L.length lc):=by
  obtain⟨_,_,_,_,_,-,h9⟩:=I0.o;exact(lr h9.o.1).2.2.2.2.2
 have HWV:=aa hWV;clear hWV;go_enter func98,ntmps98;go_upto_region 1 with fail
 rw[<-HWV.o];go_upto_region 2 with fail
 clear q5;go_loopg [12] L.length (fun gk i wr=>∃ k:Nat,k<=L.length/\gk=L.length - k/\i=.int .i64 k/\∃ (y:V) (a2 b2:Option Addr) (c2 d2:Nat),Ll (ed LQ L t=ed LQ (L.drop k) y/\fL y/\fa y<=20000+k * 300)/\Ll (jG w ok LQ L la a5 b5 lc c5 d5 y a2 b2 c2 d2 wr))
 case atStart=>exact⟨0,Nat.zero_le _,rfl,rfl,I0.o⟩
 case round=>
  obtain⟨k,hk,hgk,rfl,y,a2,b2,c2,d2,IY,KR⟩:=hrel;have GK:=aa hgk;clear hgk;by_cases hlt:k < L.length
  ·obtain⟨b,off,rfl,j1,j2,hcl⟩:=gQ HLS.o hlt;unfold maxLen at j2;have LV:=ah KR.o.2.2.2.1 hcl;have w2:(k:Int) < (L.length:Int):=by omega
   have w3:(0:Int)<=(k:Int):=by omega
   obtain⟨hp1,hp2,hp3⟩:=HL.o L[k] (List.getElem_mem hlt);have FS:Ll (ed LQ (L.drop k) y=ed LQ (L.drop (k+1)) (cK (aw L[k]) y ((dr (aw L[k]) LQ).getD aM))):=aa (by rw[ME hlt];rfl);obtain⟨p,hp⟩:∃ p,L[k]=p:=⟨_,rfl⟩
   rw[hp]at LV hp1 hp2 hp3 FS;clear hp hcl;obtain⟨x,hx⟩:∃ x,(dr (aw p) LQ).getD aM=x:=⟨_,rfl⟩
   obtain⟨th,hth⟩:∃ x,(dr (aw p) LQ).isSome=x:=⟨_,rfl⟩
   rw[hx]at hp3 FS;obtain⟨z,hz⟩:∃ z,cK (aw p) y x=z:=⟨_,rfl⟩
   have HZ:=aa hz;have HPL:=aa hp1;have NNE:=aa hp2;have OX:Ll (fL x):=aa (by rw[<-hx];exact jW HWO.o _);have OY:=aa IY.o.2.1;have CY:Ll (fa y<=90000):=aa (by have:=IY.o.2.2;have:=HN.o;omega);have OZ:Ll (fL z):=aa (by rw[<-hz];exact iY _ _ _ OY.o OX.o);have CZ:Ll (fa z<=20000+(k+1) * 300):=aa (by
    have h1:=uY (aw p) y x;have h2:=IY.o.2.2;rw[hz]at h1;omega)
   have HD:=aa IY.o.1;have ST:=aa (gD wr (Lj ok w) LQ (.agg (KV LQ a5 c5 b5 d5)) p (by exact HW.o.bel KR.o.2.2.2.1) hp1 (GM.o _ KR.o.2.2.2.1));rw[hx,hth]at ST;clear hx hth hz hp1 hp2 hp3;obtain⟨q0,q1,q2,q3,q4,q5⟩:=lr KR.o.1;go_upto_region 5 with (go_at_call 106;refine ST.o.mono ?_;rintro e w4 ⟨r,rfl,hb4,hr4⟩;obtain⟨a3,b3,c3,d3,rfl⟩:=hr4.form;have B4:=aa hb4;have X4:=aa hr4;clear hb4 hr4)
   clear q0 q1 q2 q3 q4 q5;obtain⟨WX,hWX⟩:∃ W,W=w4.alloc (.cells (KV x a3 c3 b3 d3) 39):=⟨_,rfl⟩
   have XB:Ll (KY WX w4.heap.size x a3 c3 b3 d3):=aa (by rw[hWX];exact MN _ _);have BX:Ll (La wr WX):=aa (by rw[hWX];exact ab B4.o (ae _ _));have XI:Ll (In WX (Lj ok w) x (.agg (KV x a3 c3 b3 d3))):=aa (by rw[hWX];exact X4.o.bel (ae _ _));have KX:=aa (KR.o.bel BX.o);rw[<-hWX];clear hWX LV;refine aD (fun wS=>La WX wS) [5] (by kernel_rfl) (aC _ 1) (fun LI=>?_);refine WT.out ?_;iterate 3
    first
     | refine OJ 0 ?_ [4,5] LI ?_ ?_
     | refine OJ 1 ?_ [2,4,5] LI ?_ ?_
     | refine OJ 3 ?_ [4,5] LI ?_ ?_
    rotate_left
    ·intro wS LN;have u0_:=(KX.o.bel LN).2.1.c;have f0_:=(af LN XB.o).c;go_simp;all_goals with_reducible rfl
    simp only[av,List.set]
   repeat' (first
    | exact nl
    |(refine ON 2 (fun K hK=>?_) ?_
      go_simp;refine(lH _ p HPL.o (GM.o _ (ab KX.o.2.2.2.1 LI))).mono ?_;rintro e w2q ⟨na,nc,rfl,hns,hb5⟩;refine hK.out _ _ (ab LI hb5) (fun LJ=>?_);have NS:=aa hns;clear hb5 hns;clear hK K;replace LI:=LJ;clear LJ;try simp only[Act.put,Mt,Mu,Mv])
    |(refine ON 4 (fun K hK=>?_) ?_
      go_simp;refine(DX (aw p) _ (bg ok w.heap.size (w.heap.size+3)) _ y x _ _ _ (by exact KX.o.2.2.2.2.bel LI) (by exact Ft (XI.o.bel LI)) (by exact NS.o) NNE.o OY.o CY.o).mono ?_;rintro e w4q ⟨rv,rfl,hr5,hb5⟩;rw[HZ.o]at hr5;obtain⟨a4,b4,c4,d4,rfl⟩:=hr5.form;refine hK.out _ _ (ab LI hb5) (fun LJ=>?_);have ZI:=aa (Ka hr5 (MH KX.o.size LI.size));clear hb5 hr5;clear hK K;replace LI:=LJ;clear LJ;try simp only[Act.put,Mt,Mu,Mv])
    |(refine OO 5 (fun K hK=>?_)
      have K8:=aa (KX.o.bel LI);have n0_:=K8.o.2.1.c;have K9:=aa (K8.o.put ZI.o);go_simp;refine hK.out _ _ ?_;clear hK K;try simp only[Act.put,Mt,Mu,Mv])
    | refine OL [2] ?_
    | refine OL [4] ?_
    | fail)
   all_goals
    refine dn (by kernel_rfl) ?_;go_wp2
    go_roundg (L.length - (k+1))
    case measure=>rw[GK.o];omega
    case rel=>exact⟨k+1,hlt,rfl,by go_num,z,_,_,_,_,aa ⟨by rw[HD.o,FS.o,HZ.o],OZ.o,CZ.o⟩,K9⟩
  ·have d9:¬(k:Int) < (L.length:Int):=by omega
   have RES:Ll (ed LQ L t=y):=aa (by rw[IY.o.1,List.drop_eq_nil_of_le (by omega)];rfl);have v0_:=KR.o.2.1.c;have n0_:=KR.o.2.2.1.c;have ZB:=aa (LH KR.o.2.2.1.set y a2 c2 b2 d2);have Z:=aa (cY (w:=w) (ok:=ok) (C:=w.heap.size+3) (g:=w.heap.size+2) KR.o.2.2.2.2 KR.o.2.2.2.1 (by omega) (by omega));go_wp2
   have z0_:=ZB.o.c;refine MM (v:=.agg (KV y a2 c2 b2 d2)) ?_ rfl ?_
   ·simp only[ar]at z0_;simp[results,results98,go_sem,z0_]
   ·exact⟨_,rfl,by rw[RES.o];exact Z.o.2,Z.o.1⟩
end
section
attribute [local go_sem ↓] Go.wp_at_zero Go.wp_at_succ
theorem yY(w:LC)(ok okh oko LQ t L had LX wv v hv ov)(h:dB w ok LQ L wv)(ht:In w ok t v)(hh:ao w okh had hv)(ho:aB w oko LX ov)(hM:bj w)(hob:fL t)(hk5:t.kind=5)(hL:∀ p∈had,p.length<=140737488351232/\aw p≠[])(hr:bD L)(hn:L.length < 4611686018427387904)(hc:fa t<=20000):Calls prog 99 #[wv,v,hv,ov] w fun e w'=>∃ r,e=.returned r/\In w' (bQ ok w.heap.size) (dj L LX had t) r/\La w w'/\fL (dj L LX had t)/\fa (dj L LX had t)<=20000/\(dj L LX had t).kind=5:=by
 have HWI:=aa h;obtain⟨a5,b5,la,c5,d5,lc,rfl,h1,h2⟩:=h;obtain⟨a1,b1,c1,d1,rfl⟩:=ht.form;obtain⟨oa,oc,rfl⟩:=ho.form;obtain⟨ha,hcp,rfl⟩:=hh.form;have HT:=aa ht.low;have HHS:=aa hh;have HOS:=aa ho;have GM:Ll (∀ W,La w W->bj W):=fun W hW=>hM.bel hW;have HL:=aa hL;have HR:=aa hr;have HN:=aa hn;have ll:=h2.1;unfold maxLen at ll;have lh:=hh.1;unfold maxLen at lh;have I0:Ll (∃ (y:V) (a2 b2:Option Addr) (c2 d2:Nat),Ll (dj L LX had t=dj L LX (had.drop 0) y/\fL y/\fa y<=20000/\y.kind=5)/\Ll (jG w ok LQ L la a5 b5 lc c5 d5 y a2 b2 c2 d2 (((w.alloc (.cells #[.int .i64 LQ.kind,.int .i64 LQ.n,.string ⟨LQ.s.toArray⟩,.slice a5 LQ.keys.length c5,.slice b5 LQ.l.length d5,.slice la L.length lc] 138)).alloc (.cells (KV t a1 c1 b1 d1) 39)).alloc (.cells Lb 39)))):=aa ⟨t,a1,b1,c1,d1,aa ⟨rfl,hob,hc,hk5⟩,aa ⟨lI _ _ _ _,mE _ _ _ _,jI _ _ _ _,ab (ab (ae _ _) (ae _ _)) (ae _ _),(Ft HT.o).bel (ab (ab (ae _ _) (ae _ _)) (ae _ _))⟩⟩;clear h1 h2 ht hM hob hL hn hc hk5 hr hh ho;go_enter func99,ntmps99;go_upto_region 2 with fail
 go_loopg [15] had.length (fun gk i wr=>∃ k:Nat,k<=had.length/\gk=had.length - k/\i=.int .i64 k/\∃ (y:V) (a2 b2:Option Addr) (c2 d2:Nat),Ll (dj L LX had t=dj L LX (had.drop k) y/\fL y/\fa y<=20000/\y.kind=5)/\Ll (jG w ok LQ L la a5 b5 lc c5 d5 y a2 b2 c2 d2 wr))
 case atStart=>exact⟨0,Nat.zero_le _,rfl,rfl,I0.o⟩
 case round=>
  obtain⟨k,hk,hgk,rfl,y,a2,b2,c2,d2,IY,KR⟩:=hrel;have GK:=aa hgk;clear hgk;by_cases hlt:k < had.length
  ·obtain⟨b,off,rfl,j1,j2,hcl⟩:=gQ HHS.o hlt;unfold maxLen at j2;have LV:=ah KR.o.2.2.2.1 hcl;have w2:(k:Int) < (had.length:Int):=by omega
   have w3:(0:Int)<=(k:Int):=by omega
   obtain⟨hp1,hp2⟩:=HL.o had[k] (List.getElem_mem hlt);have FS:Ll (dj L LX (had.drop k) y=dj L LX (had.drop (k+1)) (if ((dr (aw had[k]) y).isSome&&!(L.contains had[k] || concF LX had[k]))=true then gI (aw had[k]) y else y)):=aa (by rw[ME hlt];rfl);obtain⟨p,hp⟩:∃ p,had[k]=p:=⟨_,rfl⟩
   rw[hp]at LV hp1 hp2 FS;clear hp hcl;have HPL:=aa hp1;have NNE:=aa hp2;have OY:=aa IY.o.2.1;have CY:Ll (fa y<=90000):=aa (by have:=IY.o.2.2.1;omega);have HD:=aa IY.o.1;have ST:=aa (gD wr (bg ok w.heap.size (w.heap.size+3)) y (.agg (KV y a2 c2 b2 d2)) p (by exact KR.o.2.2.2.2) hp1 (GM.o _ KR.o.2.2.2.1));obtain⟨x,hx⟩:∃ x,(dr (aw p) y).getD aM=x:=⟨_,rfl⟩
   obtain⟨th,hth⟩:∃ x,(dr (aw p) y).isSome=x:=⟨_,rfl⟩
   rw[hx,hth]at ST;rw[hth]at FS;have HTH:=aa hth;have HLF:Ll (∀ W,La w W->Calls prog 124 #[.agg #[.int .i64 LQ.kind,.int .i64 LQ.n,.string ⟨LQ.s.toArray⟩,.slice a5 LQ.keys.length c5,.slice b5 LQ.l.length d5,.slice la L.length lc],.string ⟨p.toArray⟩] W fun e w'=>e=.returned (.bool (L.contains p))/\La W w'):=fun W hW=>pN W ok LQ L _ p (HWI.o.bel hW) HR.o HN.o;have HCO:Ll (∀ W,La w W->Calls prog 131 #[.slice oa LX.length oc,.string ⟨p.toArray⟩] W fun e w'=>e=.returned (.bool (concF LX p))/\La W w'):=fun W hW=>tH W oko LX _ p (HOS.o.bel hW);generalize L.contains p=o1 at FS HLF;generalize concF LX p=o2 at FS HCO;clear hx hth hp1 hp2;have v0_:=KR.o.2.1.c;go_upto_region 5 with (go_at_call 106;refine ST.o.mono ?_;rintro e w4 ⟨r,rfl,hb4,hr4⟩;obtain⟨a3,b3,c3,d3,rfl⟩:=hr4.form;have B4:=aa hb4;clear hb4 hr4)
   obtain⟨WX,hWX⟩:∃ W,W=w4.alloc (.cells (KV x a3 c3 b3 d3) 39):=⟨_,rfl⟩
   have BX:Ll (La wr WX):=aa (by rw[hWX];exact ab B4.o (ae _ _));have KA:=aa (KR.o.bel BX.o);rw[<-hWX];clear hWX LV;obtain⟨q0,q1,q2,q3,q4,q5⟩:=lr KA.o.1;cases th with
   | false=>
    have COND:Ll (¬(false&&!(o1 || o2))=true):=aa (by simp);go_wp2
    go_roundg (had.length - (k+1))
    case measure=>rw[GK.o];omega
    case rel=>exact⟨k+1,hlt,rfl,by go_num,y,_,_,_,_,aa ⟨by rw[HD.o,FS.o,if_neg COND.o],OY.o,IY.o.2.2.1,IY.o.2.2.2⟩,KA⟩
   | true=>
    cases o1 with
    | true=>
     have COND:Ll (¬(true&&!(true || o2))=true):=aa (by simp);go_wp2_with (go_at_call 124;refine Lk (HLF.o _ KA.o.2.2.2.1) fun w5 hb5=>?_;have K5:=aa (KA.o.bel hb5);clear hb5)
     go_roundg (had.length - (k+1))
     case measure=>rw[GK.o];omega
     case rel=>exact⟨k+1,hlt,rfl,by go_num,y,_,_,_,_,aa ⟨by rw[HD.o,FS.o,if_neg COND.o],OY.o,IY.o.2.2.1,IY.o.2.2.2⟩,K5⟩
    | false=>
     cases o2 with
     | true=>
      have COND:Ll (¬(true&&!(false || true))=true):=aa (by simp);go_wp2_with (first
       |(go_at_call 124;refine Lk (HLF.o _ KA.o.2.2.2.1) fun w5 hb5=>?_;have K5:=aa (KA.o.bel hb5);clear hb5)
       |(go_at_call 131;refine Lk (HCO.o _ K5.o.2.2.2.1) fun w6 hb6=>?_;have K6:=aa (K5.o.bel hb6);clear hb6))
      go_roundg (had.length - (k+1))
      case measure=>rw[GK.o];omega
      case rel=>exact⟨k+1,hlt,rfl,by go_num,y,_,_,_,_,aa ⟨by rw[HD.o,FS.o,if_neg COND.o],OY.o,IY.o.2.2.1,IY.o.2.2.2⟩,K6⟩
     | false=>
      have COND:Ll ((true&&!(false || false))=true):=aa (by simp);have THY:Ll (∃ y9,dr (aw p) y=some y9):=Option.isSome_iff_exists.1 HTH.o;obtain⟨z,hz⟩:∃ z,gI (aw p) y=z:=⟨_,rfl⟩
      have HZ:=aa hz;have OUT:=tr (aw p) y OY.o IY.o.2.2.2 THY.o;have OZ:Ll (fL z):=aa (by rw[<-hz];exact OUT.1);have KZ:Ll (z.kind=5):=aa (by rw[<-hz,OUT.2,if_neg NNE.o]);have CZ:Ll (fa z<=20000):=aa (by rw[<-hz];exact MH (zP _ _ THY.o) IY.o.2.2.1);clear OUT hz;go_upto_region 6 with (first
       |(go_at_call 124;refine Lk (HLF.o _ KA.o.2.2.2.1) fun w5 hb5=>?_;have K5:=aa (KA.o.bel hb5);clear hb5)
       |(go_at_call 131;refine Lk (HCO.o _ K5.o.2.2.2.1) fun w6 hb6=>?_;have KX:=aa (K5.o.bel hb6);clear hb6))
      clear q0 q1 q2 q3 q4 q5;refine aD (fun wS=>La w6 wS) [4] (by kernel_rfl) (aC _ 1) (fun LI=>?_);refine WT.out ?_;iterate 2
       first
        | refine OJ 0 ?_ [3,4] LI ?_ ?_
        | refine OJ 1 ?_ [2,3,4] LI ?_ ?_
       rotate_left
       ·intro wS LN;have u0_:=(KX.o.bel LN).2.1.c;go_simp;all_goals with_reducible rfl
       simp only[av,List.set]
      repeat' (first
       | exact nl
       |(refine ON 2 (fun K hK=>?_) ?_
         go_simp;refine(lH _ p HPL.o (GM.o _ (ab KX.o.2.2.2.1 LI))).mono ?_;rintro e w2q ⟨na,nc,rfl,hns,hb5⟩;refine hK.out _ _ (ab LI hb5) (fun LJ=>?_);have NS:=aa hns;clear hb5 hns;clear hK K;replace LI:=LJ;clear LJ;try simp only[Act.put,Mt,Mu,Mv])
       |(refine ON 3 (fun K hK=>?_) ?_
         go_simp;refine(xw (aw p) _ (bg ok w.heap.size (w.heap.size+3)) _ y _ _ (by exact KX.o.2.2.2.2.bel LI) (by exact NS.o) NNE.o OY.o THY.o CY.o).mono ?_;rintro e w3q ⟨rv,rfl,hr5,hb5⟩;rw[HZ.o]at hr5;obtain⟨a4,b4,c4,d4,rfl⟩:=hr5.form;refine hK.out _ _ (ab LI hb5) (fun LJ=>?_);have ZI:=aa (Ka hr5 (MH KX.o.size LI.size));clear hb5 hr5;clear hK K;replace LI:=LJ;clear LJ;try simp only[Act.put,Mt,Mu,Mv])
       |(refine OO 4 (fun K hK=>?_)
         have K8:=aa (KX.o.bel LI);have n0_:=K8.o.2.1.c;have K9:=aa (K8.o.put ZI.o);go_simp;refine hK.out _ _ ?_;clear hK K;try simp only[Act.put,Mt,Mu,Mv])
       | refine OL [2] ?_
       | refine OL [3] ?_
       | fail)
      all_goals
       refine dn (by kernel_rfl) ?_;go_wp2
       go_roundg (had.length - (k+1))
       case measure=>rw[GK.o];omega
       case rel=>exact⟨k+1,hlt,rfl,by go_num,z,_,_,_,_,aa ⟨by rw[HD.o,FS.o,if_pos COND.o,HZ.o],OZ.o,CZ.o,KZ.o⟩,K9⟩
  ·have d9:¬(k:Int) < (had.length:Int):=by omega
   have RES:Ll (dj L LX had t=y):=aa (by rw[IY.o.1,List.drop_eq_nil_of_le (by omega)];rfl);have v0_:=KR.o.2.1.c;have n0_:=KR.o.2.2.1.c;have ZB:=aa (LH KR.o.2.2.1.set y a2 c2 b2 d2);have Z:=aa (cY (w:=w) (ok:=ok) (C:=w.heap.size+3) (g:=w.heap.size+2) KR.o.2.2.2.2 KR.o.2.2.2.1 (by omega) (by omega));go_wp2
   have z0_:=ZB.o.c;refine MM (v:=.agg (KV y a2 c2 b2 d2)) ?_ rfl ?_
   ·simp only[ar]at z0_;simp[results,results99,go_sem,z0_]
   ·exact⟨_,rfl,by rw[RES.o];exact Z.o.2,Z.o.1,by rw[RES.o];exact IY.o.2⟩
end
theorem DD(W:LC)(ok ok' who LQ t L g2 g9 g4 a1 a2 a3 b1 b2 c1 c2 c3 d1 d2 n p)(hc:ri W ok ok' who LQ t L g2 g9 g4 a1 a2 a3 b1 b2 c1 c2 c3 d1 d2)(hp:p.length<=140737488351232):Calls prog 96 #[.string ⟨n.toArray⟩,.string ⟨p.toArray⟩,.pointer (some ⟨g2,0,none⟩),.pointer (some ⟨g9,0,none⟩),.pointer (some ⟨g4,0,none⟩)] W fun e w'=>e=.returned (.bool (n != who&&!aV LQ t L p))/\La W w':=by
 have BK:=aa (hc.blocked p hp);have q9:=hc.who;obtain⟨x0,x1,x2,x3,x4,x5⟩:=lr hc.wish;have y0_:=hc.val.c;clear hc;generalize aV LQ t L p=o at BK ⊢;by_cases hn:n=who
 ·have R:Ll ((n != who&&!o)=false):=aa (by simp[hn]);subst hn;go_enter func96,ntmps96;go_wp2
  go_ret;exact⟨by rw[R.o];first | done | rfl | simp,MK _ _⟩
 ·have e9:(n == who)=false:=by simpa using hn
  have R:Ll ((n != who&&!o)=!o):=aa (by simp[hn]);go_enter func96,ntmps96;go_wp2_with (go_at_call 97;refine BK.o.mono ?_;rintro e w1 ⟨rfl,hb⟩;have B1:=aa hb;clear hb)
  go_ret;exact⟨by rw[R.o];first | done | rfl | simp,B1.o⟩
theorem qT:∀ args w,(callFunc 96 args).run prog w=.ok (.enter 96 args) w:=enters_of func96 (by kernel_rfl) rfl
abbrev Rd:=List UInt8->Option (V × List UInt8)
def KD (g:List UInt8) (f:Rd):Prop:=∀ l,f (l++g)=(f l).map fun p=>(p.1,p.2++g)
def Dr (f:Rd):Prop:=∀ l,f (l.dropWhile cw)=f l
theorem KD.drop{g:List UInt8}{f:Rd}(h:KD g f)(hd:Dr f)(l:List UInt8):f ((l++g).dropWhile cw)=(f (l.dropWhile cw)).map fun p=>(p.1,p.2++g):=by
 rw[hd,hd,h]
theorem AY{f g:V->List UInt8}{ks:List (List UInt8)}{l:List V}(h:∀ x∈l,f x=g x):dL f ks l=dL g ks l:=by
 unfold dL;induction ks generalizing l with
 | nil=>rfl
 | cons k ks ih=>
  cases l with
  | nil=>rfl
  | cons x l=>
   rw[List.zipWith_cons_cons,List.zipWith_cons_cons,h x (by simp),ih fun y hy=>h y (by simp[hy])]
theorem uI(d:Nat):∀ (d':Nat) (t:V),Jd d t->Jd d' t->aH d t=aH d' t:=by
 induction d with
 | zero=>intro d' t h;exact h.elim
 | succ d ih=>
  intro d' t h h';cases d' with
  | zero=>exact h'.elim
  | succ d'=>
   have e:∀ x∈t.l,aH d x=aH d' x:=fun x hx=>ih d' x (h x hx) (h' x hx);simp only[aH];rw[List.map_congr_left e,AY e]
theorem sW(hd:Jd d t):eP d t=eP 12 t:=by
 unfold eP;cases hg:aE t with
 | false=>rfl
 | true=>rw[uI d 12 t hd (fh hg).dep]
theorem H9(d):∀ {t:V} {v:Value},bu w ok d t v->Jd d t:=by
 induction d with
 | zero=>intro t v h;exact h
 | succ d ih=>
  intro t v h x hx;obtain⟨ks,ls,e,h1,h2,h3,h4,h5⟩:=h;obtain⟨y,hy⟩:=D2 h5 hx;exact ih hy
theorem EP(w:LC)(ok t v)(h:In w ok t v)(hG:cn w):Calls prog 37 #[v] w fun e w'=>e=.returned (.tuple #[.string ⟨(eP 12 t).1.toArray⟩,.int .i64 (eP 12 t).2])/\La w w':=by
 obtain⟨d,h⟩:=h;refine(EU w ok d t v h hG).mono ?_;rintro e w' ⟨l,ee,rfl,he,hb⟩;rw[sW (H9 d h)]at he;rw[he];exact⟨rfl,hb⟩
theorem Sg:(prog.info? 44).map (fun i=>(i.zero,i.size,i.bytes))=some (some (.agg Le),15,200):=by kernel_rfl
theorem Cn{cs nb one}(ho:W.ownsRow B 44 15 v n cs)(h15:one.length=15)(hone:∀ u∈one,u.oneCell'=true)(hnb:W.heap[nb]?=some (.cells one.toArray 44))(hn:n<=4000000)(hB:B<=W.heap.size)(ty:TypeId):∃ g cap W',(Builtin.append_ #[27,27] ty #[v,.slice (some ⟨nb,0,none⟩) 1 1]).run prog W=.ok (.slice (some ⟨g,0,none⟩) (n+1) cap) W'/\W'.ownsRow B 44 15 (.slice (some ⟨g,0,none⟩) (n+1) cap) (n+1) (cs++one)/\W.grownBy W' v.ownBlock/\(v.ownBlock=some g\/W.heap.size=g):=by
 obtain⟨i0,hi,hz0,hz1,hz2⟩:=info_parts Sg;obtain⟨g,cap,W',hr,h1,h2,h3,-⟩:=run_append_lies (P:=prog) W 27 ty B 44 i0 _ 15 200 underlying27 hi hz0 hz1 hz2 rfl (by decide) v n cs ho ⟨nb,0,none⟩ 1 1 one (by rw[h15])
  (by have:=World.news_of_block (cs:=one.toArray) hnb;simpa using this) hone (by decide) (by unfold maxLen;omega) (by omega) hB W.heap.size rfl
 exact⟨g,cap,W',hr,h1,h2,h3.imp id Eq.symm⟩
theorem kE(w)(ty:TypeId)(g o dLen dCap a sLen sCap)(cur:Array Value)(t:TypeId)(cs)(hg:w.heap[g]?=some (.cells cur t (0,0)))(hn:cs.length=Nat.min sLen dLen * 15)(hsrc:∀ j v,cs[j]?=some v->w.cell? (a.add j)=some v)(hfit:o+cs.length<=cur.size)(h1:∀ v∈cs,v.oneCell'=true):(Builtin.copy_ #[27,27] ty #[.slice (some ⟨g,o,none⟩) dLen dCap,.slice (some a) sLen sCap]).run prog w =
 .ok (goInt (Nat.min sLen dLen)) (w.setRow g (cur.toList.take o++cs++cur.toList.drop (o+cs.length)).toArray):=by
 have hl:=run_loadCells_list (P:=prog) w a cs hsrc;have hst:=run_storeCells_at prog g o t cs 0 cur w hg (by simpa using hfit) h1;obtain⟨i0,hi,hz0,hz1,hz2⟩:=info_parts Sg;simp[Builtin.copy_,run_underlying underlying27,Builtin.lenOf,Builtin.firstCells,sizeOf,typeInfo,hi,hz1,<-hn,hl,hst]
theorem ti(w vb b off lb cb)(tA tB:TypeId)(kA kB)(hne:vb≠b)(hsa:w.shape? vb=some (tA,kA))(hsb:w.shape? b=some (tB,kB))(hkB:kB≠0)(hfa:w.frozen? ⟨vb,0,none⟩=false)(hfe:w.frozen? ⟨vb,kA,none⟩=false):(callFunc 58 #[.slice (some ⟨vb,0,none⟩) 1 1,.slice (some ⟨b,off,none⟩) lb cb]).run prog w=.ok (.value (.bool false)) w:=by
 rw[run_callFunc_extern func58 (by kernel_rfl) (by kernel_rfl) (by kernel_rfl) (e:=Extern.SlicesOverlaps.overlaps #[27,27] #[4]) (by kernel_rfl),
  Lib.run_overlaps_apart w 27 4 44 underlying27 15 Tryz.sizeOf44 ⟨vb,0,none⟩ ⟨b,off,none⟩ 1 1 lb cb hne tA tB kA kB hsa hsb hkB hfa hfe]
 rfl
theorem wI(w:LC)(B n vb r cells one)(h15:one.length=15)(hone:∀ u∈one,u.oneCell'=true)(h:w.ownsRow B 44 15 r n cells)(hv:w.heap[vb]?=some (.cells one.toArray 44))(hn:n<=4000000)(hB:B<=w.heap.size):Calls prog 39 #[r,.int .i64 n,.slice (some ⟨vb,0,none⟩) 1 1] w fun e w'=>∃ g cap,e=.returned (.slice (some ⟨g,0,none⟩) (n+1) cap)/\w'.ownsRow B 44 15 (.slice (some ⟨g,0,none⟩) (n+1) cap) (n+1) (cells++one)/\w.grownBy w' r.ownBlock/\(r.ownBlock=some g\/w.heap.size=g):=by
 obtain⟨g,cap,W',hR,ho,hg,hgg⟩:=Cn h h15 hone hv hn hB 27;have HR:=aa hR;have HO:=aa ho;have HG:=aa hg;have HH:=aa hgg;have q1:((n:Int) == (n:Int))=true:=by simp
 rcases h.2 with⟨rfl,h0⟩ | ⟨g0,c0,cur,rfl,h1,h2,h3,h4,h5,h6⟩
 ·subst h0;clear hR ho hg h hgg;go_enter func39,ntmps39;go_wp2_with (at_builtin;go_must (refine Lib.wpList_append_run _ rfl _ _ _ _ rfl (.slice none 0 0) (.slice (some ⟨vb,0,none⟩) 1 1) rfl rfl _ _ HR.o ?_);refine Ll.o ?_)
  refine aa ?_;go_wp2
  go_ret;exact⟨g,cap,rfl,HO.o,HG.o,HH.o⟩
 ·unfold maxLen at h4;have x1:(n:Int)<=(c0:Int):=by omega
  have x2:(0:Int)<=(n:Int):=by omega
  have x3:(n:Int)<=9223372036854775807:=by omega
  clear hR ho hg h h1 h2 h5 h6 hgg;go_enter func39,ntmps39;go_wp2_with (at_builtin;go_must (refine Lib.wpList_append_run _ rfl _ _ _ _ rfl (.slice (some ⟨g0,0,none⟩) n c0) (.slice (some ⟨vb,0,none⟩) 1 1) rfl rfl _ _ HR.o ?_);refine Ll.o ?_)
  all_goals
   refine aa ?_;go_wp2
   go_ret;exact⟨g,cap,rfl,HO.o,HG.o,HH.o⟩
theorem vf(n i)(h:i < n):Nat.min 1 (n+1 - i)=1:=by simp only[Nat.min_def];split <;> omega
theorem yF{cur:List Value}{cells two:List Value}(hs:cur.length=c * 15)(hx:cur.take (n * 15)=cells)(hl:cells.length=n * 15)(h2:two.length=15)(hi:i < n)(hroom:n+1<=c):let a1:=cur.take ((i+1) * 15)++cells.drop (i * 15)++cur.drop ((i+1) * 15+(cells.drop (i * 15)).length)
 let a2:=a1.take (i * 15)++two++a1.drop (i * 15+two.length)
 a1.length=c * 15/\a2.length=c * 15/\a2.take ((n+1) * 15)=cells.take (i * 15)++two++cells.drop (i * 15):=by
 intro a1 a2;have e1:(cur.take ((i+1) * 15)).length=(i+1) * 15:=by rw[MC];omega
 have e2:(cells.drop (i * 15)).length=n * 15 - i * 15:=by rw[MB,hl]
 have l1:a1.length=c * 15:=by simp only[a1,Mx,MB,e1,hs,hl];omega
 have t1:a1.take (i * 15)=cells.take (i * 15):=by
  simp only[a1];rw[List.append_assoc,List.take_append_of_le_length (by rw[e1];omega),List.take_take,<-hx,List.take_take,Nat.min_eq_left (by omega),Nat.min_eq_left (by omega)]
 have t2:a1.drop (i * 15+two.length)=cells.drop (i * 15)++cur.drop ((i+1) * 15+(cells.drop (i * 15)).length):=by
  simp only[a1];rw[h2,List.append_assoc,show i * 15+15=(cur.take ((i+1) * 15)).length by rw[e1];omega,List.drop_left]
 have l2:a2.length=c * 15:=by
  simp only[a2,t1,t2,Mx,MC,MB,hl,hs,h2];omega
 refine⟨l1,l2,?_⟩;simp only[a2,t1,t2];rw[<-List.append_assoc,List.take_append_of_le_length (by simp only[Mx,MC,MB,hl,h2];omega),MD (by simp only[Mx,MC,MB,hl,h2];omega)]
theorem tO(w B g n c i vb)(cur:Array Value)(cells one)(h15:one.length=15)(hone:∀ u∈one,u.oneCell'=true)(hi:i < n)(hroom:n+1<=c)(hc:c<=maxLen)(hBg:B<=g)(hg:w.heap[g]?=some (.cells cur 44 (0,0)))(hs:cur.size=c * 15)(hx:cur.toList.take (n * 15)=cells)(hl:cells.length=n * 15)(hv:w.heap[vb]?=some (.cells one.toArray 44))(hvb:vb≠g)(h1:∀ u∈cells,u.oneCell'=true):Calls prog 39 #[.slice (some ⟨g,0,none⟩) n c,.int .i64 i,.slice (some ⟨vb,0,none⟩) 1 1] w fun e w'=>e=.returned (.slice (some ⟨g,0,none⟩) (n+1) c)/\w'.ownsRow B 44 15 (.slice (some ⟨g,0,none⟩) (n+1) c) (n+1) (cells.take (i * 15)++one++cells.drop (i * 15))/\w.grownBy w' (some g):=by
 have hov:=fun off lb cb=>ti w vb g off lb cb _ _ 15 (c * 15) hvb (by simp[World.shape?,hv,h15];rfl) (by simp[World.shape?,hg,hs];rfl) (by omega) (by simp[World.frozen?,hv]) (by simp[World.frozen?,hv]);obtain⟨l1,l2,l3⟩:=yF (cur:=cur.toList) (two:=one) (by simpa using hs) hx hl h15 hi hroom;have hcp1:∀ ty dc sc,(Builtin.copy_ #[27,27] ty #[.slice (some ⟨g,(i+1) * 15,none⟩) (n - i) dc,.slice (some ⟨g,i * 15,none⟩) (n+1 - i) sc]).run prog w.drew=.ok (goInt (Nat.min (n+1 - i) (n - i))) (w.drew.setRow g (cur.toList.take ((i+1) * 15)++cells.drop (i * 15)++cur.toList.drop ((i+1) * 15+(cells.drop (i * 15)).length)).toArray):=fun ty dc sc=>
  kE w.drew ty g ((i+1) * 15) (n - i) dc ⟨g,i * 15,none⟩ (n+1 - i) sc cur _ (cells.drop (i * 15)) hg (by rw[MB,hl];simp only[Nat.min_def];split <;> omega)
   (fun j v hj=>by
    rw[List.getElem?_drop,<-hx,List.getElem?_take]at hj;split at hj
    ·rw[Addr.add_lit];simp only[World.cell?,show w.drew.heap=w.heap from rfl,hg];simpa using hj
    ·cases hj)
   (by rw[MB,hl];omega) (fun v hv=>h1 v (List.mem_of_mem_drop hv))
 obtain⟨A1,hA1⟩:∃ A1,A1=(cur.toList.take ((i+1) * 15)++cells.drop (i * 15)++cur.toList.drop ((i+1) * 15+(cells.drop (i * 15)).length)):=⟨_,rfl⟩
 rw[h15]at l2 l3;rw[<-hA1]at hcp1 l1 l2 l3;have hgW:(w.drew.setRow g A1.toArray).heap[g]?=some (.cells A1.toArray 44 (0,0)):=setRow_heap w.drew g cur _ _ _ hg;have hvW:(w.drew.setRow g A1.toArray).heap[vb]?=some (.cells one.toArray 44):=(setRow_other w.drew g vb _ hvb).trans hv;have hcp2:∀ (W:LC),(∀ k,W.heap[k]?=(w.drew.setRow g A1.toArray).heap[k]?)->∀ ty dc,(Builtin.copy_ #[27,27] ty #[.slice (some ⟨g,i * 15,none⟩) (n+1 - i) dc,.slice (some ⟨vb,0,none⟩) 1 1]).run prog W=.ok (goInt (Nat.min 1 (n+1 - i))) (W.setRow g (A1.take (i * 15)++one++A1.drop (i * 15+15)).toArray):=fun W hW ty dc=>by
  have h9:=kE W ty g (i * 15) (n+1 - i) dc ⟨vb,0,none⟩ 1 1 A1.toArray _ one ((hW g).trans hgW) (by rw[vf n i hi,h15])
   (fun j v hj=>by
    rw[Addr.add_lit];simp only[World.cell?,hW,hvW];simpa using hj)
   (by simp only[List.size_toArray,l1,h15];omega) hone
  rw[h15]at h9;exact h9
 have HF:Ll (∀ W:LC,W=(w.drew.setRow g A1.toArray).drew.setRow g (A1.take (i * 15)++one++A1.drop (i * 15+15)).toArray\/W=(w.drew.setRow g A1.toArray).setRow g (A1.take (i * 15)++one++A1.drop (i * 15+15)).toArray->W.ownsRow B 44 15 (.slice (some ⟨g,0,none⟩) (n+1) c) (n+1) (cells.take (i * 15)++one++cells.drop (i * 15))/\w.grownBy W (some g)):=aa (by
  intro W hW;have e0:W.heap[g]?=some (.cells (A1.take (i * 15)++one++A1.drop (i * 15+15)).toArray 44 (0,0)):=by
   rcases hW with rfl | rfl
   ·exact setRow_heap _ g _ _ _ _ hgW
   ·exact setRow_heap _ g _ _ _ _ hgW
  refine⟨⟨?_,.inr ⟨g,c,_,rfl,hBg,e0,hroom,hc,by simpa using l2,by simpa using l3⟩⟩,?_⟩
  ·simp only[Mx,MC,MB,hl,h15];omega
  ·rcases hW with rfl | rfl <;> refine⟨rfl,rfl,rfl,by simp[World.setRow],fun k hk hne=>?_⟩
   ·have:k≠g:=fun e=>hne (by rw[e]);exact(setRow_other _ g k _ this).trans (setRow_other w.drew g k _ this)
   ·have:k≠g:=fun e=>hne (by rw[e]);exact(setRow_other _ g k _ this).trans (setRow_other w.drew g k _ this))
 have q0:((i:Int) == (n:Int))=false:=by rw[MO];omega
 have q1:(0:Int)<=(i:Int):=by omega
 have q2:(i:Int)<=(n:Int):=by omega
 have q3:¬(c:Int) < (n:Int)+1:=by omega
 have q4:(n:Int)+1<=(c:Int):=by omega
 have q5:(0:Int)<=(n:Int)+1:=by omega
 have q6:(i:Int)+1<=(n:Int)+1:=by omega
 have q7:(0:Int)<=(i:Int)+1:=by omega
 unfold maxLen at hc;have hcl:(c:Int)<=9223372036854775807:=by omega
 have hw1:IntKind.i64.wrap ((i:Int)+1)=(i:Int)+1:=by rw[IntKind.wrap_i64];omega
 have htn:((i:Int)+1).toNat=i+1:=by omega
 have q8:(i:Int)<=(n:Int)+1:=by omega
 have hc1:=hcp1 3 (c - (i+1)) (c - i);have hc2:=hcp2 (w.drew.setRow g A1.toArray) (fun _=>rfl) 3 (c - i);have z1:¬(c=i):=by omega
 have z2:¬(c=i+1):=by omega
 clear hcp1 hcp2 hgW hvW l1 l2 l3 hA1 hx hl h1 hv hg hs;go_enter func39,ntmps39;go_wp2_with (simp only[hov])
 go_region
 go_wp2_with (simp only[hc2])
 go_ret;exact⟨rfl,HF.o _ (.inr (by simp))⟩
theorem zf{R cells two Z:List Value}{G:Nat}(hR:R=cells.take (i * 15)++Z)(hZ:Z.length=(G - i) * 15)(hl:cells.length=n * 15)(h2:two.length=15)(hi:i < n)(hG:n+1<=G):let a1:=R.take (i * 15)++two++R.drop (i * 15+two.length)
 let a2:=a1.take ((i+1) * 15)++cells.drop (i * 15)++a1.drop ((i+1) * 15+(cells.drop (i * 15)).length)
 R.length=G * 15/\a1.length=G * 15/\a2.length=G * 15/\a2.take ((n+1) * 15)=cells.take (i * 15)++two++cells.drop (i * 15):=by
 intro a1 a2;have e1:(cells.take (i * 15)).length=i * 15:=by rw[MC];omega
 have l0:R.length=G * 15:=by rw[hR,Mx,e1,hZ];omega
 have t1:R.take (i * 15)=cells.take (i * 15):=by rw[hR,List.take_append_of_le_length (by omega),MD (by omega)]
 have l1:a1.length=G * 15:=by simp only[a1,t1,Mx,MB,e1,l0,h2];omega
 have t2:a1.take ((i+1) * 15)=cells.take (i * 15)++two:=by
  simp only[a1,t1];rw[List.take_append_of_le_length (by rw[Mx];omega),MD (by rw[Mx];omega)]
 have l2:a2.length=G * 15:=by simp only[a2,t2,Mx,MB,e1,h2,l1,hl];omega
 refine⟨l0,l1,l2,?_⟩;simp only[a2,t2];rw[List.take_append_of_le_length (by simp only[Mx,MB,e1,hl,h2];omega),MD (by simp only[Mx,MB,e1,hl,h2];omega)]
theorem ts(w B g n c i vb)(cur:Array Value)(cells one)(h15:one.length=15)(hone:∀ u∈one,u.oneCell'=true)(hi:i < n)(hnc:n<=c)(hroom:c < n+1)(hn:n<=4000000)(hB:B<=w.heap.size)(hg:w.heap[g]?=some (.cells cur 44 (0,0)))(hx:cur.toList.take (n * 15)=cells)(hl:cells.length=n * 15)(hv:w.heap[vb]?=some (.cells one.toArray 44))(h1:∀ u∈cells,u.oneCell'=true):Calls prog 39 #[.slice (some ⟨g,0,none⟩) n c,.int .i64 i,.slice (some ⟨vb,0,none⟩) 1 1] w fun e w'=>∃ G,e=.returned (.slice (some ⟨w.heap.size,0,none⟩) (n+1) G)/\w'.ownsRow B 44 15 (.slice (some ⟨w.heap.size,0,none⟩) (n+1) G) (n+1) (cells.take (i * 15)++one++cells.drop (i * 15))/\w.grownBy w' none:=by
 obtain⟨i0,hi0,hz0,hz1,hz2⟩:=info_parts Sg;have hgl:=(MF.1 hg).1;have hvl:=(MF.1 hv).1;have LV:∀ j v,cells[j]?=some v->w.cell? ⟨g,j,none⟩=some v:=fun j v hj=>by
  rw[<-hx,List.getElem?_take]at hj;split at hj
  ·simp only[World.cell?,hg];simpa using hj
  ·cases hj
 have hold:(Builtin.firstCells i0.size i (.slice (some ⟨g,0,none⟩) i c)).run prog w.drew=.ok (cells.take (i * 15)).toArray w.drew:=by
  rw[hz1];exact run_firstCells_some w.drew 15 i ⟨g,0,none⟩ i c (cells.take (i * 15)) (by rw[MC];omega) (fun j v hj=>by
   rw[Addr.add_lit,Nat.zero_add];rw[List.getElem?_take]at hj;split at hj
   ·exact LV j v hj
   ·cases hj)
 have hik:i+(n+1 - i)=n+1:=by omega
 have hkk:(n:Int)+1 - (i:Int)=((n+1 - i:Nat):Int):=by omega
 have hrz:=Lib.run_append_grow_zeros w 27 3 27 44 i0 _ .i64 .i64 underlying27 underlying3 hi0 hz0 (some ⟨g,0,none⟩) i c (cells.take (i * 15)) hold (n+1 - i) (by omega) (by omega) (by omega) (by omega) (by rw[hz2];omega) (by rw[hz2,hik];exact growslice_fits hroom (by omega));rw[hik,<-hkk]at hrz;have hGn:=grownCap_ge w (n+1) c 44;have hGm:=grownCap_le_maxLen w (n+1) c 44 (by unfold maxLen;omega);obtain⟨G,hG⟩:∃ G,G=grownCap w (n+1) c 44:=⟨_,rfl⟩
 rw[<-hG]at hrz hGn hGm;obtain⟨Z,hZ,hZl⟩:∃ Z:List Value,(Builtin.zeroCells (Value.agg Le).cells (n+1 - i)).toList++(Builtin.zeroCells (Value.agg Le).cells (G - (n+1))).toList=Z/\Z.length=(G - i) * 15:=⟨_,rfl,by
  simp only[Mx,Array.length_toList,size_zeroCells];have:(Value.agg Le).cells.size=15:=by rfl
  rw[this];omega⟩
 obtain⟨R,hR⟩:∃ R:List Value,R=cells.take (i * 15)++Z:=⟨_,rfl⟩
 obtain⟨l0,l1,l2,l3⟩:=zf (two:=one) hR hZl hl h15 hi hGn;have hRR:(cells.take (i * 15)).toArray++Builtin.zeroCells (Value.agg Le).cells (n+1 - i)++Builtin.zeroCells (Value.agg Le).cells (G - (n+1))=R.toArray:=by
  apply Array.toList_inj.1;rw[hR,<-hZ];simp
 rw[hRR]at hrz;obtain⟨A1,hA1⟩:∃ A1,A1=R.take (i * 15)++one++R.drop (i * 15+15):=⟨_,rfl⟩
 have e2:=h15;rw[e2,<-hA1]at l1 l2 l3;have hgW:∀ k,k < w.heap.size->(w.drew.alloc (.cells R.toArray 44)).heap[k]?=w.heap[k]?:=fun k hk=>heap_alloc_old w.drew _ hk;have hnW:(w.drew.alloc (.cells R.toArray 44)).heap[w.heap.size]?=some (.cells R.toArray 44 (0,0)):=MN w.drew _;have hcpA:∀ (W:LC),(∀ k,W.heap[k]?=(w.drew.alloc (.cells R.toArray 44)).heap[k]?)->∀ ty dc,(Builtin.copy_ #[27,27] ty #[.slice (some ⟨w.heap.size,i * 15,none⟩) (n+1 - i) dc,.slice (some ⟨vb,0,none⟩) 1 1]).run prog W=.ok (goInt (Nat.min 1 (n+1 - i))) (W.setRow w.heap.size A1.toArray):=fun W hW ty dc=>by
  rw[hA1];have h9:=kE W ty w.heap.size (i * 15) (n+1 - i) dc ⟨vb,0,none⟩ 1 1 R.toArray _ one ((hW _).trans hnW) (by rw[vf n i hi,h15])
   (fun j v hj=>by
    rw[Addr.add_lit];simp only[World.cell?,hW,hgW vb hvl,hv];simpa using hj)
   (by simp only[List.size_toArray,l0,h15];omega) hone
  rw[h15]at h9;exact h9
 have hcpB:∀ (W W0:LC),(∀ k,W0.heap[k]?=(w.drew.alloc (.cells R.toArray 44)).heap[k]?)->(∀ k,W.heap[k]?=(W0.setRow w.heap.size A1.toArray).heap[k]?)->∀ ty dc sc,(Builtin.copy_ #[27,27] ty #[.slice (some ⟨w.heap.size,(i+1) * 15,none⟩) (n - i) dc,.slice (some ⟨g,i * 15,none⟩) (n - i) sc]).run prog W=.ok (goInt (Nat.min (n - i) (n - i))) (W.setRow w.heap.size (A1.take ((i+1) * 15)++cells.drop (i * 15)++A1.drop ((i+1) * 15+(cells.drop (i * 15)).length)).toArray):=fun W W0 hW0 hW ty dc sc=>
  kE W ty w.heap.size ((i+1) * 15) (n - i) dc ⟨g,i * 15,none⟩ (n - i) sc A1.toArray _ (cells.drop (i * 15)) ((hW _).trans (setRow_heap W0 _ R.toArray _ _ _ ((hW0 _).trans hnW))) (by rw[MB,hl];simp only[Nat.min_def];split <;> omega)
   (fun j v hj=>by
    rw[List.getElem?_drop]at hj;have:=LV _ v hj;rw[Addr.add_lit];simp only[World.cell?]at this ⊢;rw[hW,setRow_other W0 w.heap.size g _ (Nat.ne_of_lt hgl),hW0,hgW g hgl];exact this)
   (by simp only[MB,hl,List.size_toArray,l1];omega) (fun v hv=>h1 v (List.mem_of_mem_drop hv))
 have HF:Ll (∀ (W W0 W1:LC),(∀ k,W0.heap[k]?=(w.drew.alloc (.cells R.toArray 44)).heap[k]?)->(∀ k,W1.heap[k]?=(W0.setRow w.heap.size A1.toArray).heap[k]?)->W=W1.setRow w.heap.size (A1.take ((i+1) * 15)++cells.drop (i * 15)++A1.drop ((i+1) * 15+(cells.drop (i * 15)).length)).toArray->w.os=W.os->w.tape=W.tape->w.output=W.output->w.heap.size<=W.heap.size->W.ownsRow B 44 15 (.slice (some ⟨w.heap.size,0,none⟩) (n+1) G) (n+1) (cells.take (i * 15)++one++cells.drop (i * 15))/\w.grownBy W none):=aa (by
  intro W W0 W1 hW0 hW1 hW g1 g2 g3 g4;have e1:=(hW1 w.heap.size).trans (setRow_heap W0 w.heap.size R.toArray A1.toArray _ _ ((hW0 _).trans hnW));have e0:=setRow_heap W1 w.heap.size A1.toArray (A1.take ((i+1) * 15)++cells.drop (i * 15)++A1.drop ((i+1) * 15+(cells.drop (i * 15)).length)).toArray _ _ e1;rw[<-hW]at e0;refine⟨⟨?_,.inr ⟨w.heap.size,G,_,rfl,hB,e0,hGn,hGm,by simpa using l2,by simpa using l3⟩⟩,⟨g1.symm,g2.symm,g3.symm,g4,fun k hk _=>?_⟩⟩
  ·simp only[Mx,MC,MB,hl,h15];omega
  ·have:k≠w.heap.size:=by omega
   rw[hW,setRow_other W1 _ k _ this,hW1,setRow_other W0 _ k _ this,hW0,hgW k hk])
 unfold maxLen at hGm;have HA:=aa hcpA;have HB2:=aa hcpB;have q0:((i:Int) == (n:Int))=false:=by rw[MO];omega
 have q1:(0:Int)<=(i:Int):=by omega
 have q2:(i:Int)<=(n:Int):=by omega
 have q3:(c:Int) < (n:Int)+1:=by omega
 have q8:(i:Int)<=(c:Int):=by omega
 have hw1:IntKind.i64.wrap ((i:Int)+1)=(i:Int)+1:=by rw[IntKind.wrap_i64];omega
 have hw2:IntKind.i64.wrap ((n:Int)+1 - (i:Int))=(n:Int)+1 - (i:Int):=by rw[IntKind.wrap_i64];omega
 have htn:((i:Int)+1).toNat=i+1:=by omega
 have q6:(i:Int)+1<=(n:Int)+1:=by omega
 have q7:(0:Int)<=(i:Int)+1:=by omega
 have q9:(i:Int)<=(n:Int)+1:=by omega
 have hGi:¬(G=i):=by omega
 have hGim:¬(G=i+1):=by omega
 have hci:¬(c=i):=by omega
 have hcl:(c:Int)<=9223372036854775807:=by omega
 have hrz2:=aa hrz;clear hcpA hcpB hA1 hR hRR hZ hZl l0 l1 l2 l3 e2 hgW hnW hx hl h1 hg hv hold hik hkk hz0 hz1 hz2 hi0 LV hrz hG;go_enter func39,ntmps39;go_wp2_with (at_builtin;refine Lib.wpList_append_run _ rfl _ _ _ _ rfl (.slice (some ⟨g,0,none⟩) i c) (.int .i64 ((n:Int)+1 - (i:Int))) rfl rfl _ _ hrz2.o ?_)
 have hA:=HA.o ((w.alloc (.cells R.toArray 44)).drew) (fun _=>rfl) 3 (G - i);go_wp2_with (simp only[hA])
 have hB9:=HB2.o (((w.alloc (.cells R.toArray 44)).drew.setRow w.heap.size A1.toArray).drew) _ (fun _=>rfl) (fun _=>rfl) 3 (G - (i+1)) (c - i);go_region
 go_wp2
 go_ret;exact⟨G,rfl,HF.o _ ((w.alloc (.cells R.toArray 44)).drew) (((w.alloc (.cells R.toArray 44)).drew.setRow w.heap.size A1.toArray).drew) (fun _=>rfl) (fun _=>rfl) (by simp) rfl rfl rfl (by simp[World.setRow])⟩
section
theorem Sm{P:Nat->Prop}{c0 c1 c2 c3 c4:Value}(h:ag w g c0 c1 c2 c3 c4)(f:Se P w w')(hP:¬P g):ag w' g c0 c1 c2 c3 c4:=(f.block g (MF.1 h).1 hP).trans h
theorem Sz{P:Nat->Prop}{k n:Int}{s:ByteArray}{ka la:Option Addr}{nk kc nl lc:Nat}(h:Sd w P (d+1) (.agg #[.int .i64 k,.int .i64 n,.string s,.slice ka nk kc,.slice la nl lc]))(hi:i < nk):∃ g cur,ka=some ⟨g,0,none⟩/\P g/\w.heap[g]?=some (.cells cur 9 (0,0))/\(∃ z,w.cell? ⟨g,i,none⟩=some (.string z))/\w.frozen? ⟨g,i,none⟩=false/\nk<=kc/\kc<=9223372036854775807:=by
 obtain⟨k9,n9,s9,ka9,la9,nk9,kc9,nl9,lc9,ks,L0,e,h1,h2,h3,-⟩:=h;simp only[Value.agg.injEq,Array.mk.injEq,List.cons.injEq,Value.slice.injEq,and_true]at e;obtain⟨-,-,-,⟨rfl,rfl,rfl⟩,-⟩:=e;obtain⟨a9,c9,e9,hz,hc1,hc2,-⟩:=ej h1;simp only[Value.slice.injEq]at e9;obtain⟨rfl,-,rfl⟩:=e9;rcases hz with hz | ⟨g,rfl⟩
 ·omega
 ·have hl:ks.length=nk:=by have:=h1.1;rwa [Nat.mul_one]at this
  obtain⟨-,cur,hcur⟩:=Sa h1 (g:=g) rfl;obtain⟨z,hz⟩:=h2 ks[i] (List.getElem_mem (by omega));have h9:=dJ h1 (by omega) (i:=i) (v:=.string z) (by rw[Mw (by omega),hz]);exact⟨g,cur,rfl,h3 g rfl,hcur,⟨z,h9.1⟩,h9.2,hc1,hc2⟩
theorem Sq{P:Nat->Prop}{k n:Int}{s:ByteArray}{ka la:Option Addr}{nk kc nl lc:Nat}(h:Sd w P (d+1) (.agg #[.int .i64 k,.int .i64 n,.string s,.slice ka nk kc,.slice la nl lc]))(hi:i < nl):∃ g cur,la=some ⟨g,0,none⟩/\P g/\w.heap[g]?=some (.cells cur 39 (0,0))/\(∃ (k1 n1:Int) (s1:ByteArray) (ka1 la1:Option Addr) (nk1 kc1 nl1 lc1:Nat),w.cell? ⟨g,i * 5,none⟩=some (.int .i64 k1)/\w.cell? ⟨g,i * 5+1,none⟩=some (.int .i64 n1)/\w.cell? ⟨g,i * 5+2,none⟩=some (.string s1)/\w.cell? ⟨g,i * 5+3,none⟩=some (.slice ka1 nk1 kc1)/\w.cell? ⟨g,i * 5+4,none⟩=some (.slice la1 nl1 lc1)/\Sd w P d (.agg #[.int .i64 k1,.int .i64 n1,.string s1,.slice ka1 nk1 kc1,.slice la1 nl1 lc1]))/\Jn w g (i * 5)/\nl<=lc/\lc<=9223372036854775807:=by
 obtain⟨k9,n9,s9,ka9,la9,nk9,kc9,nl9,lc9,ks,L0,e,-,-,-,h4,h5,h6,h7⟩:=h;simp only[Value.agg.injEq,Array.mk.injEq,List.cons.injEq,Value.slice.injEq,and_true]at e;obtain⟨-,-,-,-,⟨rfl,rfl,rfl⟩⟩:=e;obtain⟨a9,c9,e9,hz,hc1,hc2,-⟩:=ej h4;simp only[Value.slice.injEq]at e9;obtain⟨rfl,-,rfl⟩:=e9;rcases hz with hz | ⟨g,rfl⟩
 ·omega
 ·obtain⟨-,cur,hcur⟩:=Sa h4 (g:=g) rfl;have hi9:i < L0.length:=by omega
  obtain⟨c5,hc5⟩:=h7 L0[i] (List.getElem_mem hi9);obtain⟨A,c,B,hA,hcc⟩:∃ A c B,L0=A++c :: B/\A.length=i/\L0[i]=c:=⟨L0.take i,L0[i],L0.drop (i+1),by rw[<-ME hi9,List.take_append_drop],by rw[MC];omega,rfl⟩
  rw[hcc.2]at c5 hc5;match c,c5 with
  | [v0,v1,v2,v3,v4],_=>
   have LT:A.flatten.length=i * 5:=by
    have h9:∀ (l:List (List Value)),(∀ c∈l,c.length=5)->l.flatten.length=l.length * 5:=fun l=>by
     induction l with
     | nil=>simp
     | cons a l ih=>intro h;rw[List.flatten_cons,Mx,ih fun c hc=>h c (List.mem_cons_of_mem _ hc),h a List.mem_cons_self,My];omega
    rw[h9 A fun c hc=>(h7 c (by rw[hA];exact List.mem_append_left _ hc)).1,hcc.1]
   have hf:L0.flatten=A.flatten++v0 :: v1 :: v2 :: v3 :: v4 :: B.flatten:=by rw[hA,List.flatten_append,List.flatten_cons];rfl
   rw[hf]at h4;have hq:=lE h4 LT;have ho:=AC h4 LT;cases d with
   | zero=>exact hc5.elim
   | succ d=>
    have hs:=hc5;obtain⟨k1,n1,s1,ka1,la1,nk1,kc1,nl1,lc1,ks1,css1,e1,-⟩:=hc5;simp only[List.toArray,Value.agg.injEq,Array.mk.injEq,List.cons.injEq,and_true]at e1;obtain⟨rfl,rfl,rfl,rfl,rfl⟩:=e1;exact⟨g,cur,rfl,h6 g rfl,hcur,⟨k1,n1,s1,ka1,la1,nk1,kc1,nl1,lc1,hq.1,hq.2.1,hq.2.2.1,hq.2.2.2.1,hq.2.2.2.2,hs⟩,ho,hc1,hc2⟩
attribute [local go_sem ↓] Go.wp_at_zero Go.wp_at_succ
theorem Tb(P:Nat->Prop):∀ (d:Nat) (w:LC) (v:Value),Sd w P d v->(∀ k,P k->k < w.heap.size)->Calls prog 10 #[v] w fun e w'=>e=.returned (.tuple #[])/\Se P w w':=by
 intro d;induction d with
 | zero=>intro w v h;exact h.elim
 | succ d ih=>
 intro w v h hP;have SH:=aa h;have IH:=aa ih;obtain⟨k,n,s,ka,la,nk,kc,nl,lc,ks,L0,rfl,-⟩:=h;have HP:=aa hP;have NB:Ll (¬P w.heap.size):=fun h=>Nat.lt_irrefl _ (hP _ h);clear ih hP ks L0;obtain⟨W1,hW1⟩:∃ W,W=w.alloc (.cells #[.int .i64 k,.int .i64 n,.string s,.slice ka nk kc,.slice la nl lc] 39):=⟨_,rfl⟩
 have I1:Ll (Se P w W1/\ag W1 w.heap.size (.int .i64 k) (.int .i64 n) (.string s) (.slice ka nk kc) (.slice la nl lc)):=aa (by rw[hW1];exact⟨Se.bel (ae _ _),MN _ _⟩);have HW1:=aa hW1;clear hW1;have u0_:=I1.o.2.c;go_enter func10,ntmps10;go_upto_region 1 with fail
 rw[<-HW1.o];go_wp2_with fail
 go_loopg [7] nk (fun gk i wr=>∃ j:Nat,j<=nk/\gk=nk - j/\i=.int .i64 j/\Ll (Se P w wr/\ag wr w.heap.size (.int .i64 k) (.int .i64 n) (.string s) (.slice ka nk kc) (.slice la nl lc)))
 case atStart=>exact⟨0,Nat.zero_le _,rfl,rfl,I1⟩
 case round=>
  obtain⟨j,hj,hgj,rfl,I⟩:=hrel;have GJ:=aa hgj;clear hgj;have u0_:=I.o.2.c;by_cases hlt:j < nk
  ·obtain⟨g,cur,rfl,q1,q2,⟨z,q3⟩,q4,q5,q6⟩:=Sz (I.o.1.shape _ _ SH.o) hlt;have j2:(j:Int) < (nk:Int):=by omega
   have j3:(0:Int)<=(j:Int):=by omega
   have FS:Ll (Se P w (wr.setCell ⟨g,j,none⟩ (.string ⟨#[115,112,111,105,108,116]⟩))):=I.o.1.trans (Se.str _ q1 q2);have FB:Ll (ag (wr.setCell ⟨g,j,none⟩ (.string ⟨#[115,112,111,105,108,116]⟩)) w.heap.size (.int .i64 k) (.int .i64 n) (.string s) (.slice (some ⟨g,0,none⟩) nk kc) (.slice la nl lc)):=Sm I.o.2 (Se.str _ q1 q2) NB.o;clear q1 q2;go_wp2_with fail
   go_roundg (nk - (j+1))
   case measure=>rw[GJ.o];omega
   case rel=>exact⟨j+1,hlt,rfl,by go_num,aa ⟨FS.o,FB.o⟩⟩
  ·have d9:¬(j:Int) < (nk:Int):=by omega
   have I2:=aa I.o;go_wp2_with fail
   clear d9;go_loopg [18] nl (fun gk i wr=>∃ j:Nat,j<=nl/\gk=nl - j/\i=.int .i64 j/\Ll (Se P w wr/\ag wr w.heap.size (.int .i64 k) (.int .i64 n) (.string s) (.slice ka nk kc) (.slice la nl lc)))
   case atStart=>exact⟨0,Nat.zero_le _,rfl,rfl,I2⟩
   case round=>
    obtain⟨j,hj,hgj,rfl,J⟩:=hrel;have GJ:=aa hgj;clear hgj;by_cases hlt:j < nl
    ·obtain⟨g,cur,rfl,q1,q2,⟨k1,n1,s1,ka1,la1,nk1,kc1,nl1,lc1,c0,c1,c2,c3,c4,q3⟩,-,q5,q6⟩:=Sq (J.o.1.shape _ _ SH.o) hlt;have u0_:=J.o.2.c;have j2:(j:Int) < (nl:Int):=by omega
     have j3:(0:Int)<=(j:Int):=by omega
     have CH:=aa (IH.o wr _ q3 (fun k hk=>MI (HP.o k hk) J.o.1.size));clear q1 q2 q3;go_upto_region 10 with (go_at_call 10;refine CH.o.mono ?_;rintro e w3 ⟨rfl,hf⟩;have F3:=aa hf;clear hf)
     clear c0 c1 c2 c3 c4;have J3:Ll (Se P w w3/\ag w3 w.heap.size (.int .i64 k) (.int .i64 n) (.string s) (.slice ka nk kc) (.slice (some ⟨g,0,none⟩) nl lc)):=aa ⟨J.o.1.trans F3.o,Sm J.o.2 F3.o NB.o⟩;obtain⟨g9,cur9,e9,q1,q2,-,q4,-,-⟩:=Sq (J3.o.1.shape _ _ SH.o) hlt;simp only[Option.some.injEq,Addr.mk.injEq,and_true]at e9;subst e9;obtain⟨⟨t0,m0⟩,⟨t1,m1⟩,⟨t2,m2⟩,⟨t3,m3⟩,⟨t4,m4⟩,f0,f1,f2,f3,f4⟩:=q4;have u0_:=J3.o.2.c;have FS:Ll (Se P w (vr w3 g (j * 5) (.int .i64 (-1)) (.int .i64 0) (.string ⟨#[]⟩) (.slice none 0 0) (.slice none 0 0))):=J3.o.1.trans (Se.val _ q1 q2);have FB:Ll (ag (vr w3 g (j * 5) (.int .i64 (-1)) (.int .i64 0) (.string ⟨#[]⟩) (.slice none 0 0) (.slice none 0 0)) w.heap.size (.int .i64 k) (.int .i64 n) (.string s) (.slice ka nk kc) (.slice (some ⟨g,0,none⟩) nl lc)):=Sm J3.o.2 (Se.val _ q1 q2) NB.o;clear q1 q2;go_wp2_with fail
     go_roundg (nl - (j+1))
     case measure=>rw[GJ.o];omega
     case rel=>exact⟨j+1,hlt,rfl,by go_num,aa ⟨FS.o,FB.o⟩⟩
    ·have d9:¬(j:Int) < (nl:Int):=by omega
     go_wp2_with fail
     refine bodyPost_end (results_none rfl _ _ _) rfl ?_;exact⟨rfl,J.o.1⟩
end
end Go.Proofs.YtgolnaencepejaaGreatDoor
