import Derived.Test.YtbdlfclnkpofaaaGreatDoorG6
import Derived.Test.YtbdlfclnkpofaaaGreatDoorG7
import Derived.Test.YtbdlfclnkpofaaaGreatDoorG11
set_option maxRecDepth 100000
set_option maxHeartbeats 40000000
set_option linter.unusedSimpArgs false
set_option linter.unusedVariables false
namespace Go.Proofs.YtbdlfclnkpofaaaGreatDoor
open Go.RowKit
open _root_.Go.Proofs.Tryz
variable {y x:V}
theorem sb(h:eB x y=true):(x=y↔x.l=y.l)/\y.l.length=x.l.length:=by
 simp only[eB,MJ,decide_eq_true_eq]at h;obtain⟨⟨⟨⟨h1,h2⟩,h3⟩,h4⟩,h5⟩:=h;refine⟨⟨fun e=>by rw[e],fun e=>?_⟩,h5.symm⟩;rw[<-Ai x,<-Ai y,h1,h2,h3,h4,e]
theorem Gg(h:eB x y=false):x≠y:=by
 rintro rfl;simp[eB]at h
theorem lP(w:LC)(ok ok' a b va vb)(ha:In w ok a va)(hb:In w ok' b vb)(hN:bN a<=2000000000000):Calls prog 42 #[va,vb] w fun e w'=>Je w a b e w':=by
 have HA:=aa ha;have HB:=aa hb;obtain⟨a1,a2,c1,c2,rfl⟩:=ha.form;obtain⟨a3,a4,c3,c4,rfl⟩:=hb.form;clear ha hb;go_enter func42,ntmps42;go_upto_region 1 with fail
 go_cut [5,6] (fun lv rv wc=>∃ ia ib,SI w ok ok' ia ib [[a]] [[b]] lv rv wc)
 case first=>
  go_region
  all_goals
   go_wp2
   go_meet
   case rel=>
    first
     | exact⟨w.heap.size+2,w.heap.size+4,iU HA.o HB.o (by repeat(first | exact MK _ _ | refine ai ?_ | refine aj ?_ _)) (bI w _ _ _ _ _ _ 3 (by decide)) (bI w _ _ _ _ _ _ 5 (by decide)) (bI w _ _ _ _ _ _ 2 (by decide)) (bI w _ _ _ _ _ _ 4 (by decide)) (by refine⟨?_,?_,?_,?_,?_,?_,?_⟩ <;> omega)⟩
     | exact⟨w.heap.size+2,w.heap.size+3,iU HA.o HB.o (by repeat(first | exact MK _ _ | refine ai ?_ | refine aj ?_ _)) (bI w _ _ _ _ _ _ 4 (by decide)) (bI w _ _ _ _ _ _ 5 (by decide)) (bI w _ _ _ _ _ _ 2 (by decide)) (bI w _ _ _ _ _ _ 3 (by decide)) (by refine⟨?_,?_,?_,?_,?_,?_,?_⟩ <;> omega)⟩
     | exact⟨w.heap.size+2,w.heap.size+3,iU HA.o HB.o (by repeat(first | exact MK _ _ | refine ai ?_ | refine aj ?_ _)) (bI w _ _ _ _ _ _ 5 (by decide)) (bI w _ _ _ _ _ _ 4 (by decide)) (bI w _ _ _ _ _ _ 2 (by decide)) (bI w _ _ _ _ _ _ 3 (by decide)) (by refine⟨?_,?_,?_,?_,?_,?_,?_⟩ <;> omega)⟩
     | exact⟨w.heap.size+3,w.heap.size+2,iU HA.o HB.o (by repeat(first | exact MK _ _ | refine ai ?_ | refine aj ?_ _)) (bI w _ _ _ _ _ _ 4 (by decide)) (bI w _ _ _ _ _ _ 5 (by decide)) (bI w _ _ _ _ _ _ 3 (by decide)) (bI w _ _ _ _ _ _ 2 (by decide)) (by refine⟨?_,?_,?_,?_,?_,?_,?_⟩ <;> omega)⟩
     | exact⟨w.heap.size+3,w.heap.size+2,iU HA.o HB.o (by repeat(first | exact MK _ _ | refine ai ?_ | refine aj ?_ _)) (bI w _ _ _ _ _ _ 5 (by decide)) (bI w _ _ _ _ _ _ 4 (by decide)) (bI w _ _ _ _ _ _ 3 (by decide)) (bI w _ _ _ _ _ _ 2 (by decide)) (by refine⟨?_,?_,?_,?_,?_,?_,?_⟩ <;> omega)⟩
     | exact⟨w.heap.size+4,w.heap.size+2,iU HA.o HB.o (by repeat(first | exact MK _ _ | refine ai ?_ | refine aj ?_ _)) (bI w _ _ _ _ _ _ 5 (by decide)) (bI w _ _ _ _ _ _ 3 (by decide)) (bI w _ _ _ _ _ _ 4 (by decide)) (bI w _ _ _ _ _ _ 2 (by decide)) (by refine⟨?_,?_,?_,?_,?_,?_,?_⟩ <;> omega)⟩
 case rest=>
  obtain⟨ia,ib,hS⟩:=hcut;have S0:=aa hS;clear hS;go_wp2
  go_loopg [5,6] (1+bN a) (fun gk lv rv wr=>∃ ls rs,(a=b↔ls=rs)/\PL ls rs/\gk=mu ls/\mu ls<=2000000000001/\SI w ok ok' ia ib ls rs lv rv wr)
  case atStart=>exact⟨[[a]],[[b]],⟨fun e=>by rw[e],fun e=>by simpa using e⟩,⟨rfl,fun j l r h1 h2=>by cases j <;> simp at h1 h2;rw[<-h1,<-h2];rfl⟩,by simp[mu,qf,er],by simp[mu,qf,er];omega,S0.o⟩
  case round=>
   obtain⟨ls,rs,hiff,hpl,hgk,hM,hSI⟩:=hrel;rcases Kx ls with rfl | ⟨ms,xs,rfl⟩
   ·obtain⟨gL,gR,cL,cR,rfl,rfl,hSE⟩:=hSI;have hSB:=hSE.2.2.2.2.2.2.2.2.2;have R:Ll (a=b/\La w wr):=aa ⟨hiff.2 (List.eq_nil_of_length_eq_zero (by simpa using hpl.1)).symm,hSB⟩;clear hiff hpl hgk hM hSE hSB;have e0:([]:List (List V)).length=0:=rfl;rw[e0];go_wp2
    go_ret;exact⟨true,rfl,⟨fun _=>R.o.1,fun _=>rfl⟩,R.o.2⟩
   ·obtain⟨qs,ys,rfl,hpl',hxy⟩:=hpl.pop;obtain⟨gL,gR,cL,cR,rfl,rfl,hL,hR,n1,n2,n3,n4,n5,n6,n7,hBw⟩:=hSI;obtain⟨xv,px,vx,hL'⟩:=hL.pop;obtain⟨yv,py,vy,hR'⟩:=hR.pop;obtain⟨M,hgM⟩:∃ M,gk=M:=⟨_,rfl⟩
    rw[hgM]at hgk;have GKM:=aa hgM;clear hgM;have hq:qs.length=ms.length:=hpl'.1;rw[hq]at py;have J0:Ll (SJ w ok ok' ia ib a b xs ys xv yv M 0 (.slice (some ⟨gL,0,none⟩) ms.length cL) (.slice (some ⟨gR,0,none⟩) ms.length cR) wr):=aa ⟨ms,qs,by rw[hiff,mZ];simp,hpl',by rw[hgk,sP];simp;omega,by omega,vx,vy,gL,gR,cL,cR,rfl,by rw[hq],hL',hR',n1,n2,n3,n4,n5,n6,n7,hBw⟩;have zL:=hL.cap;have zR:=hR.cap;have eL:(ms++[xs]).length=ms.length+1:=by simp
    have eR:(qs++[ys]).length=ms.length+1:=by simp[hq]
    rw[eL]at zL ⊢;rw[eR]at zR ⊢;obtain⟨z1,z2⟩:=zL;obtain⟨z3,z4⟩:=zR;obtain⟨xa,xc,rfl⟩:=vx.form;obtain⟨ya,yc,rfl⟩:=vy.form;have lx:=vx.len;have HXY:=aa hxy;have GM:Ll (M<=2000000000001):=aa (by rw[hgk];exact hM);clear hiff hpl hpl' hL hR hL' hR' hgk hM vx vy n1 n2 n3 n4 n5 n6 n7 hBw eL eR hq hxy;have y1:(0:Int)<=(ms.length:Int):=by omega
    have y2:(ms.length:Int) < ((ms.length+1:Nat):Int):=by omega
    have y3:(ms.length:Int)<=(cL:Int):=by omega
    have y4:(ms.length:Int)<=(cR:Int):=by omega
    go_wp2
    go_quiet (fail)
    go_wp2
    go_quiet (fail)
    go_wp2
    go_loopg [5,6,39] xs.length (fun gi lv rv i wi=>∃ k:Nat,k<=xs.length/\gi=xs.length - k/\i=.int .i64 k/\SJ w ok ok' ia ib a b xs ys (.slice xa xs.length xc) (.slice ya ys.length yc) M k lv rv wi)
    case atStart=>exact⟨0,Nat.zero_le _,rfl,rfl,by first | exact J0.o | exact J0.o.bel (aC _ _) | exact J0.o.bel (MK _ _)⟩
    case round=>
     obtain⟨k,hk,hgi,rfl,ls,rs,i1,i2,i3,i4,i5,i6,gL',gR',cL',cR',rfl,rfl,i7⟩:=hrel;have GI:=aa hgi;have J:Ll ((a=b↔ls=rs/\xs.drop k=ys.drop k)/\PL ls rs/\mu ls+cnts (xs.drop k)+1<=M/\bJ wr (kw ok w.heap.size ia) xs (.slice xa xs.length xc)/\bJ wr (kw ok' w.heap.size ib) ys (.slice ya ys.length yc)/\SE w ok ok' ia ib ls rs gL' gR' cL' cR' wr):=aa ⟨i1,i2,i3,i5,i6,i7⟩;clear hgi i1 i2 i3 i4 i7;by_cases hlt:k < xs.length
     ·have hlt':k < ys.length:=by have:=HXY.o;omega
      obtain⟨xb,xo,p5,q5,p6,q6,rfl,x1,x2,g0,g1,g2,g3,g4,g5⟩:=i5.item hlt;obtain⟨yb,yo,p7,q7,p8,q8,rfl,x3,x4,f0,f1,f2,f3,f4,f5⟩:=i6.item hlt';clear i5 i6;have w1:(0:Int)<=(k:Int):=by omega
      have w2:(k:Int) < (xs.length:Int):=by omega
      have w3:(k:Int) < (ys.length:Int):=by omega
      have CALL:Ll (∀ w',La wr w'->Calls prog 75 #[.agg #[.int .i64 xs[k].kind,.int .i64 xs[k].n,.string ⟨xs[k].s.toArray⟩,.slice p5 xs[k].keys.length q5,.slice p6 xs[k].l.length q6],.agg #[.int .i64 ys[k].kind,.int .i64 ys[k].n,.string ⟨ys[k].s.toArray⟩,.slice p7 ys[k].keys.length q7,.slice p8 ys[k].l.length q8]] w' fun e w4=>e=.returned (.bool (eB xs[k] ys[k]))/\La wr w4 /\
       w4.cell? ⟨xb,xo+k * 5,none⟩=some (.int .i64 xs[k].kind)/\w4.cell? ⟨xb,xo+k * 5+1,none⟩=some (.int .i64 xs[k].n)/\w4.cell? ⟨xb,xo+k * 5+2,none⟩=some (.string ⟨xs[k].s.toArray⟩)/\w4.cell? ⟨xb,xo+k * 5+3,none⟩=some (.slice p5 xs[k].keys.length q5)/\w4.cell? ⟨xb,xo+k * 5+4,none⟩=some (.slice p6 xs[k].l.length q6)/\w4.cell? ⟨yb,yo+k * 5,none⟩=some (.int .i64 ys[k].kind)/\w4.cell? ⟨yb,yo+k * 5+1,none⟩=some (.int .i64 ys[k].n)/\w4.cell? ⟨yb,yo+k * 5+2,none⟩=some (.string ⟨ys[k].s.toArray⟩)/\w4.cell? ⟨yb,yo+k * 5+3,none⟩=some (.slice p7 ys[k].keys.length q7)/\w4.cell? ⟨yb,yo+k * 5+4,none⟩=some (.slice p8 ys[k].l.length q8)):=by
       intro w' hb';refine Lk (ET w' _ _ xs[k] ys[k] _ _ (g5.bel hb') (f5.bel hb')) fun w4 hb4=>?_;have hb5:=ab hb' hb4;exact⟨rfl,hb5,ah hb5 g0,ah hb5 g1,ah hb5 g2,ah hb5 g3,ah hb5 g4,ah hb5 f0,ah hb5 f1,ah hb5 f2,ah hb5 f3,ah hb5 f4⟩
      have VX:=aa g5.vals;have VY:=aa f5.vals;clear g5 f5;go_wp2
      go_region_held3 (fun w4=>w4.cell? ⟨xb,xo+k * 5,none⟩=some (.int .i64 xs[k].kind)/\w4.cell? ⟨xb,xo+k * 5+1,none⟩=some (.int .i64 xs[k].n)/\w4.cell? ⟨xb,xo+k * 5+2,none⟩=some (.string ⟨xs[k].s.toArray⟩)/\w4.cell? ⟨xb,xo+k * 5+3,none⟩=some (.slice p5 xs[k].keys.length q5)/\w4.cell? ⟨xb,xo+k * 5+4,none⟩=some (.slice p6 xs[k].l.length q6)/\w4.cell? ⟨yb,yo+k * 5,none⟩=some (.int .i64 ys[k].kind)/\w4.cell? ⟨yb,yo+k * 5+1,none⟩=some (.int .i64 ys[k].n)/\w4.cell? ⟨yb,yo+k * 5+2,none⟩=some (.string ⟨ys[k].s.toArray⟩)/\w4.cell? ⟨yb,yo+k * 5+3,none⟩=some (.slice p7 ys[k].keys.length q7)/\w4.cell? ⟨yb,yo+k * 5+4,none⟩=some (.slice p8 ys[k].l.length q8)) (go_keep)
       (first | (go_at_call 75;refine(CALL.o _ (by exact⟨rfl,rfl,rfl,MG _,fun _ _=>rfl⟩)).mono ?_;rintro e w4 ⟨rfl,hb4,s0,s1,s2,s3,s4,r0,r1,r2,r3,r4⟩))
      all_goals
       have HB4:=aa hb4;have E4:=aa (J.o.2.2.2.2.2.bel hb4);clear hb4 g0 g1 g2 g3 g4 f0 f1 f2 f3 f4 CALL s0 s1 s2 s3 r0 r1 r2 r3;cases hr:eB xs[k] ys[k] with
       | false=>
        have R:Ll ((¬a=b)/\La w w4):=aa ⟨fun e=>absurd ((kK hlt hlt').1 (J.o.1.1 e).2).1 (Gg hr),E4.o.2.2.2.2.2.2.2.2.2⟩;clear hr s4 r4;go_wp2
        go_ret;exact⟨false,rfl,⟨fun e=>absurd e Bool.false_ne_true,fun e=>absurd e R.o.1⟩,R.o.2⟩
       | true=>
        have HR:=aa hr;clear hr;by_cases h0:xs[k].l.length=0
        ·have d0:¬(0:Int) < (xs[k].l.length:Int):=by omega
         have FIN:Ll (SJ w ok ok' ia ib a b xs ys (.slice (some ⟨xb,xo,none⟩) xs.length xc) (.slice (some ⟨yb,yo,none⟩) ys.length yc) M (k+1) (.slice (some ⟨gL',0,none⟩) ls.length cL') (.slice (some ⟨gR',0,none⟩) rs.length cR') w4):=by
          obtain⟨j1,j2,j3,j5,j6,j7⟩:=J.o;have he:=sb HR.o;have e1:xs[k].l=[]:=List.eq_nil_of_length_eq_zero h0;have e2:ys[k].l=[]:=List.eq_nil_of_length_eq_zero (by rw[he.2,h0]);have e3:xs[k]=ys[k]:=he.1.2 (by rw[e1,e2]);have e4:=iV hlt;exact aa ⟨ls,rs,by rw[j1,kK hlt hlt'];simp[e3],j2,by omega,GM.o,j5.bel HB4.o,j6.bel HB4.o,gL',gR',cL',cR',rfl,rfl,E4.o⟩
         clear h0 r4;go_wp2
         go_roundg (xs.length - (k+1))
         case measure=>rw[GI.o];omega
         case rel=>exact⟨k+1,hlt,rfl,by go_num,FIN.o⟩
        ·have d0:(0:Int) < (xs[k].l.length:Int):=by omega
         have WL:Ll (ev w4 w.heap.size (kw ok w.heap.size ia) ls gL' cL'):=aa E4.o.1;have WR:Ll (ev w4 w.heap.size (kw ok' w.heap.size ib) rs gR' cR'):=aa E4.o.2.1;have VX4:Ll (bJ w4 (kw ok w.heap.size ia) xs[k].l (.slice p6 xs[k].l.length q6)):=VX.o.bel HB4.o;have VY4:Ll (bJ w4 (kw ok' w.heap.size ib) ys[k].l (.slice p8 ys[k].l.length q8)):=VY.o.bel HB4.o;have LA:=aa E4.o.lows;have LB:=aa E4.o.swap.lows;have gL4:Ll (gL' < w4.heap.size):=aa E4.o.1.lt.2;have gR4:Ll (gR' < w4.heap.size):=aa E4.o.2.1.lt.2;have nLR:Ll (gR'≠gL'):=aa E4.o.2.2.1.symm;have nRL:Ll (gL'≠gR'):=aa E4.o.2.2.1;have nLB:Ll (∀ j,(kw ok' w.heap.size ib) j->j≠gL'):=iL E4.o.1.lt.1 E4.o.2.2.2.2.2.1;have nRA:Ll (∀ j,(kw ok w.heap.size ia) j->j≠gR'):=iL E4.o.2.1.lt.1 E4.o.2.2.2.2.1;have nXL:Ll (xb≠gL'):=iL E4.o.1.lt.1 E4.o.2.2.2.1 _ (J.o.2.2.2.1.blk hlt);have nXR:Ll (xb≠gR'):=nRA.o _ (J.o.2.2.2.1.blk hlt);have nYL:Ll (yb≠gL'):=nLB.o _ (J.o.2.2.2.2.1.blk hlt');have nYR:Ll (yb≠gR'):=iL E4.o.2.1.lt.1 E4.o.2.2.2.2.2.2.1 _ (J.o.2.2.2.2.1.blk hlt');have nls:ls.length<=5000000000000:=by have:=Jo ls;have:=J.o.2.2.1;have:=GM.o;omega
         have nrs:rs.length<=5000000000000:=by have:=J.o.2.1.1;omega
         have midL:Ll (∀ (W w7:LC) (g7 c7:Nat),La w4 W->ev w7 w.heap.size (kw ok w.heap.size ia) (ls++[xs[k].l]) g7 c7->W.grownBy w7 (some gL')->(g7=gL'\/W.heap.size=g7) ->
          (w7.cell? ⟨xb,xo+k * 5+4,none⟩=some (.slice p6 xs[k].l.length q6)/\w7.cell? ⟨yb,yo+k * 5+4,none⟩=some (.slice p8 ys[k].l.length q8)/\(∀ o,(w7.alloc o).cell? ⟨xb,xo+k * 5+4,none⟩=some (.slice p6 xs[k].l.length q6))/\(∀ o,(w7.alloc o).cell? ⟨yb,yo+k * 5+4,none⟩=some (.slice p8 ys[k].l.length q8))) /\
          (∀ nb o,w4.heap.size<=nb->W.heap[nb]?=some o->w7.heap[nb]?=some o)/\ev w7 w.heap.size (kw ok' w.heap.size ib) rs gR' cR'/\bJ w7 (kw ok' w.heap.size ib) ys[k].l (.slice p8 ys[k].l.length q8)/\(∀ j,(kw ok' w.heap.size ib) j->j < w7.heap.size) /\
          w4.grownBy w7 (some gL')/\ev w7 w.heap.size (kw ok w.heap.size ia) (ls++[xs[k].l]) g7 c7/\(g7=gL'\/w4.heap.size<=g7)):=by
          intro W w7 g7 c7 b1 h7 q7 o7;have G:w4.grownBy w7 (some gL'):=am (aq b1) q7;have cx:=G.cell s4 (by simpa using nXL.o);have cy:=G.cell r4 (by simpa using nYL.o);refine⟨⟨cx,cy,fun o=>ah (ae w7 o) cx,fun o=>ah (ae w7 o) cy⟩,fun nb o hn ho=>(q7.block nb (MF.1 ho).1 (by simp;have:=gL4.o;omega)).trans ho,WR.o.far G nLR.o nLB.o,VY4.o.grown G nLB.o,fun j hj=>MI (LB.o j hj) G.size,G,h7,o7.imp id fun e=>by have:=b1.size;omega⟩
         have midR:Ll (∀ (W w7:LC) (g7 c7:Nat),La w4 W->ev w7 w.heap.size (kw ok' w.heap.size ib) (rs++[ys[k].l]) g7 c7->W.grownBy w7 (some gR')->(g7=gR'\/W.heap.size=g7) ->
          (w7.cell? ⟨xb,xo+k * 5+4,none⟩=some (.slice p6 xs[k].l.length q6)/\w7.cell? ⟨yb,yo+k * 5+4,none⟩=some (.slice p8 ys[k].l.length q8)/\(∀ o,(w7.alloc o).cell? ⟨xb,xo+k * 5+4,none⟩=some (.slice p6 xs[k].l.length q6))/\(∀ o,(w7.alloc o).cell? ⟨yb,yo+k * 5+4,none⟩=some (.slice p8 ys[k].l.length q8))) /\
          (∀ nb o,w4.heap.size<=nb->W.heap[nb]?=some o->w7.heap[nb]?=some o)/\ev w7 w.heap.size (kw ok w.heap.size ia) ls gL' cL'/\bJ w7 (kw ok w.heap.size ia) xs[k].l (.slice p6 xs[k].l.length q6)/\(∀ j,(kw ok w.heap.size ia) j->j < w7.heap.size) /\
          w4.grownBy w7 (some gR')/\ev w7 w.heap.size (kw ok' w.heap.size ib) (rs++[ys[k].l]) g7 c7/\(g7=gR'\/w4.heap.size<=g7)):=by
          intro W w7 g7 c7 b1 h7 q7 o7;have G:w4.grownBy w7 (some gR'):=am (aq b1) q7;have cx:=G.cell s4 (by simpa using nXR.o);have cy:=G.cell r4 (by simpa using nYR.o);refine⟨⟨cx,cy,fun o=>ah (ae w7 o) cx,fun o=>ah (ae w7 o) cy⟩,fun nb o hn ho=>(q7.block nb (MF.1 ho).1 (by simp;have:=gR4.o;omega)).trans ho,WL.o.far G nRL.o nRA.o,VX4.o.grown G nRA.o,fun j hj=>MI (LA.o j hj) G.size,G,h7,o7.imp id fun e=>by have:=b1.size;omega⟩
         have FINL:Ll (∀ (g7 c7 g8 c8:Nat) (w7 w8:LC),w4.grownBy w7 (some gL')->ev w7 w.heap.size (kw ok w.heap.size ia) (ls++[xs[k].l]) g7 c7->(g7=gL'\/w4.heap.size<=g7)->w7.grownBy w8 (some gR')->ev w8 w.heap.size (kw ok' w.heap.size ib) (rs++[ys[k].l]) g8 c8->(g8=gR'\/w7.heap.size<=g8) ->
          SJ w ok ok' ia ib a b xs ys (.slice (some ⟨xb,xo,none⟩) xs.length xc) (.slice (some ⟨yb,yo,none⟩) ys.length yc) M (k+1) (.slice (some ⟨g7,0,none⟩) (ls.length+1) c7) (.slice (some ⟨g8,0,none⟩) (rs.length+1) c8) w8):=by
          intro g7 c7 g8 c8 w7 w8 q7 h7 o7 q8 h8 o8;obtain⟨j1,j2,j3,j5,j6,j7⟩:=J.o;have he:=sb HR.o;have e4:=iV hlt;have e5:=df xs[k];refine⟨ls++[xs[k].l],rs++[ys[k].l],by rw[j1,kK hlt hlt',mZ,he.1,and_assoc],j2.push he.2,by rw[sP];omega,GM.o,((j5.bel HB4.o).grown q7 ?_).grown q8 nRA.o,((j6.bel HB4.o).grown q7 nLB.o).grown q8 ?_,g7,g8,c7,c8,by simp,by simp,vJ E4.o q7 h7 o7 q8 h8 o8⟩
          ·exact iL E4.o.1.lt.1 E4.o.2.2.2.1
          ·exact iL E4.o.2.1.lt.1 E4.o.2.2.2.2.2.2.1
         have FINR:Ll (∀ (g7 c7 g8 c8:Nat) (w7 w8:LC),w4.grownBy w7 (some gR')->ev w7 w.heap.size (kw ok' w.heap.size ib) (rs++[ys[k].l]) g7 c7->(g7=gR'\/w4.heap.size<=g7)->w7.grownBy w8 (some gL')->ev w8 w.heap.size (kw ok w.heap.size ia) (ls++[xs[k].l]) g8 c8->(g8=gL'\/w7.heap.size<=g8) ->
          SJ w ok ok' ia ib a b xs ys (.slice (some ⟨xb,xo,none⟩) xs.length xc) (.slice (some ⟨yb,yo,none⟩) ys.length yc) M (k+1) (.slice (some ⟨g8,0,none⟩) (ls.length+1) c8) (.slice (some ⟨g7,0,none⟩) (rs.length+1) c7) w8):=by
          intro g7 c7 g8 c8 w7 w8 q7 h7 o7 q8 h8 o8;obtain⟨j1,j2,j3,j5,j6,j7⟩:=J.o;have he:=sb HR.o;have e4:=iV hlt;have e5:=df xs[k];refine⟨ls++[xs[k].l],rs++[ys[k].l],by rw[j1,kK hlt hlt',mZ,he.1,and_assoc],j2.push he.2,by rw[sP];omega,GM.o,((j5.bel HB4.o).grown q7 nRA.o).grown q8 ?_,((j6.bel HB4.o).grown q7 ?_).grown q8 nLB.o,g8,g7,c8,c7,by simp,by simp,(vJ E4.o.swap q7 h7 o7 q8 h8 o8).swap⟩
          ·exact iL E4.o.1.lt.1 E4.o.2.2.2.1
          ·exact iL E4.o.2.1.lt.1 E4.o.2.2.2.2.2.2.1
         have s5:∀ o,(w4.alloc o).cell? ⟨xb,xo+k * 5+4,none⟩=some (.slice p6 xs[k].l.length q6):=fun o=>ah (ae w4 o) s4;have r5:∀ o,(w4.alloc o).cell? ⟨yb,yo+k * 5+4,none⟩=some (.slice p8 ys[k].l.length q8):=fun o=>ah (ae w4 o) r4;have s6:∀ o o',((w4.alloc o).alloc o').cell? ⟨xb,xo+k * 5+4,none⟩=some (.slice p6 xs[k].l.length q6):=fun o o'=>ah (ae _ o') (s5 o);have r6:∀ o o',((w4.alloc o).alloc o').cell? ⟨yb,yo+k * 5+4,none⟩=some (.slice p8 ys[k].l.length q8):=fun o o'=>ah (ae _ o') (r5 o);clear h0;go_upto_region 12 with fail
         go_region_held3 (fun w'=>w'.cell? ⟨xb,xo+k * 5+4,none⟩=some (.slice p6 xs[k].l.length q6)/\w'.cell? ⟨yb,yo+k * 5+4,none⟩=some (.slice p8 ys[k].l.length q8)) (go_keep)
          (first | (refine kG (by rfl) _ _ (by rfl) (by rfl) (by rfl) (WL.o.bel (by first | exact MK _ _ | exact aj (MK _ _) _ | exact aj (aj (MK _ _) _) _ | exact ai (MK _ _) | exact ai (aj (MK _ _) _) | exact ai (aj (aj (MK _ _) _) _) | exact ai (ai (MK _ _)) | exact ai (ai (aj (MK _ _) _)) | exact ai (ai (aj (aj (MK _ _) _) _)) | exact ai (ai (ai (MK _ _))) | exact ai (ai (ai (aj (MK _ _) _))) | exact ai (ai (ai (aj (aj (MK _ _) _) _))))) (by first | exact MN _ _ | exact fb _ _ _ | exact et _ _ _) (VX4.o.bel (by first | exact MK _ _ | exact aj (MK _ _) _ | exact aj (aj (MK _ _) _) _ | exact ai (MK _ _) | exact ai (aj (MK _ _) _) | exact ai (aj (aj (MK _ _) _) _) | exact ai (ai (MK _ _)) | exact ai (ai (aj (MK _ _) _)) | exact ai (ai (aj (aj (MK _ _) _) _)) | exact ai (ai (ai (MK _ _))) | exact ai (ai (ai (aj (MK _ _) _))) | exact ai (ai (ai (aj (aj (MK _ _) _) _))))) (by omega) (fun j hj=>MI (LA.o j hj) (IL (a:=w4) (by first | exact MK _ _ | exact aj (MK _ _) _ | exact aj (aj (MK _ _) _) _ | exact ai (MK _ _) | exact ai (aj (MK _ _) _) | exact ai (aj (aj (MK _ _) _) _) | exact ai (ai (MK _ _)) | exact ai (ai (aj (MK _ _) _)) | exact ai (ai (aj (aj (MK _ _) _) _)) | exact ai (ai (ai (MK _ _))) | exact ai (ai (ai (aj (MK _ _) _))) | exact ai (ai (ai (aj (aj (MK _ _) _) _)))))) ?_;intro g7 c7 w7 h7 q7 o7;have P7:Ll _:=aa (midL.o _ _ _ _ (by first | exact MK _ _ | exact aj (MK _ _) _ | exact aj (aj (MK _ _) _) _ | exact ai (MK _ _) | exact ai (aj (MK _ _) _) | exact ai (aj (aj (MK _ _) _) _) | exact ai (ai (MK _ _)) | exact ai (ai (aj (MK _ _) _)) | exact ai (ai (aj (aj (MK _ _) _) _)) | exact ai (ai (ai (MK _ _))) | exact ai (ai (ai (aj (MK _ _) _))) | exact ai (ai (ai (aj (aj (MK _ _) _) _)))) h7 q7 o7);obtain⟨v1,v2,v3,v4⟩:=P7.o.1;have N7:Ll _:=aa P7.o.2.1;clear h7 q7 o7) | (refine kG (by rfl) _ _ (by rfl) (by rfl) (by rfl) (P7.o.2.2.1.bel (by first | exact MK _ _ | exact aj (MK _ _) _ | exact aj (aj (MK _ _) _) _ | exact ai (MK _ _) | exact ai (aj (MK _ _) _) | exact ai (aj (aj (MK _ _) _) _) | exact ai (ai (MK _ _)) | exact ai (ai (aj (MK _ _) _)) | exact ai (ai (aj (aj (MK _ _) _) _)) | exact ai (ai (ai (MK _ _))) | exact ai (ai (ai (aj (MK _ _) _))) | exact ai (ai (ai (aj (aj (MK _ _) _) _))))) (by first | exact MN _ _ | exact N7.o _ _ (by simp) (MN _ _) | exact N7.o _ _ (by simp) (fb _ _ _) | exact N7.o _ _ (by simp) (et _ _ _)) (P7.o.2.2.2.1.bel (by first | exact MK _ _ | exact aj (MK _ _) _ | exact aj (aj (MK _ _) _) _ | exact ai (MK _ _) | exact ai (aj (MK _ _) _) | exact ai (aj (aj (MK _ _) _) _) | exact ai (ai (MK _ _)) | exact ai (ai (aj (MK _ _) _)) | exact ai (ai (aj (aj (MK _ _) _) _)) | exact ai (ai (ai (MK _ _))) | exact ai (ai (ai (aj (MK _ _) _))) | exact ai (ai (ai (aj (aj (MK _ _) _) _))))) (by omega) (fun j hj=>MI (P7.o.2.2.2.2.1 j hj) (IL (a:=w7) (by first | exact MK _ _ | exact aj (MK _ _) _ | exact aj (aj (MK _ _) _) _ | exact ai (MK _ _) | exact ai (aj (MK _ _) _) | exact ai (aj (aj (MK _ _) _) _) | exact ai (ai (MK _ _)) | exact ai (ai (aj (MK _ _) _)) | exact ai (ai (aj (aj (MK _ _) _) _)) | exact ai (ai (ai (MK _ _))) | exact ai (ai (ai (aj (MK _ _) _))) | exact ai (ai (ai (aj (aj (MK _ _) _) _)))))) ?_;intro g8 c8 w8 h8 q8 o8;have P8:=aa (Gf (a:=w7) (by first | exact MK _ _ | exact aj (MK _ _) _ | exact aj (aj (MK _ _) _) _ | exact ai (MK _ _) | exact ai (aj (MK _ _) _) | exact ai (aj (aj (MK _ _) _) _) | exact ai (ai (MK _ _)) | exact ai (ai (aj (MK _ _) _)) | exact ai (ai (aj (aj (MK _ _) _) _)) | exact ai (ai (ai (MK _ _))) | exact ai (ai (ai (aj (MK _ _) _))) | exact ai (ai (ai (aj (aj (MK _ _) _) _)))) q8 o8);have P9:=aa h8;have v5:=P8.o.1.cell v1 (by simpa using nXL.o);have v6:=P8.o.1.cell v2 (by simpa using nYL.o);clear h8 q8 o8) | (refine kG (by rfl) _ _ (by rfl) (by rfl) (by rfl) (WR.o.bel (by first | exact MK _ _ | exact aj (MK _ _) _ | exact aj (aj (MK _ _) _) _ | exact ai (MK _ _) | exact ai (aj (MK _ _) _) | exact ai (aj (aj (MK _ _) _) _) | exact ai (ai (MK _ _)) | exact ai (ai (aj (MK _ _) _)) | exact ai (ai (aj (aj (MK _ _) _) _)) | exact ai (ai (ai (MK _ _))) | exact ai (ai (ai (aj (MK _ _) _))) | exact ai (ai (ai (aj (aj (MK _ _) _) _))))) (by first | exact MN _ _ | exact fb _ _ _ | exact et _ _ _) (VY4.o.bel (by first | exact MK _ _ | exact aj (MK _ _) _ | exact aj (aj (MK _ _) _) _ | exact ai (MK _ _) | exact ai (aj (MK _ _) _) | exact ai (aj (aj (MK _ _) _) _) | exact ai (ai (MK _ _)) | exact ai (ai (aj (MK _ _) _)) | exact ai (ai (aj (aj (MK _ _) _) _)) | exact ai (ai (ai (MK _ _))) | exact ai (ai (ai (aj (MK _ _) _))) | exact ai (ai (ai (aj (aj (MK _ _) _) _))))) (by omega) (fun j hj=>MI (LB.o j hj) (IL (a:=w4) (by first | exact MK _ _ | exact aj (MK _ _) _ | exact aj (aj (MK _ _) _) _ | exact ai (MK _ _) | exact ai (aj (MK _ _) _) | exact ai (aj (aj (MK _ _) _) _) | exact ai (ai (MK _ _)) | exact ai (ai (aj (MK _ _) _)) | exact ai (ai (aj (aj (MK _ _) _) _)) | exact ai (ai (ai (MK _ _))) | exact ai (ai (ai (aj (MK _ _) _))) | exact ai (ai (ai (aj (aj (MK _ _) _) _)))))) ?_;intro g7 c7 w7 h7 q7 o7;have P7:Ll _:=aa (midR.o _ _ _ _ (by first | exact MK _ _ | exact aj (MK _ _) _ | exact aj (aj (MK _ _) _) _ | exact ai (MK _ _) | exact ai (aj (MK _ _) _) | exact ai (aj (aj (MK _ _) _) _) | exact ai (ai (MK _ _)) | exact ai (ai (aj (MK _ _) _)) | exact ai (ai (aj (aj (MK _ _) _) _)) | exact ai (ai (ai (MK _ _))) | exact ai (ai (ai (aj (MK _ _) _))) | exact ai (ai (ai (aj (aj (MK _ _) _) _)))) h7 q7 o7);obtain⟨v1,v2,v3,v4⟩:=P7.o.1;have N7:Ll _:=aa P7.o.2.1;clear h7 q7 o7) | (refine kG (by rfl) _ _ (by rfl) (by rfl) (by rfl) (P7.o.2.2.1.bel (by first | exact MK _ _ | exact aj (MK _ _) _ | exact aj (aj (MK _ _) _) _ | exact ai (MK _ _) | exact ai (aj (MK _ _) _) | exact ai (aj (aj (MK _ _) _) _) | exact ai (ai (MK _ _)) | exact ai (ai (aj (MK _ _) _)) | exact ai (ai (aj (aj (MK _ _) _) _)) | exact ai (ai (ai (MK _ _))) | exact ai (ai (ai (aj (MK _ _) _))) | exact ai (ai (ai (aj (aj (MK _ _) _) _))))) (by first | exact MN _ _ | exact N7.o _ _ (by simp) (MN _ _) | exact N7.o _ _ (by simp) (fb _ _ _) | exact N7.o _ _ (by simp) (et _ _ _)) (P7.o.2.2.2.1.bel (by first | exact MK _ _ | exact aj (MK _ _) _ | exact aj (aj (MK _ _) _) _ | exact ai (MK _ _) | exact ai (aj (MK _ _) _) | exact ai (aj (aj (MK _ _) _) _) | exact ai (ai (MK _ _)) | exact ai (ai (aj (MK _ _) _)) | exact ai (ai (aj (aj (MK _ _) _) _)) | exact ai (ai (ai (MK _ _))) | exact ai (ai (ai (aj (MK _ _) _))) | exact ai (ai (ai (aj (aj (MK _ _) _) _))))) (by omega) (fun j hj=>MI (P7.o.2.2.2.2.1 j hj) (IL (a:=w7) (by first | exact MK _ _ | exact aj (MK _ _) _ | exact aj (aj (MK _ _) _) _ | exact ai (MK _ _) | exact ai (aj (MK _ _) _) | exact ai (aj (aj (MK _ _) _) _) | exact ai (ai (MK _ _)) | exact ai (ai (aj (MK _ _) _)) | exact ai (ai (aj (aj (MK _ _) _) _)) | exact ai (ai (ai (MK _ _))) | exact ai (ai (ai (aj (MK _ _) _))) | exact ai (ai (ai (aj (aj (MK _ _) _) _)))))) ?_;intro g8 c8 w8 h8 q8 o8;have P8:=aa (Gf (a:=w7) (by first | exact MK _ _ | exact aj (MK _ _) _ | exact aj (aj (MK _ _) _) _ | exact ai (MK _ _) | exact ai (aj (MK _ _) _) | exact ai (aj (aj (MK _ _) _) _) | exact ai (ai (MK _ _)) | exact ai (ai (aj (MK _ _) _)) | exact ai (ai (aj (aj (MK _ _) _) _)) | exact ai (ai (ai (MK _ _))) | exact ai (ai (ai (aj (MK _ _) _))) | exact ai (ai (ai (aj (aj (MK _ _) _) _)))) q8 o8);have P9:=aa h8;have v5:=P8.o.1.cell v1 (by simpa using nXR.o);have v6:=P8.o.1.cell v2 (by simpa using nYR.o);clear h8 q8 o8))
         all_goals
          go_wp2
          go_roundg (xs.length - (k+1))
          case measure=>rw[GI.o];omega
          case rel=>first
           | exact⟨k+1,hlt,rfl,by go_num,FINL.o _ _ _ _ _ _ P7.o.2.2.2.2.2.1 P7.o.2.2.2.2.2.2.1 P7.o.2.2.2.2.2.2.2 P8.o.1 P9.o P8.o.2⟩
           | exact⟨k+1,hlt,rfl,by go_num,FINR.o _ _ _ _ _ _ P7.o.2.2.2.2.2.1 P7.o.2.2.2.2.2.2.1 P7.o.2.2.2.2.2.2.2 P8.o.1 P9.o P8.o.2⟩
     ·have FIN:Ll ((∃ ls2 rs2,(a=b↔ls2=rs2)/\PL ls2 rs2/\mu ls=mu ls2/\mu ls2<=2000000000001/\SI w ok ok' ia ib ls2 rs2 (.slice (some ⟨gL',0,none⟩) ls.length cL') (.slice (some ⟨gR',0,none⟩) rs.length cR') wr)/\mu ls < M):=by
       obtain⟨j1,j2,j3,j5,j6,j7⟩:=J.o;have l1:xs.drop k=[]:=List.drop_eq_nil_of_le (by omega);have l2:ys.drop k=[]:=List.drop_eq_nil_of_le (by have:=HXY.o;omega);have:=GM.o;exact aa ⟨⟨ls,rs,by rw[j1,l1,l2];simp,j2,rfl,by omega,gL',gR',cL',cR',rfl,rfl,j7⟩,by omega⟩
      have d1:¬(k:Int) < (xs.length:Int):=by omega
      clear i5 i6 J;go_wp2
      go_roundg (mu ls)
      case measure=>rw[GKM.o];exact FIN.o.2
      case rel=>exact FIN.o.1
variable {w w':World}
variable {ok ok':Nat->Prop}
variable {v:Value}
variable {t:V}
variable {g:Nat}
def dB (w:LC) (ok:Nat->Prop) (t:V) (L:List Lz) (v:Value):Prop:=
 ∃ (a1 a2 a3:Option Addr) (c1 c2 c3:Nat),v=.agg #[.int .i64 t.kind,.int .i64 t.n,.string ⟨t.s.toArray⟩,.slice a1 t.keys.length c1,.slice a2 t.l.length c2,.slice a3 L.length c3] /\
  In w ok t (.agg #[.int .i64 t.kind,.int .i64 t.n,.string ⟨t.s.toArray⟩,.slice a1 t.keys.length c1,.slice a2 t.l.length c2])/\ao w ok L (.slice a3 L.length c3)
theorem dB.bel{L}(h:dB w ok t L v)(hb:La w w'):dB w' ok t L v:=by
 obtain⟨a1,a2,a3,c1,c2,c3,rfl,h1,h2⟩:=h;exact⟨a1,a2,a3,c1,c2,c3,rfl,h1.bel hb,h2.imp fun a x h1 h2=>⟨h1,ah hb h2⟩⟩
theorem dB.weak{L}(h:dB w ok t L v)(hk:∀ k,ok k->ok' k):dB w ok' t L v:=by
 obtain⟨a1,a2,a3,c1,c2,c3,rfl,h1,h2⟩:=h;exact⟨a1,a2,a3,c1,c2,c3,rfl,h1.weak hk,h2.imp fun a x h1 h2=>⟨hk _ h1,h2⟩⟩
theorem lr{a b c d e f}{t:TypeId}(h:w.heap[g]?=some (.cells #[a,b,c,d,e,f] t)):w.cell? ⟨g,0,none⟩=some a/\w.cell? ⟨g,1,none⟩=some b/\w.cell? ⟨g,2,none⟩=some c/\w.cell? ⟨g,3,none⟩=some d/\w.cell? ⟨g,4,none⟩=some e/\w.cell? ⟨g,5,none⟩=some f:=by
 refine⟨?_,?_,?_,?_,?_,?_⟩ <;> simp[World.cell?,h]
theorem bR{o:Obj}(hb:La w w')(h:w.heap[g]?=some o):w'.heap[g]?=some o:=(hb.block g (MF.1 h).1).trans h
theorem pN(w:LC)(ok t L v p)(h:dB w ok t L v)(hr:bD L)(hn:L.length < 4611686018427387904):Calls prog 58 #[v,.string ⟨p.toArray⟩] w fun e w'=>e=.returned (.bool (L.contains p))/\La w w':=by
 obtain⟨a1,a2,a3,c1,c2,c3,rfl,h1,h2⟩:=h;have H2:=aa h2;have HR:=aa hr;have HN:=aa hn;have ll:=h2.1;unfold maxLen at ll;clear h1 h2 hr hn;have C:Ll (∀ W,La w W->Calls prog 83 #[.slice a3 L.length c3,.string ⟨p.toArray⟩,.func (.func 48) #[] #[]] W fun e w'=>e=.returned (.tuple #[.int .i64 (L.countP (fun x=>Op.bytesLess x p):Nat),.bool (L.contains p)])/\La W w'):=fun W hW=>yg W ok L _ p (H2.o.imp fun a x h1 h2=>⟨h1,ah hW h2⟩) HR.o HN.o;generalize L.contains p=o at C ⊢;go_enter func58,ntmps58;go_wp2_with (go_at_call 83;refine Lk (C.o _ (ae _ _)) fun w1 hb=>?_)
 go_ret;exact⟨rfl,ab (ae _ _) hb⟩
theorem DV(w:LC)(ok ok' LQ t L v vt p)(h:dB w ok LQ L v)(ht:In w ok' t vt)(hp:p.length<=140737488351232)(hM:bj w)(hc:bN ((dr (aw p) t).getD aM)<=2000000000000):Calls prog 59 #[v,vt,.string ⟨p.toArray⟩] w fun e w'=>e=.returned (.bool (fK LQ t p))/\La w w':=by
 obtain⟨a1,a2,a3,c1,c2,c3,rfl,h1,h2⟩:=h;have HT:=aa ht;have H1:=aa h1;have HM:=aa hM;have HC:=aa hc;obtain⟨b1,b2,d1,d2,rfl⟩:=ht.form;clear ht h1 h2 hM hc;obtain⟨x,hx⟩:∃ x,(dr (aw p) t).getD aM=x:=⟨_,rfl⟩
 obtain⟨y,hy⟩:∃ y,(dr (aw p) LQ).getD aM=y:=⟨_,rfl⟩
 obtain⟨there,hth⟩:∃ b,(dr (aw p) t).isSome=b:=⟨_,rfl⟩
 obtain⟨there2,hth2⟩:∃ b,(dr (aw p) LQ).isSome=b:=⟨_,rfl⟩
 have S1:Ll (∀ W,La w W->Calls prog 56 #[.agg #[.int .i64 t.kind,.int .i64 t.n,.string ⟨t.s.toArray⟩,.slice b1 t.keys.length d1,.slice b2 t.l.length d2],.string ⟨p.toArray⟩] W fun e w'=>∃ r,e=.returned (.tuple #[r,.bool there])/\La W w'/\In w' ok' x r):=fun W hW=>by
  have:=gD W ok' t _ p (HT.o.bel hW) hp (HM.o.bel hW);rw[hx,hth]at this;exact this
 have S2:Ll (∀ W,La w W->Calls prog 56 #[.agg #[.int .i64 LQ.kind,.int .i64 LQ.n,.string ⟨LQ.s.toArray⟩,.slice a1 LQ.keys.length c1,.slice a2 LQ.l.length c2],.string ⟨p.toArray⟩] W fun e w'=>∃ r,e=.returned (.tuple #[r,.bool there2])/\La W w'/\In w' ok y r):=fun W hW=>by
  have:=gD W ok LQ _ p (H1.o.bel hW) hp (HM.o.bel hW);rw[hy,hth2]at this;exact this
 have R1:Ll (there=false->fK LQ t p=true):=fun h9=>by
  unfold fK;cases h8:dr (aw p) t with
  | none=>rfl
  | some z=>rw[h8,h9]at hth;cases hth
 have TS:there=true->dr (aw p) t=some x:=fun h9=>by
  cases h8:dr (aw p) t with
  | none=>rw[h8,h9]at hth;cases hth
  | some z=>rw[h8]at hx;simp at hx;rw[hx]
 have R2:Ll (there=true->(x=y\/x.kind=5/\y.kind=5)->fK LQ t p=false):=fun h9 h8=>FY (TS h9) (by rw[hy];exact h8);have R4:Ll (there=true->¬(x=y\/x.kind=5/\y.kind=5)->fK LQ t p=true):=fun h9 h8=>by
  cases h7:fK LQ t p with
  | true=>rfl
  | false=>
   obtain⟨z,h1,h2⟩:=Ca h7;rw[TS h9]at h1;cases h1;rw[hy]at h2;exact absurd h2 h8
 rw[hx]at HC;clear hx hy hth hth2 TS;have B2:Ll (∀ o1 o2,La w ((w.alloc o1).alloc o2)):=fun o1 o2=>ab (ae _ _) (ae _ _);go_enter func59,ntmps59;go_upto_region 2 with (go_at_call 56;refine(S1.o _ (B2.o _ _)).mono ?_;rintro e w1 ⟨r,rfl,hb1,hr⟩;obtain⟨x1,x2,y1,y2,rfl⟩:=hr.form;have HX:=aa hr;have BW1:=aa hb1;clear hb1 hr)
 obtain⟨WX,hWX⟩:∃ W,W=w1.alloc (.cells #[.int .i64 x.kind,.int .i64 x.n,.string ⟨x.s.toArray⟩,.slice x1 x.keys.length y1,.slice x2 x.l.length y2] 25):=⟨_,rfl⟩
 have BX:Ll (La w1 WX):=aa (by rw[hWX];exact ae _ _);have XB:Ll (ag WX w1.heap.size (.int .i64 x.kind) (.int .i64 x.n) (.string ⟨x.s.toArray⟩) (.slice x1 x.keys.length y1) (.slice x2 x.l.length y2)):=aa (by rw[hWX];exact MN _ _);have XI:=aa (HX.o.bel BX.o);have BW2:=aa (ab (B2.o _ _) (ab BW1.o BX.o));obtain⟨q0,q1,q2,q3,q4,-⟩:=lr (bR (ab BW1.o BX.o) (fb w (.cells #[.int .i64 LQ.kind,.int .i64 LQ.n,.string ⟨LQ.s.toArray⟩,.slice a1 LQ.keys.length c1,.slice a2 LQ.l.length c2,.slice a3 L.length c3] 49) _));rw[<-hWX];clear hWX HX BX BW1;go_upto_region 3 with (go_at_call 56;refine(S2.o _ BW2.o).mono ?_;rintro e w2 ⟨r,rfl,hb2,hr⟩;obtain⟨u1,u2,z1,z2,rfl⟩:=hr.form;have HY:=aa hr;have BY1:=aa hb2;clear hb2 hr)
 obtain⟨WY,hWY⟩:∃ W,W=w2.alloc (.cells #[.int .i64 y.kind,.int .i64 y.n,.string ⟨y.s.toArray⟩,.slice u1 y.keys.length z1,.slice u2 y.l.length z2] 25):=⟨_,rfl⟩
 have BY:Ll (La w2 WY):=aa (by rw[hWY];exact ae _ _);have YB:Ll (ag WY w2.heap.size (.int .i64 y.kind) (.int .i64 y.n) (.string ⟨y.s.toArray⟩) (.slice u1 y.keys.length z1) (.slice u2 y.l.length z2)):=aa (by rw[hWY];exact MN _ _);have YI:=aa (HY.o.bel BY.o);have XI2:=aa (XI.o.bel (ab BY1.o BY.o));have XB2:=aa (af (ab BY1.o BY.o) XB.o);have BW3:=aa (ab BW2.o (ab BY1.o BY.o));rw[<-hWY];clear hWY HY BY BY1 q0 q1 q2 q3 q4 XB XI;have p0_:=XB2.o.c;have r0_:=YB.o.c;cases there with
 | false=>
  have R:=aa (R1.o rfl);go_wp2
  go_ret;exact⟨by rw[R.o];rfl,BW3.o⟩
 | true=>
  have SM:=aa (lP WY ok' ok x y _ _ XI2.o YI.o HC.o);have PB:Ll (∀ W,La WY W->ag W w1.heap.size (.int .i64 x.kind) (.int .i64 x.n) (.string ⟨x.s.toArray⟩) (.slice x1 x.keys.length y1) (.slice x2 x.l.length y2)/\ag W w2.heap.size (.int .i64 y.kind) (.int .i64 y.n) (.string ⟨y.s.toArray⟩) (.slice u1 y.keys.length z1) (.slice u2 y.l.length z2)):=fun W hW=>⟨af hW XB2.o,af hW YB.o⟩;by_cases hxy:x=y
  ·have R:=aa (R2.o rfl (.inl hxy));have HXY:=aa hxy;clear hxy;go_wp2_with (go_at_call 42;refine SM.o.mono ?_;rintro e w3 ⟨r,rfl,hr,hb⟩;have hrt:=hr.2 HXY.o;subst hrt;clear hr;have B3:=aa (ab BW3.o hb);clear hb)
   go_ret;exact⟨by rw[R.o];rfl,B3.o⟩
  ·by_cases hk:x.kind=5
   ·have e1:(x.kind == 5)=true:=by simp[hk]
    by_cases hk2:y.kind=5
    ·have e2:(y.kind == 5)=true:=by simp[hk2]
     have R:=aa (R2.o rfl (.inr ⟨hk,hk2⟩));have NXY:=aa hxy;clear hk hk2 hxy;go_wp2_with (go_at_call 42;refine SM.o.mono ?_;rintro e w3 ⟨r,rfl,hr,hb⟩;have hrt:r=false:=(by cases r;rfl;exact absurd (hr.1 rfl) NXY.o);subst hrt;clear hr;have B3:=aa (ab BW3.o hb);obtain⟨g0,-⟩:=(PB.o _ hb).1.c;obtain⟨g1,-⟩:=(PB.o _ hb).2.c;clear hb)
     go_ret;exact⟨by rw[R.o];rfl,B3.o⟩
    ·have e2:(y.kind == 5)=false:=by rw[MO];exact hk2
     have R:=aa (R4.o rfl (fun h9=>h9.elim hxy (fun h8=>hk2 h8.2)));have NXY:=aa hxy;clear hk hk2 hxy;go_wp2_with (go_at_call 42;refine SM.o.mono ?_;rintro e w3 ⟨r,rfl,hr,hb⟩;have hrt:r=false:=(by cases r;rfl;exact absurd (hr.1 rfl) NXY.o);subst hrt;clear hr;have B3:=aa (ab BW3.o hb);obtain⟨g0,-⟩:=(PB.o _ hb).1.c;obtain⟨g1,-⟩:=(PB.o _ hb).2.c;clear hb)
     go_ret;exact⟨by rw[R.o];rfl,B3.o⟩
   ·have e1:(x.kind == 5)=false:=by rw[MO];exact hk
    have R:=aa (R4.o rfl (fun h9=>h9.elim hxy (fun h8=>hk h8.1)));have NXY:=aa hxy;clear hk hxy;go_wp2_with (go_at_call 42;refine SM.o.mono ?_;rintro e w3 ⟨r,rfl,hr,hb⟩;have hrt:r=false:=(by cases r;rfl;exact absurd (hr.1 rfl) NXY.o);subst hrt;clear hr;have B3:=aa (ab BW3.o hb);obtain⟨g0,-⟩:=(PB.o _ hb).1.c;obtain⟨g1,-⟩:=(PB.o _ hb).2.c;clear hb)
    go_ret;exact⟨by rw[R.o];rfl,B3.o⟩
end Go.Proofs.YtbdlfclnkpofaaaGreatDoor
