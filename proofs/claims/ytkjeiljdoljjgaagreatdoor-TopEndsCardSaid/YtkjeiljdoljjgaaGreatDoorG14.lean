import Derived.Test.YtkjeiljdoljjgaaGreatDoorG4
import Derived.Test.YtkjeiljdoljjgaaGreatDoorG11
import Derived.Test.YtkjeiljdoljjgaaGreatDoorG13
import Derived.Shelf.Spec.SlicesInsertGrow
set_option maxRecDepth 100000
set_option maxHeartbeats 40000000
set_option linter.unusedSimpArgs false
set_option linter.unusedVariables false
namespace Go.Proofs.YtkjeiljdoljjgaaGreatDoor
open Go.RowKit
open _root_.Go.Proofs.Tryz
theorem kM(w:LC)(ok ok' xs ys v1 v2)(h1:ao w ok xs v1)(h2:ao w ok' ys v2):Calls prog 49 #[v1,v2] w fun e w'=>e=.returned (.bool (decide (xs=ys)))/\La w w':=by
 have hm:=h2.1;unfold maxLen at hm;have hm1:=h1.1;unfold maxLen at hm1;obtain⟨a2,c2,e2⟩:=h2.form;rcases h1.2 with⟨rfl,a,rfl⟩ | ⟨b,off,c,rfl,g1,g2,g3⟩
 ·rw[e2];refine LE (Tryz.slices_Equal_string_empty a a2 0 ys.length c2 w hm) ?_;refine⟨?_,MK _ _⟩;congr 2
  cases ys <;> simp
 ·by_cases hl:xs.length=ys.length
  ·rcases h2.2 with⟨rfl,a,e⟩ | ⟨b2,off2,c3,e,f1,f2,f3⟩
   ·have hx:xs=[]:=List.eq_nil_of_length_eq_zero (by simpa using hl);subst hx;rw[e2];refine LE (Tryz.slices_Equal_string_empty _ a2 c 0 c2 w (by omega)) ?_;exact⟨by simp,MK _ _⟩
   ·subst e;refine(Tryz.slices_Equal_string b off xs.length c b2 off2 ys.length c3 (xs.map fun l=>(⟨l.toArray⟩:ByteArray)) (ys.map fun l=>(⟨l.toArray⟩:ByteArray)) w (by simp) (by simp) hm1 hm ?_ ?_).mono ?_
    ·intro j hj;have hj':j < xs.length:=by simpa using hj
     rw[(g3 j xs[j] (Mw hj')).2.2];simp[aR,hj']
    ·intro j hj;have hj':j < ys.length:=by simpa using hj
     rw[(f3 j ys[j] (Mw hj')).2.2];simp[aR,hj']
    ·rintro e w' ⟨rfl,q,rfl⟩;refine⟨?_,⟨rfl,rfl,rfl,MG _,fun _ _=>rfl⟩⟩;congr 2
     rw[MD (by simp),MD (by simp)];have inj:∀ (a b:List Lz),(a.map fun l=>(⟨l.toArray⟩:ByteArray))=(b.map fun l=>(⟨l.toArray⟩:ByteArray))↔a=b:=by
      intro a;induction a with
      | nil=>intro b;cases b <;> simp
      | cons x a ih=>
       intro b;cases b with
       | nil=>simp
       | cons y b=>simp[ih b]
     exact decide_eq_decide.2 (inj xs ys)
  ·rw[e2];refine LE (Tryz.slices_Equal_string_lens _ a2 xs.length c ys.length c2 w hl) ?_;refine⟨?_,MK _ _⟩;congr 2
   have:¬xs=ys:=fun e=>hl (by rw[e]);simp[this]
def eB (a b:V):Bool:=decide (a.kind=b.kind)&&decide (a.n=b.n)&&decide (a.s=b.s)&&decide (a.keys=b.keys)&&decide (a.l.length=b.l.length)
theorem ET(w:LC)(ok ok' a b va vb)(ha:In w ok a va)(hb:In w ok' b vb):Calls prog 37 #[va,vb] w fun e w'=>e=.returned (.bool (eB a b))/\La w w':=by
 obtain⟨l1,l2,l3⟩:=ha.lens;obtain⟨m1,m2,m3⟩:=hb.lens;obtain⟨d1,ha⟩:=ha.at;obtain⟨d2,hb⟩:=hb.at;obtain⟨ks,ls,rfl,-,-,-,h4,h5⟩:=ha;obtain⟨ks',ls',rfl,-,-,-,g4,g5⟩:=hb;have H4:=aa h4;have G4:=aa g4;obtain⟨a1,c1,rfl⟩:=h4.form;obtain⟨a2,c2,rfl⟩:=h5.form;obtain⟨a3,c3,rfl⟩:=g4.form;obtain⟨a4,c4,rfl⟩:=g5.form;clear h4 h5 g4 g5;unfold aR;have B2:Ll (∀ o1 o2,La w ((w.alloc o1).alloc o2)):=fun o1 o2=>ab (ae _ _) (ae _ _);by_cases e1:a.kind=b.kind
 ·have q1:(a.kind == b.kind)=true:=by rw[beq_iff_eq];exact e1
  by_cases e2:a.n=b.n
  ·have q2:(a.n == b.n)=true:=by rw[beq_iff_eq];exact e2
   by_cases e3:a.s=b.s
   ·have q3:(a.s == b.s)=true:=by rw[beq_iff_eq];exact e3
    have HE:Ll (eB a b=(decide (a.keys=b.keys)&&decide (a.l.length=b.l.length))):=aa (by simp[eB,e1,e2,e3]);clear e1 e2 e3;cases hk:decide (a.keys=b.keys) with
    | true=>
     by_cases hl:a.l.length=b.l.length
     ·have q4:((a.l.length:Int) == (b.l.length:Int))=true:=by rw[hl];simp
      have HR:Ll (eB a b=true):=aa (by rw[HE.o,hk];simp[hl]);have HK:=aa hk;clear hk hl;go_enter func37,ntmps37;go_wp2_with fail
      refine Lk (kM _ _ _ a.keys b.keys _ _ (by exact H4.o.bel (B2.o _ _)) (by exact G4.o.bel (B2.o _ _))) fun w1 hb1=>?_;rw[HK.o];have p4:=(af hb1 (fb w _ _)).c.2.2.2.2.1;have r4:=(af hb1 (et w _ _)).c.2.2.2.2.1;have HB:=aa (ab (B2.o _ _) hb1);clear hb1;go_wp2_with fail
      go_ret;exact⟨by rw[HR.o];rfl,HB.o⟩
     ·have q4:((a.l.length:Int) == (b.l.length:Int))=false:=by rw[MO];omega
      have HR:Ll (eB a b=false):=aa (by rw[HE.o,hk];simp[hl]);have HK:=aa hk;clear hk hl;go_enter func37,ntmps37;go_wp2_with fail
      refine Lk (kM _ _ _ a.keys b.keys _ _ (by exact H4.o.bel (B2.o _ _)) (by exact G4.o.bel (B2.o _ _))) fun w1 hb1=>?_;rw[HK.o];have p4:=(af hb1 (fb w _ _)).c.2.2.2.2.1;have r4:=(af hb1 (et w _ _)).c.2.2.2.2.1;have HB:=aa (ab (B2.o _ _) hb1);clear hb1;go_wp2_with fail
      go_ret;exact⟨by rw[HR.o];rfl,HB.o⟩
    | false=>
     have HR:Ll (eB a b=false):=aa (by rw[HE.o,hk];rfl);have HK:=aa hk;clear hk;go_enter func37,ntmps37;go_wp2_with fail
     refine Lk (kM _ _ _ a.keys b.keys _ _ (by exact H4.o.bel (B2.o _ _)) (by exact G4.o.bel (B2.o _ _))) fun w1 hb1=>?_;rw[HK.o];have HB:=aa (ab (B2.o _ _) hb1);clear hb1;go_wp2_with fail
     go_ret;exact⟨by rw[HR.o];rfl,HB.o⟩
   ·have q3:(a.s == b.s)=false:=by rw[MO];exact e3
    have HR:Ll (eB a b=false):=aa (by simp[eB,e3]);clear e1 e2 e3;go_enter func37,ntmps37;go_wp2_with fail
    go_ret;exact⟨by rw[HR.o];rfl,B2.o _ _⟩
  ·have q2:(a.n == b.n)=false:=by rw[MO];exact e2
   have HR:Ll (eB a b=false):=aa (by simp[eB,e2]);clear e1 e2;go_enter func37,ntmps37;go_wp2_with fail
   go_ret;exact⟨by rw[HR.o];rfl,B2.o _ _⟩
 ·have q1:(a.kind == b.kind)=false:=by rw[MO];exact e1
  have HR:Ll (eB a b=false):=aa (by simp[eB,e1]);clear e1;go_enter func37,ntmps37;go_wp2_with fail
  go_ret;exact⟨by rw[HR.o];rfl,B2.o _ _⟩
variable {y x:V}
theorem qA(h:eB x y=true):(x=y↔x.l=y.l)/\y.l.length=x.l.length:=by
 simp only[eB,MJ,decide_eq_true_eq]at h;obtain⟨⟨⟨⟨h1,h2⟩,h3⟩,h4⟩,h5⟩:=h;refine⟨⟨fun e=>by rw[e],fun e=>?_⟩,h5.symm⟩;rw[<-Ai x,<-Ai y,h1,h2,h3,h4,e]
theorem Gg(h:eB x y=false):x≠y:=by
 rintro rfl;simp[eB]at h
theorem lP(w:LC)(ok ok' a b va vb)(ha:In w ok a va)(hb:In w ok' b vb)(hN:fa a<=2000000000000):Calls prog 24 #[va,vb] w fun e w'=>Je w a b e w':=by
 have HA:=aa ha;have HB:=aa hb;obtain⟨a1,a2,c1,c2,rfl⟩:=ha.form;obtain⟨a3,a4,c3,c4,rfl⟩:=hb.form;clear ha hb;go_enter func24,ntmps24;go_upto_region 1 with fail
 go_cut [5,6] (fun lv rv wc=>∃ ia ib,SI w ok ok' ia ib [[a]] [[b]] lv rv wc)
 case first=>
  go_region
  all_goals
   go_wp2_with fail
   go_meet
   case rel=>
    first
     | exact⟨w.heap.size+2,w.heap.size+4,iU HA.o HB.o (by repeat(first | exact MK _ _ | refine ai ?_ | refine aj ?_ _)) (bI w _ _ _ _ _ _ 3 (by decide)) (bI w _ _ _ _ _ _ 5 (by decide)) (bI w _ _ _ _ _ _ 2 (by decide)) (bI w _ _ _ _ _ _ 4 (by decide)) (by refine⟨?_,?_,?_,?_,?_,?_,?_⟩ <;> omega)⟩
     | exact⟨w.heap.size+2,w.heap.size+3,iU HA.o HB.o (by repeat(first | exact MK _ _ | refine ai ?_ | refine aj ?_ _)) (bI w _ _ _ _ _ _ 4 (by decide)) (bI w _ _ _ _ _ _ 5 (by decide)) (bI w _ _ _ _ _ _ 2 (by decide)) (bI w _ _ _ _ _ _ 3 (by decide)) (by refine⟨?_,?_,?_,?_,?_,?_,?_⟩ <;> omega)⟩
     | exact⟨w.heap.size+2,w.heap.size+3,iU HA.o HB.o (by repeat(first | exact MK _ _ | refine ai ?_ | refine aj ?_ _)) (bI w _ _ _ _ _ _ 5 (by decide)) (bI w _ _ _ _ _ _ 4 (by decide)) (bI w _ _ _ _ _ _ 2 (by decide)) (bI w _ _ _ _ _ _ 3 (by decide)) (by refine⟨?_,?_,?_,?_,?_,?_,?_⟩ <;> omega)⟩
     | exact⟨w.heap.size+3,w.heap.size+2,iU HA.o HB.o (by repeat(first | exact MK _ _ | refine ai ?_ | refine aj ?_ _)) (bI w _ _ _ _ _ _ 4 (by decide)) (bI w _ _ _ _ _ _ 5 (by decide)) (bI w _ _ _ _ _ _ 3 (by decide)) (bI w _ _ _ _ _ _ 2 (by decide)) (by refine⟨?_,?_,?_,?_,?_,?_,?_⟩ <;> omega)⟩
     | exact⟨w.heap.size+3,w.heap.size+2,iU HA.o HB.o (by repeat(first | exact MK _ _ | refine ai ?_ | refine aj ?_ _)) (bI w _ _ _ _ _ _ 5 (by decide)) (bI w _ _ _ _ _ _ 4 (by decide)) (bI w _ _ _ _ _ _ 3 (by decide)) (bI w _ _ _ _ _ _ 2 (by decide)) (by refine⟨?_,?_,?_,?_,?_,?_,?_⟩ <;> omega)⟩
     | exact⟨w.heap.size+4,w.heap.size+2,iU HA.o HB.o (by repeat(first | exact MK _ _ | refine ai ?_ | refine aj ?_ _)) (bI w _ _ _ _ _ _ 5 (by decide)) (bI w _ _ _ _ _ _ 3 (by decide)) (bI w _ _ _ _ _ _ 4 (by decide)) (bI w _ _ _ _ _ _ 2 (by decide)) (by refine⟨?_,?_,?_,?_,?_,?_,?_⟩ <;> omega)⟩
 case rest=>
  obtain⟨ia,ib,hS⟩:=hcut;have S0:=aa hS;clear hS;go_wp2_with fail
  go_loopg [5,6] (1+fa a) (fun gk lv rv wr=>∃ ls rs,(a=b↔ls=rs)/\PL ls rs/\gk=mu ls/\mu ls<=2000000000001/\SI w ok ok' ia ib ls rs lv rv wr)
  case atStart=>exact⟨[[a]],[[b]],⟨fun e=>by rw[e],fun e=>by simpa using e⟩,⟨rfl,fun j l r h1 h2=>by cases j <;> simp at h1 h2;rw[<-h1,<-h2];rfl⟩,by simp[mu,qf,er],by simp[mu,qf,er];omega,S0.o⟩
  case round=>
   obtain⟨ls,rs,hiff,hpl,hgk,hM,hSI⟩:=hrel;rcases Kx ls with rfl | ⟨ms,xs,rfl⟩
   ·obtain⟨gL,gR,cL,cR,rfl,rfl,hSE⟩:=hSI;have hSB:=hSE.2.2.2.2.2.2.2.2.2;have R:Ll (a=b/\La w wr):=aa ⟨hiff.2 (List.eq_nil_of_length_eq_zero (by simpa using hpl.1)).symm,hSB⟩;clear hiff hpl hgk hM hSE hSB;have e0:([]:List (List V)).length=0:=rfl;rw[e0];go_wp2_with fail
    go_ret;exact⟨true,rfl,⟨fun _=>R.o.1,fun _=>rfl⟩,R.o.2⟩
   ·obtain⟨qs,ys,rfl,hpl',hxy⟩:=hpl.pop;obtain⟨gL,gR,cL,cR,rfl,rfl,hL,hR,n1,n2,n3,n4,n5,n6,n7,hBw⟩:=hSI;obtain⟨xv,px,vx,hL'⟩:=hL.pop;obtain⟨yv,py,vy,hR'⟩:=hR.pop;obtain⟨M,hgM⟩:∃ M,gk=M:=⟨_,rfl⟩
    rw[hgM]at hgk;have GKM:=aa hgM;clear hgM;have hq:qs.length=ms.length:=hpl'.1;rw[hq]at py;have J0:Ll (SJ w ok ok' ia ib a b xs ys xv yv M 0 (.slice (some ⟨gL,0,none⟩) ms.length cL) (.slice (some ⟨gR,0,none⟩) ms.length cR) wr):=aa ⟨ms,qs,by rw[hiff,mZ];simp,hpl',by rw[hgk,sP];simp;omega,by omega,vx,vy,gL,gR,cL,cR,rfl,by rw[hq],hL',hR',n1,n2,n3,n4,n5,n6,n7,hBw⟩;have zL:=hL.cap;have zR:=hR.cap;have eL:(ms++[xs]).length=ms.length+1:=by simp
    have eR:(qs++[ys]).length=ms.length+1:=by simp[hq]
    rw[eL]at zL ⊢;rw[eR]at zR ⊢;obtain⟨z1,z2⟩:=zL;obtain⟨z3,z4⟩:=zR;obtain⟨xa,xc,rfl⟩:=vx.form;obtain⟨ya,yc,rfl⟩:=vy.form;have lx:=vx.len;have HXY:=aa hxy;have GM:Ll (M<=2000000000001):=aa (by rw[hgk];exact hM);clear hiff hpl hpl' hL hR hL' hR' hgk hM vx vy n1 n2 n3 n4 n5 n6 n7 hBw eL eR hq hxy;have y1:(0:Int)<=(ms.length:Int):=by omega
    have y2:(ms.length:Int) < ((ms.length+1:Nat):Int):=by omega
    have y3:(ms.length:Int)<=(cL:Int):=by omega
    have y4:(ms.length:Int)<=(cR:Int):=by omega
    go_wp2_with fail
    go_quiet (fail)
    go_wp2_with fail
    go_quiet (fail)
    go_wp2_with fail
    go_loopg [5,6,39] xs.length (fun gi lv rv i wi=>∃ k:Nat,k<=xs.length/\gi=xs.length - k/\i=.int .i64 k/\SJ w ok ok' ia ib a b xs ys (.slice xa xs.length xc) (.slice ya ys.length yc) M k lv rv wi)
    case atStart=>exact⟨0,Nat.zero_le _,rfl,rfl,by first | exact J0.o | exact J0.o.bel (aC _ _) | exact J0.o.bel (MK _ _)⟩
    case round=>
     obtain⟨k,hk,hgi,rfl,ls,rs,i1,i2,i3,i4,i5,i6,gL',gR',cL',cR',rfl,rfl,i7⟩:=hrel;have GI:=aa hgi;have J:Ll ((a=b↔ls=rs/\xs.drop k=ys.drop k)/\PL ls rs/\mu ls+cnts (xs.drop k)+1<=M/\bJ wr (kw ok w.heap.size ia) xs (.slice xa xs.length xc)/\bJ wr (kw ok' w.heap.size ib) ys (.slice ya ys.length yc)/\SE w ok ok' ia ib ls rs gL' gR' cL' cR' wr):=aa ⟨i1,i2,i3,i5,i6,i7⟩;clear hgi i1 i2 i3 i4 i7;by_cases hlt:k < xs.length
     ·have hlt':k < ys.length:=by have:=HXY.o;omega
      obtain⟨xb,xo,p5,q5,p6,q6,rfl,x1,x2,g0,g1,g2,g3,g4,g5⟩:=i5.item hlt;obtain⟨yb,yo,p7,q7,p8,q8,rfl,x3,x4,f0,f1,f2,f3,f4,f5⟩:=i6.item hlt';clear i5 i6;have w1:(0:Int)<=(k:Int):=by omega
      have w2:(k:Int) < (xs.length:Int):=by omega
      have w3:(k:Int) < (ys.length:Int):=by omega
      have CALL:Ll (∀ w',La wr w'->Calls prog 37 #[.agg #[.int .i64 xs[k].kind,.int .i64 xs[k].n,.string ⟨xs[k].s.toArray⟩,.slice p5 xs[k].keys.length q5,.slice p6 xs[k].l.length q6],.agg #[.int .i64 ys[k].kind,.int .i64 ys[k].n,.string ⟨ys[k].s.toArray⟩,.slice p7 ys[k].keys.length q7,.slice p8 ys[k].l.length q8]] w' fun e w4=>e=.returned (.bool (eB xs[k] ys[k]))/\La wr w4 /\
       w4.cell? ⟨xb,xo+k * 5,none⟩=some (.int .i64 xs[k].kind)/\w4.cell? ⟨xb,xo+k * 5+1,none⟩=some (.int .i64 xs[k].n)/\w4.cell? ⟨xb,xo+k * 5+2,none⟩=some (.string ⟨xs[k].s.toArray⟩)/\w4.cell? ⟨xb,xo+k * 5+3,none⟩=some (.slice p5 xs[k].keys.length q5)/\w4.cell? ⟨xb,xo+k * 5+4,none⟩=some (.slice p6 xs[k].l.length q6)/\w4.cell? ⟨yb,yo+k * 5,none⟩=some (.int .i64 ys[k].kind)/\w4.cell? ⟨yb,yo+k * 5+1,none⟩=some (.int .i64 ys[k].n)/\w4.cell? ⟨yb,yo+k * 5+2,none⟩=some (.string ⟨ys[k].s.toArray⟩)/\w4.cell? ⟨yb,yo+k * 5+3,none⟩=some (.slice p7 ys[k].keys.length q7)/\w4.cell? ⟨yb,yo+k * 5+4,none⟩=some (.slice p8 ys[k].l.length q8)):=by
       intro w' hb';refine Lk (ET w' _ _ xs[k] ys[k] _ _ (g5.bel hb') (f5.bel hb')) fun w4 hb4=>?_;have hb5:=ab hb' hb4;exact⟨rfl,hb5,ah hb5 g0,ah hb5 g1,ah hb5 g2,ah hb5 g3,ah hb5 g4,ah hb5 f0,ah hb5 f1,ah hb5 f2,ah hb5 f3,ah hb5 f4⟩
      have VX:=aa g5.vals;have VY:=aa f5.vals;clear g5 f5;go_wp2_with fail
      go_region_held3 (fun w4=>w4.cell? ⟨xb,xo+k * 5,none⟩=some (.int .i64 xs[k].kind)/\w4.cell? ⟨xb,xo+k * 5+1,none⟩=some (.int .i64 xs[k].n)/\w4.cell? ⟨xb,xo+k * 5+2,none⟩=some (.string ⟨xs[k].s.toArray⟩)/\w4.cell? ⟨xb,xo+k * 5+3,none⟩=some (.slice p5 xs[k].keys.length q5)/\w4.cell? ⟨xb,xo+k * 5+4,none⟩=some (.slice p6 xs[k].l.length q6)/\w4.cell? ⟨yb,yo+k * 5,none⟩=some (.int .i64 ys[k].kind)/\w4.cell? ⟨yb,yo+k * 5+1,none⟩=some (.int .i64 ys[k].n)/\w4.cell? ⟨yb,yo+k * 5+2,none⟩=some (.string ⟨ys[k].s.toArray⟩)/\w4.cell? ⟨yb,yo+k * 5+3,none⟩=some (.slice p7 ys[k].keys.length q7)/\w4.cell? ⟨yb,yo+k * 5+4,none⟩=some (.slice p8 ys[k].l.length q8)) (go_keep)
       (first | (go_at_call 37;refine(CALL.o _ (by exact⟨rfl,rfl,rfl,MG _,fun _ _=>rfl⟩)).mono ?_;rintro e w4 ⟨rfl,hb4,s0,s1,s2,s3,s4,r0,r1,r2,r3,r4⟩))
      all_goals
       have HB4:=aa hb4;have E4:=aa (J.o.2.2.2.2.2.bel hb4);clear hb4 g0 g1 g2 g3 g4 f0 f1 f2 f3 f4 CALL s0 s1 s2 s3 r0 r1 r2 r3;cases hr:eB xs[k] ys[k] with
       | false=>
        have R:Ll ((¬a=b)/\La w w4):=aa ⟨fun e=>absurd ((kK hlt hlt').1 (J.o.1.1 e).2).1 (Gg hr),E4.o.2.2.2.2.2.2.2.2.2⟩;clear hr s4 r4;go_wp2_with fail
        go_ret;exact⟨false,rfl,⟨fun e=>absurd e Bool.false_ne_true,fun e=>absurd e R.o.1⟩,R.o.2⟩
       | true=>
        have HR:=aa hr;clear hr;by_cases h0:xs[k].l.length=0
        ·have d0:¬(0:Int) < (xs[k].l.length:Int):=by omega
         have FIN:Ll (SJ w ok ok' ia ib a b xs ys (.slice (some ⟨xb,xo,none⟩) xs.length xc) (.slice (some ⟨yb,yo,none⟩) ys.length yc) M (k+1) (.slice (some ⟨gL',0,none⟩) ls.length cL') (.slice (some ⟨gR',0,none⟩) rs.length cR') w4):=by
          obtain⟨j1,j2,j3,j5,j6,j7⟩:=J.o;have he:=qA HR.o;have e1:xs[k].l=[]:=List.eq_nil_of_length_eq_zero h0;have e2:ys[k].l=[]:=List.eq_nil_of_length_eq_zero (by rw[he.2,h0]);have e3:xs[k]=ys[k]:=he.1.2 (by rw[e1,e2]);have e4:=iV hlt;exact aa ⟨ls,rs,by rw[j1,kK hlt hlt'];simp[e3],j2,by omega,GM.o,j5.bel HB4.o,j6.bel HB4.o,gL',gR',cL',cR',rfl,rfl,E4.o⟩
         clear h0 r4;go_wp2_with fail
         go_roundg (xs.length - (k+1))
         case measure=>rw[GI.o];omega
         case rel=>exact⟨k+1,hlt,rfl,by go_num,FIN.o⟩
        ·have d0:(0:Int) < (xs[k].l.length:Int):=by omega
         have WL:Ll (ev w4 w.heap.size (kw ok w.heap.size ia) ls gL' cL'):=aa E4.o.1;have WR:Ll (ev w4 w.heap.size (kw ok' w.heap.size ib) rs gR' cR'):=aa E4.o.2.1;have VX4:Ll (bJ w4 (kw ok w.heap.size ia) xs[k].l (.slice p6 xs[k].l.length q6)):=VX.o.bel HB4.o;have VY4:Ll (bJ w4 (kw ok' w.heap.size ib) ys[k].l (.slice p8 ys[k].l.length q8)):=VY.o.bel HB4.o;have LA:=aa E4.o.lows;have LB:=aa E4.o.swap.lows;have gL4:Ll (gL' < w4.heap.size):=aa E4.o.1.lt.2;have gR4:Ll (gR' < w4.heap.size):=aa E4.o.2.1.lt.2;have nLR:Ll (gR'≠gL'):=aa E4.o.2.2.1.symm;have nRL:Ll (gL'≠gR'):=aa E4.o.2.2.1;have nLB:Ll (∀ j,(kw ok' w.heap.size ib) j->j≠gL'):=iL E4.o.1.lt.1 E4.o.2.2.2.2.2.1;have nRA:Ll (∀ j,(kw ok w.heap.size ia) j->j≠gR'):=iL E4.o.2.1.lt.1 E4.o.2.2.2.2.1;have nXL:Ll (xb≠gL'):=iL E4.o.1.lt.1 E4.o.2.2.2.1 _ (J.o.2.2.2.1.blk hlt);have nXR:Ll (xb≠gR'):=nRA.o _ (J.o.2.2.2.1.blk hlt);have nYL:Ll (yb≠gL'):=nLB.o _ (J.o.2.2.2.2.1.blk hlt');have nYR:Ll (yb≠gR'):=iL E4.o.2.1.lt.1 E4.o.2.2.2.2.2.2.1 _ (J.o.2.2.2.2.1.blk hlt');have nls:ls.length<=5000000000000:=by have:=Jo ls;have:=J.o.2.2.1;have:=GM.o;omega
         have nrs:rs.length<=5000000000000:=by have:=J.o.2.1.1;omega
         have midL:Ll (∀ (W w7:LC) (g7 c7:Nat),La w4 W->ev w7 w.heap.size (kw ok w.heap.size ia) (ls++[xs[k].l]) g7 c7->W.grownBy w7 (some gL')->(g7=gL'\/W.heap.size=g7) ->
          (w7.cell? ⟨xb,xo+k * 5+4,none⟩=some (.slice p6 xs[k].l.length q6)/\w7.cell? ⟨yb,yo+k * 5+4,none⟩=some (.slice p8 ys[k].l.length q8)/\(∀ o,(w7.alloc o).cell? ⟨xb,xo+k * 5+4,none⟩=some (.slice p6 xs[k].l.length q6))/\(∀ o,(w7.alloc o).cell? ⟨yb,yo+k * 5+4,none⟩=some (.slice p8 ys[k].l.length q8))) /\
          (∀ nb o,w4.heap.size<=nb->W.heap[nb]?=some o->w7.heap[nb]?=some o)/\ev w7 w.heap.size (kw ok' w.heap.size ib) rs gR' cR'/\bJ w7 (kw ok' w.heap.size ib) ys[k].l (.slice p8 ys[k].l.length q8)/\(∀ j,(kw ok' w.heap.size ib) j->j < w7.heap.size) /\
          w4.grownBy w7 (some gL')/\ev w7 w.heap.size (kw ok w.heap.size ia) (ls++[xs[k].l]) g7 c7/\(g7=gL'\/w4.heap.size<=g7)):=by
          intro W w7 g7 c7 b1 h7 q7 o7;have G:w4.grownBy w7 (some gL'):=am (aq b1) q7;have cx:=G.cell s4 (by simpa using nXL.o);have cy:=G.cell r4 (by simpa using nYL.o);refine⟨⟨cx,cy,fun o=>ah (ae w7 o) cx,fun o=>ah (ae w7 o) cy⟩,fun nb o hn ho=>(q7.block nb (MF.1 ho).1 (by simp;have:=gL4.o;omega)).trans ho,WR.o.far G nLR.o nLB.o,VY4.o.grown G nLB.o,fun j hj=>MI (LB.o j hj) G.size,G,h7,o7.imp id fun e=>by have:=b1.size;omega⟩
         have midR:Ll (∀ (W w7:LC) (g7 c7:Nat),La w4 W->ev w7 w.heap.size (kw ok' w.heap.size ib) (rs++[ys[k].l]) g7 c7->W.grownBy w7 (some gR')->(g7=gR'\/W.heap.size=g7) ->
          (w7.cell? ⟨xb,xo+k * 5+4,none⟩=some (.slice p6 xs[k].l.length q6)/\w7.cell? ⟨yb,yo+k * 5+4,none⟩=some (.slice p8 ys[k].l.length q8)/\(∀ o,(w7.alloc o).cell? ⟨xb,xo+k * 5+4,none⟩=some (.slice p6 xs[k].l.length q6))/\(∀ o,(w7.alloc o).cell? ⟨yb,yo+k * 5+4,none⟩=some (.slice p8 ys[k].l.length q8))) /\
          (∀ nb o,w4.heap.size<=nb->W.heap[nb]?=some o->w7.heap[nb]?=some o)/\ev w7 w.heap.size (kw ok w.heap.size ia) ls gL' cL'/\bJ w7 (kw ok w.heap.size ia) xs[k].l (.slice p6 xs[k].l.length q6)/\(∀ j,(kw ok w.heap.size ia) j->j < w7.heap.size) /\
          w4.grownBy w7 (some gR')/\ev w7 w.heap.size (kw ok' w.heap.size ib) (rs++[ys[k].l]) g7 c7/\(g7=gR'\/w4.heap.size<=g7)):=by
          intro W w7 g7 c7 b1 h7 q7 o7;have G:w4.grownBy w7 (some gR'):=am (aq b1) q7;have cx:=G.cell s4 (by simpa using nXR.o);have cy:=G.cell r4 (by simpa using nYR.o);refine⟨⟨cx,cy,fun o=>ah (ae w7 o) cx,fun o=>ah (ae w7 o) cy⟩,fun nb o hn ho=>(q7.block nb (MF.1 ho).1 (by simp;have:=gR4.o;omega)).trans ho,WL.o.far G nRL.o nRA.o,VX4.o.grown G nRA.o,fun j hj=>MI (LA.o j hj) G.size,G,h7,o7.imp id fun e=>by have:=b1.size;omega⟩
         have FINL:Ll (∀ (g7 c7 g8 c8:Nat) (w7 w8:LC),w4.grownBy w7 (some gL')->ev w7 w.heap.size (kw ok w.heap.size ia) (ls++[xs[k].l]) g7 c7->(g7=gL'\/w4.heap.size<=g7)->w7.grownBy w8 (some gR')->ev w8 w.heap.size (kw ok' w.heap.size ib) (rs++[ys[k].l]) g8 c8->(g8=gR'\/w7.heap.size<=g8) ->
          SJ w ok ok' ia ib a b xs ys (.slice (some ⟨xb,xo,none⟩) xs.length xc) (.slice (some ⟨yb,yo,none⟩) ys.length yc) M (k+1) (.slice (some ⟨g7,0,none⟩) (ls.length+1) c7) (.slice (some ⟨g8,0,none⟩) (rs.length+1) c8) w8):=by
          intro g7 c7 g8 c8 w7 w8 q7 h7 o7 q8 h8 o8;obtain⟨j1,j2,j3,j5,j6,j7⟩:=J.o;have he:=qA HR.o;have e4:=iV hlt;have e5:=df xs[k];refine⟨ls++[xs[k].l],rs++[ys[k].l],by rw[j1,kK hlt hlt',mZ,he.1,and_assoc],j2.push he.2,by rw[sP];omega,GM.o,((j5.bel HB4.o).grown q7 ?_).grown q8 nRA.o,((j6.bel HB4.o).grown q7 nLB.o).grown q8 ?_,g7,g8,c7,c8,by simp,by simp,vJ E4.o q7 h7 o7 q8 h8 o8⟩
          ·exact iL E4.o.1.lt.1 E4.o.2.2.2.1
          ·exact iL E4.o.2.1.lt.1 E4.o.2.2.2.2.2.2.1
         have FINR:Ll (∀ (g7 c7 g8 c8:Nat) (w7 w8:LC),w4.grownBy w7 (some gR')->ev w7 w.heap.size (kw ok' w.heap.size ib) (rs++[ys[k].l]) g7 c7->(g7=gR'\/w4.heap.size<=g7)->w7.grownBy w8 (some gL')->ev w8 w.heap.size (kw ok w.heap.size ia) (ls++[xs[k].l]) g8 c8->(g8=gL'\/w7.heap.size<=g8) ->
          SJ w ok ok' ia ib a b xs ys (.slice (some ⟨xb,xo,none⟩) xs.length xc) (.slice (some ⟨yb,yo,none⟩) ys.length yc) M (k+1) (.slice (some ⟨g8,0,none⟩) (ls.length+1) c8) (.slice (some ⟨g7,0,none⟩) (rs.length+1) c7) w8):=by
          intro g7 c7 g8 c8 w7 w8 q7 h7 o7 q8 h8 o8;obtain⟨j1,j2,j3,j5,j6,j7⟩:=J.o;have he:=qA HR.o;have e4:=iV hlt;have e5:=df xs[k];refine⟨ls++[xs[k].l],rs++[ys[k].l],by rw[j1,kK hlt hlt',mZ,he.1,and_assoc],j2.push he.2,by rw[sP];omega,GM.o,((j5.bel HB4.o).grown q7 nRA.o).grown q8 ?_,((j6.bel HB4.o).grown q7 ?_).grown q8 nLB.o,g8,g7,c8,c7,by simp,by simp,(vJ E4.o.swap q7 h7 o7 q8 h8 o8).swap⟩
          ·exact iL E4.o.1.lt.1 E4.o.2.2.2.1
          ·exact iL E4.o.2.1.lt.1 E4.o.2.2.2.2.2.2.1
         have s5:∀ o,(w4.alloc o).cell? ⟨xb,xo+k * 5+4,none⟩=some (.slice p6 xs[k].l.length q6):=fun o=>ah (ae w4 o) s4;have r5:∀ o,(w4.alloc o).cell? ⟨yb,yo+k * 5+4,none⟩=some (.slice p8 ys[k].l.length q8):=fun o=>ah (ae w4 o) r4;have s6:∀ o o',((w4.alloc o).alloc o').cell? ⟨xb,xo+k * 5+4,none⟩=some (.slice p6 xs[k].l.length q6):=fun o o'=>ah (ae _ o') (s5 o);have r6:∀ o o',((w4.alloc o).alloc o').cell? ⟨yb,yo+k * 5+4,none⟩=some (.slice p8 ys[k].l.length q8):=fun o o'=>ah (ae _ o') (r5 o);clear h0;go_upto_region 12 with fail
         go_region_held3 (fun w'=>w'.cell? ⟨xb,xo+k * 5+4,none⟩=some (.slice p6 xs[k].l.length q6)/\w'.cell? ⟨yb,yo+k * 5+4,none⟩=some (.slice p8 ys[k].l.length q8)) (go_keep)
          (first | (refine kG (by rfl) _ _ (by rfl) (by rfl) (by rfl) (WL.o.bel (by first | exact MK _ _ | exact aj (MK _ _) _ | exact aj (aj (MK _ _) _) _ | exact ai (MK _ _) | exact ai (aj (MK _ _) _) | exact ai (aj (aj (MK _ _) _) _) | exact ai (ai (MK _ _)) | exact ai (ai (aj (MK _ _) _)) | exact ai (ai (aj (aj (MK _ _) _) _)) | exact ai (ai (ai (MK _ _))) | exact ai (ai (ai (aj (MK _ _) _))) | exact ai (ai (ai (aj (aj (MK _ _) _) _))))) (by first | exact MN _ _ | exact fb _ _ _ | exact et _ _ _) (VX4.o.bel (by first | exact MK _ _ | exact aj (MK _ _) _ | exact aj (aj (MK _ _) _) _ | exact ai (MK _ _) | exact ai (aj (MK _ _) _) | exact ai (aj (aj (MK _ _) _) _) | exact ai (ai (MK _ _)) | exact ai (ai (aj (MK _ _) _)) | exact ai (ai (aj (aj (MK _ _) _) _)) | exact ai (ai (ai (MK _ _))) | exact ai (ai (ai (aj (MK _ _) _))) | exact ai (ai (ai (aj (aj (MK _ _) _) _))))) (by omega) (fun j hj=>MI (LA.o j hj) (IL (a:=w4) (by first | exact MK _ _ | exact aj (MK _ _) _ | exact aj (aj (MK _ _) _) _ | exact ai (MK _ _) | exact ai (aj (MK _ _) _) | exact ai (aj (aj (MK _ _) _) _) | exact ai (ai (MK _ _)) | exact ai (ai (aj (MK _ _) _)) | exact ai (ai (aj (aj (MK _ _) _) _)) | exact ai (ai (ai (MK _ _))) | exact ai (ai (ai (aj (MK _ _) _))) | exact ai (ai (ai (aj (aj (MK _ _) _) _)))))) ?_;intro g7 c7 w7 h7 q7 o7;have P7:Ll _:=aa (midL.o _ _ _ _ (by first | exact MK _ _ | exact aj (MK _ _) _ | exact aj (aj (MK _ _) _) _ | exact ai (MK _ _) | exact ai (aj (MK _ _) _) | exact ai (aj (aj (MK _ _) _) _) | exact ai (ai (MK _ _)) | exact ai (ai (aj (MK _ _) _)) | exact ai (ai (aj (aj (MK _ _) _) _)) | exact ai (ai (ai (MK _ _))) | exact ai (ai (ai (aj (MK _ _) _))) | exact ai (ai (ai (aj (aj (MK _ _) _) _)))) h7 q7 o7);obtain⟨v1,v2,v3,v4⟩:=P7.o.1;have N7:Ll _:=aa P7.o.2.1;clear h7 q7 o7) | (refine kG (by rfl) _ _ (by rfl) (by rfl) (by rfl) (P7.o.2.2.1.bel (by first | exact MK _ _ | exact aj (MK _ _) _ | exact aj (aj (MK _ _) _) _ | exact ai (MK _ _) | exact ai (aj (MK _ _) _) | exact ai (aj (aj (MK _ _) _) _) | exact ai (ai (MK _ _)) | exact ai (ai (aj (MK _ _) _)) | exact ai (ai (aj (aj (MK _ _) _) _)) | exact ai (ai (ai (MK _ _))) | exact ai (ai (ai (aj (MK _ _) _))) | exact ai (ai (ai (aj (aj (MK _ _) _) _))))) (by first | exact MN _ _ | exact N7.o _ _ (by simp) (MN _ _) | exact N7.o _ _ (by simp) (fb _ _ _) | exact N7.o _ _ (by simp) (et _ _ _)) (P7.o.2.2.2.1.bel (by first | exact MK _ _ | exact aj (MK _ _) _ | exact aj (aj (MK _ _) _) _ | exact ai (MK _ _) | exact ai (aj (MK _ _) _) | exact ai (aj (aj (MK _ _) _) _) | exact ai (ai (MK _ _)) | exact ai (ai (aj (MK _ _) _)) | exact ai (ai (aj (aj (MK _ _) _) _)) | exact ai (ai (ai (MK _ _))) | exact ai (ai (ai (aj (MK _ _) _))) | exact ai (ai (ai (aj (aj (MK _ _) _) _))))) (by omega) (fun j hj=>MI (P7.o.2.2.2.2.1 j hj) (IL (a:=w7) (by first | exact MK _ _ | exact aj (MK _ _) _ | exact aj (aj (MK _ _) _) _ | exact ai (MK _ _) | exact ai (aj (MK _ _) _) | exact ai (aj (aj (MK _ _) _) _) | exact ai (ai (MK _ _)) | exact ai (ai (aj (MK _ _) _)) | exact ai (ai (aj (aj (MK _ _) _) _)) | exact ai (ai (ai (MK _ _))) | exact ai (ai (ai (aj (MK _ _) _))) | exact ai (ai (ai (aj (aj (MK _ _) _) _)))))) ?_;intro g8 c8 w8 h8 q8 o8;have P8:=aa (Gf (a:=w7) (by first | exact MK _ _ | exact aj (MK _ _) _ | exact aj (aj (MK _ _) _) _ | exact ai (MK _ _) | exact ai (aj (MK _ _) _) | exact ai (aj (aj (MK _ _) _) _) | exact ai (ai (MK _ _)) | exact ai (ai (aj (MK _ _) _)) | exact ai (ai (aj (aj (MK _ _) _) _)) | exact ai (ai (ai (MK _ _))) | exact ai (ai (ai (aj (MK _ _) _))) | exact ai (ai (ai (aj (aj (MK _ _) _) _)))) q8 o8);have P9:=aa h8;have v5:=P8.o.1.cell v1 (by simpa using nXL.o);have v6:=P8.o.1.cell v2 (by simpa using nYL.o);clear h8 q8 o8) | (refine kG (by rfl) _ _ (by rfl) (by rfl) (by rfl) (WR.o.bel (by first | exact MK _ _ | exact aj (MK _ _) _ | exact aj (aj (MK _ _) _) _ | exact ai (MK _ _) | exact ai (aj (MK _ _) _) | exact ai (aj (aj (MK _ _) _) _) | exact ai (ai (MK _ _)) | exact ai (ai (aj (MK _ _) _)) | exact ai (ai (aj (aj (MK _ _) _) _)) | exact ai (ai (ai (MK _ _))) | exact ai (ai (ai (aj (MK _ _) _))) | exact ai (ai (ai (aj (aj (MK _ _) _) _))))) (by first | exact MN _ _ | exact fb _ _ _ | exact et _ _ _) (VY4.o.bel (by first | exact MK _ _ | exact aj (MK _ _) _ | exact aj (aj (MK _ _) _) _ | exact ai (MK _ _) | exact ai (aj (MK _ _) _) | exact ai (aj (aj (MK _ _) _) _) | exact ai (ai (MK _ _)) | exact ai (ai (aj (MK _ _) _)) | exact ai (ai (aj (aj (MK _ _) _) _)) | exact ai (ai (ai (MK _ _))) | exact ai (ai (ai (aj (MK _ _) _))) | exact ai (ai (ai (aj (aj (MK _ _) _) _))))) (by omega) (fun j hj=>MI (LB.o j hj) (IL (a:=w4) (by first | exact MK _ _ | exact aj (MK _ _) _ | exact aj (aj (MK _ _) _) _ | exact ai (MK _ _) | exact ai (aj (MK _ _) _) | exact ai (aj (aj (MK _ _) _) _) | exact ai (ai (MK _ _)) | exact ai (ai (aj (MK _ _) _)) | exact ai (ai (aj (aj (MK _ _) _) _)) | exact ai (ai (ai (MK _ _))) | exact ai (ai (ai (aj (MK _ _) _))) | exact ai (ai (ai (aj (aj (MK _ _) _) _)))))) ?_;intro g7 c7 w7 h7 q7 o7;have P7:Ll _:=aa (midR.o _ _ _ _ (by first | exact MK _ _ | exact aj (MK _ _) _ | exact aj (aj (MK _ _) _) _ | exact ai (MK _ _) | exact ai (aj (MK _ _) _) | exact ai (aj (aj (MK _ _) _) _) | exact ai (ai (MK _ _)) | exact ai (ai (aj (MK _ _) _)) | exact ai (ai (aj (aj (MK _ _) _) _)) | exact ai (ai (ai (MK _ _))) | exact ai (ai (ai (aj (MK _ _) _))) | exact ai (ai (ai (aj (aj (MK _ _) _) _)))) h7 q7 o7);obtain⟨v1,v2,v3,v4⟩:=P7.o.1;have N7:Ll _:=aa P7.o.2.1;clear h7 q7 o7) | (refine kG (by rfl) _ _ (by rfl) (by rfl) (by rfl) (P7.o.2.2.1.bel (by first | exact MK _ _ | exact aj (MK _ _) _ | exact aj (aj (MK _ _) _) _ | exact ai (MK _ _) | exact ai (aj (MK _ _) _) | exact ai (aj (aj (MK _ _) _) _) | exact ai (ai (MK _ _)) | exact ai (ai (aj (MK _ _) _)) | exact ai (ai (aj (aj (MK _ _) _) _)) | exact ai (ai (ai (MK _ _))) | exact ai (ai (ai (aj (MK _ _) _))) | exact ai (ai (ai (aj (aj (MK _ _) _) _))))) (by first | exact MN _ _ | exact N7.o _ _ (by simp) (MN _ _) | exact N7.o _ _ (by simp) (fb _ _ _) | exact N7.o _ _ (by simp) (et _ _ _)) (P7.o.2.2.2.1.bel (by first | exact MK _ _ | exact aj (MK _ _) _ | exact aj (aj (MK _ _) _) _ | exact ai (MK _ _) | exact ai (aj (MK _ _) _) | exact ai (aj (aj (MK _ _) _) _) | exact ai (ai (MK _ _)) | exact ai (ai (aj (MK _ _) _)) | exact ai (ai (aj (aj (MK _ _) _) _)) | exact ai (ai (ai (MK _ _))) | exact ai (ai (ai (aj (MK _ _) _))) | exact ai (ai (ai (aj (aj (MK _ _) _) _))))) (by omega) (fun j hj=>MI (P7.o.2.2.2.2.1 j hj) (IL (a:=w7) (by first | exact MK _ _ | exact aj (MK _ _) _ | exact aj (aj (MK _ _) _) _ | exact ai (MK _ _) | exact ai (aj (MK _ _) _) | exact ai (aj (aj (MK _ _) _) _) | exact ai (ai (MK _ _)) | exact ai (ai (aj (MK _ _) _)) | exact ai (ai (aj (aj (MK _ _) _) _)) | exact ai (ai (ai (MK _ _))) | exact ai (ai (ai (aj (MK _ _) _))) | exact ai (ai (ai (aj (aj (MK _ _) _) _)))))) ?_;intro g8 c8 w8 h8 q8 o8;have P8:=aa (Gf (a:=w7) (by first | exact MK _ _ | exact aj (MK _ _) _ | exact aj (aj (MK _ _) _) _ | exact ai (MK _ _) | exact ai (aj (MK _ _) _) | exact ai (aj (aj (MK _ _) _) _) | exact ai (ai (MK _ _)) | exact ai (ai (aj (MK _ _) _)) | exact ai (ai (aj (aj (MK _ _) _) _)) | exact ai (ai (ai (MK _ _))) | exact ai (ai (ai (aj (MK _ _) _))) | exact ai (ai (ai (aj (aj (MK _ _) _) _)))) q8 o8);have P9:=aa h8;have v5:=P8.o.1.cell v1 (by simpa using nXR.o);have v6:=P8.o.1.cell v2 (by simpa using nYR.o);clear h8 q8 o8))
         all_goals
          go_wp2_with fail
          go_roundg (xs.length - (k+1))
          case measure=>rw[GI.o];omega
          case rel=>first
           | exact⟨k+1,hlt,rfl,by go_num,FINL.o _ _ _ _ _ _ P7.o.2.2.2.2.2.1 P7.o.2.2.2.2.2.2.1 P7.o.2.2.2.2.2.2.2 P8.o.1 P9.o P8.o.2⟩
           | exact⟨k+1,hlt,rfl,by go_num,FINR.o _ _ _ _ _ _ P7.o.2.2.2.2.2.1 P7.o.2.2.2.2.2.2.1 P7.o.2.2.2.2.2.2.2 P8.o.1 P9.o P8.o.2⟩
     ·have FIN:Ll ((∃ ls2 rs2,(a=b↔ls2=rs2)/\PL ls2 rs2/\mu ls=mu ls2/\mu ls2<=2000000000001/\SI w ok ok' ia ib ls2 rs2 (.slice (some ⟨gL',0,none⟩) ls.length cL') (.slice (some ⟨gR',0,none⟩) rs.length cR') wr)/\mu ls < M):=by
       obtain⟨j1,j2,j3,j5,j6,j7⟩:=J.o;have l1:xs.drop k=[]:=List.drop_eq_nil_of_le (by omega);have l2:ys.drop k=[]:=List.drop_eq_nil_of_le (by have:=HXY.o;omega);have:=GM.o;exact aa ⟨⟨ls,rs,by rw[j1,l1,l2];simp,j2,rfl,by omega,gL',gR',cL',cR',rfl,rfl,j7⟩,by omega⟩
      have d1:¬(k:Int) < (xs.length:Int):=by omega
      clear i5 i6 J;go_wp2_with fail
      go_roundg (mu ls)
      case measure=>rw[GKM.o];exact FIN.o.2
      case rel=>exact FIN.o.1
variable {w w':World}
variable {ok ok':Nat->Prop}
variable {v:Value}
variable {t:V}
variable {g:Nat}
def dB (w:LC) (ok:Nat->Prop) (t:V) (L:List Lz) (v:Value):Prop:=
 ∃ (a1 a2 a3:Option Addr) (c1 c2 c3:Nat),v=.agg #[.int .i64 t.kind,.int .i64 t.n,.string ⟨t.s.toArray⟩,.slice a1 t.keys.length c1,.slice a2 t.l.length c2,.slice a3 L.length c3] /\
  In w ok t (.agg (KV t a1 c1 a2 c2))/\ao w ok L (.slice a3 L.length c3)
theorem dB.bel{L}(h:dB w ok t L v)(hb:La w w'):dB w' ok t L v:=by
 obtain⟨a1,a2,a3,c1,c2,c3,rfl,h1,h2⟩:=h;exact⟨a1,a2,a3,c1,c2,c3,rfl,h1.bel hb,h2.imp fun a x h1 h2=>⟨h1,ah hb h2⟩⟩
theorem dB.weak{L}(h:dB w ok t L v)(hk:∀ k,ok k->ok' k):dB w ok' t L v:=by
 obtain⟨a1,a2,a3,c1,c2,c3,rfl,h1,h2⟩:=h;exact⟨a1,a2,a3,c1,c2,c3,rfl,h1.weak hk,h2.imp fun a x h1 h2=>⟨hk _ h1,h2⟩⟩
theorem lr{a b c d e f}{t:TypeId}(h:w.heap[g]?=some (.cells #[a,b,c,d,e,f] t)):w.cell? ⟨g,0,none⟩=some a/\w.cell? ⟨g,1,none⟩=some b/\w.cell? ⟨g,2,none⟩=some c/\w.cell? ⟨g,3,none⟩=some d/\w.cell? ⟨g,4,none⟩=some e/\w.cell? ⟨g,5,none⟩=some f:=by
 refine⟨?_,?_,?_,?_,?_,?_⟩ <;> simp[World.cell?,h]
theorem bR{o:Obj}(hb:La w w')(h:w.heap[g]?=some o):w'.heap[g]?=some o:=(hb.block g (MF.1 h).1).trans h
theorem pN(w:LC)(ok t L v p)(h:dB w ok t L v)(hr:bD L)(hn:L.length < 4611686018427387904):Calls prog 130 #[v,.string ⟨p.toArray⟩] w fun e w'=>e=.returned (.bool (L.contains p))/\La w w':=by
 obtain⟨a1,a2,a3,c1,c2,c3,rfl,h1,h2⟩:=h;have H2:=aa h2;have HR:=aa hr;have HN:=aa hn;have ll:=h2.1;unfold maxLen at ll;clear h1 h2 hr hn;have C:Ll (∀ W,La w W->Calls prog 161 #[.slice a3 L.length c3,.string ⟨p.toArray⟩,.func (.func 44) #[] #[]] W fun e w'=>e=.returned (.tuple #[.int .i64 (L.countP (fun x=>Op.bytesLess x p):Nat),.bool (L.contains p)])/\La W w'):=fun W hW=>yg W ok L _ p (H2.o.imp fun a x h1 h2=>⟨h1,ah hW h2⟩) HR.o HN.o;generalize L.contains p=o at C ⊢;go_enter func130,ntmps130;go_wp2_with (go_at_call 161;refine Lk (C.o _ (ae _ _)) fun w1 hb=>?_)
 go_ret;exact⟨rfl,ab (ae _ _) hb⟩
theorem DV(w:LC)(ok ok' LQ t L v vt p)(h:dB w ok LQ L v)(ht:In w ok' t vt)(hp:p.length<=140737488351232)(hM:bj w)(hc:fa ((dr (aw p) t).getD aM)<=2000000000000):Calls prog 131 #[v,vt,.string ⟨p.toArray⟩] w fun e w'=>e=.returned (.bool (fK LQ t p))/\La w w':=by
 obtain⟨a1,a2,a3,c1,c2,c3,rfl,h1,h2⟩:=h;have HT:=aa ht;have H1:=aa h1;have HM:=aa hM;have HC:=aa hc;obtain⟨b1,b2,d1,d2,rfl⟩:=ht.form;clear ht h1 h2 hM hc;obtain⟨x,hx⟩:∃ x,(dr (aw p) t).getD aM=x:=⟨_,rfl⟩
 obtain⟨y,hy⟩:∃ y,(dr (aw p) LQ).getD aM=y:=⟨_,rfl⟩
 obtain⟨there,hth⟩:∃ b,(dr (aw p) t).isSome=b:=⟨_,rfl⟩
 obtain⟨there2,hth2⟩:∃ b,(dr (aw p) LQ).isSome=b:=⟨_,rfl⟩
 have S1:Ll (∀ W,La w W->Calls prog 112 #[.agg (KV t b1 d1 b2 d2),.string ⟨p.toArray⟩] W fun e w'=>∃ r,e=.returned (.tuple #[r,.bool there])/\La W w'/\In w' ok' x r):=fun W hW=>by
  have:=gD W ok' t _ p (HT.o.bel hW) hp (HM.o.bel hW);rw[hx,hth]at this;exact this
 have S2:Ll (∀ W,La w W->Calls prog 112 #[.agg (KV LQ a1 c1 a2 c2),.string ⟨p.toArray⟩] W fun e w'=>∃ r,e=.returned (.tuple #[r,.bool there2])/\La W w'/\In w' ok y r):=fun W hW=>by
  have:=gD W ok LQ _ p (H1.o.bel hW) hp (HM.o.bel hW);rw[hy,hth2]at this;exact this
 have R1:Ll (there=false->fK LQ t p=true):=fun h9=>by
  unfold fK;cases h8:dr (aw p) t with
  | none=>rfl
  | some z=>rw[h8,h9]at hth;cases hth
 have TS:there=true->dr (aw p) t=some x:=fun h9=>by
  cases h8:dr (aw p) t with
  | none=>rw[h8,h9]at hth;cases hth
  | some z=>rw[h8]at hx;simp at hx;rw[hx]
 have R2:Ll (there=true->(x=y\/x.kind=5/\y.kind=5)->fK LQ t p=false):=fun h9 h8=>FY (TS h9) (by rw[hy];exact h8);have R4:Ll (there=true->¬(x=y\/x.kind=5/\y.kind=5)->fK LQ t p=true):=fun h9 h8=>by
  cases h7:fK LQ t p with
  | true=>rfl
  | false=>
   obtain⟨z,h1,h2⟩:=Ca h7;rw[TS h9]at h1;cases h1;rw[hy]at h2;exact absurd h2 h8
 rw[hx]at HC;clear hx hy hth hth2 TS;have B2:Ll (∀ o1 o2,La w ((w.alloc o1).alloc o2)):=fun o1 o2=>ab (ae _ _) (ae _ _);go_enter func131,ntmps131;go_upto_region 2 with (go_at_call 112;refine(S1.o _ (B2.o _ _)).mono ?_;rintro e w1 ⟨r,rfl,hb1,hr⟩;obtain⟨x1,x2,y1,y2,rfl⟩:=hr.form;have HX:=aa hr;have BW1:=aa hb1;clear hb1 hr)
 obtain⟨WX,hWX⟩:∃ W,W=w1.alloc (.cells (KV x x1 y1 x2 y2) 35):=⟨_,rfl⟩
 have BX:Ll (La w1 WX):=aa (by rw[hWX];exact ae _ _);have XB:Ll (KY WX w1.heap.size x x1 y1 x2 y2):=aa (by rw[hWX];exact MN _ _);have XI:=aa (HX.o.bel BX.o);have BW2:=aa (ab (B2.o _ _) (ab BW1.o BX.o));obtain⟨q0,q1,q2,q3,q4,-⟩:=lr (bR (ab BW1.o BX.o) (fb w (.cells #[.int .i64 LQ.kind,.int .i64 LQ.n,.string ⟨LQ.s.toArray⟩,.slice a1 LQ.keys.length c1,.slice a2 LQ.l.length c2,.slice a3 L.length c3] 145) _));rw[<-hWX];clear hWX HX BX BW1;go_upto_region 3 with (go_at_call 112;refine(S2.o _ BW2.o).mono ?_;rintro e w2 ⟨r,rfl,hb2,hr⟩;obtain⟨u1,u2,z1,z2,rfl⟩:=hr.form;have HY:=aa hr;have BY1:=aa hb2;clear hb2 hr)
 obtain⟨WY,hWY⟩:∃ W,W=w2.alloc (.cells (KV y u1 z1 u2 z2) 35):=⟨_,rfl⟩
 have BY:Ll (La w2 WY):=aa (by rw[hWY];exact ae _ _);have YB:Ll (KY WY w2.heap.size y u1 z1 u2 z2):=aa (by rw[hWY];exact MN _ _);have YI:=aa (HY.o.bel BY.o);have XI2:=aa (XI.o.bel (ab BY1.o BY.o));have XB2:=aa (af (ab BY1.o BY.o) XB.o);have BW3:=aa (ab BW2.o (ab BY1.o BY.o));rw[<-hWY];clear hWY HY BY BY1 q0 q1 q2 q3 q4 XB XI;have p0_:=XB2.o.c;have r0_:=YB.o.c;cases there with
 | false=>
  have R:=aa (R1.o rfl);go_wp2_with fail
  go_ret;exact⟨by rw[R.o];rfl,BW3.o⟩
 | true=>
  have SM:=aa (lP WY ok' ok x y _ _ XI2.o YI.o HC.o);have PB:Ll (∀ W,La WY W->KY W w1.heap.size x x1 y1 x2 y2/\KY W w2.heap.size y u1 z1 u2 z2):=fun W hW=>⟨af hW XB2.o,af hW YB.o⟩;by_cases hxy:x=y
  ·have R:=aa (R2.o rfl (.inl hxy));have HXY:=aa hxy;clear hxy;go_wp2_with (go_at_call 24;refine SM.o.mono ?_;rintro e w3 ⟨r,rfl,hr,hb⟩;have hrt:=hr.2 HXY.o;subst hrt;clear hr;have B3:=aa (ab BW3.o hb);clear hb)
   go_ret;exact⟨by rw[R.o];rfl,B3.o⟩
  ·by_cases hk:x.kind=5
   ·have e1:(x.kind == 5)=true:=by simp[hk]
    by_cases hk2:y.kind=5
    ·have e2:(y.kind == 5)=true:=by simp[hk2]
     have R:=aa (R2.o rfl (.inr ⟨hk,hk2⟩));have NXY:=aa hxy;clear hk hk2 hxy;go_wp2_with (go_at_call 24;refine SM.o.mono ?_;rintro e w3 ⟨r,rfl,hr,hb⟩;have hrt:r=false:=(by cases r;rfl;exact absurd (hr.1 rfl) NXY.o);subst hrt;clear hr;have B3:=aa (ab BW3.o hb);obtain⟨g0,-⟩:=(PB.o _ hb).1.c;obtain⟨g1,-⟩:=(PB.o _ hb).2.c;clear hb)
     go_ret;exact⟨by rw[R.o];rfl,B3.o⟩
    ·have e2:(y.kind == 5)=false:=by rw[MO];exact hk2
     have R:=aa (R4.o rfl (fun h9=>h9.elim hxy (fun h8=>hk2 h8.2)));have NXY:=aa hxy;clear hk hk2 hxy;go_wp2_with (go_at_call 24;refine SM.o.mono ?_;rintro e w3 ⟨r,rfl,hr,hb⟩;have hrt:r=false:=(by cases r;rfl;exact absurd (hr.1 rfl) NXY.o);subst hrt;clear hr;have B3:=aa (ab BW3.o hb);obtain⟨g0,-⟩:=(PB.o _ hb).1.c;obtain⟨g1,-⟩:=(PB.o _ hb).2.c;clear hb)
     go_ret;exact⟨by rw[R.o];rfl,B3.o⟩
   ·have e1:(x.kind == 5)=false:=by rw[MO];exact hk
    have R:=aa (R4.o rfl (fun h9=>h9.elim hxy (fun h8=>hk h8.1)));have NXY:=aa hxy;clear hk hxy;go_wp2_with (go_at_call 24;refine SM.o.mono ?_;rintro e w3 ⟨r,rfl,hr,hb⟩;have hrt:r=false:=(by cases r;rfl;exact absurd (hr.1 rfl) NXY.o);subst hrt;clear hr;have B3:=aa (ab BW3.o hb);obtain⟨g0,-⟩:=(PB.o _ hb).1.c;obtain⟨g1,-⟩:=(PB.o _ hb).2.c;clear hb)
    go_ret;exact⟨by rw[R.o];rfl,B3.o⟩
theorem oB(w p q):Calls prog 134 #[.string ⟨p.toArray⟩,.string ⟨q.toArray⟩] w fun e w'=>e=.returned (.bool (aboveP p q))/\w'=w:=FL w p q
theorem Hm(w cz p gp)(hc:w.cell? ⟨gp,0,none⟩=some (.string ⟨p.toArray⟩)):Calls prog 133 #[.string ⟨cz.toArray⟩,.pointer (some ⟨gp,0,none⟩)] w fun e w'=>e=.returned (.bool (aboveP cz p || aboveP p cz))/\w'=w:=by
 have A1:=oB w cz p;have A2:=oB w p cz;generalize aboveP cz p=o1 at A1 ⊢;generalize aboveP p cz=o2 at A2 ⊢;cases o1 with
 | true=>
  go_enter func133,ntmps133;go_wp2_with fail
  refine A1.mono ?_;rintro e w1 ⟨rfl,hw⟩;have hw':=hw.symm;subst hw';clear hw A1 A2;go_wp2_with fail
  go_ret;exact⟨rfl,rfl⟩
 | false=>
  go_enter func133,ntmps133;go_wp2_with fail
  refine A1.mono ?_;rintro e w1 ⟨rfl,hw⟩;have hw':=hw.symm;subst hw';clear hw A1;go_wp2_with fail
  refine A2.mono ?_;rintro e w2 ⟨rfl,hw⟩;have hw':=hw.symm;subst hw';clear hw A2;go_wp2_with fail
  go_ret;exact⟨by first | rfl | (simp;done) | (simp;rfl),rfl⟩
theorem vG:∀ args w,(callFunc 133 args).run prog w=.ok (.enter 133 args) w:=enters_of func133 (by kernel_rfl) rfl
theorem Gb{LQ}(hk:LQ.kind=5)(hg:aE LQ=true):(au LQ).length < 4611686018427387904:=by
 have e:au LQ=ix ((jK 12 LQ).map aU):=if_pos ⟨hk,hg⟩;rw[e,(fU _).length_eq,List.length_map];have h1:=mB 12 LQ;have h2:=df LQ;have h3:=gE (dQ hg);omega
theorem Au:∀ (ns:List Lz) (v x:V),dr ns v=some x->fa x<=fa v
 | [],v,x,h=>by cases h;exact MG _
 | n :: ns,v,x,h=>by
  obtain⟨-,z,hm,hz⟩:=gB h;have h1:=Au ns z x hz;have h2:=pC (lG hm);have h3:=df v;omega
theorem Fe{v}(h:fa v<=2000000000000)(ns):fa ((dr ns v).getD aM)<=2000000000000:=by
 cases e:dr ns v with
 | none=>rw[Option.getD_none,df];simp[aM,cnts]
 | some x=>rw[Option.getD_some];exact MH (Au ns v x e) h
theorem tN(w:LC)(ok ok' LQ t L v vt p)(h:dB w ok LQ L v)(ht:In w ok' t vt)(hp:p.length<=140737488351232)(hM:bj w)(hc:fa t<=2000000000000)(hr:bD L)(hn:L.length < 4611686018427387904):Calls prog 103 #[v,vt,.string ⟨p.toArray⟩] w fun e w'=>e=.returned (.bool (aV LQ t L p))/\La w w':=by
 have HW:=aa h;have HT:=aa ht;have HM:=aa hM;obtain⟨a1,a2,a3,c1,c2,c3,rfl,h1,h2⟩:=h;have H2:=aa h2;obtain⟨b1,b2,d1,d2,rfl⟩:=ht.form;have HL:Ll (∀ W,La w W->Calls prog 130 #[.agg #[.int .i64 LQ.kind,.int .i64 LQ.n,.string ⟨LQ.s.toArray⟩,.slice a1 LQ.keys.length c1,.slice a2 LQ.l.length c2,.slice a3 L.length c3],.string ⟨p.toArray⟩] W fun e w'=>e=.returned (.bool (L.contains p))/\La W w'):=fun W hW=>pN W ok LQ L _ p (HW.o.bel hW) hr hn;have HO:Ll (∀ W,La w W->Calls prog 131 #[.agg #[.int .i64 LQ.kind,.int .i64 LQ.n,.string ⟨LQ.s.toArray⟩,.slice a1 LQ.keys.length c1,.slice a2 LQ.l.length c2,.slice a3 L.length c3],.agg (KV t b1 d1 b2 d2),.string ⟨p.toArray⟩] W fun e w'=>e=.returned (.bool (fK LQ t p))/\La W w'):=fun W hW=>DV W ok ok' LQ t L _ _ p (HW.o.bel hW) (HT.o.bel hW) hp (HM.o.bel hW) (Fe hc _);have HC:Ll (∀ (W:LC) (gp:Nat),La w W->W.cell? ⟨gp,0,none⟩=some (.string ⟨p.toArray⟩)->Calls prog 132 #[.slice a3 L.length c3,.func (.func 133) #[] #[.pointer (some ⟨gp,0,none⟩)]] W fun e w'=>e=.returned (.bool (L.any fun q=>aboveP q p || aboveP p q))/\La W w'):=fun W gp hW hcl=>l9 W ok L _ _ _ _ (H2.o.imp fun a x h1 h2=>⟨h1,ah hW h2⟩) vG (fun W2 x hb _=>(Hm W2 x p gp (ah hb hcl)).mono fun e w' h=>⟨h.1,by rw[h.2];exact MK _ _⟩);have B3:Ll (∀ o1 o2 o3,La w (((w.alloc o1).alloc o2).alloc o3)):=fun o1 o2 o3=>ab (ab (ae _ _) (ae _ _)) (ae _ _);clear h1 h2 ht hM hc hr hn;have R:Ll (aV LQ t L p=if L.contains p then fK LQ t p else L.any fun q=>aboveP q p || aboveP p q):=aa rfl;generalize aV LQ t L p=o9 at R ⊢;generalize fK LQ t p=o1 at HO R;generalize (L.any fun q=>aboveP q p || aboveP p q)=o2 at HC R;obtain⟨W3,hW3⟩:∃ W,W=((w.alloc (.cells #[.int .i64 LQ.kind,.int .i64 LQ.n,.string ⟨LQ.s.toArray⟩,.slice a1 LQ.keys.length c1,.slice a2 LQ.l.length c2,.slice a3 L.length c3] 145)).alloc (.cells (KV t b1 d1 b2 d2) 35)).alloc (.cells #[.string ⟨p.toArray⟩] 9):=⟨_,rfl⟩
 have BW:Ll (La w W3):=aa (by rw[hW3];exact B3.o _ _ _);have X1:Ll (W3.heap[w.heap.size]?=some (.cells #[.int .i64 LQ.kind,.int .i64 LQ.n,.string ⟨LQ.s.toArray⟩,.slice a1 LQ.keys.length c1,.slice a2 LQ.l.length c2,.slice a3 L.length c3] 145)):=aa (by rw[hW3];exact lI _ _ _ _);have X2:Ll (KY W3 (w.heap.size+1) t b1 d1 b2 d2):=aa (by rw[hW3];exact mE _ _ _ _);have X3:Ll (W3.cell? ⟨w.heap.size+2,0,none⟩=some (.string ⟨p.toArray⟩)):=aa (by
  have h9:W3.heap[w.heap.size+2]?=some (.cells #[.string ⟨p.toArray⟩] 9):=by rw[hW3];exact jI _ _ _ _
  simp[World.cell?,h9])
 have HW3:=aa hW3;clear hW3;have FX:Ll (∀ W,La W3 W->W.cell? ⟨w.heap.size+2,0,none⟩=some (.string ⟨p.toArray⟩)):=fun W hW=>ah hW X3.o;go_enter func103,ntmps103;go_upto_region 1 with fail
 rw[<-HW3.o];obtain⟨q0,q1,q2,q3,q4,q5⟩:=lr X1.o;have q6:=X3.o;cases hc:L.contains p with
 | true=>
  have R2:Ll (o9=o1):=aa (by rw[R.o,hc];rfl);have HL2:=aa (HL.o W3 BW.o);rw[hc]at HL2;clear hc;go_upto_region 2 with (go_at_call 130;refine HL2.o.mono ?_;rintro e w4 ⟨rfl,hb4⟩;have B4:=aa hb4;clear hb4 q0 q1 q2 q3 q4 q5 q6)
  have BW4:=aa (ab BW.o B4.o);obtain⟨q0,q1,q2,q3,q4,q5⟩:=lr (bR B4.o X1.o);have p0_:=(af B4.o X2.o).c;have q6:=FX.o _ B4.o;go_wp2_with (go_at_call 131;refine Lk (HO.o _ BW4.o) fun w5 hb5=>?_;have B5:=aa (ab BW4.o hb5);clear hb5)
  go_ret;exact⟨by rw[R2.o];rfl,B5.o⟩
 | false=>
  have R2:Ll (o9=o2):=aa (by rw[R.o,hc];rfl);have HL2:=aa (HL.o W3 BW.o);rw[hc]at HL2;clear hc;go_upto_region 3 with (go_at_call 130;refine HL2.o.mono ?_;rintro e w4 ⟨rfl,hb4⟩;have B4:=aa hb4;clear hb4 q0 q1 q2 q3 q4 q5 q6)
  have BW4:=aa (ab BW.o B4.o);obtain⟨q0,q1,q2,q3,q4,q5⟩:=lr (bR B4.o X1.o);have q6:=aa (FX.o _ B4.o);go_wp2_with (go_at_call 132;refine Lk (HC.o _ _ BW4.o q6.o) fun w5 hb5=>?_;have B5:=aa (ab BW4.o hb5);clear hb5)
  go_ret;exact⟨by rw[R2.o];rfl,B5.o⟩
theorem DB(w q p gp)(hc:w.cell? ⟨gp,0,none⟩=some (.string ⟨p.toArray⟩)):Calls prog 168 #[.string ⟨q.toArray⟩,.pointer (some ⟨gp,0,none⟩)] w fun e w'=>e=.returned (.bool (q == p || aboveP q p || aboveP p q))/\w'=w:=by
 have A1:=oB w q p;have A2:=oB w p q;generalize aboveP q p=o1 at A1 ⊢;generalize aboveP p q=o2 at A2 ⊢;cases hqp:q == p with
 | true=>
  have e1:((ByteArray.mk q.toArray) == (ByteArray.mk p.toArray))=true:=zN (by simpa using hqp);go_enter func168,ntmps168;go_wp2_with fail
  go_ret;exact⟨by first | done | rfl | simp,rfl⟩
 | false=>
  have e1:((ByteArray.mk q.toArray) == (ByteArray.mk p.toArray))=false:=Aq (by simpa using hqp);cases o1 with
  | true=>
   go_enter func168,ntmps168;go_wp2_with fail
   refine A1.mono ?_;rintro e w1 ⟨rfl,hw⟩;have hw':=hw.symm;subst hw';clear hw A1 A2;go_wp2_with fail
   go_ret;exact⟨by first | done | rfl | simp,rfl⟩
  | false=>
   go_enter func168,ntmps168;go_wp2_with fail
   refine A1.mono ?_;rintro e w1 ⟨rfl,hw⟩;have hw':=hw.symm;subst hw';clear hw A1;go_wp2_with fail
   refine A2.mono ?_;rintro e w2 ⟨rfl,hw⟩;have hw':=hw.symm;subst hw';clear hw A2;go_wp2_with fail
   go_ret;exact⟨by first | done | rfl | (simp;rfl),rfl⟩
theorem qS:∀ args w,(callFunc 168 args).run prog w=.ok (.enter 168 args) w:=enters_of func168 (by kernel_rfl) rfl
theorem tv:∀ args w,(callFunc 167 args).run prog w=.ok (.enter 167 args) w:=enters_of func167 (by kernel_rfl) rfl
theorem DU(w:LC)(ok)(o:aL)(pa)(pc:Nat)(p:Lz)(gp:Nat)(hs:ao w ok o.paths (.slice pa o.paths.length pc))(hc:w.cell? ⟨gp,0,none⟩=some (.string ⟨p.toArray⟩)):Calls prog 167 #[.agg #[.string ⟨o.name.toArray⟩,.slice pa o.paths.length pc],.pointer (some ⟨gp,0,none⟩)] w fun e w'=>e=.returned (.bool (o.paths.any fun q=>q == p || aboveP q p || aboveP p q))/\La w w':=by
 have ll:=hs.1;unfold maxLen at ll;have HC:Ll (∀ (W:LC),La w W->Calls prog 132 #[.slice pa o.paths.length pc,.func (.func 168) #[] #[.pointer (some ⟨gp,0,none⟩)]] W fun e w'=>e=.returned (.bool (o.paths.any fun q=>q == p || aboveP q p || aboveP p q))/\La W w'):=fun W hW=>l9 W ok o.paths _ _ _ _ (hs.imp fun a x h1 h2=>⟨h1,ah hW h2⟩) qS (fun W2 x hb _=>(DB W2 x p gp (ah hb (ah hW hc))).mono fun e w' h=>⟨h.1,by rw[h.2];exact MK _ _⟩);generalize (o.paths.any fun q=>q == p || aboveP q p || aboveP p q)=o2 at HC ⊢;clear hs hc;go_enter func167,ntmps167;go_wp2_with (go_at_call 132;refine Lk (HC.o _ (ae _ _)) fun w5 hb5=>?_;have B5:=aa (ab (ae _ _) hb5);clear hb5)
 go_ret;exact⟨rfl,B5.o⟩
theorem tH(w ok l v p)(h:aB w ok l v):Calls prog 137 #[v,.string ⟨p.toArray⟩] w fun e w'=>e=.returned (.bool (concF l p))/\La w w':=by
 obtain⟨a,c,rfl⟩:=h.form;have ll:=h.1;unfold maxLen at ll;have HC:Ll (∀ (W:LC) (gp:Nat),La w W->W.cell? ⟨gp,0,none⟩=some (.string ⟨p.toArray⟩)->Calls prog 166 #[.slice a l.length c,.func (.func 167) #[] #[.pointer (some ⟨gp,0,none⟩)]] W fun e w'=>e=.returned (.bool (concF l p))/\La W w'):=fun W gp hW hcl=>sU W ok l _ _ _ _ (h.bel hW) tv (fun W2 x pa pc hb _ hs=>DU W2 ok x pa pc p gp hs (ah hb hcl));have CP:Ll ((w.alloc (.cells #[.string ⟨p.toArray⟩] 9)).cell? ⟨w.heap.size,0,none⟩=some (.string ⟨p.toArray⟩)):=aa (by
  have h9:=MN w (.cells #[.string ⟨p.toArray⟩] 9);generalize w.alloc (.cells #[.string ⟨p.toArray⟩] 9)=W2 at h9;simp[World.cell?,h9])
 generalize concF l p=o2 at HC ⊢;clear h;go_enter func137,ntmps137;go_wp2_with (go_at_call 166;refine Lk (HC.o _ _ (ae _ _) CP.o) fun w5 hb5=>?_;have B5:=aa (ab (ae _ _) hb5);clear hb5)
 go_ret;exact⟨rfl,B5.o⟩
variable {W w0:World}
variable {B n:Nat}
theorem Hw:(prog.info? 168).map (fun i=>(i.zero,i.size,i.bytes))=some (some (.agg #[.string ⟨#[]⟩,.string ⟨#[]⟩]),2,32):=by kernel_rfl
theorem ua:(prog.info? 68).map (fun i=>(i.zero,i.size,i.bytes))=some (some (.agg #[.string ⟨#[]⟩,.slice none 0 0]),2,40):=by kernel_rfl
theorem Dl{cs nb k q}(ho:W.ownsRow B 168 2 v n cs)(hnb:W.heap[nb]?=some (.cells #[.string k,.string q] 168))(hn:n<=4000000)(hB:B<=W.heap.size)(ty:TypeId):∃ g cap W',(Builtin.append_ #[128,128] ty #[v,.slice (some ⟨nb,0,none⟩) 1 1]).run prog W=.ok (.slice (some ⟨g,0,none⟩) (n+1) cap) W'/\W'.ownsRow B 168 2 (.slice (some ⟨g,0,none⟩) (n+1) cap) (n+1) (cs++[.string k,.string q])/\W.grownBy W' v.ownBlock/\(v.ownBlock=some g\/W.heap.size=g):=by
 obtain⟨i0,hi,hz0,hz1,hz2⟩:=info_parts Hw;obtain⟨g,cap,W',hr,h1,h2,h3,-⟩:=run_append_lies (P:=prog) W 128 ty B 168 i0 _ 2 32 underlying128 hi hz0 hz1 hz2 rfl (by decide) v n cs ho ⟨nb,0,none⟩ 1 1 [.string k,.string q] rfl
  (World.news_of_block (cs:=#[.string k,.string q]) hnb) (by intro u hu;simp only[List.mem_cons,List.not_mem_nil,or_false]at hu;rcases hu with rfl | rfl <;> rfl) (by decide) (by unfold maxLen;omega) (by omega) hB W.heap.size rfl
 exact⟨g,cap,W',hr,h1,h2,h3.imp id Eq.symm⟩
theorem mW{cs nb k pa pn pc}(ho:W.ownsRow B 68 2 v n cs)(hnb:W.heap[nb]?=some (.cells #[.string k,.slice pa pn pc] 68))(hn:n<=4000000)(hB:B<=W.heap.size)(ty:TypeId):∃ g cap W',(Builtin.append_ #[36,36] ty #[v,.slice (some ⟨nb,0,none⟩) 1 1]).run prog W=.ok (.slice (some ⟨g,0,none⟩) (n+1) cap) W'/\W'.ownsRow B 68 2 (.slice (some ⟨g,0,none⟩) (n+1) cap) (n+1) (cs++[.string k,.slice pa pn pc])/\W.grownBy W' v.ownBlock/\(v.ownBlock=some g\/W.heap.size=g):=by
 obtain⟨i0,hi,hz0,hz1,hz2⟩:=info_parts ua;obtain⟨g,cap,W',hr,h1,h2,h3,-⟩:=run_append_lies (P:=prog) W 36 ty B 68 i0 _ 2 40 underlying36 hi hz0 hz1 hz2 rfl (by decide) v n cs ho ⟨nb,0,none⟩ 1 1 [.string k,.slice pa pn pc] rfl
  (World.news_of_block (cs:=#[.string k,.slice pa pn pc]) hnb) (by intro u hu;simp only[List.mem_cons,List.not_mem_nil,or_false]at hu;rcases hu with rfl | rfl <;> rfl) (by decide) (by unfold maxLen;omega) (by omega) hB W.heap.size rfl
 exact⟨g,cap,W',hr,h1,h2,h3.imp id Eq.symm⟩
def oz (w0:LC) (L T:TypeId) (sz:Nat) (cells:List Value) (n:Nat) (F:Nat->Prop) (W:LC):Prop:=
 La w0 W/\∃ fv,W.heap[w0.heap.size]?=some (.cells #[fv] L)/\W.ownsRow (w0.heap.size+1) T sz fv n cells/\∀ k,F k->k≠w0.heap.size/\some k≠fv.ownBlock
theorem oz.bel{L T:TypeId}{sz cells F W'}(h:oz w0 L T sz cells n F W)(hb:La W W'):oz w0 L T sz cells n F W':=by
 obtain⟨h1,fv,h2,h3,h4⟩:=h;exact⟨h1.trans (hb.mono h1.size),fv,bR hb h2,bM h3 fun g hg=>hb.block g (bY h3 hg).2,h4⟩
theorem oz.alloc{L T:TypeId}{sz cells F}(h:oz w0 L T sz cells n F W)(o:Obj):oz w0 L T sz cells n (fun k=>F k\/k=W.heap.size) (W.alloc o):=by
 obtain⟨h1,fv,h2,h3,h4⟩:=h.bel (ae W o);obtain⟨-,fv',h2',h3',-⟩:=h;refine⟨h1,fv,h2,h3,fun k hk=>?_⟩;rcases hk with hk | rfl
 ·exact h4 k hk
 ·have e:fv=fv':=by
   have:=bR (ae W o) h2';rw[h2]at this;simp only[Option.some.injEq,Obj.cells.injEq,Array.mk.injEq,List.cons.injEq,and_true]at this;exact this
  subst e;have hlt:=(MF.1 h2').1;exact⟨by omega,fun e=>by have:=(bY h3' e.symm).2;omega⟩
theorem oz.low{L T:TypeId}{sz cells F G}(h:oz w0 L T sz cells n F W)(hk:∀ k,G k->F k):oz w0 L T sz cells n G W:=by
 obtain⟨h1,fv,h2,h3,h4⟩:=h;exact⟨h1,fv,h2,h3,fun k hg=>h4 k (hk k hg)⟩
theorem Cc(w0)(L T:TypeId)(sz):oz w0 L T sz [] 0 (fun k=>k < w0.heap.size) (w0.alloc (.cells #[.slice none 0 0] L)):=
 ⟨ae _ _,_,MN _ _,World.ownsRow_nil _ _ _ _,fun k hk=>⟨by omega,by simp[Value.ownBlock]⟩⟩
theorem Gv{L T:TypeId}{sz cells news F wc W'}{o:Obj}{fv cap}(h1:La w0 wc)(h2:wc.heap[w0.heap.size]?=some (.cells #[fv] L))(h3:wc.ownsRow (w0.heap.size+1) T sz fv n cells)(h4:∀ k,F k->k≠w0.heap.size/\some k≠fv.ownBlock)(ho:W'.ownsRow (w0.heap.size+1) T sz (.slice (some ⟨g,0,none⟩) (n+1) cap) (n+1) (cells++news))(hg:(wc.alloc o).grownBy W' fv.ownBlock)(hf:fv.ownBlock=some g\/(wc.alloc o).heap.size=g)(hF:∀ k,F k->k < wc.heap.size):oz w0 L T sz (cells++news) (n+1) F (W'.setCell ⟨w0.heap.size,0,none⟩ (.slice (some ⟨g,0,none⟩) (n+1) cap))/\wc.heap.size<=(W'.setCell ⟨w0.heap.size,0,none⟩ (.slice (some ⟨g,0,none⟩) (n+1) cap)).heap.size/\∀ k,F k->k < wc.heap.size->(W'.setCell ⟨w0.heap.size,0,none⟩ (.slice (some ⟨g,0,none⟩) (n+1) cap)).heap[k]?=wc.heap[k]?:=by
 have ha:=ae wc o;have hgo:=(bY ho (g:=g) rfl).1;have hgl:w0.heap.size < wc.heap.size:=(MF.1 h2).1;have hrow:∀ k,fv.ownBlock=some k->w0.heap.size+1<=k:=fun k hk=>(bY h3 hk).1;have hW:∀ k,k < wc.heap.size->some k≠fv.ownBlock->W'.heap[k]?=wc.heap[k]?:=fun k hk hr=>by
  rw[hg.block k (MI hk ha.size) hr,ha.block k hk]
 have hbox:W'.heap[w0.heap.size]?=some (.cells #[fv] L):=by
  rw[hW _ hgl (fun e=>by have:=hrow _ e.symm;omega),h2]
 have hset:∀ k,k≠w0.heap.size->(W'.setCell ⟨w0.heap.size,0,none⟩ (.slice (some ⟨g,0,none⟩) (n+1) cap)).heap[k]?=W'.heap[k]?:=fun k hk=>Below.heap_setCell W' ⟨w0.heap.size,0,none⟩ _ k hk;have L9:wc.heap.size<=(W'.setCell ⟨w0.heap.size,0,none⟩ (.slice (some ⟨g,0,none⟩) (n+1) cap)).heap.size:=by
  have h1:=ha.size;have h2:=hg.size;simp only[World.setCell,Array.size_modify];omega
 refine⟨⟨⟨hg.os.trans (ha.os.trans h1.os),hg.tape.trans (ha.tape.trans h1.tape),hg.output.trans (ha.output.trans h1.output),MH h1.size L9,fun k hk=>?_⟩,_,ak hbox 0 _,?_,fun k hk=>⟨(h4 k hk).1,?_⟩⟩,L9,fun k hk hlt=>?_⟩
 ·rw[hset k (by omega),hW k (by omega) (fun e=>by have:=hrow _ e.symm;omega),h1.block k hk]
 ·refine bM ho fun g' hg'=>hset g' ?_;have e9:g=g':=by simpa [Value.ownBlock] using hg'
  omega
 ·have h9:=hF k hk;have h8:=(h4 k hk).2;rcases hf with hf | hf
  ·rw[hf]at h8;simpa [Value.ownBlock] using h8
  ·have:=ha.size;simp only[Value.ownBlock,ne_eq,Option.some.injEq];omega
 ·rw[hset k (h4 k hk).1,hW k hlt (h4 k hk).2]
def jV (cs:List (Lz × Lz)):List Value:=cs.flatMap fun c=>[.string ⟨c.1.toArray⟩,.string ⟨c.2.toArray⟩]
def jN (who:Lz) (blk:Lz->Bool) (d:List (Lz × Lz)):List (Lz × Lz):=d.filter fun c=>c.1 != who&&blk c.2
theorem yO(blk:Lz->Bool)(who l):eu blk who l=jN who blk (bA l):=by
 unfold eu jN bA;rw[List.filter_flatMap];congr 1
 funext o
 rw[List.filter_map];rfl
def Fw (w0:LC) (who:Lz) (blk:Lz->Bool) (N:Nat) (d:List (Lz × Lz)) (F:Nat->Prop) (W:LC):Prop:=
 oz w0 128 168 2 (jV (jN who blk d)) (jN who blk d).length F W/\(∀ k,F k->k < W.heap.size)
structure ri (w0:LC) (ok ok':Nat->Prop) (who:Lz) (LQ t:V) (L:List Lz) (g2 g9 g4:Nat) (a1 a2 a3 b1 b2:Option Addr) (c1 c2 c3 d1 d2:Nat):Prop where
 who:w0.cell? ⟨g2,0,none⟩=some (.string ⟨who.toArray⟩)
 wish:w0.heap[g9]?=some (.cells #[.int .i64 LQ.kind,.int .i64 LQ.n,.string ⟨LQ.s.toArray⟩,.slice a1 LQ.keys.length c1,.slice a2 LQ.l.length c2,.slice a3 L.length c3] 145)
 val:KY w0 g4 t b1 d1 b2 d2
 isWish:dB w0 ok LQ L (.agg #[.int .i64 LQ.kind,.int .i64 LQ.n,.string ⟨LQ.s.toArray⟩,.slice a1 LQ.keys.length c1,.slice a2 LQ.l.length c2,.slice a3 L.length c3])
 isVal:In w0 ok' t (.agg (KV t b1 d1 b2 d2))
 glob:bj w0
 cnts:fa t<=2000000000000
 rises:bD L
 len:L.length < 4611686018427387904
theorem ri.bel{w1:LC}{who LQ L g2 g9 g4 a1 a2 a3 b1 b2 c1 c2 c3 d1 d2}(h:ri w0 ok ok' who LQ t L g2 g9 g4 a1 a2 a3 b1 b2 c1 c2 c3 d1 d2)(hb:La w0 w1):ri w1 ok ok' who LQ t L g2 g9 g4 a1 a2 a3 b1 b2 c1 c2 c3 d1 d2:=
 ⟨ah hb h.who,bR hb h.wish,af hb h.val,h.isWish.bel hb,h.isVal.bel hb,h.glob.bel hb,h.cnts,h.rises,h.len⟩
theorem ri.blocked{who LQ L g2 g9 g4 a1 a2 a3 b1 b2 c1 c2 c3 d1 d2}(h:ri w0 ok ok' who LQ t L g2 g9 g4 a1 a2 a3 b1 b2 c1 c2 c3 d1 d2)(p)(hp:p.length<=140737488351232):Calls prog 103 #[.agg #[.int .i64 LQ.kind,.int .i64 LQ.n,.string ⟨LQ.s.toArray⟩,.slice a1 LQ.keys.length c1,.slice a2 LQ.l.length c2,.slice a3 L.length c3],.agg (KV t b1 d1 b2 d2),.string ⟨p.toArray⟩] w0 fun e w'=>e=.returned (.bool (aV LQ t L p))/\La w0 w':=
 tN w0 ok ok' LQ t L _ _ p h.isWish h.isVal hp h.glob h.cnts h.rises h.len
theorem Ci(who)(blk:Lz->Bool)(d:List (Lz × Lz))(n p):jN who blk (d++[(n,p)])=if (n != who&&blk p)=true then jN who blk d++[(n,p)] else jN who blk d:=by
 unfold jN;rw[List.filter_append];cases h:(n != who&&blk p) with
 | true=>simp[h]
 | false=>simp[h]
theorem EO(w0 W:LC)(ok ok' who LQ t L g2 g9 g4 a1 a2 a3 b1 b2 c1 c2 c3 d1 d2 N)(d:List (Lz × Lz))(F n p)(hc:ri w0 ok ok' who LQ t L g2 g9 g4 a1 a2 a3 b1 b2 c1 c2 c3 d1 d2)(hI:Fw w0 who (aV LQ t L) N d F W)(hN:d.length<=4000000)(hp:p.length<=140737488351232):Calls prog 127 #[.string ⟨n.toArray⟩,.string ⟨p.toArray⟩,.pointer (some ⟨g2,0,none⟩),.pointer (some ⟨g9,0,none⟩),.pointer (some ⟨g4,0,none⟩),.pointer (some ⟨w0.heap.size,0,none⟩)] W fun e w'=>e=.returned (.tuple #[])/\Fw w0 who (aV LQ t L) N (d++[(n,p)]) F w'/\W.heap.size<=w'.heap.size/\∀ k,F k->k < W.heap.size->w'.heap[k]?=W.heap[k]?:=by
 have C:=aa (hc.bel hI.1.1);have HI:=aa hI;have PS:=aa (Ci who (aV LQ t L) d n p);have PL:Ll ((jN who (aV LQ t L) d).length<=4000000):=MH (List.length_filter_le _ _) hN;have BK:=aa (C.o.blocked p hp);have q9:=C.o.who;obtain⟨x0,x1,x2,x3,x4,x5⟩:=lr C.o.wish;have y0_:=C.o.val.c;clear hc hI;by_cases hn:n=who
 ·have R:Ll (jN who (aV LQ t L) (d++[(n,p)])=jN who (aV LQ t L) d):=aa (by rw[PS.o,if_neg (by simp[hn])]);subst hn;go_enter func127,ntmps127;go_wp2_with fail
  go_end0
  exact⟨rfl,by unfold Fw;rw[R.o];exact HI.o,MG _,fun _ _ _=>rfl⟩
 ·have e3:Ll ((n != who)=true):=aa (by simpa using hn);have e9:(n == who)=false:=by simpa using hn
  generalize hblk:aV LQ t L=blk at *;clear hblk;obtain⟨o,ho⟩:∃ o,blk p=o:=⟨_,rfl⟩
  rw[ho,e3.o]at PS;rw[ho]at BK;clear ho;cases o with
  | false=>
   have R:Ll (jN who blk (d++[(n,p)])=jN who blk d):=aa (by rw[PS.o];rfl);go_enter func127,ntmps127;go_wp2_with (go_at_call 103;refine BK.o.mono ?_;rintro e w1 ⟨rfl,hb⟩;have B1:=aa hb;clear hb)
   go_end0
   exact⟨rfl,by unfold Fw;rw[R.o];exact⟨HI.o.1.bel B1.o,fun k hk=>MI (HI.o.2 k hk) B1.o.size⟩,B1.o.size,fun k hk hlt=>B1.o.block k hlt⟩
  | true=>
   have R:Ll (jN who blk (d++[(n,p)])=jN who blk d++[(n,p)]):=aa (by rw[PS.o];rfl);go_enter func127,ntmps127;go_upto_region 1 with (go_at_call 103;refine BK.o.mono ?_;rintro e w1 ⟨rfl,hb⟩;have B1:=aa hb;clear hb)
   clear q9 x0 x1 x2 x3 x4 x5;have HI1:=aa (HI.o.1.bel B1.o);have F1:Ll (∀ k,F k->k < w1.heap.size):=fun k hk=>MI (HI.o.2 k hk) B1.o.size;obtain⟨r1,fv,r2,r3,r4⟩:=HI1.o;obtain⟨PP,hPP⟩:∃ PP,jN who blk d=PP:=⟨_,rfl⟩
   rw[hPP]at r3 PL;obtain⟨g7,c7,W7,hR,ho7,hg7,hf7⟩:=Dl (W:=w1.alloc (.cells #[.string ⟨n.toArray⟩,.string ⟨p.toArray⟩] 168)) (B:=w0.heap.size+1) (v:=fv) (n:=PP.length) (cs:=jV PP) (nb:=w1.heap.size) (k:=⟨n.toArray⟩) (q:=⟨p.toArray⟩) (bM r3 fun g hg=>(ae _ _).block g (bY r3 hg).2) (MN _ _) PL.o (by have:=(ae w1 (.cells #[.string ⟨n.toArray⟩,.string ⟨p.toArray⟩] 168)).size;have:=(MF.1 r2).1;omega) 128;have FIN:=aa (Gv r1 r2 r3 r4 ho7 hg7 hf7 F1.o);have HR:=aa hR;have hgl:w0.heap.size < w1.heap.size:=(MF.1 r2).1;have c0:w1.cell? ⟨w0.heap.size,0,none⟩=some fv:=by simp[World.cell?,r2]
   have c0a:∀ o,(w1.alloc o).cell? ⟨w0.heap.size,0,none⟩=some fv:=fun o=>ah (ae _ _) c0;have hb7:W7.heap[w0.heap.size]?=some (.cells #[fv] 128):=by
    rw[hg7.block _ (MI hgl (ae w1 _).size) (fun e=>by have:=(bY r3 e.symm).1;omega),(ae w1 _).block _ hgl,r2]
   have c7a:W7.cell? ⟨w0.heap.size,0,none⟩=some fv:=by simp[World.cell?,hb7]
   have c7f:W7.frozen? ⟨w0.heap.size,0,none⟩=false:=by simp[World.frozen?,hb7]
   obtain⟨sa,sn,sc,hsv⟩:∃ sa sn sc,fv=.slice sa sn sc:=by
    rcases r3.2 with⟨h9,-⟩ | ⟨_,_,_,h9,-⟩
    ·exact⟨_,_,_,h9⟩
    ·exact⟨_,_,_,h9⟩
   subst hsv;have HPP:=aa hPP;clear hPP r1 r2 r3 r4 hR ho7 hg7 hf7 hb7;go_wp2_with (at_builtin;go_must (refine Lib.wpList_append_run _ rfl _ _ _ _ rfl (.slice sa sn sc) (.slice (some ⟨w1.heap.size,0,none⟩) 1 1) rfl rfl _ _ HR.o ?_);refine Ll.o ?_)
   refine aa ?_;go_wp2_with fail
   go_end0
   refine⟨rfl,⟨?_,fun k hk=>MI (F1.o k hk) FIN.o.2.1⟩,MH B1.o.size FIN.o.2.1,fun k hk hlt=>?_⟩
   ·rw[R.o,HPP.o];have:=FIN.o.1;simpa [jV] using this
   ·rw[FIN.o.2.2 k hk (MI hlt B1.o.size),B1.o.block k hlt]
theorem tX:∀ args w,(callFunc 127 args).run prog w=.ok (.enter 127 args) w:=enters_of func127 (by kernel_rfl) rfl
section
theorem yl{a:LC}(_:La a W):Lc (W.alloc (.cells Lb 35)) W.heap.size:=MN _ _
theorem tc{a:LC}{was a3 b3 c3 d3}(h:La a W)(hi:In W ok was (.agg (KV was a3 c3 b3 d3))):KY (W.alloc (.cells (KV was a3 c3 b3 d3) 35)) W.heap.size was a3 c3 b3 d3/\a.heap.size<=W.heap.size/\La a (W.alloc (.cells (KV was a3 c3 b3 d3) 35))/\In (W.alloc (.cells (KV was a3 c3 b3 d3) 35)) ok was (.agg (KV was a3 c3 b3 d3)):=
 ⟨MN _ _,h.size,ab h (ae _ _),hi.bel (ae _ _)⟩
theorem sX{a:LC}{was a3 b3 c3 d3 e0 e1 e2 e3 e4}(h:La a W)(hg:a.heap.size<=g)(hb:ag W g e0 e1 e2 e3 e4)(hi:In W ok was (.agg (KV was a3 c3 b3 d3)))(hk:∀ k,ok k->k < g):KY (LG W g was a3 c3 b3 d3) g was a3 c3 b3 d3/\a.heap.size<=g/\La a (LG W g was a3 c3 b3 d3)/\In (LG W g was a3 c3 b3 d3) ok was (.agg (KV was a3 c3 b3 d3)):=
 ⟨hb.set _ _ _ _ _,hg,aP h hg _ _ _ _ _,hi.grown (aI W g _ _ _ _ _) (fun k h9=>by have:=hk k h9;omega)⟩
theorem jr{C D}(h:In W (bQ (fun k=>ok k/\k < B) C) y v)(hC:D<=C):In W (bg ok B D) y v:=h.weak fun k hk=>hk.imp id fun h9=>MH hC h9
theorem uK{D}(h:In W (fun k=>ok k/\k < B) y v):In W (bg ok B D) y v:=h.weak fun k hk=>.inl hk
theorem tT{C:Nat}(h:In W (fun k=>ok k/\k < B) y v):In W (bQ (fun k=>ok k/\k < B) C) y v:=h.weak fun k hk=>.inl hk
attribute [local go_sem ↓] Go.wp_at_zero Go.wp_at_succ
theorem DX:∀ (ns:List Lz) (w:LC) (ok okn:Nat->Prop) (t x:V) (v xv nv:Value),In w ok t v->In w ok x xv->ao w okn ns nv->ns≠[]->fL t->fa t<=90000 ->
 Calls prog 135 #[v,nv,xv] w fun e w'=>∃ r,e=.returned r/\In w' (bQ ok w.heap.size) (cK ns t x) r/\La w w':=by
 intro ns;induction ns with
 | nil=>intro w ok okn t x v xv nv _ _ _ h;exact absurd rfl h
 | cons n ns ih=>
 intro w ok okn t x v xv nv h hx hnv _ hob hcn;have IH:=aa ih;obtain⟨nb,no,nc,rfl,hcl,hnl,hnc,hnn⟩:=qm hnv;have hn1:=hnv.1;unfold maxLen at hn1;have NV:=aa hnv;have NL:=aa hnn;have NC0:=aa hnc;have HT:=aa h.low;have HX:=aa hx.low;have OBT:=aa hob;have CT:=aa hcn;obtain⟨a1,b1,c1,d1,rfl⟩:=h.form;obtain⟨a2,b2,c2,d2,rfl⟩:=hx.form;clear h hx hnv hnc ih hob hcn hnn;have RLA:Ll (∀ o,o=cD t->((((aS o n).getD aM).kind=5/\x.kind=5)->cK [n] t x=o)/\(¬(((aS o n).getD aM).kind=5/\x.kind=5)->cK [n] t x=aG o n x)/\(∀ m ns,cK (n :: m :: ns) t x=aG o n (cK (m :: ns) ((aS o n).getD aM) x))/\aK o=true/\o.l.length<=100000/\fL ((aS o n).getD aM)/\fa ((aS o n).getD aM)<=90000):=aa (fun o ho=>by
  subst ho;have hO:=OBT.o.obOf;rw[kC];refine⟨fun hb=>?_,fun hb=>?_,fun m ns=>rfl,hO.paired,?_,lV OBT.o n,MH (Ab t n) CT.o⟩
  ·show aG (cD t) n (cK [] ((aS t n).getD aM) x)=cD t;rw[cK,if_pos hb];cases hm:aS t n with
   | none=>rw[hm]at hb;simp[aM]at hb
   | some z=>exact Dk hO (by rw[kC];exact hm)
  ·show aG (cD t) n (cK [] ((aS t n).getD aM) x)=aG (cD t) n x;rw[cK,if_neg hb]
  ·have h1:=zT (cD t);have h2:=rO t;have:=CT.o;omega)
 by_cases hk:t.kind=5
 ·have e0:(t.kind != 5)=false:=by simp[hk]
  have e00:(t.kind == 5)=true:=by simp[hk]
  obtain⟨o,ho⟩:∃ o,o=cD t:=⟨_,rfl⟩
  have hot:o=t:=by rw[ho];simp[cD,hk]
  obtain⟨R1,R2,R3,R4,R5,R6,R7⟩:=RLA.o o ho;subst hot;obtain⟨was,hwas⟩:∃ x,(aS o n).getD aM=x:=⟨_,rfl⟩
  obtain⟨th,hth⟩:∃ x,(aS o n).isSome=x:=⟨_,rfl⟩
  rw[hwas]at R1 R2 R3 R6 R7;have HWAS:=aa hwas;have HTH:=aa hth;have RL:=aa R1;have RN:=aa R2;have RMA:=aa R3;have PO:=aa R4;have LO:=aa R5;have OW:=aa R6;have CW:=aa R7;clear R1 R2 R3 R4 R5 R6 R7 hwas hth;obtain⟨WV,hWV⟩:∃ W,W=((w.alloc (.cells (KV o a1 c1 b1 d1) 35)).alloc (.cells (KV x a2 c2 b2 d2) 35)).alloc (.cells Lb 35):=⟨_,rfl⟩
  have BA:Ll (La w WV):=aa (by rw[hWV];exact ab (ab (ae _ _) (ae _ _)) (ae _ _));have VB:Ll (KY WV w.heap.size o a1 c1 b1 d1):=aa (by rw[hWV];exact lI _ _ _ _);have XB:Ll (KY WV (w.heap.size+1) x a2 c2 b2 d2):=aa (by rw[hWV];exact mE _ _ _ _);have RB0:Ll (Lc WV (w.heap.size+2)):=aa (by rw[hWV];exact jI _ _ _ _);have SA:Ll (w.heap.size+3<=WV.heap.size):=aa (by rw[hWV];simp);have OI:=aa (HT.o.bel BA.o);have XI:=aa (HX.o.bel BA.o);have NC:=aa (ah BA.o NC0.o);have NT:Ll (ao WV okn ns (.slice (some ⟨nb,no+1,none⟩) ns.length (nc - 1))):=aa ((lw NV.o).bel BA.o);have HWV:=aa hWV;clear hWV hk ho;go_enter func135,ntmps135;go_upto_region 3 with fail
  rw[<-HWV.o];go_cut [7,8] (fun pv bv wc=>∃ (g7:Nat) (a3 b3:Option Addr) (c3 d3:Nat),pv=.pointer (some ⟨g7,0,none⟩)/\bv=.bool th/\(KY wc g7 was a3 c3 b3 d3/\WV.heap.size<=g7/\La WV wc/\In wc (Lj ok w) was (.agg (KV was a3 c3 b3 d3))))
  case first=>
   refine aD (fun wS=>La WV wS) [9] (by kernel_rfl) (aC _ 1) (fun LI=>?_);refine WT.out ?_;iterate 4
    first
     | refine tk (i:=0) (v:=?_) [4,5,6,7,9,10] rfl rfl (by decide +kernel) rfl (fun _ _ _ h=>h) LI ?_ ?_
     | refine tk (i:=1) (v:=?_) [2,3,4,5,6,7,9,10] rfl rfl (by decide +kernel) rfl (fun _ _ _ h=>h) LI ?_ ?_
     | refine tk (i:=2) (v:=?_) [3,4,5,6,7,9,10] rfl rfl (by decide +kernel) rfl (fun _ _ _ h=>h) LI ?_ ?_
     | refine tk (i:=3) (v:=?_) [4,5,6,7,9,10] rfl rfl (by decide +kernel) rfl (fun _ _ _ h=>h) LI ?_ ?_
    rotate_left
    ·intro wS LN;have u0_:=(af LN VB.o).c;have nm:=ah LN NC.o;go_simp;all_goals with_reducible rfl
    simp only[av,List.set]
   repeat' (first
    | exact nl
    |(refine ip (i:=4) (o:=_) rfl (fun K hK=>?_) ?_
      go_simp;refine(ig _ (Lj ok w) o _ n (by exact OI.o.bel LI)).mono ?_;rintro e w4q ⟨rv,rfl,hb5,hr5⟩;rw[HWAS.o]at hr5;rw[HTH.o];obtain⟨a3,b3,c3,d3,rfl⟩:=hr5.form;refine hK.out _ _ (ab LI hb5) (fun LJ=>?_);have WI:=aa hr5;try replace NB:=aa (af hb5 NB.o)
      have Ma:Ll True:=aa trivial;clear hb5 hr5;clear hK K;replace LI:=LJ;clear LJ;try simp only[Act.put,Mt,Mu,Mv])
    |(refine ip (i:=8) (o:=_) rfl (fun K hK=>?_) ?_
      go_simp;refine hK.out _ _ (ab LI (ae _ _)) (fun LJ=>?_);have NB:=aa (yl LI);first | (have c9:=Ma.o;clear c9;have FINA:=aa (tc LI WI.o)) | skip
      clear hK K;replace LI:=LJ;clear LJ;try simp only[Act.put,Mt,Mu,Mv])
    |(refine jZ (i:=9) (o:=_) (by decide +kernel) rfl (fun K hK=>?_)
      try rw[show (World.drew WV).heap.size=WV.heap.size from rfl]at NB
      have n0_:=NB.o.c;first | (have c9:=FINA.o;clear c9) | (have FINB:=aa (sX (g:=WV.heap.size) LI (MG _) NB.o WI.o (fun k hk=>by have h9:=hk.2;have:=SA.o;omega)))
      go_simp;refine hK.out _ _ ?_;clear hK K;try simp only[Act.put,Mt,Mu,Mv])
    |(refine jZ (i:=10) (o:=_) (by decide +kernel) rfl (fun K hK=>?_)
      go_simp;refine hK.out _ _ ?_;clear hK K;try simp only[Act.put,Mt,Mu,Mv])
    |(first
       | refine tk (i:=5) (v:=?_) [6,7,9,10] rfl rfl (by decide +kernel) rfl (fun _ _ _ h=>h) (by exact LI) ?_ ?_
       | refine tk (i:=6) (v:=?_) [9,10] rfl rfl (by decide +kernel) rfl (fun _ _ _ h=>h) (by exact LI) ?_ ?_
      rotate_left
      ·intro wS LN;go_simp;all_goals with_reducible rfl
      simp only[av,List.set])
    |(refine JY (i:=7) (d:=20) (v:=?_) rfl rfl (by decide +kernel) rfl (fun _ _ _ h=>h) (by exact LI) ?_ ?_
      rotate_left
      ·intro wS;go_simp;all_goals with_reducible rfl
      simp only[av,List.set])
    | refine gc [4,8] (by decide +kernel) ?_
    | refine gc [8] (by decide +kernel) ?_
    | refine gc [4] (by decide +kernel) ?_
    | fail)
   all_goals
    refine dn (by kernel_rfl) ?_;go_wp2_with fail
    go_meet
    case rel=>first | exact⟨_,_,_,_,_,rfl,rfl,FINA.o⟩ | exact⟨_,_,_,_,_,rfl,rfl,FINB.o⟩
  case rest=>
   obtain⟨g7,a3,b3,c3,d3,rfl,rfl,hcW,hcG,hcB,hcI⟩:=hcut;have WB:=aa hcW;have BWC:=aa hcB;have WCI:=aa hcI;have SC:Ll (w.heap.size+3<=wc.heap.size):=aa (MH SA.o hcB.size);have BC:=aa (ab BA.o hcB);replace VB:=aa (af hcB VB.o);replace XB:=aa (af hcB XB.o);have RB:=aa (af hcB RB0.o);replace NC:=aa (ah hcB NC.o);clear hcW hcG hcB hcI;cases ns with
   | nil=>
    have w0_:=WB.o.c;have x0_:=XB.o.c;have v0_:=VB.o.c;by_cases hb:was.kind=5/\x.kind=5
    ·have e1:(was.kind == 5)=true:=by simp[hb.1]
     have e2:(x.kind == 5)=true:=by simp[hb.2]
     have RES:Ll (cK [n] o x=o):=aa (RL.o hb);have n0_:=RB.o.c;have ZB:=aa (LH RB.o.set o a1 c1 b1 d1);have Z:=aa (cY (w:=w) (ok:=ok) (C:=wc.heap.size) (g:=(w.heap.size+2)) (uK (OI.o.bel BWC.o)) BC.o (by omega) (by have:=SC.o;omega));clear hb;go_wp2_with fail
     have z0_:=ZB.o.c;refine MM (v:=.agg (KV o a1 c1 b1 d1)) ?_ rfl ?_
     ·simp only[ar]at z0_;simp[results,results135,go_sem,z0_]
     ·exact⟨_,rfl,by rw[RES.o];exact Z.o.2,Z.o.1⟩
    ·obtain⟨y,hy⟩:∃ y,aG o n x=y:=⟨_,rfl⟩
     have HY:=aa hy;have RES:Ll (cK [n] o x=y):=aa (by rw[<-hy];exact RN.o hb);clear hy;have e9:(was.kind == 5&&x.kind == 5)=false:=by rw[Bool.and_eq_false_iff,MO,MO];by_cases h9:was.kind=5;exact .inr (fun h8=>hb ⟨h9,h8⟩);exact .inl h9
     by_cases hwk:was.kind=5
     ·have e1:(was.kind == 5)=true:=by simp[hwk]
      have e2:(x.kind == 5)=false:=by rw[MO];exact fun h8=>hb ⟨hwk,h8⟩
      clear hb hwk e9;go_upto_region 8 with fail
      refine aD (fun wS=>La wc wS) [6] (by kernel_rfl) (aC _ 1) (fun LI=>?_);refine WT.out ?_;iterate 5
       first
        | refine tk (i:=0) (v:=?_) [5,6] rfl rfl (by decide +kernel) rfl (fun _ _ _ h=>h) LI ?_ ?_
        | refine tk (i:=1) (v:=?_) [2,3,5,6] rfl rfl (by decide +kernel) rfl (fun _ _ _ h=>h) LI ?_ ?_
        | refine tk (i:=2) (v:=?_) [3,5,6] rfl rfl (by decide +kernel) rfl (fun _ _ _ h=>h) LI ?_ ?_
        | refine tk (i:=3) (v:=?_) [5,6] rfl rfl (by decide +kernel) rfl (fun _ _ _ h=>h) LI ?_ ?_
        | refine tk (i:=4) (v:=?_) [5,6] rfl rfl (by decide +kernel) rfl (fun _ _ _ h=>h) LI ?_ ?_
       rotate_left
       ·intro wS LN;have u0_:=(af LN VB.o).c;obtain⟨e0,e1,e2,e3,e4,-⟩:=(af LN XB.o).c;have nm:=ah LN NC.o;have f0_:=(af LN WB.o).c;go_simp;all_goals with_reducible rfl
       simp only[av,List.set]
      repeat' (first
       | exact nl
       |(refine ip (i:=5) (o:=_) rfl (fun K hK=>?_) ?_
         go_simp;refine(gf _ (Lj ok w) o x _ _ n (by exact(OI.o.bel BWC.o).bel LI) (by exact(XI.o.bel BWC.o).bel LI) PO.o LO.o NL.o).mono ?_;rintro e w5q ⟨rv,rfl,hr5,hb5⟩;rw[HY.o]at hr5;obtain⟨a4,b4,c4,d4,rfl⟩:=hr5.form;refine hK.out _ _ (ab LI hb5) (fun LJ=>?_);have YI:=aa (jr (D:=wc.heap.size) hr5 LI.size);clear hb5 hr5;clear hK K;replace LI:=LJ;clear LJ;try simp only[Act.put,Mt,Mu,Mv])
       |(refine jZ (i:=6) (o:=_) (by decide +kernel) rfl (fun K hK=>?_)
         have HB:=aa (af LI RB.o);have n0_:=HB.o.c;have ZB:=aa (LH HB.o.set y a4 c4 b4 d4);have Z:=aa (cY (w:=w) (ok:=ok) (C:=wc.heap.size) (g:=(w.heap.size+2)) YI.o (ab BC.o LI) (by omega) (by have:=SC.o;omega));go_simp;refine hK.out _ _ ?_;clear hK K;try simp only[Act.put,Mt,Mu,Mv])
       | refine gc [5] (by decide +kernel) ?_
       | fail)
      all_goals
       refine dn (by kernel_rfl) ?_;go_wp2_with fail
       have z0_:=ZB.o.c;refine MM (v:=.agg (KV y a4 c4 b4 d4)) ?_ rfl ?_
       ·simp only[ar]at z0_;simp[results,results135,go_sem,z0_]
       ·exact⟨_,rfl,by rw[RES.o];exact Z.o.2,Z.o.1⟩
     ·have e1:(was.kind == 5)=false:=by rw[MO];exact hwk
      clear hb hwk e9;go_upto_region 8 with fail
      refine aD (fun wS=>La wc wS) [6] (by kernel_rfl) (aC _ 1) (fun LI=>?_);refine WT.out ?_;iterate 5
       first
        | refine tk (i:=0) (v:=?_) [5,6] rfl rfl (by decide +kernel) rfl (fun _ _ _ h=>h) LI ?_ ?_
        | refine tk (i:=1) (v:=?_) [2,3,5,6] rfl rfl (by decide +kernel) rfl (fun _ _ _ h=>h) LI ?_ ?_
        | refine tk (i:=2) (v:=?_) [3,5,6] rfl rfl (by decide +kernel) rfl (fun _ _ _ h=>h) LI ?_ ?_
        | refine tk (i:=3) (v:=?_) [5,6] rfl rfl (by decide +kernel) rfl (fun _ _ _ h=>h) LI ?_ ?_
        | refine tk (i:=4) (v:=?_) [5,6] rfl rfl (by decide +kernel) rfl (fun _ _ _ h=>h) LI ?_ ?_
       rotate_left
       ·intro wS LN;have u0_:=(af LN VB.o).c;obtain⟨e0,e1,e2,e3,e4,-⟩:=(af LN XB.o).c;have nm:=ah LN NC.o;have f0_:=(af LN WB.o).c;go_simp;all_goals with_reducible rfl
       simp only[av,List.set]
      repeat' (first
       | exact nl
       |(refine ip (i:=5) (o:=_) rfl (fun K hK=>?_) ?_
         go_simp;refine(gf _ (Lj ok w) o x _ _ n (by exact(OI.o.bel BWC.o).bel LI) (by exact(XI.o.bel BWC.o).bel LI) PO.o LO.o NL.o).mono ?_;rintro e w5q ⟨rv,rfl,hr5,hb5⟩;rw[HY.o]at hr5;obtain⟨a4,b4,c4,d4,rfl⟩:=hr5.form;refine hK.out _ _ (ab LI hb5) (fun LJ=>?_);have YI:=aa (jr (D:=wc.heap.size) hr5 LI.size);clear hb5 hr5;clear hK K;replace LI:=LJ;clear LJ;try simp only[Act.put,Mt,Mu,Mv])
       |(refine jZ (i:=6) (o:=_) (by decide +kernel) rfl (fun K hK=>?_)
         have HB:=aa (af LI RB.o);have n0_:=HB.o.c;have ZB:=aa (LH HB.o.set y a4 c4 b4 d4);have Z:=aa (cY (w:=w) (ok:=ok) (C:=wc.heap.size) (g:=(w.heap.size+2)) YI.o (ab BC.o LI) (by omega) (by have:=SC.o;omega));go_simp;refine hK.out _ _ ?_;clear hK K;try simp only[Act.put,Mt,Mu,Mv])
       | refine gc [5] (by decide +kernel) ?_
       | fail)
      all_goals
       refine dn (by kernel_rfl) ?_;go_wp2_with fail
       have z0_:=ZB.o.c;refine MM (v:=.agg (KV y a4 c4 b4 d4)) ?_ rfl ?_
       ·simp only[ar]at z0_;simp[results,results135,go_sem,z0_]
       ·exact⟨_,rfl,by rw[RES.o];exact Z.o.2,Z.o.1⟩
   | cons m ns=>
    obtain⟨u,hu⟩:∃ u,cK (m :: ns) was x=u:=⟨_,rfl⟩
    have HU:=aa hu;obtain⟨y,hy⟩:∃ y,aG o n u=y:=⟨_,rfl⟩
    have HY:=aa hy;have RES:Ll (cK (n :: m :: ns) o x=y):=aa (by rw[<-hy,<-hu];exact RMA.o m ns);clear hu hy;simp only[My]at hcl hn1 hnl ⊢;obtain⟨mc,rfl⟩:∃ mc,nc=mc+2:=⟨nc - 2,by omega⟩
    have NTL:Ll (ao WV okn (m :: ns) (.slice (some ⟨nb,no+1,none⟩) (ns.length+1) (mc+1))):=aa (by have:=NT.o;simpa using this);have g1:(1:Int) < (ns.length:Int)+1+1:=by omega
    have g2:(ns.length:Int)+1+1<=(mc:Int)+2:=by omega
    have g3:(1:Int)<=(ns.length:Int)+1+1:=by omega
    have g5:(0:Int) < (ns.length:Int)+1+1:=by omega
    have g4:decide (1 < ns.length+1+1)=true:=decide_eq_true (by omega);go_upto_region 5 with fail
    refine aD (fun wS=>La wc wS) [10] (by kernel_rfl) (aC _ 1) (fun LI=>?_);refine WT.out ?_;iterate 8
     first
      | refine tk (i:=0) (v:=?_) [9,10] rfl rfl (by decide +kernel) rfl (fun _ _ _ h=>h) LI ?_ ?_
      | refine tk (i:=1) (v:=?_) [2,3,9,10] rfl rfl (by decide +kernel) rfl (fun _ _ _ h=>h) LI ?_ ?_
      | refine tk (i:=2) (v:=?_) [3,9,10] rfl rfl (by decide +kernel) rfl (fun _ _ _ h=>h) LI ?_ ?_
      | refine tk (i:=3) (v:=?_) [9,10] rfl rfl (by decide +kernel) rfl (fun _ _ _ h=>h) LI ?_ ?_
      | refine tk (i:=4) (v:=?_) [8,9,10] rfl rfl (by decide +kernel) rfl (fun _ _ _ h=>h) LI ?_ ?_
      | refine tk (i:=5) (v:=?_) [6,8,9,10] rfl rfl (by decide +kernel) rfl (fun _ _ _ h=>h) LI ?_ ?_
      | refine tk (i:=6) (v:=?_) [8,9,10] rfl rfl (by decide +kernel) rfl (fun _ _ _ h=>h) LI ?_ ?_
      | refine tk (i:=7) (v:=?_) [8,9,10] rfl rfl (by decide +kernel) rfl (fun _ _ _ h=>h) LI ?_ ?_
     rotate_left
     ·intro wS LN;have u0_:=(af LN VB.o).c;obtain⟨e0,e1,e2,e3,e4,-⟩:=(af LN XB.o).c;have nm:=ah LN NC.o;have f0_:=(af LN WB.o).c;go_simp;all_goals with_reducible rfl
     simp only[av,List.set]
    repeat' (first
     | exact nl
     |(refine ip (i:=8) (o:=_) rfl (fun K hK=>?_) ?_
       go_simp;refine(IH.o _ (Lj ok w) okn was x _ _ _ (by exact WCI.o.bel LI) (by exact(XI.o.bel BWC.o).bel LI) (by exact(NTL.o.bel BWC.o).bel LI) (by simp) OW.o CW.o).mono ?_;rintro e w8q ⟨rv,rfl,hr5,hb5⟩;rw[HU.o]at hr5;obtain⟨a5,b5,c5,d5,rfl⟩:=hr5.form;refine hK.out _ _ (ab LI hb5) (fun LJ=>?_);have UI:=aa hr5;have HB8:=aa LI;have HS8:=aa LI.size;clear hb5 hr5;clear hK K;replace LI:=LJ;clear LJ;try simp only[Act.put,Mt,Mu,Mv])
     |(refine ip (i:=9) (o:=_) rfl (fun K hK=>?_) ?_
       go_simp;refine(gf _ (bQ (Lj ok w) wc.heap.size) o u _ _ n (by exact tT ((OI.o.bel BWC.o).bel LI)) (by exact UI.o.weak fun k hk=>hk.imp id fun h9=>MH HS8.o h9) PO.o LO.o NL.o).mono ?_;rintro e w9q ⟨rv,rfl,hr5,hb5⟩;rw[HY.o]at hr5;obtain⟨a4,b4,c4,d4,rfl⟩:=hr5.form;refine hK.out _ _ (ab LI hb5) (fun LJ=>?_);have YI:Ll (In _ (bg ok w.heap.size wc.heap.size) y _):=aa (hr5.weak fun k hk=>by rcases hk with hk | hk;exact hk;exact Or.inr (MH LI.size hk));clear hb5 hr5;clear hK K;replace LI:=LJ;clear LJ;try simp only[Act.put,Mt,Mu,Mv])
     |(refine jZ (i:=10) (o:=_) (by decide +kernel) rfl (fun K hK=>?_)
       have HB:=aa (af LI RB.o);have n0_:=HB.o.c;have ZB:=aa (LH HB.o.set y a4 c4 b4 d4);have Z:=aa (cY (w:=w) (ok:=ok) (C:=wc.heap.size) (g:=(w.heap.size+2)) YI.o (ab BC.o LI) (by omega) (by have:=SC.o;omega));go_simp;refine hK.out _ _ ?_;clear hK K;try simp only[Act.put,Mt,Mu,Mv])
     | refine gc [8] (by decide +kernel) ?_
     | refine gc [9] (by decide +kernel) ?_
     | fail)
    all_goals
     refine dn (by kernel_rfl) ?_;go_wp2_with fail
     have z0_:=ZB.o.c;refine MM (v:=.agg (KV y a4 c4 b4 d4)) ?_ rfl ?_
     ·simp only[ar]at z0_;simp[results,results135,go_sem,z0_]
     ·exact⟨_,rfl,by rw[RES.o];exact Z.o.2,Z.o.1⟩
 ·have e0:(t.kind != 5)=true:=by simp[hk]
  have e00:(t.kind == 5)=false:=by rw[MO];exact hk
  obtain⟨o,ho⟩:∃ o,o=cD t:=⟨_,rfl⟩
  have hot:o=jM:=by rw[ho];simp[cD,hk]
  obtain⟨R1,R2,R3,R4,R5,R6,R7⟩:=RLA.o o ho;obtain⟨was,hwas⟩:∃ x,(aS o n).getD aM=x:=⟨_,rfl⟩
  obtain⟨th,hth⟩:∃ x,(aS o n).isSome=x:=⟨_,rfl⟩
  rw[hwas]at R1 R2 R3 R6 R7;have HWAS:=aa hwas;have HTH:=aa hth;have RL:=aa R1;have RN:=aa R2;have RMA:=aa R3;have PO:=aa R4;have LO:=aa R5;have OW:=aa R6;have CW:=aa R7;clear R1 R2 R3 R4 R5 R6 R7 hwas hth;obtain⟨WV,hWV⟩:∃ W,W=((w.alloc (.cells #[.int .i64 5,.int .i64 0,.string ⟨#[]⟩,.slice none 0 0,.slice none 0 0] 35)).alloc (.cells (KV x a2 c2 b2 d2) 35)).alloc (.cells Lb 35):=⟨_,rfl⟩
  have BA:Ll (La w WV):=aa (by rw[hWV];exact ab (ab (ae _ _) (ae _ _)) (ae _ _));obtain⟨a1,ha1⟩:∃ a:Option Addr,a=none:=⟨_,rfl⟩
  obtain⟨b1,hb1⟩:∃ a:Option Addr,a=none:=⟨_,rfl⟩
  obtain⟨c1,hc1⟩:∃ a:Nat,a=0:=⟨_,rfl⟩
  obtain⟨d1,hd1⟩:∃ a:Nat,a=0:=⟨_,rfl⟩
  have VB:Ll (KY WV w.heap.size o a1 c1 b1 d1):=aa (by rw[hWV,hot,ha1,hb1,hc1,hd1];exact lI _ _ _ _);have XB:Ll (KY WV (w.heap.size+1) x a2 c2 b2 d2):=aa (by rw[hWV];exact mE _ _ _ _);have RB0:Ll (Lc WV (w.heap.size+2)):=aa (by rw[hWV];exact jI _ _ _ _);have SA:Ll (w.heap.size+3<=WV.heap.size):=aa (by rw[hWV];simp);have OI:Ll (In WV (Lj ok w) o (.agg (KV o a1 c1 b1 d1))):=aa (by rw[hot,ha1,hb1,hc1,hd1];exact Ac WV _ 5 0 (by unfold dW;simp) (by unfold dW;simp));have XI:=aa (HX.o.bel BA.o);have NC:=aa (ah BA.o NC0.o);have NT:Ll (ao WV okn ns (.slice (some ⟨nb,no+1,none⟩) ns.length (nc - 1))):=aa ((lw NV.o).bel BA.o);have HWV:=aa hWV;clear hWV hk ho hot ha1 hb1 hc1 hd1;go_enter func135,ntmps135;go_upto_region 3 with fail
  rw[<-HWV.o];go_cut [7,8] (fun pv bv wc=>∃ (g7:Nat) (a3 b3:Option Addr) (c3 d3:Nat),pv=.pointer (some ⟨g7,0,none⟩)/\bv=.bool th/\(KY wc g7 was a3 c3 b3 d3/\WV.heap.size<=g7/\La WV wc/\In wc (Lj ok w) was (.agg (KV was a3 c3 b3 d3))))
  case first=>
   refine aD (fun wS=>La WV wS) [9] (by kernel_rfl) (aC _ 1) (fun LI=>?_);refine WT.out ?_;iterate 4
    first
     | refine tk (i:=0) (v:=?_) [4,5,6,7,9,10] rfl rfl (by decide +kernel) rfl (fun _ _ _ h=>h) LI ?_ ?_
     | refine tk (i:=1) (v:=?_) [2,3,4,5,6,7,9,10] rfl rfl (by decide +kernel) rfl (fun _ _ _ h=>h) LI ?_ ?_
     | refine tk (i:=2) (v:=?_) [3,4,5,6,7,9,10] rfl rfl (by decide +kernel) rfl (fun _ _ _ h=>h) LI ?_ ?_
     | refine tk (i:=3) (v:=?_) [4,5,6,7,9,10] rfl rfl (by decide +kernel) rfl (fun _ _ _ h=>h) LI ?_ ?_
    rotate_left
    ·intro wS LN;have u0_:=(af LN VB.o).c;have nm:=ah LN NC.o;go_simp;all_goals with_reducible rfl
    simp only[av,List.set]
   repeat' (first
    | exact nl
    |(refine ip (i:=4) (o:=_) rfl (fun K hK=>?_) ?_
      go_simp;refine(ig _ (Lj ok w) o _ n (by exact OI.o.bel LI)).mono ?_;rintro e w4q ⟨rv,rfl,hb5,hr5⟩;rw[HWAS.o]at hr5;rw[HTH.o];obtain⟨a3,b3,c3,d3,rfl⟩:=hr5.form;refine hK.out _ _ (ab LI hb5) (fun LJ=>?_);have WI:=aa hr5;try replace NB:=aa (af hb5 NB.o)
      have Ma:Ll True:=aa trivial;clear hb5 hr5;clear hK K;replace LI:=LJ;clear LJ;try simp only[Act.put,Mt,Mu,Mv])
    |(refine ip (i:=8) (o:=_) rfl (fun K hK=>?_) ?_
      go_simp;refine hK.out _ _ (ab LI (ae _ _)) (fun LJ=>?_);have NB:=aa (yl LI);first | (have c9:=Ma.o;clear c9;have FINA:=aa (tc LI WI.o)) | skip
      clear hK K;replace LI:=LJ;clear LJ;try simp only[Act.put,Mt,Mu,Mv])
    |(refine jZ (i:=9) (o:=_) (by decide +kernel) rfl (fun K hK=>?_)
      try rw[show (World.drew WV).heap.size=WV.heap.size from rfl]at NB
      have n0_:=NB.o.c;first | (have c9:=FINA.o;clear c9) | (have FINB:=aa (sX (g:=WV.heap.size) LI (MG _) NB.o WI.o (fun k hk=>by have h9:=hk.2;have:=SA.o;omega)))
      go_simp;refine hK.out _ _ ?_;clear hK K;try simp only[Act.put,Mt,Mu,Mv])
    |(refine jZ (i:=10) (o:=_) (by decide +kernel) rfl (fun K hK=>?_)
      go_simp;refine hK.out _ _ ?_;clear hK K;try simp only[Act.put,Mt,Mu,Mv])
    |(first
       | refine tk (i:=5) (v:=?_) [6,7,9,10] rfl rfl (by decide +kernel) rfl (fun _ _ _ h=>h) (by exact LI) ?_ ?_
       | refine tk (i:=6) (v:=?_) [9,10] rfl rfl (by decide +kernel) rfl (fun _ _ _ h=>h) (by exact LI) ?_ ?_
      rotate_left
      ·intro wS LN;go_simp;all_goals with_reducible rfl
      simp only[av,List.set])
    |(refine JY (i:=7) (d:=20) (v:=?_) rfl rfl (by decide +kernel) rfl (fun _ _ _ h=>h) (by exact LI) ?_ ?_
      rotate_left
      ·intro wS;go_simp;all_goals with_reducible rfl
      simp only[av,List.set])
    | refine gc [4,8] (by decide +kernel) ?_
    | refine gc [8] (by decide +kernel) ?_
    | refine gc [4] (by decide +kernel) ?_
    | fail)
   all_goals
    refine dn (by kernel_rfl) ?_;go_wp2_with fail
    go_meet
    case rel=>first | exact⟨_,_,_,_,_,rfl,rfl,FINA.o⟩ | exact⟨_,_,_,_,_,rfl,rfl,FINB.o⟩
  case rest=>
   obtain⟨g7,a3,b3,c3,d3,rfl,rfl,hcW,hcG,hcB,hcI⟩:=hcut;have WB:=aa hcW;have BWC:=aa hcB;have WCI:=aa hcI;have SC:Ll (w.heap.size+3<=wc.heap.size):=aa (MH SA.o hcB.size);have BC:=aa (ab BA.o hcB);replace VB:=aa (af hcB VB.o);replace XB:=aa (af hcB XB.o);have RB:=aa (af hcB RB0.o);replace NC:=aa (ah hcB NC.o);clear hcW hcG hcB hcI;cases ns with
   | nil=>
    have w0_:=WB.o.c;have x0_:=XB.o.c;have v0_:=VB.o.c;by_cases hb:was.kind=5/\x.kind=5
    ·have e1:(was.kind == 5)=true:=by simp[hb.1]
     have e2:(x.kind == 5)=true:=by simp[hb.2]
     have RES:Ll (cK [n] t x=o):=aa (RL.o hb);have n0_:=RB.o.c;have ZB:=aa (LH RB.o.set o a1 c1 b1 d1);have Z:=aa (cY (w:=w) (ok:=ok) (C:=wc.heap.size) (g:=(w.heap.size+2)) (uK (OI.o.bel BWC.o)) BC.o (by omega) (by have:=SC.o;omega));clear hb;go_wp2_with fail
     have z0_:=ZB.o.c;refine MM (v:=.agg (KV o a1 c1 b1 d1)) ?_ rfl ?_
     ·simp only[ar]at z0_;simp[results,results135,go_sem,z0_]
     ·exact⟨_,rfl,by rw[RES.o];exact Z.o.2,Z.o.1⟩
    ·obtain⟨y,hy⟩:∃ y,aG o n x=y:=⟨_,rfl⟩
     have HY:=aa hy;have RES:Ll (cK [n] t x=y):=aa (by rw[<-hy];exact RN.o hb);clear hy;have e9:(was.kind == 5&&x.kind == 5)=false:=by rw[Bool.and_eq_false_iff,MO,MO];by_cases h9:was.kind=5;exact .inr (fun h8=>hb ⟨h9,h8⟩);exact .inl h9
     by_cases hwk:was.kind=5
     ·have e1:(was.kind == 5)=true:=by simp[hwk]
      have e2:(x.kind == 5)=false:=by rw[MO];exact fun h8=>hb ⟨hwk,h8⟩
      clear hb hwk e9;go_upto_region 8 with fail
      refine aD (fun wS=>La wc wS) [6] (by kernel_rfl) (aC _ 1) (fun LI=>?_);refine WT.out ?_;iterate 5
       first
        | refine tk (i:=0) (v:=?_) [5,6] rfl rfl (by decide +kernel) rfl (fun _ _ _ h=>h) LI ?_ ?_
        | refine tk (i:=1) (v:=?_) [2,3,5,6] rfl rfl (by decide +kernel) rfl (fun _ _ _ h=>h) LI ?_ ?_
        | refine tk (i:=2) (v:=?_) [3,5,6] rfl rfl (by decide +kernel) rfl (fun _ _ _ h=>h) LI ?_ ?_
        | refine tk (i:=3) (v:=?_) [5,6] rfl rfl (by decide +kernel) rfl (fun _ _ _ h=>h) LI ?_ ?_
        | refine tk (i:=4) (v:=?_) [5,6] rfl rfl (by decide +kernel) rfl (fun _ _ _ h=>h) LI ?_ ?_
       rotate_left
       ·intro wS LN;have u0_:=(af LN VB.o).c;obtain⟨e0,e1,e2,e3,e4,-⟩:=(af LN XB.o).c;have nm:=ah LN NC.o;have f0_:=(af LN WB.o).c;go_simp;all_goals with_reducible rfl
       simp only[av,List.set]
      repeat' (first
       | exact nl
       |(refine ip (i:=5) (o:=_) rfl (fun K hK=>?_) ?_
         go_simp;refine(gf _ (Lj ok w) o x _ _ n (by exact(OI.o.bel BWC.o).bel LI) (by exact(XI.o.bel BWC.o).bel LI) PO.o LO.o NL.o).mono ?_;rintro e w5q ⟨rv,rfl,hr5,hb5⟩;rw[HY.o]at hr5;obtain⟨a4,b4,c4,d4,rfl⟩:=hr5.form;refine hK.out _ _ (ab LI hb5) (fun LJ=>?_);have YI:=aa (jr (D:=wc.heap.size) hr5 LI.size);clear hb5 hr5;clear hK K;replace LI:=LJ;clear LJ;try simp only[Act.put,Mt,Mu,Mv])
       |(refine jZ (i:=6) (o:=_) (by decide +kernel) rfl (fun K hK=>?_)
         have HB:=aa (af LI RB.o);have n0_:=HB.o.c;have ZB:=aa (LH HB.o.set y a4 c4 b4 d4);have Z:=aa (cY (w:=w) (ok:=ok) (C:=wc.heap.size) (g:=(w.heap.size+2)) YI.o (ab BC.o LI) (by omega) (by have:=SC.o;omega));go_simp;refine hK.out _ _ ?_;clear hK K;try simp only[Act.put,Mt,Mu,Mv])
       | refine gc [5] (by decide +kernel) ?_
       | fail)
      all_goals
       refine dn (by kernel_rfl) ?_;go_wp2_with fail
       have z0_:=ZB.o.c;refine MM (v:=.agg (KV y a4 c4 b4 d4)) ?_ rfl ?_
       ·simp only[ar]at z0_;simp[results,results135,go_sem,z0_]
       ·exact⟨_,rfl,by rw[RES.o];exact Z.o.2,Z.o.1⟩
     ·have e1:(was.kind == 5)=false:=by rw[MO];exact hwk
      clear hb hwk e9;go_upto_region 8 with fail
      refine aD (fun wS=>La wc wS) [6] (by kernel_rfl) (aC _ 1) (fun LI=>?_);refine WT.out ?_;iterate 5
       first
        | refine tk (i:=0) (v:=?_) [5,6] rfl rfl (by decide +kernel) rfl (fun _ _ _ h=>h) LI ?_ ?_
        | refine tk (i:=1) (v:=?_) [2,3,5,6] rfl rfl (by decide +kernel) rfl (fun _ _ _ h=>h) LI ?_ ?_
        | refine tk (i:=2) (v:=?_) [3,5,6] rfl rfl (by decide +kernel) rfl (fun _ _ _ h=>h) LI ?_ ?_
        | refine tk (i:=3) (v:=?_) [5,6] rfl rfl (by decide +kernel) rfl (fun _ _ _ h=>h) LI ?_ ?_
        | refine tk (i:=4) (v:=?_) [5,6] rfl rfl (by decide +kernel) rfl (fun _ _ _ h=>h) LI ?_ ?_
       rotate_left
       ·intro wS LN;have u0_:=(af LN VB.o).c;obtain⟨e0,e1,e2,e3,e4,-⟩:=(af LN XB.o).c;have nm:=ah LN NC.o;have f0_:=(af LN WB.o).c;go_simp;all_goals with_reducible rfl
       simp only[av,List.set]
      repeat' (first
       | exact nl
       |(refine ip (i:=5) (o:=_) rfl (fun K hK=>?_) ?_
         go_simp;refine(gf _ (Lj ok w) o x _ _ n (by exact(OI.o.bel BWC.o).bel LI) (by exact(XI.o.bel BWC.o).bel LI) PO.o LO.o NL.o).mono ?_;rintro e w5q ⟨rv,rfl,hr5,hb5⟩;rw[HY.o]at hr5;obtain⟨a4,b4,c4,d4,rfl⟩:=hr5.form;refine hK.out _ _ (ab LI hb5) (fun LJ=>?_);have YI:=aa (jr (D:=wc.heap.size) hr5 LI.size);clear hb5 hr5;clear hK K;replace LI:=LJ;clear LJ;try simp only[Act.put,Mt,Mu,Mv])
       |(refine jZ (i:=6) (o:=_) (by decide +kernel) rfl (fun K hK=>?_)
         have HB:=aa (af LI RB.o);have n0_:=HB.o.c;have ZB:=aa (LH HB.o.set y a4 c4 b4 d4);have Z:=aa (cY (w:=w) (ok:=ok) (C:=wc.heap.size) (g:=(w.heap.size+2)) YI.o (ab BC.o LI) (by omega) (by have:=SC.o;omega));go_simp;refine hK.out _ _ ?_;clear hK K;try simp only[Act.put,Mt,Mu,Mv])
       | refine gc [5] (by decide +kernel) ?_
       | fail)
      all_goals
       refine dn (by kernel_rfl) ?_;go_wp2_with fail
       have z0_:=ZB.o.c;refine MM (v:=.agg (KV y a4 c4 b4 d4)) ?_ rfl ?_
       ·simp only[ar]at z0_;simp[results,results135,go_sem,z0_]
       ·exact⟨_,rfl,by rw[RES.o];exact Z.o.2,Z.o.1⟩
   | cons m ns=>
    obtain⟨u,hu⟩:∃ u,cK (m :: ns) was x=u:=⟨_,rfl⟩
    have HU:=aa hu;obtain⟨y,hy⟩:∃ y,aG o n u=y:=⟨_,rfl⟩
    have HY:=aa hy;have RES:Ll (cK (n :: m :: ns) t x=y):=aa (by rw[<-hy,<-hu];exact RMA.o m ns);clear hu hy;simp only[My]at hcl hn1 hnl ⊢;obtain⟨mc,rfl⟩:∃ mc,nc=mc+2:=⟨nc - 2,by omega⟩
    have NTL:Ll (ao WV okn (m :: ns) (.slice (some ⟨nb,no+1,none⟩) (ns.length+1) (mc+1))):=aa (by have:=NT.o;simpa using this);have g1:(1:Int) < (ns.length:Int)+1+1:=by omega
    have g2:(ns.length:Int)+1+1<=(mc:Int)+2:=by omega
    have g3:(1:Int)<=(ns.length:Int)+1+1:=by omega
    have g5:(0:Int) < (ns.length:Int)+1+1:=by omega
    have g4:decide (1 < ns.length+1+1)=true:=decide_eq_true (by omega);go_upto_region 5 with fail
    refine aD (fun wS=>La wc wS) [10] (by kernel_rfl) (aC _ 1) (fun LI=>?_);refine WT.out ?_;iterate 8
     first
      | refine tk (i:=0) (v:=?_) [9,10] rfl rfl (by decide +kernel) rfl (fun _ _ _ h=>h) LI ?_ ?_
      | refine tk (i:=1) (v:=?_) [2,3,9,10] rfl rfl (by decide +kernel) rfl (fun _ _ _ h=>h) LI ?_ ?_
      | refine tk (i:=2) (v:=?_) [3,9,10] rfl rfl (by decide +kernel) rfl (fun _ _ _ h=>h) LI ?_ ?_
      | refine tk (i:=3) (v:=?_) [9,10] rfl rfl (by decide +kernel) rfl (fun _ _ _ h=>h) LI ?_ ?_
      | refine tk (i:=4) (v:=?_) [8,9,10] rfl rfl (by decide +kernel) rfl (fun _ _ _ h=>h) LI ?_ ?_
      | refine tk (i:=5) (v:=?_) [6,8,9,10] rfl rfl (by decide +kernel) rfl (fun _ _ _ h=>h) LI ?_ ?_
      | refine tk (i:=6) (v:=?_) [8,9,10] rfl rfl (by decide +kernel) rfl (fun _ _ _ h=>h) LI ?_ ?_
      | refine tk (i:=7) (v:=?_) [8,9,10] rfl rfl (by decide +kernel) rfl (fun _ _ _ h=>h) LI ?_ ?_
     rotate_left
     ·intro wS LN;have u0_:=(af LN VB.o).c;obtain⟨e0,e1,e2,e3,e4,-⟩:=(af LN XB.o).c;have nm:=ah LN NC.o;have f0_:=(af LN WB.o).c;go_simp;all_goals with_reducible rfl
     simp only[av,List.set]
    repeat' (first
     | exact nl
     |(refine ip (i:=8) (o:=_) rfl (fun K hK=>?_) ?_
       go_simp;refine(IH.o _ (Lj ok w) okn was x _ _ _ (by exact WCI.o.bel LI) (by exact(XI.o.bel BWC.o).bel LI) (by exact(NTL.o.bel BWC.o).bel LI) (by simp) OW.o CW.o).mono ?_;rintro e w8q ⟨rv,rfl,hr5,hb5⟩;rw[HU.o]at hr5;obtain⟨a5,b5,c5,d5,rfl⟩:=hr5.form;refine hK.out _ _ (ab LI hb5) (fun LJ=>?_);have UI:=aa hr5;have HB8:=aa LI;have HS8:=aa LI.size;clear hb5 hr5;clear hK K;replace LI:=LJ;clear LJ;try simp only[Act.put,Mt,Mu,Mv])
     |(refine ip (i:=9) (o:=_) rfl (fun K hK=>?_) ?_
       go_simp;refine(gf _ (bQ (Lj ok w) wc.heap.size) o u _ _ n (by exact tT ((OI.o.bel BWC.o).bel LI)) (by exact UI.o.weak fun k hk=>hk.imp id fun h9=>MH HS8.o h9) PO.o LO.o NL.o).mono ?_;rintro e w9q ⟨rv,rfl,hr5,hb5⟩;rw[HY.o]at hr5;obtain⟨a4,b4,c4,d4,rfl⟩:=hr5.form;refine hK.out _ _ (ab LI hb5) (fun LJ=>?_);have YI:Ll (In _ (bg ok w.heap.size wc.heap.size) y _):=aa (hr5.weak fun k hk=>by rcases hk with hk | hk;exact hk;exact Or.inr (MH LI.size hk));clear hb5 hr5;clear hK K;replace LI:=LJ;clear LJ;try simp only[Act.put,Mt,Mu,Mv])
     |(refine jZ (i:=10) (o:=_) (by decide +kernel) rfl (fun K hK=>?_)
       have HB:=aa (af LI RB.o);have n0_:=HB.o.c;have ZB:=aa (LH HB.o.set y a4 c4 b4 d4);have Z:=aa (cY (w:=w) (ok:=ok) (C:=wc.heap.size) (g:=(w.heap.size+2)) YI.o (ab BC.o LI) (by omega) (by have:=SC.o;omega));go_simp;refine hK.out _ _ ?_;clear hK K;try simp only[Act.put,Mt,Mu,Mv])
     | refine gc [8] (by decide +kernel) ?_
     | refine gc [9] (by decide +kernel) ?_
     | fail)
    all_goals
     refine dn (by kernel_rfl) ?_;go_wp2_with fail
     have z0_:=ZB.o.c;refine MM (v:=.agg (KV y a4 c4 b4 d4)) ?_ rfl ?_
     ·simp only[ar]at z0_;simp[results,results135,go_sem,z0_]
     ·exact⟨_,rfl,by rw[RES.o];exact Z.o.2,Z.o.1⟩
end
section
attribute [local go_sem ↓] Go.wp_at_zero Go.wp_at_succ
theorem xw:∀ (ns:List Lz) (w:LC) (ok okn:Nat->Prop) (o:V) (v nv:Value),In w ok o v->ao w okn ns nv->ns≠[]->fL o->(∃ y,dr ns o=some y)->fa o<=90000 ->
 Calls prog 138 #[v,nv] w fun e w'=>∃ r,e=.returned r/\In w' (bQ ok w.heap.size) (gI ns o) r/\La w w':=by
 intro ns;induction ns with
 | nil=>intro w ok okn o v nv _ _ h;exact absurd rfl h
 | cons n ns ih=>
 intro w ok okn o v nv h hnv _ hob hth hcn;have IH:=aa ih;obtain⟨nb,no,nc,rfl,hcl,hnl,hnc,hnn⟩:=qm hnv;have hn1:=hnv.1;unfold maxLen at hn1;have NV:=aa hnv;have NL:=aa hnn;have NC0:=aa hnc;have HT:=aa h.low;have OBT:=aa hob;have CT:=aa hcn;have TH:=aa hth;obtain⟨a1,b1,c1,d1,rfl⟩:=h.form;have hk5:o.kind=5:=by obtain⟨y,hy⟩:=hth;exact(gB hy).1
 have PO:=aa (hob.ob hk5).paired;have LO:Ll (o.l.length<=100000):=aa (by have:=zT o;omega);clear h hnv hnc ih hob hcn hnn hth hk5;obtain⟨WV,hWV⟩:∃ W,W=(w.alloc (.cells (KV o a1 c1 b1 d1) 35)).alloc (.cells Lb 35):=⟨_,rfl⟩
 have BA:Ll (La w WV):=aa (by rw[hWV];exact ab (ae _ _) (ae _ _));have VB:Ll (KY WV w.heap.size o a1 c1 b1 d1):=aa (by rw[hWV];exact fb _ _ _);have RB:Ll (Lc WV (w.heap.size+1)):=aa (by rw[hWV];exact et _ _ _);have SA:Ll (w.heap.size+2<=WV.heap.size):=aa (by rw[hWV];simp);have OI:=aa (HT.o.bel BA.o);have NC:=aa (ah BA.o NC0.o);have NT:Ll (ao WV okn ns (.slice (some ⟨nb,no+1,none⟩) ns.length (nc - 1))):=aa ((lw NV.o).bel BA.o);have HWV:=aa hWV;clear hWV;cases ns with
 | nil=>
  obtain⟨y,hy⟩:∃ y,bH o n=y:=⟨_,rfl⟩
  have HY:=aa hy;have RES:Ll (gI [n] o=y):=aa (by rw[<-hy];rfl);clear hy;have OIX:=OI;have BC:=BA;have SC:=SA;go_enter func138,ntmps138;go_upto_region 2 with fail
  rw[<-HWV.o];refine aD (fun wS=>La WV wS) [5] (by kernel_rfl) (aC _ 1) (fun LI=>?_);refine WT.out ?_;iterate 4
   first
    | refine tk (i:=0) (v:=?_) [4,5] rfl rfl (by decide +kernel) rfl (fun _ _ _ h=>h) LI ?_ ?_
    | refine tk (i:=1) (v:=?_) [2,3,4,5] rfl rfl (by decide +kernel) rfl (fun _ _ _ h=>h) LI ?_ ?_
    | refine tk (i:=2) (v:=?_) [3,4,5] rfl rfl (by decide +kernel) rfl (fun _ _ _ h=>h) LI ?_ ?_
    | refine tk (i:=3) (v:=?_) [4,5] rfl rfl (by decide +kernel) rfl (fun _ _ _ h=>h) LI ?_ ?_
   rotate_left
   ·intro wS LN;have u0_:=(af LN VB.o).c;have nm:=ah LN NC.o;go_simp;all_goals with_reducible rfl
   simp only[av,List.set]
  repeat' (first
   | exact nl
   |(refine ip (i:=4) (o:=_) rfl (fun K hK=>?_) ?_
     go_simp;refine(jD _ (Lj ok w) o _ n (by exact OIX.o.bel LI) LO.o).mono ?_;rintro e w4q ⟨rv,rfl,hr5,hb5⟩;rw[HY.o]at hr5;obtain⟨a4,b4,c4,d4,rfl⟩:=hr5.form;refine hK.out _ _ (ab LI hb5) (fun LJ=>?_);have YI:=aa (jr (D:=WV.heap.size) hr5 LI.size);clear hb5 hr5;clear hK K;replace LI:=LJ;clear LJ;try simp only[Act.put,Mt,Mu,Mv])
   |(refine jZ (i:=5) (o:=_) (by decide +kernel) rfl (fun K hK=>?_)
     have HB:=aa (af LI RB.o);have n0_:=HB.o.c;have ZB:=aa (LH HB.o.set y a4 c4 b4 d4);have Z:=aa (cY (w:=w) (ok:=ok) (C:=WV.heap.size) (g:=(w.heap.size+1)) YI.o (ab BC.o LI) (by omega) (by have:=SC.o;omega));go_simp;refine hK.out _ _ ?_;clear hK K;try simp only[Act.put,Mt,Mu,Mv])
   | refine gc [4] (by decide +kernel) ?_
   | fail)
  all_goals
   refine dn (by kernel_rfl) ?_;go_wp2_with fail
   have z0_:=ZB.o.c;refine MM (v:=.agg (KV y a4 c4 b4 d4)) ?_ rfl ?_
   ·simp only[ar]at z0_;simp[results,results138,go_sem,z0_]
   ·exact⟨_,rfl,by rw[RES.o];exact Z.o.2,Z.o.1⟩
 | cons m ns=>
  obtain⟨was,hwas⟩:∃ x,(aS o n).getD aM=x:=⟨_,rfl⟩
  obtain⟨th,hth⟩:∃ x,(aS o n).isSome=x:=⟨_,rfl⟩
  obtain⟨u,hu⟩:∃ u,gI (m :: ns) was=u:=⟨_,rfl⟩
  have RM:Ll ((u.l=[]->gI (n :: m :: ns) o=bH o n)/\(u.l≠[]->gI (n :: m :: ns) o=aG o n u)):=aa ⟨fun h9=>by rw[gI,hwas,hu,if_pos h9],fun h9=>by rw[gI,hwas,hu,if_neg h9]⟩;have HU:=aa hu;have OW:Ll (fL was):=aa (by rw[<-hwas];exact lV OBT.o n);have CW:Ll (fa was<=90000):=aa (by rw[<-hwas];exact MH (Ab o n) CT.o);have TW:Ll (∃ y,dr (m :: ns) was=some y):=aa (by
   obtain⟨y,hy⟩:=TH.o;obtain⟨-,z,hm,hz⟩:=gB hy;rw[<-hwas,hm];exact⟨y,hz⟩)
  have HWAS:=aa hwas;have HTH:=aa hth;clear hwas hth hu;simp only[My]at hcl hn1 hnl ⊢;obtain⟨mc,rfl⟩:∃ mc,nc=mc+2:=⟨nc - 2,by omega⟩
  have NTL:Ll (ao WV okn (m :: ns) (.slice (some ⟨nb,no+1,none⟩) (ns.length+1) (mc+1))):=aa (by have:=NT.o;simpa using this);have g1:(((ns.length:Int)+1+1) == 1)=false:=by rw[MO];omega
  have g2:(ns.length:Int)+1+1<=(mc:Int)+2:=by omega
  have g3:(1:Int)<=(ns.length:Int)+1+1:=by omega
  have g5:(0:Int) < (ns.length:Int)+1+1:=by omega
  go_enter func138,ntmps138;go_upto_region 3 with fail
  rw[<-HWV.o];go_cut [5,6] (fun pv bv wc=>∃ (g7:Nat) (a3 b3:Option Addr) (c3 d3:Nat),pv=.pointer (some ⟨g7,0,none⟩)/\bv=.bool th/\(KY wc g7 was a3 c3 b3 d3/\WV.heap.size<=g7/\La WV wc/\In wc (Lj ok w) was (.agg (KV was a3 c3 b3 d3))))
  case first=>
   refine aD (fun wS=>La WV wS) [9] (by kernel_rfl) (aC _ 1) (fun LI=>?_);refine WT.out ?_;iterate 4
    first
     | refine tk (i:=0) (v:=?_) [4,5,6,7,9,10] rfl rfl (by decide +kernel) rfl (fun _ _ _ h=>h) LI ?_ ?_
     | refine tk (i:=1) (v:=?_) [2,3,4,5,6,7,9,10] rfl rfl (by decide +kernel) rfl (fun _ _ _ h=>h) LI ?_ ?_
     | refine tk (i:=2) (v:=?_) [3,4,5,6,7,9,10] rfl rfl (by decide +kernel) rfl (fun _ _ _ h=>h) LI ?_ ?_
     | refine tk (i:=3) (v:=?_) [4,5,6,7,9,10] rfl rfl (by decide +kernel) rfl (fun _ _ _ h=>h) LI ?_ ?_
    rotate_left
    ·intro wS LN;have u0_:=(af LN VB.o).c;have nm:=ah LN NC.o;go_simp;all_goals with_reducible rfl
    simp only[av,List.set]
   repeat' (first
    | exact nl
    |(refine ip (i:=4) (o:=_) rfl (fun K hK=>?_) ?_
      go_simp;refine(ig _ (Lj ok w) o _ n (by exact OI.o.bel LI)).mono ?_;rintro e w4q ⟨rv,rfl,hb5,hr5⟩;rw[HWAS.o]at hr5;rw[HTH.o];obtain⟨a3,b3,c3,d3,rfl⟩:=hr5.form;refine hK.out _ _ (ab LI hb5) (fun LJ=>?_);have WI:=aa hr5;try replace NB:=aa (af hb5 NB.o)
      have Ma:Ll True:=aa trivial;clear hb5 hr5;clear hK K;replace LI:=LJ;clear LJ;try simp only[Act.put,Mt,Mu,Mv])
    |(refine ip (i:=8) (o:=_) rfl (fun K hK=>?_) ?_
      go_simp;refine hK.out _ _ (ab LI (ae _ _)) (fun LJ=>?_);have NB:=aa (yl LI);first | (have c9:=Ma.o;clear c9;have FINA:=aa (tc LI WI.o)) | skip
      clear hK K;replace LI:=LJ;clear LJ;try simp only[Act.put,Mt,Mu,Mv])
    |(refine jZ (i:=9) (o:=_) (by decide +kernel) rfl (fun K hK=>?_)
      try rw[show (World.drew WV).heap.size=WV.heap.size from rfl]at NB
      have n0_:=NB.o.c;first | (have c9:=FINA.o;clear c9) | (have FINB:=aa (sX (g:=WV.heap.size) LI (MG _) NB.o WI.o (fun k hk=>by have h9:=hk.2;have:=SA.o;omega)))
      go_simp;refine hK.out _ _ ?_;clear hK K;try simp only[Act.put,Mt,Mu,Mv])
    |(refine jZ (i:=10) (o:=_) (by decide +kernel) rfl (fun K hK=>?_)
      go_simp;refine hK.out _ _ ?_;clear hK K;try simp only[Act.put,Mt,Mu,Mv])
    |(first
       | refine tk (i:=5) (v:=?_) [6,7,9,10] rfl rfl (by decide +kernel) rfl (fun _ _ _ h=>h) (by exact LI) ?_ ?_
       | refine tk (i:=6) (v:=?_) [9,10] rfl rfl (by decide +kernel) rfl (fun _ _ _ h=>h) (by exact LI) ?_ ?_
      rotate_left
      ·intro wS LN;go_simp;all_goals with_reducible rfl
      simp only[av,List.set])
    |(refine JY (i:=7) (d:=22) (v:=?_) rfl rfl (by decide +kernel) rfl (fun _ _ _ h=>h) (by exact LI) ?_ ?_
      rotate_left
      ·intro wS;go_simp;all_goals with_reducible rfl
      simp only[av,List.set])
    | refine gc [4,8] (by decide +kernel) ?_
    | refine gc [8] (by decide +kernel) ?_
    | refine gc [4] (by decide +kernel) ?_
    | fail)
   all_goals
    refine dn (by kernel_rfl) ?_;go_wp2_with fail
    go_meet
    case rel=>first | exact⟨_,_,_,_,_,rfl,rfl,FINA.o⟩ | exact⟨_,_,_,_,_,rfl,rfl,FINB.o⟩
  case rest=>
   obtain⟨g7,a3,b3,c3,d3,rfl,rfl,hcW,hcG,hcB,hcI⟩:=hcut;have WB:=aa hcW;have G7:=aa hcG;have G7L:=aa hcW.lt;have BWC:=aa hcB;have WCI:=aa hcI;have SC:Ll (w.heap.size+2<=wc.heap.size):=aa (MH SA.o hcB.size);have BC:=aa (ab BA.o hcB);replace VB:=aa (af hcB VB.o);replace RB:=aa (af hcB RB.o);replace NC:=aa (ah hcB NC.o);clear hcW hcG hcB hcI;go_upto_region 4 with fail
   refine aD (fun wS=>La wc wS) [4] (by kernel_rfl) (aC _ 1) (fun LI=>?_);refine WT.out ?_;iterate 3
    first
     | refine tk (i:=0) (v:=?_) [3,4] rfl rfl (by decide +kernel) rfl (fun _ _ _ h=>h) LI ?_ ?_
     | refine tk (i:=1) (v:=?_) [2,3,4] rfl rfl (by decide +kernel) rfl (fun _ _ _ h=>h) LI ?_ ?_
     | refine tk (i:=2) (v:=?_) [3,4] rfl rfl (by decide +kernel) rfl (fun _ _ _ h=>h) LI ?_ ?_
    rotate_left
    ·intro wS LN;have f0_:=(af LN WB.o).c;go_simp;all_goals with_reducible rfl
    simp only[av,List.set]
   repeat' (first
    | exact nl
    |(refine ip (i:=3) (o:=_) rfl (fun K hK=>?_) ?_
      go_simp;refine(IH.o _ (Lj ok w) okn was _ _ (by exact WCI.o.bel LI) (by exact(NTL.o.bel BWC.o).bel LI) (by simp) OW.o TW.o CW.o).mono ?_;rintro e w3q ⟨rv,rfl,hr5,hb5⟩;rw[HU.o]at hr5;obtain⟨a5,b5,c5,d5,rfl⟩:=hr5.form;refine hK.out _ _ (ab LI hb5) (fun LJ=>?_);have UI:=aa (jr (ok:=ok) (B:=w.heap.size) (D:=wc.heap.size) hr5 LI.size);clear hb5 hr5;clear hK K;replace LI:=LJ;clear LJ;try simp only[Act.put,Mt,Mu,Mv])
    |(refine jZ (i:=4) (o:=_) (by decide +kernel) rfl (fun K hK=>?_)
      have HB:=aa (af LI WB.o);have n0_:=HB.o.c;have HH:=aa LI;go_simp;refine hK.out _ _ ?_;clear hK K;try simp only[Act.put,Mt,Mu,Mv])
    | refine gc [3] (by decide +kernel) ?_
    | fail)
   all_goals
    refine dn (by kernel_rfl) ?_;obtain⟨WD,hWD⟩:∃ W,W=ar w3q g7 (.int .i64 u.kind) (.int .i64 u.n) (.string ⟨u.s.toArray⟩) (.slice a5 u.keys.length c5) (.slice b5 u.l.length d5):=⟨_,rfl⟩
    have UB:Ll (KY WD g7 u a5 c5 b5 d5):=aa (by rw[hWD];exact HB.o.set _ _ _ _ _);have GB:Ll (w3q.grownBy WD (some g7)):=aa (by rw[hWD];exact aI _ _ _ _ _ _ _);have BD:Ll (La w WD):=aa (by rw[hWD];exact aP (ab BC.o HH.o) (by have:=G7.o;have:=SA.o;omega) _ _ _ _ _);have UID:Ll (In WD (bQ (Lj ok w) wc.heap.size) u (.agg (KV u a5 c5 b5 d5))):=aa (by rw[hWD];exact UI.o.box (by have:=G7.o;have:=SA.o;omega) (by have:=G7L.o;omega) _ _ _ _ _);replace VB:=aa ((af HH.o VB.o).grown GB.o (by have:=G7.o;have:=SA.o;simp;omega));replace RB:=aa ((af HH.o RB.o).grown GB.o (by have:=G7.o;have:=SA.o;simp;omega));have OIX:Ll (In WD (Lj ok w) o (.agg (KV o a1 c1 b1 d1))):=aa (((OI.o.bel BWC.o).bel HH.o).grown GB.o (fun k hk=>by have:=hk.2;have:=G7.o;have:=SA.o;omega));replace NC:=aa (ah BD.o NC0.o);have SWD:Ll (wc.heap.size<=WD.heap.size):=aa (MH HH.o.size GB.o.size);have SCC:=SC;replace SC:=aa (MH SC.o SWD.o);replace BC:=BD;simp only[ar]at hWD;go_upto_region 5 with fail
    rw[<-hWD];clear hWD;have q0_:=UB.o.c;by_cases hul:u.l=[]
    ·have e1:((u.l.length:Int) == 0)=true:=by rw[hul];rfl
     have e3:(u.l.length == 0)=true:=by rw[hul];rfl
     obtain⟨y,hy⟩:∃ y,bH o n=y:=⟨_,rfl⟩
     have HY:=aa hy;have RES:Ll (gI (n :: m :: ns) o=y):=aa (by rw[<-hy];exact RM.o.1 hul);clear hy hul;go_upto_region 6 with fail
     refine aD (fun wS=>La WD wS) [5] (by kernel_rfl) (aC _ 1) (fun LI=>?_);refine WT.out ?_;iterate 4
      first
       | refine tk (i:=0) (v:=?_) [4,5] rfl rfl (by decide +kernel) rfl (fun _ _ _ h=>h) LI ?_ ?_
       | refine tk (i:=1) (v:=?_) [2,3,4,5] rfl rfl (by decide +kernel) rfl (fun _ _ _ h=>h) LI ?_ ?_
       | refine tk (i:=2) (v:=?_) [3,4,5] rfl rfl (by decide +kernel) rfl (fun _ _ _ h=>h) LI ?_ ?_
       | refine tk (i:=3) (v:=?_) [4,5] rfl rfl (by decide +kernel) rfl (fun _ _ _ h=>h) LI ?_ ?_
      rotate_left
      ·intro wS LN;have u0_:=(af LN VB.o).c;have nm:=ah LN NC.o;go_simp;all_goals with_reducible rfl
      simp only[av,List.set]
     repeat' (first
      | exact nl
      |(refine ip (i:=4) (o:=_) rfl (fun K hK=>?_) ?_
        go_simp;refine(jD _ (Lj ok w) o _ n (by exact OIX.o.bel LI) LO.o).mono ?_;rintro e w4q ⟨rv,rfl,hr5,hb5⟩;rw[HY.o]at hr5;obtain⟨a4,b4,c4,d4,rfl⟩:=hr5.form;refine hK.out _ _ (ab LI hb5) (fun LJ=>?_);have YI:=aa (jr (D:=WD.heap.size) hr5 LI.size);clear hb5 hr5;clear hK K;replace LI:=LJ;clear LJ;try simp only[Act.put,Mt,Mu,Mv])
      |(refine jZ (i:=5) (o:=_) (by decide +kernel) rfl (fun K hK=>?_)
        have HB:=aa (af LI RB.o);have n0_:=HB.o.c;have ZB:=aa (LH HB.o.set y a4 c4 b4 d4);have Z:=aa (cY (w:=w) (ok:=ok) (C:=WD.heap.size) (g:=(w.heap.size+1)) YI.o (ab BC.o LI) (by omega) (by have:=SC.o;omega));go_simp;refine hK.out _ _ ?_;clear hK K;try simp only[Act.put,Mt,Mu,Mv])
      | refine gc [4] (by decide +kernel) ?_
      | fail)
     all_goals
      refine dn (by kernel_rfl) ?_;go_wp2_with fail
      have z0_:=ZB.o.c;refine MM (v:=.agg (KV y a4 c4 b4 d4)) ?_ rfl ?_
      ·simp only[ar]at z0_;simp[results,results138,go_sem,z0_]
      ·exact⟨_,rfl,by rw[RES.o];exact Z.o.2,Z.o.1⟩
    ·have e1:((u.l.length:Int) == 0)=false:=by rw[MO];have:=List.length_pos_iff.2 hul;omega
     have e3:(u.l.length == 0)=false:=by rw[MO];have:=List.length_pos_iff.2 hul;omega
     obtain⟨y,hy⟩:∃ y,aG o n u=y:=⟨_,rfl⟩
     have HY:=aa hy;have RES:Ll (gI (n :: m :: ns) o=y):=aa (by rw[<-hy];exact RM.o.2 hul);clear hy hul;go_upto_region 7 with fail
     refine aD (fun wS=>La WD wS) [6] (by kernel_rfl) (aC _ 1) (fun LI=>?_);refine WT.out ?_;iterate 5
      first
       | refine tk (i:=0) (v:=?_) [5,6] rfl rfl (by decide +kernel) rfl (fun _ _ _ h=>h) LI ?_ ?_
       | refine tk (i:=1) (v:=?_) [2,3,5,6] rfl rfl (by decide +kernel) rfl (fun _ _ _ h=>h) LI ?_ ?_
       | refine tk (i:=2) (v:=?_) [3,5,6] rfl rfl (by decide +kernel) rfl (fun _ _ _ h=>h) LI ?_ ?_
       | refine tk (i:=3) (v:=?_) [5,6] rfl rfl (by decide +kernel) rfl (fun _ _ _ h=>h) LI ?_ ?_
       | refine tk (i:=4) (v:=?_) [5,6] rfl rfl (by decide +kernel) rfl (fun _ _ _ h=>h) LI ?_ ?_
      rotate_left
      ·intro wS LN;have u0_:=(af LN VB.o).c;have nm:=ah LN NC.o;have f0_:=(af LN UB.o).c;go_simp;all_goals with_reducible rfl
      simp only[av,List.set]
     repeat' (first
      | exact nl
      |(refine ip (i:=5) (o:=_) rfl (fun K hK=>?_) ?_
        go_simp;refine(gf _ (bQ (Lj ok w) wc.heap.size) o u _ _ n (by exact tT (OIX.o.bel LI)) (by exact UID.o.bel LI) PO.o LO.o NL.o).mono ?_;rintro e w5q ⟨rv,rfl,hr5,hb5⟩;rw[HY.o]at hr5;obtain⟨a4,b4,c4,d4,rfl⟩:=hr5.form;refine hK.out _ _ (ab LI hb5) (fun LJ=>?_);have YI:Ll (In _ (bg ok w.heap.size wc.heap.size) y _):=aa (hr5.weak fun k hk=>by rcases hk with hk | hk;exact hk;exact Or.inr (MH SWD.o (MH LI.size hk)));clear hb5 hr5;clear hK K;replace LI:=LJ;clear LJ;try simp only[Act.put,Mt,Mu,Mv])
      |(refine jZ (i:=6) (o:=_) (by decide +kernel) rfl (fun K hK=>?_)
        have HB:=aa (af LI RB.o);have n0_:=HB.o.c;have ZB:=aa (LH HB.o.set y a4 c4 b4 d4);have Z:=aa (cY (w:=w) (ok:=ok) (C:=wc.heap.size) (g:=(w.heap.size+1)) YI.o (ab BC.o LI) (by omega) (by have:=SCC.o;omega));go_simp;refine hK.out _ _ ?_;clear hK K;try simp only[Act.put,Mt,Mu,Mv])
      | refine gc [5] (by decide +kernel) ?_
      | fail)
     all_goals
      refine dn (by kernel_rfl) ?_;go_wp2_with fail
      have z0_:=ZB.o.c;refine MM (v:=.agg (KV y a4 c4 b4 d4)) ?_ rfl ?_
      ·simp only[ar]at z0_;simp[results,results138,go_sem,z0_]
      ·exact⟨_,rfl,by rw[RES.o];exact Z.o.2,Z.o.1⟩
end
variable {wr:World}
section
def jG (w:LC) (ok:Nat->Prop) (LQ:V) (L:List Lz) (la a5 b5:Option Addr) (lc c5 d5:Nat) (y:V) (a2 b2:Option Addr) (c2 d2:Nat) (wr:LC):Prop:=wr.heap[w.heap.size]?=some (.cells #[.int .i64 LQ.kind,.int .i64 LQ.n,.string ⟨LQ.s.toArray⟩,.slice a5 LQ.keys.length c5,.slice b5 LQ.l.length d5,.slice la L.length lc] 145)/\KY wr (w.heap.size+1) y a2 c2 b2 d2/\Lc wr (w.heap.size+2)/\La w wr/\In wr (bg ok w.heap.size (w.heap.size+3)) y (.agg (KV y a2 c2 b2 d2))
theorem jG.bel{wr':LC}{LQ L la a5 b5 lc c5 d5 a2 b2 c2 d2}(h:jG w ok LQ L la a5 b5 lc c5 d5 y a2 b2 c2 d2 wr)(hb:La wr wr'):jG w ok LQ L la a5 b5 lc c5 d5 y a2 b2 c2 d2 wr':=
 ⟨bR hb h.1,af hb h.2.1,af hb h.2.2.1,ab h.2.2.2.1 hb,h.2.2.2.2.bel hb⟩
theorem jG.put{LQ L la a5 b5 lc c5 d5 z a2 b2 a4 b4 c2 d2 c4 d4}(h:jG w ok LQ L la a5 b5 lc c5 d5 y a2 b2 c2 d2 wr)(hz:In wr (bg ok w.heap.size (w.heap.size+3)) z (.agg (KV z a4 c4 b4 d4))):jG w ok LQ L la a5 b5 lc c5 d5 z a4 b4 c4 d4 (LG wr (w.heap.size+1) z a4 c4 b4 d4):=by
 have gb:=aI wr (w.heap.size+1) (.int .i64 z.kind) (.int .i64 z.n) (.string ⟨z.s.toArray⟩) (.slice a4 z.keys.length c4) (.slice b4 z.l.length d4);exact⟨(gb.block _ (MF.1 h.1).1 (by simp)).trans h.1,h.2.1.set _ _ _ _ _,h.2.2.1.grown gb (by simp),aP h.2.2.2.1 (by omega) _ _ _ _ _,hz.box (by omega) (by omega) _ _ _ _ _⟩
theorem jG.size{LQ L la a5 b5 lc c5 d5 a2 b2 c2 d2}(h:jG w ok LQ L la a5 b5 lc c5 d5 y a2 b2 c2 d2 wr):w.heap.size+3<=wr.heap.size:=h.2.2.1.lt
theorem Ka{C z}(h:In W (bQ (bg ok B (B+3)) C) z v)(hC:B+3<=C):In W (bg ok B (B+3)) z v:=h.weak fun k hk=>by
 rcases hk with hk | hk
 ·exact hk
 ·exact Or.inr (MH hC hk)
theorem Ft{C z}(h:In W (fun k=>ok k/\k < B) z v):In W (bg ok B C) z v:=h.weak fun k hk=>.inl hk
attribute [local go_sem ↓] Go.wp_at_zero Go.wp_at_succ
theorem uz(w:LC)(ok LQ t L wv v)(h:dB w ok LQ L wv)(ht:In w ok t v)(hM:bj w)(hob:fL t)(hwo:fL LQ)(hL:∀ p∈L,p.length<=140737488351232/\aw p≠[]/\(aw p).length+fa ((dr (aw p) LQ).getD aM)<=300)(hn:L.length<=200)(hc:fa t<=20000):Calls prog 104 #[wv,v] w fun e w'=>∃ r,e=.returned r/\In w' (bQ ok w.heap.size) (ed LQ L t) r/\La w w':=by
 obtain⟨a5,b5,la,c5,d5,lc,rfl,h1,h2⟩:=h;obtain⟨a1,b1,c1,d1,rfl⟩:=ht.form;have HT:=aa ht.low;have HW:=aa h1.low;have HLS:=aa h2;have GM:Ll (∀ W,La w W->bj W):=fun W hW=>hM.bel hW;have HWO:=aa hwo;have HL:=aa hL;have HN:=aa hn;have ll:=h2.1;unfold maxLen at ll;have I0:Ll (∃ (y:V) (a2 b2:Option Addr) (c2 d2:Nat),Ll (ed LQ L t=ed LQ (L.drop 0) y/\fL y/\fa y<=20000+0 * 300)/\Ll (jG w ok LQ L la a5 b5 lc c5 d5 y a2 b2 c2 d2 (((w.alloc (.cells #[.int .i64 LQ.kind,.int .i64 LQ.n,.string ⟨LQ.s.toArray⟩,.slice a5 LQ.keys.length c5,.slice b5 LQ.l.length d5,.slice la L.length lc] 145)).alloc (.cells (KV t a1 c1 b1 d1) 35)).alloc (.cells Lb 35)))):=aa ⟨t,a1,b1,c1,d1,aa ⟨rfl,hob,by omega⟩,aa ⟨lI _ _ _ _,mE _ _ _ _,jI _ _ _ _,ab (ab (ae _ _) (ae _ _)) (ae _ _),(Ft HT.o).bel (ab (ab (ae _ _) (ae _ _)) (ae _ _))⟩⟩;clear h1 h2 ht hM hob hwo hL hn hc;obtain⟨WV,hWV⟩:∃ W,W=((w.alloc (.cells #[.int .i64 LQ.kind,.int .i64 LQ.n,.string ⟨LQ.s.toArray⟩,.slice a5 LQ.keys.length c5,.slice b5 LQ.l.length d5,.slice la L.length lc] 145)).alloc (.cells (KV t a1 c1 b1 d1) 35)).alloc (.cells Lb 35):=⟨_,rfl⟩
 rw[<-hWV]at I0;have q5:WV.cell? ⟨w.heap.size,5,none⟩=some (.slice la L.length lc):=by
  obtain⟨_,_,_,_,_,-,h9⟩:=I0.o;exact(lr h9.o.1).2.2.2.2.2
 have HWV:=aa hWV;clear hWV;go_enter func104,ntmps104;go_upto_region 1 with fail
 rw[<-HWV.o];go_upto_region 2 with fail
 clear q5;go_loopg [12] L.length (fun gk i wr=>∃ k:Nat,k<=L.length/\gk=L.length - k/\i=.int .i64 k/\∃ (y:V) (a2 b2:Option Addr) (c2 d2:Nat),Ll (ed LQ L t=ed LQ (L.drop k) y/\fL y/\fa y<=20000+k * 300)/\Ll (jG w ok LQ L la a5 b5 lc c5 d5 y a2 b2 c2 d2 wr))
 case atStart=>exact⟨0,Nat.zero_le _,rfl,rfl,I0.o⟩
 case round=>
  obtain⟨k,hk,hgk,rfl,y,a2,b2,c2,d2,IY,KR⟩:=hrel;have GK:=aa hgk;clear hgk;by_cases hlt:k < L.length
  ·obtain⟨b,off,rfl,j1,j2,hcl⟩:=gQ HLS.o hlt;unfold maxLen at j2;have LV:=ah KR.o.2.2.2.1 hcl;have w2:(k:Int) < (L.length:Int):=by omega
   have w3:(0:Int)<=(k:Int):=by omega
   obtain⟨hp1,hp2,hp3⟩:=HL.o L[k] (List.getElem_mem hlt);have FS:Ll (ed LQ (L.drop k) y=ed LQ (L.drop (k+1)) (cK (aw L[k]) y ((dr (aw L[k]) LQ).getD aM))):=aa (by rw[ME hlt];rfl);obtain⟨p,hp⟩:∃ p,L[k]=p:=⟨_,rfl⟩
   rw[hp]at LV hp1 hp2 hp3 FS;clear hp hcl;obtain⟨x,hx⟩:∃ x,(dr (aw p) LQ).getD aM=x:=⟨_,rfl⟩
   obtain⟨th,hth⟩:∃ x,(dr (aw p) LQ).isSome=x:=⟨_,rfl⟩
   rw[hx]at hp3 FS;obtain⟨z,hz⟩:∃ z,cK (aw p) y x=z:=⟨_,rfl⟩
   have HZ:=aa hz;have HPL:=aa hp1;have NNE:=aa hp2;have OX:Ll (fL x):=aa (by rw[<-hx];exact jW HWO.o _);have OY:=aa IY.o.2.1;have CY:Ll (fa y<=90000):=aa (by have:=IY.o.2.2;have:=HN.o;omega);have OZ:Ll (fL z):=aa (by rw[<-hz];exact iY _ _ _ OY.o OX.o);have CZ:Ll (fa z<=20000+(k+1) * 300):=aa (by
    have h1:=uY (aw p) y x;have h2:=IY.o.2.2;rw[hz]at h1;omega)
   have HD:=aa IY.o.1;have ST:=aa (gD wr (Lj ok w) LQ (.agg (KV LQ a5 c5 b5 d5)) p (by exact HW.o.bel KR.o.2.2.2.1) hp1 (GM.o _ KR.o.2.2.2.1));rw[hx,hth]at ST;clear hx hth hz hp1 hp2 hp3;obtain⟨q0,q1,q2,q3,q4,q5⟩:=lr KR.o.1;go_upto_region 5 with (go_at_call 112;refine ST.o.mono ?_;rintro e w4 ⟨r,rfl,hb4,hr4⟩;obtain⟨a3,b3,c3,d3,rfl⟩:=hr4.form;have B4:=aa hb4;have X4:=aa hr4;clear hb4 hr4)
   clear q0 q1 q2 q3 q4 q5;obtain⟨WX,hWX⟩:∃ W,W=w4.alloc (.cells (KV x a3 c3 b3 d3) 35):=⟨_,rfl⟩
   have XB:Ll (KY WX w4.heap.size x a3 c3 b3 d3):=aa (by rw[hWX];exact MN _ _);have BX:Ll (La wr WX):=aa (by rw[hWX];exact ab B4.o (ae _ _));have XI:Ll (In WX (Lj ok w) x (.agg (KV x a3 c3 b3 d3))):=aa (by rw[hWX];exact X4.o.bel (ae _ _));have KX:=aa (KR.o.bel BX.o);rw[<-hWX];clear hWX LV;refine aD (fun wS=>La WX wS) [5] (by kernel_rfl) (aC _ 1) (fun LI=>?_);refine WT.out ?_;iterate 3
    first
     | refine tk (i:=0) (v:=?_) [4,5] rfl rfl (by decide +kernel) rfl (fun _ _ _ h=>h) LI ?_ ?_
     | refine tk (i:=1) (v:=?_) [2,4,5] rfl rfl (by decide +kernel) rfl (fun _ _ _ h=>h) LI ?_ ?_
     | refine tk (i:=3) (v:=?_) [4,5] rfl rfl (by decide +kernel) rfl (fun _ _ _ h=>h) LI ?_ ?_
    rotate_left
    ·intro wS LN;have u0_:=(KX.o.bel LN).2.1.c;have f0_:=(af LN XB.o).c;go_simp;all_goals with_reducible rfl
    simp only[av,List.set]
   repeat' (first
    | exact nl
    |(refine ip (i:=2) (o:=_) rfl (fun K hK=>?_) ?_
      go_simp;refine(lH _ p HPL.o (GM.o _ (ab KX.o.2.2.2.1 LI))).mono ?_;rintro e w2q ⟨na,nc,rfl,hns,hb5⟩;refine hK.out _ _ (ab LI hb5) (fun LJ=>?_);have NS:=aa hns;clear hb5 hns;clear hK K;replace LI:=LJ;clear LJ;try simp only[Act.put,Mt,Mu,Mv])
    |(refine ip (i:=4) (o:=_) rfl (fun K hK=>?_) ?_
      go_simp;refine(DX (aw p) _ (bg ok w.heap.size (w.heap.size+3)) _ y x _ _ _ (by exact KX.o.2.2.2.2.bel LI) (by exact Ft (XI.o.bel LI)) (by exact NS.o) NNE.o OY.o CY.o).mono ?_;rintro e w4q ⟨rv,rfl,hr5,hb5⟩;rw[HZ.o]at hr5;obtain⟨a4,b4,c4,d4,rfl⟩:=hr5.form;refine hK.out _ _ (ab LI hb5) (fun LJ=>?_);have ZI:=aa (Ka hr5 (MH KX.o.size LI.size));clear hb5 hr5;clear hK K;replace LI:=LJ;clear LJ;try simp only[Act.put,Mt,Mu,Mv])
    |(refine jZ (i:=5) (o:=_) (by decide +kernel) rfl (fun K hK=>?_)
      have K8:=aa (KX.o.bel LI);have n0_:=K8.o.2.1.c;have K9:=aa (K8.o.put ZI.o);go_simp;refine hK.out _ _ ?_;clear hK K;try simp only[Act.put,Mt,Mu,Mv])
    | refine gc [2] (by decide +kernel) ?_
    | refine gc [4] (by decide +kernel) ?_
    | fail)
   all_goals
    refine dn (by kernel_rfl) ?_;go_wp2_with fail
    go_roundg (L.length - (k+1))
    case measure=>rw[GK.o];omega
    case rel=>exact⟨k+1,hlt,rfl,by go_num,z,_,_,_,_,aa ⟨by rw[HD.o,FS.o,HZ.o],OZ.o,CZ.o⟩,K9⟩
  ·have d9:¬(k:Int) < (L.length:Int):=by omega
   have RES:Ll (ed LQ L t=y):=aa (by rw[IY.o.1,List.drop_eq_nil_of_le (by omega)];rfl);have v0_:=KR.o.2.1.c;have n0_:=KR.o.2.2.1.c;have ZB:=aa (LH KR.o.2.2.1.set y a2 c2 b2 d2);have Z:=aa (cY (w:=w) (ok:=ok) (C:=w.heap.size+3) (g:=w.heap.size+2) KR.o.2.2.2.2 KR.o.2.2.2.1 (by omega) (by omega));go_wp2_with fail
   have z0_:=ZB.o.c;refine MM (v:=.agg (KV y a2 c2 b2 d2)) ?_ rfl ?_
   ·simp only[ar]at z0_;simp[results,results104,go_sem,z0_]
   ·exact⟨_,rfl,by rw[RES.o];exact Z.o.2,Z.o.1⟩
end
section
attribute [local go_sem ↓] Go.wp_at_zero Go.wp_at_succ
def Kv (E:Nat):Prop:=∀ (w:LC) (ok:Nat->Prop) (v p:V) (vv pv:Value),In w ok v vv->In w ok p pv->dz v->dz p->Jd E p ->
 Calls prog 141 #[vv,pv] w fun e w'=>∃ r,e=.returned r/\La w w'/\In w' (bQ ok w.heap.size) (dH E v p) r
def Kr (w:LC) (ok:Nat->Prop) (E:Nat) (v p:V) (a3 a4:Option Addr) (c3 c4 k:Nat) (wr:LC):Prop:=
 ∃ (y:V) (a5 a6:Option Addr) (c5 c6:Nat),y=((p.keys.zip p.l).take k).foldl (fu (dH E)) (cD v)/\KY wr w.heap.size y a5 c5 a6 c6/\KY wr (w.heap.size+1) p a3 c3 a4 c4/\Lc wr (w.heap.size+2)/\La w wr/\In wr (bg ok w.heap.size (w.heap.size+3)) y (.agg (KV y a5 c5 a6 c6))
theorem vA(E)(ih:Kv E):Kv (E+1):=by
 intro w ok v p vv pv h hp nv np hd;have H:=aa h.low;have HP:=aa hp.low;have NV:=aa nv;have NP:=aa np;have HD:=aa hd;have IH:=aa ih;obtain⟨l1,l2,l3⟩:=h.lens;obtain⟨l4,l5,l6⟩:=hp.lens;obtain⟨a1,a2,c1,c2,rfl⟩:=h.form;obtain⟨a3,a4,c3,c4,rfl⟩:=hp.form;clear h hp ih nv np hd;have B3:Ll (∀ o1 o2 o3,La w (((w.alloc o1).alloc o2).alloc o3)):=fun o1 o2 o3=>ab (ab (ae _ _) (ae _ _)) (ae _ _);by_cases hk:p.kind=5
 ·have e0:(p.kind != 5)=false:=by rw[hk];rfl
  have OP:Ll (Ob p):=zO NP.o hk;have HM:Ll (dH (E+1) v p=(p.keys.zip p.l).foldl (fu (dH E)) (cD v)):=aa (by rw[dH,if_pos hk]);have HKL:Ll (p.keys.length=p.l.length):=aa OP.o.2.2.2.1;have HK:=aa hk;clear hk;go_enter func141,ntmps141;go_upto_if 15 with fail
  go_cut [] (fun wc=>Kr w ok E v p a3 a4 c3 c4 0 wc)
  case first=>
   by_cases hv5:v.kind=5
   ·have e1:(v.kind != 5)=false:=by rw[hv5];rfl
    have HV:Ll (cD v=v):=aa (by unfold cD;rw[if_pos hv5]);clear hv5;go_wp2_with fail
    go_meet
    case rel=>exact⟨v,a1,a2,c1,c2,HV.o.symm,lI w _ _ _,mE w _ _ _,jI w _ _ _,B3.o _ _ _,(H.o.bel (B3.o _ _ _)).weak aO⟩
   ·have e1:(v.kind != 5)=true:=by rw[bne_iff_ne];exact hv5
    have HV:Ll (cD v=jM):=aa (by unfold cD;rw[if_neg hv5]);clear hv5;go_wp2_with fail
    go_meet
    case rel=>exact⟨jM,none,none,0,0,HV.o.symm,lI w _ _ _,mE w _ _ _,jI w _ _ _,B3.o _ _ _,Ac _ _ 5 0 (by unfold dW;omega) (by unfold dW;omega)⟩
  case rest=>
   have I0:=aa hcut;obtain⟨y,a5,a6,c5,c6,-,-,i2,-⟩:=hcut;obtain⟨p0,p1,p2,p3,p4,-⟩:=i2.c;clear i2;go_wp2_with fail
   go_loopg [20] p.keys.length (fun gk i wr=>∃ k:Nat,k<=p.keys.length/\gk=p.keys.length - k/\i=.int .i64 k/\Kr w ok E v p a3 a4 c3 c4 k wr)
   case atStart=>exact⟨0,Nat.zero_le _,rfl,rfl,I0.o⟩
   case round=>
    obtain⟨k,hk,hgk,rfl,y,a5,a6,c5,c6,i0,i1,i2,i3,i4,i5⟩:=hrel;have GK:=aa hgk;have I:Ll (y=((p.keys.zip p.l).take k).foldl (fu (dH E)) (cD v)/\KY wr w.heap.size y a5 c5 a6 c6/\KY wr (w.heap.size+1) p a3 c3 a4 c4/\Lc wr (w.heap.size+2)/\La w wr/\In wr (bg ok w.heap.size (w.heap.size+3)) y (.agg (KV y a5 c5 a6 c6))):=aa ⟨i0,i1,i2,i3,i4,i5⟩;have hwsz:=i3.lt;obtain⟨p0,p1,p2,p3,p4,-⟩:=i2.c;obtain⟨y0,y1,y2,y3,y4,x0,x1,x2,x3,x4⟩:=i1.c;clear hgk i0 i1 i2 i3 i4 i5;by_cases hlt:k < p.keys.length
    ·have hlt':k < p.l.length:=by have:=HKL.o;omega
     obtain⟨kb,ko,rfl,j1,j2,jk,jl⟩:=HP.o.key hlt;obtain⟨xb,xo,b5,d5,b6,d6,rfl,j3,j4,g0,g1,g2,g3,g4,g5⟩:=HP.o.item hlt';replace jk:=ah I.o.2.2.2.2.1 jk;replace g0:=ah I.o.2.2.2.2.1 g0;replace g1:=ah I.o.2.2.2.2.1 g1;replace g2:=ah I.o.2.2.2.2.1 g2;replace g3:=ah I.o.2.2.2.2.1 g3;replace g4:=ah I.o.2.2.2.2.1 g4;have G5:=aa (g5.bel I.o.2.2.2.2.1);have MA:Ll (Ob y/\aS y p.keys[k]=aS (cD v) p.keys[k]):=aa (by rw[I.o.1];exact Fz NV.o OP.o hlt);have ML:Ll (y.l.length<=240):=aa (by rw[I.o.1];exact BG NV.o NP.o);have ST:Ll (∀ u,u=fu (dH E) y (p.keys[k],p.l[k])->u=((p.keys.zip p.l).take (k+1)).foldl (fu (dH E)) (cD v)):=aa (by rintro u rfl;rw[EL hlt hlt',<-I.o.1]);have w1:(0:Int)<=(k:Int):=by omega
     have w2:(k:Int) < (p.l.length:Int):=by omega
     have w3:(k:Int) < (p.keys.length:Int):=by omega
     clear g5;by_cases hn:p.l[k].kind=0
     ·have e1:(p.l[k].kind == 0)=true:=by rw[hn];rfl
      have HN:=aa hn;clear hn;go_wp2_with fail
      refine(jD _ (bg ok w.heap.size (w.heap.size+3)) y _ p.keys[k] (by exact I.o.2.2.2.2.2) (by have:=ML.o;omega)).mono ?_;rintro e w4 ⟨r,rfl,hr,hb4⟩;obtain⟨u,hu⟩:∃ u,bH y p.keys[k]=u:=⟨_,rfl⟩
      rw[hu]at hr;obtain⟨e5,e6,f5,f6,rfl⟩:=hr.form;have K:Ll (KY w4 w.heap.size y a5 c5 a6 c6/\ag w4 (w.heap.size+1) (.int .i64 p.kind) (.int .i64 p.n) (.string ⟨p.s.toArray⟩) (.slice (some ⟨kb,ko,none⟩) p.keys.length c3) (.slice (some ⟨xb,xo,none⟩) p.l.length c4)/\Lc w4 (w.heap.size+2)/\La w w4/\In w4 (bg ok w.heap.size (w.heap.size+3)) u (.agg (KV u e5 f5 e6 f6))):=aa ⟨af hb4 I.o.2.1,af hb4 I.o.2.2.1,af hb4 I.o.2.2.2.1,ab I.o.2.2.2.2.1 hb4,hr.weak (oK hwsz)⟩;have FIN:Ll (Kr w ok E v p (some ⟨kb,ko,none⟩) (some ⟨xb,xo,none⟩) c3 c4 (k+1) (LG w4 w.heap.size u e5 f5 e6 f6)):=by
       have gs:=aI w4 w.heap.size (.int .i64 u.kind) (.int .i64 u.n) (.string ⟨u.s.toArray⟩) (.slice e5 u.keys.length f5) (.slice e6 u.l.length f6);refine aa ⟨u,e5,e6,f5,f6,ST.o u (by rw[<-hu,fu,if_pos HN.o]),K.o.1.set _ _ _ _ _,K.o.2.1.grown gs (by simp),K.o.2.2.1.grown gs (by simp),aP K.o.2.2.2.1 (MG _) _ _ _ _ _,K.o.2.2.2.2.box (MG _) (by omega) _ _ _ _ _⟩
      clear hu hr hb4;obtain⟨y0,y1,y2,y3,y4,x0,x1,x2,x3,x4⟩:=K.o.1.c;go_wp2_with fail
      go_roundg (p.keys.length - (k+1))
      case measure=>rw[GK.o];omega
      case rel=>exact⟨k+1,hlt,rfl,by go_num,FIN.o⟩
     ·have e1:(p.l[k].kind == 0)=false:=by rw[MO];exact hn
      have HN:=aa hn;clear hn;go_wp2_with fail
      refine(ig _ (bg ok w.heap.size (w.heap.size+3)) y _ p.keys[k] (by exact I.o.2.2.2.2.2)).mono ?_;rintro e w4 ⟨r,rfl,hb4,hr⟩;obtain⟨q,hq⟩:∃ q,(aS y p.keys[k]).getD aM=q:=⟨_,rfl⟩
      rw[hq]at hr;have NQ:Ll (dz q):=aa (by rw[<-hq,MA.o.2];exact F8 NV.o _);have HQ:=aa hq;obtain⟨mb,hmb⟩:∃ mb,(aS y p.keys[k]).isSome=mb:=⟨_,rfl⟩
      rw[hmb];obtain⟨a7,a8,c7,c8,rfl⟩:=hr.form;have LW:=ab hb4 (ae w4 (.cells (KV q a7 c7 a8 c8) 35));have K:Ll (KY (w4.alloc (.cells (KV q a7 c7 a8 c8) 35)) w.heap.size y a5 c5 a6 c6/\ag (w4.alloc (.cells (KV q a7 c7 a8 c8) 35)) (w.heap.size+1) (.int .i64 p.kind) (.int .i64 p.n) (.string ⟨p.s.toArray⟩) (.slice (some ⟨kb,ko,none⟩) p.keys.length c3) (.slice (some ⟨xb,xo,none⟩) p.l.length c4)/\Lc (w4.alloc (.cells (KV q a7 c7 a8 c8) 35)) (w.heap.size+2)/\KY (w4.alloc (.cells (KV q a7 c7 a8 c8) 35)) w4.heap.size q a7 c7 a8 c8/\La w (w4.alloc (.cells (KV q a7 c7 a8 c8) 35))/\In (w4.alloc (.cells (KV q a7 c7 a8 c8) 35)) (bg ok w.heap.size (w.heap.size+3)) y (.agg (KV y a5 c5 a6 c6))/\In (w4.alloc (.cells (KV q a7 c7 a8 c8) 35)) (bg ok w.heap.size (w.heap.size+3)) q (.agg (KV q a7 c7 a8 c8))/\w.heap.size+3<=(w4.alloc (.cells (KV q a7 c7 a8 c8) 35)).heap.size):=aa ⟨af LW I.o.2.1,af LW I.o.2.2.1,af LW I.o.2.2.2.1,MN w4 _,ab I.o.2.2.2.2.1 LW,I.o.2.2.2.2.2.bel LW,hr.bel (ae _ _),MH hwsz LW.size⟩;replace g0:=ah LW g0;replace g1:=ah LW g1;replace g2:=ah LW g2;replace g3:=ah LW g3;replace g4:=ah LW g4;have X4:Ll (In (w4.alloc (.cells (KV q a7 c7 a8 c8) 35)) (bg ok w.heap.size (w.heap.size+3)) p.l[k] (.agg #[.int .i64 p.l[k].kind,.int .i64 p.l[k].n,.string ⟨p.l[k].s.toArray⟩,.slice b5 p.l[k].keys.length d5,.slice b6 p.l[k].l.length d6])):=(G5.o.bel LW).weak aO;have conM:Ll (∀ W,W.heap=(w4.alloc (.cells (KV q a7 c7 a8 c8) 35)).heap->W.os=w4.os->W.tape=w4.tape->W.output=w4.output->Calls prog 141 #[.agg (KV q a7 c7 a8 c8),.agg #[.int .i64 p.l[k].kind,.int .i64 p.l[k].n,.string ⟨p.l[k].s.toArray⟩,.slice b5 p.l[k].keys.length d5,.slice b6 p.l[k].l.length d6]] W fun e w5=>∃ (z:V) (b7 b8:Option Addr) (d7 d8:Nat),e=.returned (.agg (KV z b7 d7 b8 d8))/\z=dH E q p.l[k]/\La (w4.alloc (.cells (KV q a7 c7 a8 c8) 35)) w5/\In w5 (bg ok w.heap.size (w.heap.size+3)) z (.agg (KV z b7 d7 b8 d8))):=by
       intro W e1 e2 e3 e4;have LY:La (w4.alloc (.cells (KV q a7 c7 a8 c8) 35)) W:=KH e1 e2 e3 e4;refine(IH.o W (bg ok w.heap.size (w.heap.size+3)) q p.l[k] _ _ (K.o.2.2.2.2.2.2.1.bel LY) (X4.o.bel LY) NQ.o (gC NP.o (List.getElem_mem hlt')) (HD.o _ (List.getElem_mem hlt'))).mono ?_;rintro e w5 ⟨r,rfl,hb,hr⟩;obtain⟨b7,b8,d7,d8,rfl⟩:=hr.form;exact⟨_,b7,b8,d7,d8,rfl,rfl,ab LY hb,hr.weak (oK (MH K.o.2.2.2.2.2.2.2 LY.size))⟩
      have conW:Ll (∀ (w5:LC) (z:V) (b7 b8:Option Addr) (d7 d8:Nat),La (w4.alloc (.cells (KV q a7 c7 a8 c8) 35)) w5->In w5 (bg ok w.heap.size (w.heap.size+3)) z (.agg (KV z b7 d7 b8 d8))->∀ W,W.heap=w5.heap->W.os=w5.os->W.tape=w5.tape->W.output=w5.output->Calls prog 164 #[.agg (KV y a5 c5 a6 c6),.string ⟨p.keys[k].toArray⟩,.agg (KV z b7 d7 b8 d8)] W fun e w6=>∃ (u:V) (e5 e6:Option Addr) (f5 f6:Nat),e=.returned (.agg (KV u e5 f5 e6 f6))/\u=aG y p.keys[k] z/\La w5 w6/\In w6 (bg ok w.heap.size (w.heap.size+3)) u (.agg (KV u e5 f5 e6 f6))):=by
       intro w5 z b7 b8 d7 d8 hb5 hz W e1 e2 e3 e4;have LY:La w5 W:=KH e1 e2 e3 e4;refine(gf W (bg ok w.heap.size (w.heap.size+3)) y z _ _ p.keys[k] ((K.o.2.2.2.2.2.1.bel hb5).bel LY) (hz.bel LY) MA.o.1.paired (by have:=ML.o;omega) jl).mono ?_;rintro e w6 ⟨r,rfl,hr,hb⟩;obtain⟨e5,e6,f5,f6,rfl⟩:=hr.form;exact⟨_,e5,e6,f5,f6,rfl,rfl,ab LY hb,hr.weak (oK (MH K.o.2.2.2.2.2.2.2 (MH hb5.size LY.size)))⟩
      have FIN:Ll (∀ (w5 w6:LC) (z u:V) (e5 e6:Option Addr) (f5 f6:Nat),La (w4.alloc (.cells (KV q a7 c7 a8 c8) 35)) w5->z=dH E q p.l[k]->La w5 w6->u=aG y p.keys[k] z->In w6 (bg ok w.heap.size (w.heap.size+3)) u (.agg (KV u e5 f5 e6 f6))->Kr w ok E v p (some ⟨kb,ko,none⟩) (some ⟨xb,xo,none⟩) c3 c4 (k+1) (LG w6 w.heap.size u e5 f5 e6 f6)):=by
       intro w5 w6 z u e5 e6 f5 f6 hb5 hz hb6 hu hr;have LW:=ab hb5 hb6;have gs:=aI w6 w.heap.size (.int .i64 u.kind) (.int .i64 u.n) (.string ⟨u.s.toArray⟩) (.slice e5 u.keys.length f5) (.slice e6 u.l.length f6);refine⟨u,e5,e6,f5,f6,ST.o u (by rw[hu,hz,<-HQ.o,fu,if_neg HN.o]),(af LW K.o.1).set _ _ _ _ _,(af LW K.o.2.1).grown gs (by simp),(af LW K.o.2.2.1).grown gs (by simp),aP (ab K.o.2.2.2.2.1 LW) (MG _) _ _ _ _ _,hr.box (MG _) (by omega) _ _ _ _ _⟩
      clear hq hmb hr hb4 LW jk;obtain⟨y0,y1,y2,y3,y4,-⟩:=K.o.1.c;have p4:=K.o.2.1.c.2.2.2.2.1;have q0_:=K.o.2.2.2.1.c;go_wp2_with fail
      go_region_with (first
       |(go_at_call 141;refine(conM.o _ (by rfl) (by rfl) (by rfl) (by rfl)).mono ?_;rintro e w5 ⟨z,b7,b8,d7,d8,rfl,hz1,hz2,hz3⟩;have Z1:=aa hz1;have Z2:=aa hz2;have Z3:=aa hz3;have s0_:=(af hz2 K.o.1).c;clear hz1 hz2 hz3)
       |(go_at_call 164;refine(conW.o _ _ _ _ _ _ Z2.o Z3.o _ (by rfl) (by rfl) (by rfl) (by rfl)).mono ?_;rintro e w6 ⟨u,e5,e6,f5,f6,rfl,hu1,hu2,hu3⟩;have U1:=aa hu1;have U2:=aa hu2;have U3:=aa hu3;have t0_:=(af (ab Z2.o hu2) K.o.1).c;clear hu1 hu2 hu3))
      all_goals
       go_wp2_with fail
       go_roundg (p.keys.length - (k+1))
       case measure=>rw[GK.o];omega
       case rel=>exact⟨k+1,hlt,rfl,by go_num,FIN.o _ _ _ _ _ _ _ _ Z2.o Z1.o U2.o U1.o U3.o⟩
    ·have Mc:k=p.keys.length:=by omega
     have HY:Ll (dH (E+1) v p=y):=aa (by rw[HM.o,I.o.1,MD (by rw[List.length_zip];have:=HKL.o;omega)]);have d1:¬(k:Int) < (p.keys.length:Int):=by omega
     have z0_:=I.o.2.2.2.1.c;have Z:Ll (_/\_):=my (g:=w.heap.size+2) I.o.2.2.2.2.2 I.o.2.2.2.2.1 (by omega) (by omega);have ZB:Ll _:=aa (LH I.o.2.2.2.1.set y a5 c5 a6 c6);clear Mc;go_wp2_with fail
     have q0_:=ZB.o.c;refine MM (v:=.agg (KV y a5 c5 a6 c6)) ?_ rfl ?_
     ·simp only[ar]at q0_;simp[results,results141,go_sem,q0_]
     ·exact⟨_,rfl,Z.o.1,by rw[HY.o];exact Z.o.2⟩
 ·have e0:(p.kind != 5)=true:=by rw[bne_iff_ne];exact hk
  have HM:Ll (dH (E+1) v p=p):=aa (by rw[dH,if_neg hk]);clear hk;have K:=aa ((HP.o.bel (B3.o (.cells (KV v a1 c1 a2 c2) 35) (.cells (KV p a3 c3 a4 c4) 35) (.cells (KV p a3 c3 a4 c4) 35))).weak oH);go_enter func141,ntmps141;go_wp2_with fail
  refine MM (v:=.agg (KV p a3 c3 a4 c4)) ?_ rfl ?_
  ·simp[results,results141,go_sem]
  ·exact⟨_,rfl,B3.o _ _ _,by rw[HM.o];exact K.o⟩
theorem Br(E):Kv E:=by
 induction E with
 | zero=>intro w ok v p vv pv _ _ _ _ h;exact h.elim
 | succ E ih=>exact vA E ih
end
section
attribute [local go_sem ↓] Go.wp_at_zero Go.wp_at_succ
end
def ge (v p:V):V × Int:=if (!aE v || !aE p)=true then (v,1) else if aE (dH 12 v p)=true then (dH 12 v p,0) else (v,2)
theorem Fn(w:LC)(ok v p vv pv)(h:In w ok v vv)(hp:In w ok p pv):Calls prog 108 #[vv,pv] w fun e w'=>∃ r,e=.returned (.tuple #[r,.int .i64 (ge v p).2])/\La w w'/\In w' (bQ ok w.heap.size) (ge v p).1 r:=by
 have H:=aa h.low;have HP:=aa hp.low;obtain⟨l1,l2,l3⟩:=h.lens;obtain⟨l4,l5,l6⟩:=hp.lens;obtain⟨a1,a2,c1,c2,rfl⟩:=h.form;obtain⟨a3,a4,c3,c4,rfl⟩:=hp.form;clear h hp;have B3:Ll (∀ o1 o2 o3,La w (((w.alloc o1).alloc o2).alloc o3)):=fun o1 o2 o3=>ab (ab (ae _ _) (ae _ _)) (ae _ _);cases gv:aE v with
 | false=>
  have GV:=aa gv;clear gv;go_enter func108,ntmps108;go_wp2_with fail
  refine Lk (bG _ _ v _ (by exact H.o.bel (B3.o _ _ _))) fun w1 hb1=>?_;rw[GV.o];have K1:Ll (KY w1 w.heap.size v a1 c1 a2 c2/\KY w1 (w.heap.size+1) p a3 c3 a4 c4/\Lc w1 (w.heap.size+2)/\La w w1):=aa ⟨af hb1 (lI w _ _ _),af hb1 (mE w _ _ _),af hb1 (jI w _ _ _),ab (B3.o _ _ _) hb1⟩;clear hb1;have y0_:=K1.o.1.c;have z0_:=K1.o.2.2.1.c;have Z:Ll (_/\_):=my (ok:=ok) (g:=w.heap.size+2) (C:=w.heap.size+3) ((H.o.bel K1.o.2.2.2).weak aO) K1.o.2.2.2 (by omega) (by omega);have ZB:Ll _:=aa (LH K1.o.2.2.1.set v a1 c1 a2 c2);have HA:Ll (ge v p=(v,1)):=aa (by unfold ge;rw[if_pos (by simp[GV.o])]);go_wp2_with fail
  have q0_:=ZB.o.c;refine MM (v:=.tuple #[.agg (KV v a1 c1 a2 c2),.int .i64 1]) ?_ rfl ?_
  ·simp only[ar]at q0_;simp[results,results108,go_sem,q0_]
  ·exact⟨_,by rw[HA.o],Z.o.1,by rw[HA.o];exact Z.o.2⟩
 | true=>
  have GV:=aa gv;have NV:Ll (dz v):=dQ gv;clear gv;cases gp:aE p with
  | false=>
   have GP:=aa gp;clear gp;go_enter func108,ntmps108;go_wp2_with fail
   refine Lk (bG _ _ v _ (by exact H.o.bel (B3.o _ _ _))) fun w1 hb1=>?_;rw[GV.o];have K1:Ll (KY w1 w.heap.size v a1 c1 a2 c2/\KY w1 (w.heap.size+1) p a3 c3 a4 c4/\Lc w1 (w.heap.size+2)/\La w w1):=aa ⟨af hb1 (lI w _ _ _),af hb1 (mE w _ _ _),af hb1 (jI w _ _ _),ab (B3.o _ _ _) hb1⟩;clear hb1;have p0_:=K1.o.2.1.c;go_wp2_with fail
   refine Lk (bG _ _ p _ (by exact HP.o.bel K1.o.2.2.2)) fun w2 hb2=>?_;rw[GP.o];have K2:Ll (KY w2 w.heap.size v a1 c1 a2 c2/\KY w2 (w.heap.size+1) p a3 c3 a4 c4/\Lc w2 (w.heap.size+2)/\La w w2):=aa ⟨af hb2 K1.o.1,af hb2 K1.o.2.1,af hb2 K1.o.2.2.1,ab K1.o.2.2.2 hb2⟩;clear hb2;have y0_:=K2.o.1.c;have z0_:=K2.o.2.2.1.c;have Z:Ll (_/\_):=my (ok:=ok) (g:=w.heap.size+2) (C:=w.heap.size+3) ((H.o.bel K2.o.2.2.2).weak aO) K2.o.2.2.2 (by omega) (by omega);have ZB:Ll _:=aa (LH K2.o.2.2.1.set v a1 c1 a2 c2);have HA:Ll (ge v p=(v,1)):=aa (by unfold ge;rw[if_pos (by simp[GV.o,GP.o])]);go_wp2_with fail
   have q0_:=ZB.o.c;refine MM (v:=.tuple #[.agg (KV v a1 c1 a2 c2),.int .i64 1]) ?_ rfl ?_
   ·simp only[ar]at q0_;simp[results,results108,go_sem,q0_]
   ·exact⟨_,by rw[HA.o],Z.o.1,by rw[HA.o];exact Z.o.2⟩
  | true=>
   have GP:=aa gp;have NP:Ll (dz p):=dQ gp;have DP:Ll (Jd 12 p):=fO.dep 12 (fh gp);clear gp;go_enter func108,ntmps108;go_wp2_with fail
   refine Lk (bG _ _ v _ (by exact H.o.bel (B3.o _ _ _))) fun w1 hb1=>?_;rw[GV.o];have K1:Ll (KY w1 w.heap.size v a1 c1 a2 c2/\KY w1 (w.heap.size+1) p a3 c3 a4 c4/\Lc w1 (w.heap.size+2)/\La w w1):=aa ⟨af hb1 (lI w _ _ _),af hb1 (mE w _ _ _),af hb1 (jI w _ _ _),ab (B3.o _ _ _) hb1⟩;clear hb1;have p0_:=K1.o.2.1.c;go_wp2_with fail
   refine Lk (bG _ _ p _ (by exact HP.o.bel K1.o.2.2.2)) fun w2 hb2=>?_;rw[GP.o];have K2:Ll (KY w2 w.heap.size v a1 c1 a2 c2/\KY w2 (w.heap.size+1) p a3 c3 a4 c4/\Lc w2 (w.heap.size+2)/\La w w2):=aa ⟨af hb2 K1.o.1,af hb2 K1.o.2.1,af hb2 K1.o.2.2.1,ab K1.o.2.2.2 hb2⟩;clear hb2;have p0_:=K2.o.2.1.c;have y0_:=K2.o.1.c;go_wp2_with fail
   refine(Br 12 _ (bg ok w.heap.size (w.heap.size+3)) v p _ _ (by exact(H.o.bel K2.o.2.2.2).weak aO) (by exact(HP.o.bel K2.o.2.2.2).weak aO) NV.o NP.o DP.o).mono ?_;rintro e w4 ⟨r,rfl,hb4,hr⟩;obtain⟨m,hm⟩:∃ m,dH 12 v p=m:=⟨_,rfl⟩
   rw[hm]at hr;obtain⟨a5,a6,c5,c6,rfl⟩:=hr.form;have LW:=ab hb4 (ae w4 (.cells (KV m a5 c5 a6 c6) 35));have K4:Ll (KY (w4.alloc (.cells (KV m a5 c5 a6 c6) 35)) w.heap.size v a1 c1 a2 c2/\KY (w4.alloc (.cells (KV m a5 c5 a6 c6) 35)) (w.heap.size+1) p a3 c3 a4 c4/\Lc (w4.alloc (.cells (KV m a5 c5 a6 c6) 35)) (w.heap.size+2)/\La w (w4.alloc (.cells (KV m a5 c5 a6 c6) 35))):=aa ⟨af LW K2.o.1,af LW K2.o.2.1,af LW K2.o.2.2.1,ab K2.o.2.2.2 LW⟩;have M4:Ll (In (w4.alloc (.cells (KV m a5 c5 a6 c6) 35)) (bg ok w.heap.size (w.heap.size+3)) m (.agg (KV m a5 c5 a6 c6))/\KY (w4.alloc (.cells (KV m a5 c5 a6 c6) 35)) w4.heap.size m a5 c5 a6 c6):=aa ⟨(hr.weak (oK K2.o.2.2.1.lt)).bel (ae _ _),MN w4 _⟩;have HM:=aa hm;clear hm hr hb4 LW;go_wp2_with fail
   refine Lk (bG _ _ m _ (by exact M4.o.1)) fun w5 hb5=>?_;have K5:Ll (KY w5 w.heap.size v a1 c1 a2 c2/\KY w5 (w.heap.size+1) p a3 c3 a4 c4/\Lc w5 (w.heap.size+2)/\La w w5):=aa ⟨af hb5 K4.o.1,af hb5 K4.o.2.1,af hb5 K4.o.2.2.1,ab K4.o.2.2.2 hb5⟩;have M5:Ll (In w5 (bg ok w.heap.size (w.heap.size+3)) m (.agg (KV m a5 c5 a6 c6))/\KY w5 w4.heap.size m a5 c5 a6 c6):=aa ⟨M4.o.1.bel hb5,af hb5 M4.o.2⟩;clear hb5;cases gm:aE m with
   | false=>
    have GM:=aa gm;clear gm;have y0_:=K5.o.1.c;have z0_:=K5.o.2.2.1.c;have Z:Ll (_/\_):=my (ok:=ok) (g:=w.heap.size+2) (C:=w.heap.size+3) ((H.o.bel K5.o.2.2.2).weak aO) K5.o.2.2.2 (by omega) (by omega);have ZB:Ll _:=aa (LH K5.o.2.2.1.set v a1 c1 a2 c2);have HA:Ll (ge v p=(v,2)):=aa (by unfold ge;rw[if_neg (by simp[GV.o,GP.o]),HM.o,if_neg (by simp[GM.o])]);go_wp2_with fail
    have q0_:=ZB.o.c;refine MM (v:=.tuple #[.agg (KV v a1 c1 a2 c2),.int .i64 2]) ?_ rfl ?_
    ·simp only[ar]at q0_;simp[results,results108,go_sem,q0_]
    ·exact⟨_,by rw[HA.o],Z.o.1,by rw[HA.o];exact Z.o.2⟩
   | true=>
    have GM:=aa gm;clear gm;have y0_:=M5.o.2.c;have z0_:=K5.o.2.2.1.c;have Z:Ll (_/\_):=my (ok:=ok) (g:=w.heap.size+2) (C:=w.heap.size+3) M5.o.1 K5.o.2.2.2 (by omega) (by omega);have ZB:Ll _:=aa (LH K5.o.2.2.1.set m a5 c5 a6 c6);have HA:Ll (ge v p=(m,0)):=aa (by unfold ge;rw[if_neg (by simp[GV.o,GP.o]),HM.o,if_pos GM.o]);go_wp2_with fail
    have q0_:=ZB.o.c;refine MM (v:=.tuple #[.agg (KV m a5 c5 a6 c6),.int .i64 0]) ?_ rfl ?_
    ·simp only[ar]at q0_;simp[results,results108,go_sem,q0_]
    ·exact⟨_,by rw[HA.o],Z.o.1,by rw[HA.o];exact Z.o.2⟩
theorem qF:(prog.info? 40).map (fun i=>(i.zero,i.size,i.bytes))=some (some (.agg Le),15,200):=by kernel_rfl
theorem Cn{cs nb one}(ho:W.ownsRow B 40 15 v n cs)(h15:one.length=15)(hone:∀ u∈one,u.oneCell'=true)(hnb:W.heap[nb]?=some (.cells one.toArray 40))(hn:n<=4000000)(hB:B<=W.heap.size)(ty:TypeId):∃ g cap W',(Builtin.append_ #[26,26] ty #[v,.slice (some ⟨nb,0,none⟩) 1 1]).run prog W=.ok (.slice (some ⟨g,0,none⟩) (n+1) cap) W'/\W'.ownsRow B 40 15 (.slice (some ⟨g,0,none⟩) (n+1) cap) (n+1) (cs++one)/\W.grownBy W' v.ownBlock/\(v.ownBlock=some g\/W.heap.size=g):=by
 obtain⟨i0,hi,hz0,hz1,hz2⟩:=info_parts qF;obtain⟨g,cap,W',hr,h1,h2,h3,-⟩:=run_append_lies (P:=prog) W 26 ty B 40 i0 _ 15 200 underlying26 hi hz0 hz1 hz2 rfl (by decide) v n cs ho ⟨nb,0,none⟩ 1 1 one (by rw[h15])
  (by have:=World.news_of_block (cs:=one.toArray) hnb;simpa using this) hone (by decide) (by unfold maxLen;omega) (by omega) hB W.heap.size rfl
 exact⟨g,cap,W',hr,h1,h2,h3.imp id Eq.symm⟩
theorem kE(w)(ty:TypeId)(g o dLen dCap a sLen sCap)(cur:Array Value)(t:TypeId)(cs)(hg:w.heap[g]?=some (.cells cur t (0,0)))(hn:cs.length=Nat.min sLen dLen * 15)(hsrc:∀ j v,cs[j]?=some v->w.cell? (a.add j)=some v)(hfit:o+cs.length<=cur.size)(h1:∀ v∈cs,v.oneCell'=true):(Builtin.copy_ #[26,26] ty #[.slice (some ⟨g,o,none⟩) dLen dCap,.slice (some a) sLen sCap]).run prog w =
 .ok (goInt (Nat.min sLen dLen)) (w.setRow g (cur.toList.take o++cs++cur.toList.drop (o+cs.length)).toArray):=by
 have hl:=run_loadCells_list (P:=prog) w a cs hsrc;have hst:=run_storeCells_at prog g o t cs 0 cur w hg (by simpa using hfit) h1;obtain⟨i0,hi,hz0,hz1,hz2⟩:=info_parts qF;simp[Builtin.copy_,run_underlying underlying26,Builtin.lenOf,Builtin.firstCells,sizeOf,typeInfo,hi,hz1,<-hn,hl,hst]
theorem ti(w vb b off lb cb)(tA tB:TypeId)(kA kB)(hne:vb≠b)(hsa:w.shape? vb=some (tA,kA))(hsb:w.shape? b=some (tB,kB))(hkB:kB≠0)(hfa:w.frozen? ⟨vb,0,none⟩=false)(hfe:w.frozen? ⟨vb,kA,none⟩=false):(callFunc 65 #[.slice (some ⟨vb,0,none⟩) 1 1,.slice (some ⟨b,off,none⟩) lb cb]).run prog w=.ok (.value (.bool false)) w:=by
 rw[run_callFunc_extern func65 (by kernel_rfl) (by kernel_rfl) (by kernel_rfl) (e:=Extern.SlicesOverlaps.overlaps #[26,26] #[4]) (by kernel_rfl),
  Lib.run_overlaps_apart w 26 4 40 underlying26 15 Tryz.sizeOf40 ⟨vb,0,none⟩ ⟨b,off,none⟩ 1 1 lb cb hne tA tB kA kB hsa hsb hkB hfa hfe]
 rfl
theorem wI(w:LC)(B n vb r cells one)(h15:one.length=15)(hone:∀ u∈one,u.oneCell'=true)(h:w.ownsRow B 40 15 r n cells)(hv:w.heap[vb]?=some (.cells one.toArray 40))(hn:n<=4000000)(hB:B<=w.heap.size):Calls prog 48 #[r,.int .i64 n,.slice (some ⟨vb,0,none⟩) 1 1] w fun e w'=>∃ g cap,e=.returned (.slice (some ⟨g,0,none⟩) (n+1) cap)/\w'.ownsRow B 40 15 (.slice (some ⟨g,0,none⟩) (n+1) cap) (n+1) (cells++one)/\w.grownBy w' r.ownBlock/\(r.ownBlock=some g\/w.heap.size=g):=by
 obtain⟨g,cap,W',hR,ho,hg,hgg⟩:=Cn h h15 hone hv hn hB 26;have HR:=aa hR;have HO:=aa ho;have HG:=aa hg;have HH:=aa hgg;have q1:((n:Int) == (n:Int))=true:=by simp
 rcases h.2 with⟨rfl,h0⟩ | ⟨g0,c0,cur,rfl,h1,h2,h3,h4,h5,h6⟩
 ·subst h0;clear hR ho hg h hgg;go_enter func48,ntmps48;go_wp2_with (at_builtin;go_must (refine Lib.wpList_append_run _ rfl _ _ _ _ rfl (.slice none 0 0) (.slice (some ⟨vb,0,none⟩) 1 1) rfl rfl _ _ HR.o ?_);refine Ll.o ?_)
  refine aa ?_;go_wp2_with fail
  go_ret;exact⟨g,cap,rfl,HO.o,HG.o,HH.o⟩
 ·unfold maxLen at h4;have x1:(n:Int)<=(c0:Int):=by omega
  have x2:(0:Int)<=(n:Int):=by omega
  have x3:(n:Int)<=9223372036854775807:=by omega
  clear hR ho hg h h1 h2 h5 h6 hgg;go_enter func48,ntmps48;go_wp2_with (at_builtin;go_must (refine Lib.wpList_append_run _ rfl _ _ _ _ rfl (.slice (some ⟨g0,0,none⟩) n c0) (.slice (some ⟨vb,0,none⟩) 1 1) rfl rfl _ _ HR.o ?_);refine Ll.o ?_)
  all_goals
   refine aa ?_;go_wp2_with fail
   go_ret;exact⟨g,cap,rfl,HO.o,HG.o,HH.o⟩
end Go.Proofs.YtkjeiljdoljjgaaGreatDoor
