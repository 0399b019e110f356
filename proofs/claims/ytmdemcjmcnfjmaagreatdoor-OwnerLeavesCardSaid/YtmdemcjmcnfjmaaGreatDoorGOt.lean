/- A list behind a box, that grows by one and one; what the function that Conflicts of package owner hands over does. -/
import Derived.Test.YtmdemcjmcnfjmaaGreatDoorGShq
import Derived.Test.YtmdemcjmcnfjmaaGreatDoorGOc
import Derived.Test.YtmdemcjmcnfjmaaGreatDoorGOq
import Derived.Test.YtmdemcjmcnfjmaaGreatDoorGFc
import Derived.Deep.AppendLies
set_option linter.unusedSimpArgs false
set_option linter.unusedVariables false
namespace Go.Proofs.YtmdemcjmcnfjmaaGreatDoor
open Go.RowKit
theorem equalS_at (w:World) (ok ok':Nat->Prop) (xs ys:List (List UInt8)) (v1 v2:Value) (h1:StrsAre w ok xs v1) (h2:StrsAre w ok' ys v2) :
 Calls Tryz.prog 99 #[v1,v2] w fun e w'=>e=.returned (.bool (decide (xs=ys)))/\Below w.heap.size w w':=by
 have hm:=h2.1
 unfold maxLen at hm
 have hm1:=h1.1
 unfold maxLen at hm1
 obtain⟨a2,c2,e2⟩:=h2.form
 rcases h1.2 with⟨rfl,a,rfl⟩ | ⟨b,off,c,rfl,g1,g2,g3⟩
 ·rw[e2]
  refine(Tryz.slices_Equal_string_empty a a2 0 ys.length c2 w hm).mono ?_
  rintro e w' ⟨rfl,rfl⟩
  refine⟨?_,Below.refl _ _⟩
  congr 2
  cases ys <;> simp
 ·by_cases hl:xs.length=ys.length
  ·rcases h2.2 with⟨rfl,a,e⟩ | ⟨b2,off2,c3,e,f1,f2,f3⟩
   ·have hx:xs=[]:=List.eq_nil_of_length_eq_zero (by simpa using hl)
    subst hx
    rw[e2]
    refine(Tryz.slices_Equal_string_empty _ a2 c 0 c2 w (by omega)).mono ?_
    rintro e w' ⟨rfl,rfl⟩
    exact⟨by simp,Below.refl _ _⟩
   ·subst e
    refine(Tryz.slices_Equal_string b off xs.length c b2 off2 ys.length c3 (xs.map fun l=>(⟨l.toArray⟩:ByteArray)) (ys.map fun l=>(⟨l.toArray⟩:ByteArray)) w (by simp) (by simp) hm1 hm ?_ ?_).mono ?_
    ·intro j hj
     have hj':j < xs.length:=by simpa using hj
     rw[(g3 j xs[j] (List.getElem?_eq_getElem hj')).2.2]
     simp[str,hj']
    ·intro j hj
     have hj':j < ys.length:=by simpa using hj
     rw[(f3 j ys[j] (List.getElem?_eq_getElem hj')).2.2]
     simp[str,hj']
    ·rintro e w' ⟨rfl,q,rfl⟩
     refine⟨?_,⟨rfl,rfl,rfl,Nat.le_refl _,fun _ _=>rfl⟩⟩
     congr 2
     rw[List.take_of_length_le (by simp),List.take_of_length_le (by simp)]
     have inj:∀ (a b:List (List UInt8)),(a.map fun l=>(⟨l.toArray⟩:ByteArray))=(b.map fun l=>(⟨l.toArray⟩:ByteArray))↔a=b:=by
      intro a
      induction a with
      | nil=>intro b;cases b <;> simp
      | cons x a ih=>
       intro b
       cases b with
       | nil=>simp
       | cons y b=>simp[ih b]
     exact decide_eq_decide.2 (inj xs ys)
  ·rw[e2]
   refine(Tryz.slices_Equal_string_lens _ a2 xs.length c ys.length c2 w hl).mono ?_
   rintro e w' ⟨rfl,rfl⟩
   refine⟨?_,Below.refl _ _⟩
   congr 2
   have:¬xs=ys:=fun e=>hl (by rw[e])
   simp[this]
def aliked (a b:V):Bool:=decide (a.kind=b.kind)&&decide (a.n=b.n)&&decide (a.s=b.s)&&decide (a.keys=b.keys)&&decide (a.l.length=b.l.length)
set_option maxRecDepth 100000 in
set_option maxHeartbeats 4000000 in
theorem alike_is (w:World) (ok ok':Nat->Prop) (a b:V) (va vb:Value) (ha:In w ok a va) (hb:In w ok' b vb) :
 Calls Tryz.prog 65 #[va,vb] w fun e w'=>e=.returned (.bool (aliked a b))/\Below w.heap.size w w':=by
 obtain⟨l1,l2,l3⟩:=ha.lens
 obtain⟨m1,m2,m3⟩:=hb.lens
 obtain⟨d1,ha⟩:=ha.at
 obtain⟨d2,hb⟩:=hb.at
 obtain⟨ks,ls,rfl,-,-,-,h4,h5⟩:=ha
 obtain⟨ks',ls',rfl,-,-,-,g4,g5⟩:=hb
 have H4:=hidI h4
 have G4:=hidI g4
 obtain⟨a1,c1,rfl⟩:=h4.form
 obtain⟨a2,c2,rfl⟩:=h5.form
 obtain⟨a3,c3,rfl⟩:=g4.form
 obtain⟨a4,c4,rfl⟩:=g5.form
 clear h4 h5 g4 g5
 unfold str
 have B2:Hid (∀ o1 o2,Below w.heap.size w ((w.alloc o1).alloc o2)):=fun o1 o2=>bel_trans (bel_alloc _ _) (bel_alloc _ _)
 by_cases e1:a.kind=b.kind
 ·have q1:(a.kind == b.kind)=true:=by rw[beq_iff_eq];exact e1
  by_cases e2:a.n=b.n
  ·have q2:(a.n == b.n)=true:=by rw[beq_iff_eq];exact e2
   by_cases e3:a.s=b.s
   ·have q3:(a.s == b.s)=true:=by rw[beq_iff_eq];exact e3
    have HE:Hid (aliked a b=(decide (a.keys=b.keys)&&decide (a.l.length=b.l.length))):=hidI (by simp[aliked,e1,e2,e3])
    clear e1 e2 e3
    cases hk:decide (a.keys=b.keys) with
    | true=>
     by_cases hl:a.l.length=b.l.length
     ·have q4:((a.l.length:Int) == (b.l.length:Int))=true:=by rw[hl];simp
      have HR:Hid (aliked a b=true):=hidI (by rw[HE.out,hk];simp[hl])
      have HK:=hidI hk
      clear hk hl
      go_enter Tryz.func65,Tryz.ntmps65
      go_wp2_with fail
      refine(equalS_at _ _ _ a.keys b.keys _ _ (by exact H4.out.bel (B2.out _ _)) (by exact G4.out.bel (B2.out _ _))).mono ?_
      rintro e w1 ⟨rfl,hb1⟩
      rw[HK.out]
      have p4:=(box_bel hb1 (h2a w _ _)).c.2.2.2.2.1
      have r4:=(box_bel hb1 (h2b w _ _)).c.2.2.2.2.1
      have HB:=hidI (bel_trans (B2.out _ _) hb1)
      clear hb1
      go_wp2_with fail
      go_ret
      exact⟨by rw[HR.out];rfl,HB.out⟩
     ·have q4:((a.l.length:Int) == (b.l.length:Int))=false:=by rw[beq_eq_false_iff_ne];omega
      have HR:Hid (aliked a b=false):=hidI (by rw[HE.out,hk];simp[hl])
      have HK:=hidI hk
      clear hk hl
      go_enter Tryz.func65,Tryz.ntmps65
      go_wp2_with fail
      refine(equalS_at _ _ _ a.keys b.keys _ _ (by exact H4.out.bel (B2.out _ _)) (by exact G4.out.bel (B2.out _ _))).mono ?_
      rintro e w1 ⟨rfl,hb1⟩
      rw[HK.out]
      have p4:=(box_bel hb1 (h2a w _ _)).c.2.2.2.2.1
      have r4:=(box_bel hb1 (h2b w _ _)).c.2.2.2.2.1
      have HB:=hidI (bel_trans (B2.out _ _) hb1)
      clear hb1
      go_wp2_with fail
      go_ret
      exact⟨by rw[HR.out];rfl,HB.out⟩
    | false=>
     have HR:Hid (aliked a b=false):=hidI (by rw[HE.out,hk];rfl)
     have HK:=hidI hk
     clear hk
     go_enter Tryz.func65,Tryz.ntmps65
     go_wp2_with fail
     refine(equalS_at _ _ _ a.keys b.keys _ _ (by exact H4.out.bel (B2.out _ _)) (by exact G4.out.bel (B2.out _ _))).mono ?_
     rintro e w1 ⟨rfl,hb1⟩
     rw[HK.out]
     have HB:=hidI (bel_trans (B2.out _ _) hb1)
     clear hb1
     go_wp2_with fail
     go_ret
     exact⟨by rw[HR.out];rfl,HB.out⟩
   ·have q3:(a.s == b.s)=false:=by rw[beq_eq_false_iff_ne];exact e3
    have HR:Hid (aliked a b=false):=hidI (by simp[aliked,e3])
    clear e1 e2 e3
    go_enter Tryz.func65,Tryz.ntmps65
    go_wp2_with fail
    go_ret
    exact⟨by rw[HR.out];rfl,B2.out _ _⟩
  ·have q2:(a.n == b.n)=false:=by rw[beq_eq_false_iff_ne];exact e2
   have HR:Hid (aliked a b=false):=hidI (by simp[aliked,e2])
   clear e1 e2
   go_enter Tryz.func65,Tryz.ntmps65
   go_wp2_with fail
   go_ret
   exact⟨by rw[HR.out];rfl,B2.out _ _⟩
 ·have q1:(a.kind == b.kind)=false:=by rw[beq_eq_false_iff_ne];exact e1
  have HR:Hid (aliked a b=false):=hidI (by simp[aliked,e1])
  clear e1
  go_enter Tryz.func65,Tryz.ntmps65
  go_wp2_with fail
  go_ret
  exact⟨by rw[HR.out];rfl,B2.out _ _⟩
end Go.Proofs.YtmdemcjmcnfjmaaGreatDoor
namespace Go.Proofs.YtmdemcjmcnfjmaaGreatDoor
open Go.RowKit
theorem alike_eq {x y:V} (h:aliked x y=true):(x=y↔x.l=y.l)/\y.l.length=x.l.length:=by
 simp only[aliked,Bool.and_eq_true,decide_eq_true_eq]at h
 obtain⟨⟨⟨⟨h1,h2⟩,h3⟩,h4⟩,h5⟩:=h
 refine⟨⟨fun e=>by rw[e],fun e=>?_⟩,h5.symm⟩
 rw[<-V_eta x,<-V_eta y,h1,h2,h3,h4,e]
theorem alike_no {x y:V} (h:aliked x y=false):x≠y:=by
 rintro rfl
 simp[aliked]at h
set_option maxRecDepth 100000 in
set_option maxHeartbeats 40000000 in
theorem same_run (w:World) (ok ok':Nat->Prop) (a b:V) (va vb:Value) (ha:In w ok a va) (hb:In w ok' b vb) (hN:cnt a<=2000000000000) :
 Calls Tryz.prog 31 #[va,vb] w fun e w'=>SameP w a b e w':=by
 have HA:=hidI ha
 have HB:=hidI hb
 obtain⟨a1,a2,c1,c2,rfl⟩:=ha.form
 obtain⟨a3,a4,c3,c4,rfl⟩:=hb.form
 clear ha hb
 go_enter Tryz.func31,Tryz.ntmps31
 go_upto_region 1 with fail
 go_cut [5,6] (fun lv rv wc=>∃ ia ib,SI w ok ok' ia ib [[a]] [[b]] lv rv wc)
 case first=>
  go_region
  all_goals
   go_wp2_with fail
   go_meet
   case rel=>
    first
     | exact⟨w.heap.size+2,w.heap.size+4,si_start HA.out HB.out (by repeat(first | exact Below.refl _ _ | refine bel_dr ?_ | refine bel_al ?_ _)) (heap_at6 w _ _ _ _ _ _ 3 (by decide)) (heap_at6 w _ _ _ _ _ _ 5 (by decide)) (heap_at6 w _ _ _ _ _ _ 2 (by decide)) (heap_at6 w _ _ _ _ _ _ 4 (by decide)) (by refine⟨?_,?_,?_,?_,?_,?_,?_⟩ <;> omega)⟩
     | exact⟨w.heap.size+2,w.heap.size+3,si_start HA.out HB.out (by repeat(first | exact Below.refl _ _ | refine bel_dr ?_ | refine bel_al ?_ _)) (heap_at6 w _ _ _ _ _ _ 4 (by decide)) (heap_at6 w _ _ _ _ _ _ 5 (by decide)) (heap_at6 w _ _ _ _ _ _ 2 (by decide)) (heap_at6 w _ _ _ _ _ _ 3 (by decide)) (by refine⟨?_,?_,?_,?_,?_,?_,?_⟩ <;> omega)⟩
     | exact⟨w.heap.size+2,w.heap.size+3,si_start HA.out HB.out (by repeat(first | exact Below.refl _ _ | refine bel_dr ?_ | refine bel_al ?_ _)) (heap_at6 w _ _ _ _ _ _ 5 (by decide)) (heap_at6 w _ _ _ _ _ _ 4 (by decide)) (heap_at6 w _ _ _ _ _ _ 2 (by decide)) (heap_at6 w _ _ _ _ _ _ 3 (by decide)) (by refine⟨?_,?_,?_,?_,?_,?_,?_⟩ <;> omega)⟩
     | exact⟨w.heap.size+3,w.heap.size+2,si_start HA.out HB.out (by repeat(first | exact Below.refl _ _ | refine bel_dr ?_ | refine bel_al ?_ _)) (heap_at6 w _ _ _ _ _ _ 4 (by decide)) (heap_at6 w _ _ _ _ _ _ 5 (by decide)) (heap_at6 w _ _ _ _ _ _ 3 (by decide)) (heap_at6 w _ _ _ _ _ _ 2 (by decide)) (by refine⟨?_,?_,?_,?_,?_,?_,?_⟩ <;> omega)⟩
     | exact⟨w.heap.size+3,w.heap.size+2,si_start HA.out HB.out (by repeat(first | exact Below.refl _ _ | refine bel_dr ?_ | refine bel_al ?_ _)) (heap_at6 w _ _ _ _ _ _ 5 (by decide)) (heap_at6 w _ _ _ _ _ _ 4 (by decide)) (heap_at6 w _ _ _ _ _ _ 3 (by decide)) (heap_at6 w _ _ _ _ _ _ 2 (by decide)) (by refine⟨?_,?_,?_,?_,?_,?_,?_⟩ <;> omega)⟩
     | exact⟨w.heap.size+4,w.heap.size+2,si_start HA.out HB.out (by repeat(first | exact Below.refl _ _ | refine bel_dr ?_ | refine bel_al ?_ _)) (heap_at6 w _ _ _ _ _ _ 5 (by decide)) (heap_at6 w _ _ _ _ _ _ 3 (by decide)) (heap_at6 w _ _ _ _ _ _ 4 (by decide)) (heap_at6 w _ _ _ _ _ _ 2 (by decide)) (by refine⟨?_,?_,?_,?_,?_,?_,?_⟩ <;> omega)⟩
 case rest=>
  obtain⟨ia,ib,hS⟩:=hcut
  have S0:=hidI hS
  clear hS
  go_wp2_with fail
  go_loopg [5,6] (1+cnt a) (fun gk lv rv wr=>∃ ls rs,(a=b↔ls=rs)/\PL ls rs/\gk=mu ls/\mu ls<=2000000000001/\SI w ok ok' ia ib ls rs lv rv wr)
  case atStart=>exact⟨[[a]],[[b]],⟨fun e=>by rw[e],fun e=>by simpa using e⟩,⟨rfl,fun j l r h1 h2=>by cases j <;> simp at h1 h2;rw[<-h1,<-h2];rfl⟩,by simp[mu,cnts_nil,cnts_cons],by simp[mu,cnts_nil,cnts_cons];omega,S0.out⟩
  case round=>
   obtain⟨ls,rs,hiff,hpl,hgk,hM,hSI⟩:=hrel
   rcases ends ls with rfl | ⟨ms,xs,rfl⟩
   ·obtain⟨gL,gR,cL,cR,rfl,rfl,hSE⟩:=hSI
    have hSB:=hSE.2.2.2.2.2.2.2.2.2
    have R:Hid (a=b/\Below w.heap.size w wr):=hidI ⟨hiff.2 (List.eq_nil_of_length_eq_zero (by simpa using hpl.1)).symm,hSB⟩
    clear hiff hpl hgk hM hSE hSB
    have e0:([]:List (List V)).length=0:=rfl
    rw[e0]
    go_wp2_with fail
    go_ret
    exact⟨true,rfl,⟨fun _=>R.out.1,fun _=>rfl⟩,R.out.2⟩
   ·obtain⟨qs,ys,rfl,hpl',hxy⟩:=hpl.pop
    obtain⟨gL,gR,cL,cR,rfl,rfl,hL,hR,n1,n2,n3,n4,n5,n6,n7,hBw⟩:=hSI
    obtain⟨xv,px,vx,hL'⟩:=hL.pop
    obtain⟨yv,py,vy,hR'⟩:=hR.pop
    obtain⟨M,hgM⟩:∃ M,gk=M:=⟨_,rfl⟩
    rw[hgM]at hgk
    have GKM:=hidI hgM
    clear hgM
    have hq:qs.length=ms.length:=hpl'.1
    rw[hq]at py
    have J0:Hid (SJ w ok ok' ia ib a b xs ys xv yv M 0 (.slice (some ⟨gL,0,none⟩) ms.length cL) (.slice (some ⟨gR,0,none⟩) ms.length cR) wr):=hidI ⟨ms,qs,by rw[hiff,snoc_both];simp,hpl',by rw[hgk,mu_push];simp;omega,by omega,vx,vy,gL,gR,cL,cR,rfl,by rw[hq],hL',hR',n1,n2,n3,n4,n5,n6,n7,hBw⟩
    have zL:=hL.cap
    have zR:=hR.cap
    have eL:(ms++[xs]).length=ms.length+1:=by simp
    have eR:(qs++[ys]).length=ms.length+1:=by simp[hq]
    rw[eL]at zL ⊢
    rw[eR]at zR ⊢
    obtain⟨z1,z2⟩:=zL
    obtain⟨z3,z4⟩:=zR
    obtain⟨xa,xc,rfl⟩:=vx.form
    obtain⟨ya,yc,rfl⟩:=vy.form
    have lx:=vx.len
    have HXY:=hidI hxy
    have GM:Hid (M<=2000000000001):=hidI (by rw[hgk];exact hM)
    clear hiff hpl hpl' hL hR hL' hR' hgk hM vx vy n1 n2 n3 n4 n5 n6 n7 hBw eL eR hq hxy
    have y1:(0:Int)<=(ms.length:Int):=by omega
    have y2:(ms.length:Int) < ((ms.length+1:Nat):Int):=by omega
    have y3:(ms.length:Int)<=(cL:Int):=by omega
    have y4:(ms.length:Int)<=(cR:Int):=by omega
    go_wp2_with fail
    go_quiet (fail)
    go_wp2_with fail
    go_quiet (fail)
    go_wp2_with fail
    go_loopg [5,6,39] xs.length (fun gi lv rv i wi=>∃ k:Nat,k<=xs.length/\gi=xs.length - k/\i=.int .i64 k/\SJ w ok ok' ia ib a b xs ys (.slice xa xs.length xc) (.slice ya ys.length yc) M k lv rv wi)
    case atStart=>exact⟨0,Nat.zero_le _,rfl,rfl,by first | exact J0.out | exact J0.out.bel (bel_drewN _ _) | exact J0.out.bel (Below.refl _ _)⟩
    case round=>
     obtain⟨k,hk,hgi,rfl,ls,rs,i1,i2,i3,i4,i5,i6,gL',gR',cL',cR',rfl,rfl,i7⟩:=hrel
     have GI:=hidI hgi
     have J:Hid ((a=b↔ls=rs/\xs.drop k=ys.drop k)/\PL ls rs/\mu ls+cnts (xs.drop k)+1<=M/\ValsIn wr (okX ok w.heap.size ia) xs (.slice xa xs.length xc)/\ValsIn wr (okX ok' w.heap.size ib) ys (.slice ya ys.length yc)/\SE w ok ok' ia ib ls rs gL' gR' cL' cR' wr):=hidI ⟨i1,i2,i3,i5,i6,i7⟩
     clear hgi i1 i2 i3 i4 i7
     by_cases hlt:k < xs.length
     ·have hlt':k < ys.length:=by have:=HXY.out;omega
      obtain⟨xb,xo,p5,q5,p6,q6,rfl,x1,x2,g0,g1,g2,g3,g4,g5⟩:=i5.item hlt
      obtain⟨yb,yo,p7,q7,p8,q8,rfl,x3,x4,f0,f1,f2,f3,f4,f5⟩:=i6.item hlt'
      clear i5 i6
      have w1:(0:Int)<=(k:Int):=by omega
      have w2:(k:Int) < (xs.length:Int):=by omega
      have w3:(k:Int) < (ys.length:Int):=by omega
      have CALL:Hid (∀ w',Below wr.heap.size wr w'->Calls Tryz.prog 65 #[.agg #[.int .i64 xs[k].kind,.int .i64 xs[k].n,.string ⟨xs[k].s.toArray⟩,.slice p5 xs[k].keys.length q5,.slice p6 xs[k].l.length q6],.agg #[.int .i64 ys[k].kind,.int .i64 ys[k].n,.string ⟨ys[k].s.toArray⟩,.slice p7 ys[k].keys.length q7,.slice p8 ys[k].l.length q8]] w' fun e w4=>e=.returned (.bool (aliked xs[k] ys[k]))/\Below wr.heap.size wr w4 /\
       w4.cell? ⟨xb,xo+k * 5,none⟩=some (.int .i64 xs[k].kind)/\w4.cell? ⟨xb,xo+k * 5+1,none⟩=some (.int .i64 xs[k].n)/\w4.cell? ⟨xb,xo+k * 5+2,none⟩=some (.string ⟨xs[k].s.toArray⟩)/\w4.cell? ⟨xb,xo+k * 5+3,none⟩=some (.slice p5 xs[k].keys.length q5)/\w4.cell? ⟨xb,xo+k * 5+4,none⟩=some (.slice p6 xs[k].l.length q6)/\w4.cell? ⟨yb,yo+k * 5,none⟩=some (.int .i64 ys[k].kind)/\w4.cell? ⟨yb,yo+k * 5+1,none⟩=some (.int .i64 ys[k].n)/\w4.cell? ⟨yb,yo+k * 5+2,none⟩=some (.string ⟨ys[k].s.toArray⟩)/\w4.cell? ⟨yb,yo+k * 5+3,none⟩=some (.slice p7 ys[k].keys.length q7)/\w4.cell? ⟨yb,yo+k * 5+4,none⟩=some (.slice p8 ys[k].l.length q8)):=by
       intro w' hb'
       refine(alike_is w' _ _ xs[k] ys[k] _ _ (g5.bel hb') (f5.bel hb')).mono ?_
       rintro e w4 ⟨rfl,hb4⟩
       have hb5:=bel_trans hb' hb4
       exact⟨rfl,hb5,cell_bel hb5 g0,cell_bel hb5 g1,cell_bel hb5 g2,cell_bel hb5 g3,cell_bel hb5 g4,cell_bel hb5 f0,cell_bel hb5 f1,cell_bel hb5 f2,cell_bel hb5 f3,cell_bel hb5 f4⟩
      have VX:=hidI g5.vals
      have VY:=hidI f5.vals
      clear g5 f5
      go_wp2_with fail
      go_region_held3 (fun w4=>w4.cell? ⟨xb,xo+k * 5,none⟩=some (.int .i64 xs[k].kind)/\w4.cell? ⟨xb,xo+k * 5+1,none⟩=some (.int .i64 xs[k].n)/\w4.cell? ⟨xb,xo+k * 5+2,none⟩=some (.string ⟨xs[k].s.toArray⟩)/\w4.cell? ⟨xb,xo+k * 5+3,none⟩=some (.slice p5 xs[k].keys.length q5)/\w4.cell? ⟨xb,xo+k * 5+4,none⟩=some (.slice p6 xs[k].l.length q6)/\w4.cell? ⟨yb,yo+k * 5,none⟩=some (.int .i64 ys[k].kind)/\w4.cell? ⟨yb,yo+k * 5+1,none⟩=some (.int .i64 ys[k].n)/\w4.cell? ⟨yb,yo+k * 5+2,none⟩=some (.string ⟨ys[k].s.toArray⟩)/\w4.cell? ⟨yb,yo+k * 5+3,none⟩=some (.slice p7 ys[k].keys.length q7)/\w4.cell? ⟨yb,yo+k * 5+4,none⟩=some (.slice p8 ys[k].l.length q8)) (go_keep)
       (first | (go_at_call 65;refine(CALL.out _ (by exact⟨rfl,rfl,rfl,Nat.le_refl _,fun _ _=>rfl⟩)).mono ?_;rintro e w4 ⟨rfl,hb4,s0,s1,s2,s3,s4,r0,r1,r2,r3,r4⟩))
      all_goals
       have HB4:=hidI hb4
       have E4:=hidI (J.out.2.2.2.2.2.bel hb4)
       clear hb4 g0 g1 g2 g3 g4 f0 f1 f2 f3 f4 CALL s0 s1 s2 s3 r0 r1 r2 r3
       cases hr:aliked xs[k] ys[k] with
       | false=>
        have R:Hid ((¬a=b)/\Below w.heap.size w w4):=hidI ⟨fun e=>absurd ((drop_both hlt hlt').1 (J.out.1.1 e).2).1 (alike_no hr),E4.out.2.2.2.2.2.2.2.2.2⟩
        clear hr s4 r4
        go_wp2_with fail
        go_ret
        exact⟨false,rfl,⟨fun e=>absurd e Bool.false_ne_true,fun e=>absurd e R.out.1⟩,R.out.2⟩
       | true=>
        have HR:=hidI hr
        clear hr
        by_cases h0:xs[k].l.length=0
        ·have d0:¬(0:Int) < (xs[k].l.length:Int):=by omega
         have FIN:Hid (SJ w ok ok' ia ib a b xs ys (.slice (some ⟨xb,xo,none⟩) xs.length xc) (.slice (some ⟨yb,yo,none⟩) ys.length yc) M (k+1) (.slice (some ⟨gL',0,none⟩) ls.length cL') (.slice (some ⟨gR',0,none⟩) rs.length cR') w4):=by
          obtain⟨j1,j2,j3,j5,j6,j7⟩:=J.out
          have he:=alike_eq HR.out
          have e1:xs[k].l=[]:=List.eq_nil_of_length_eq_zero h0
          have e2:ys[k].l=[]:=List.eq_nil_of_length_eq_zero (by rw[he.2,h0])
          have e3:xs[k]=ys[k]:=he.1.2 (by rw[e1,e2])
          have e4:=cnts_drop hlt
          exact hidI ⟨ls,rs,by rw[j1,drop_both hlt hlt'];simp[e3],j2,by omega,GM.out,j5.bel HB4.out,j6.bel HB4.out,gL',gR',cL',cR',rfl,rfl,E4.out⟩
         clear h0 r4
         go_wp2_with fail
         go_roundg (xs.length - (k+1))
         case measure=>rw[GI.out];omega
         case rel=>exact⟨k+1,hlt,rfl,by go_num,FIN.out⟩
        ·have d0:(0:Int) < (xs[k].l.length:Int):=by omega
         have WL:Hid (Wait w4 w.heap.size (okX ok w.heap.size ia) ls gL' cL'):=hidI E4.out.1
         have WR:Hid (Wait w4 w.heap.size (okX ok' w.heap.size ib) rs gR' cR'):=hidI E4.out.2.1
         have VX4:Hid (ValsIn w4 (okX ok w.heap.size ia) xs[k].l (.slice p6 xs[k].l.length q6)):=hidI (VX.out.bel HB4.out)
         have VY4:Hid (ValsIn w4 (okX ok' w.heap.size ib) ys[k].l (.slice p8 ys[k].l.length q8)):=hidI (VY.out.bel HB4.out)
         have LA:=hidI E4.out.lows
         have LB:=hidI E4.out.swap.lows
         have gL4:Hid (gL' < w4.heap.size):=hidI E4.out.1.lt.2
         have gR4:Hid (gR' < w4.heap.size):=hidI E4.out.2.1.lt.2
         have nLR:Hid (gR'≠gL'):=hidI E4.out.2.2.1.symm
         have nRL:Hid (gL'≠gR'):=hidI E4.out.2.2.1
         have nLB:Hid (∀ j,(okX ok' w.heap.size ib) j->j≠gL'):=hidI (okX_ne E4.out.1.lt.1 E4.out.2.2.2.2.2.1)
         have nRA:Hid (∀ j,(okX ok w.heap.size ia) j->j≠gR'):=hidI (okX_ne E4.out.2.1.lt.1 E4.out.2.2.2.2.1)
         have nXL:Hid (xb≠gL'):=hidI (okX_ne E4.out.1.lt.1 E4.out.2.2.2.1 _ (J.out.2.2.2.1.blk hlt))
         have nXR:Hid (xb≠gR'):=hidI (nRA.out _ (J.out.2.2.2.1.blk hlt))
         have nYL:Hid (yb≠gL'):=hidI (nLB.out _ (J.out.2.2.2.2.1.blk hlt'))
         have nYR:Hid (yb≠gR'):=hidI (okX_ne E4.out.2.1.lt.1 E4.out.2.2.2.2.2.2.1 _ (J.out.2.2.2.2.1.blk hlt'))
         have nls:ls.length<=5000000000000:=by have:=mu_len ls;have:=J.out.2.2.1;have:=GM.out;omega
         have nrs:rs.length<=5000000000000:=by have:=J.out.2.1.1;omega
         have midL:Hid (∀ (W w7:World) (g7 c7:Nat),Below w4.heap.size w4 W->Wait w7 w.heap.size (okX ok w.heap.size ia) (ls++[xs[k].l]) g7 c7->W.grownBy w7 (some gL')->(g7=gL'\/W.heap.size=g7) ->
          (w7.cell? ⟨xb,xo+k * 5+4,none⟩=some (.slice p6 xs[k].l.length q6)/\w7.cell? ⟨yb,yo+k * 5+4,none⟩=some (.slice p8 ys[k].l.length q8)/\(∀ o,(w7.alloc o).cell? ⟨xb,xo+k * 5+4,none⟩=some (.slice p6 xs[k].l.length q6))/\(∀ o,(w7.alloc o).cell? ⟨yb,yo+k * 5+4,none⟩=some (.slice p8 ys[k].l.length q8))) /\
          (∀ nb o,w4.heap.size<=nb->W.heap[nb]?=some o->w7.heap[nb]?=some o)/\Wait w7 w.heap.size (okX ok' w.heap.size ib) rs gR' cR'/\ValsIn w7 (okX ok' w.heap.size ib) ys[k].l (.slice p8 ys[k].l.length q8)/\(∀ j,(okX ok' w.heap.size ib) j->j < w7.heap.size) /\
          w4.grownBy w7 (some gL')/\Wait w7 w.heap.size (okX ok w.heap.size ia) (ls++[xs[k].l]) g7 c7/\(g7=gL'\/w4.heap.size<=g7)):=by
          intro W w7 g7 c7 b1 h7 q7 o7
          have G:w4.grownBy w7 (some gL'):=gb_trans (gb_below b1) q7
          have cx:=G.cell s4 (by simpa using nXL.out)
          have cy:=G.cell r4 (by simpa using nYL.out)
          refine⟨⟨cx,cy,fun o=>cell_bel (bel_alloc w7 o) cx,fun o=>cell_bel (bel_alloc w7 o) cy⟩,fun nb o hn ho=>(q7.block nb (Array.getElem?_eq_some_iff.1 ho).1 (by simp;have:=gL4.out;omega)).trans ho,WR.out.far G nLR.out nLB.out,VY4.out.grown G nLB.out,fun j hj=>Nat.lt_of_lt_of_le (LB.out j hj) G.size,G,h7,o7.imp id fun e=>by have:=b1.size;omega⟩
         have midR:Hid (∀ (W w7:World) (g7 c7:Nat),Below w4.heap.size w4 W->Wait w7 w.heap.size (okX ok' w.heap.size ib) (rs++[ys[k].l]) g7 c7->W.grownBy w7 (some gR')->(g7=gR'\/W.heap.size=g7) ->
          (w7.cell? ⟨xb,xo+k * 5+4,none⟩=some (.slice p6 xs[k].l.length q6)/\w7.cell? ⟨yb,yo+k * 5+4,none⟩=some (.slice p8 ys[k].l.length q8)/\(∀ o,(w7.alloc o).cell? ⟨xb,xo+k * 5+4,none⟩=some (.slice p6 xs[k].l.length q6))/\(∀ o,(w7.alloc o).cell? ⟨yb,yo+k * 5+4,none⟩=some (.slice p8 ys[k].l.length q8))) /\
          (∀ nb o,w4.heap.size<=nb->W.heap[nb]?=some o->w7.heap[nb]?=some o)/\Wait w7 w.heap.size (okX ok w.heap.size ia) ls gL' cL'/\ValsIn w7 (okX ok w.heap.size ia) xs[k].l (.slice p6 xs[k].l.length q6)/\(∀ j,(okX ok w.heap.size ia) j->j < w7.heap.size) /\
          w4.grownBy w7 (some gR')/\Wait w7 w.heap.size (okX ok' w.heap.size ib) (rs++[ys[k].l]) g7 c7/\(g7=gR'\/w4.heap.size<=g7)):=by
          intro W w7 g7 c7 b1 h7 q7 o7
          have G:w4.grownBy w7 (some gR'):=gb_trans (gb_below b1) q7
          have cx:=G.cell s4 (by simpa using nXR.out)
          have cy:=G.cell r4 (by simpa using nYR.out)
          refine⟨⟨cx,cy,fun o=>cell_bel (bel_alloc w7 o) cx,fun o=>cell_bel (bel_alloc w7 o) cy⟩,fun nb o hn ho=>(q7.block nb (Array.getElem?_eq_some_iff.1 ho).1 (by simp;have:=gR4.out;omega)).trans ho,WL.out.far G nRL.out nRA.out,VX4.out.grown G nRA.out,fun j hj=>Nat.lt_of_lt_of_le (LA.out j hj) G.size,G,h7,o7.imp id fun e=>by have:=b1.size;omega⟩
         have FINL:Hid (∀ (g7 c7 g8 c8:Nat) (w7 w8:World),w4.grownBy w7 (some gL')->Wait w7 w.heap.size (okX ok w.heap.size ia) (ls++[xs[k].l]) g7 c7->(g7=gL'\/w4.heap.size<=g7)->w7.grownBy w8 (some gR')->Wait w8 w.heap.size (okX ok' w.heap.size ib) (rs++[ys[k].l]) g8 c8->(g8=gR'\/w7.heap.size<=g8) ->
          SJ w ok ok' ia ib a b xs ys (.slice (some ⟨xb,xo,none⟩) xs.length xc) (.slice (some ⟨yb,yo,none⟩) ys.length yc) M (k+1) (.slice (some ⟨g7,0,none⟩) (ls.length+1) c7) (.slice (some ⟨g8,0,none⟩) (rs.length+1) c8) w8):=by
          intro g7 c7 g8 c8 w7 w8 q7 h7 o7 q8 h8 o8
          obtain⟨j1,j2,j3,j5,j6,j7⟩:=J.out
          have he:=alike_eq HR.out
          have e4:=cnts_drop hlt
          have e5:=cnt_eq xs[k]
          refine⟨ls++[xs[k].l],rs++[ys[k].l],by rw[j1,drop_both hlt hlt',snoc_both,he.1,and_assoc],j2.push he.2,by rw[mu_push];omega,GM.out,((j5.bel HB4.out).grown q7 ?_).grown q8 nRA.out,((j6.bel HB4.out).grown q7 nLB.out).grown q8 ?_,g7,g8,c7,c8,by simp,by simp,push_end E4.out q7 h7 o7 q8 h8 o8⟩
          ·exact okX_ne E4.out.1.lt.1 E4.out.2.2.2.1
          ·exact okX_ne E4.out.2.1.lt.1 E4.out.2.2.2.2.2.2.1
         have FINR:Hid (∀ (g7 c7 g8 c8:Nat) (w7 w8:World),w4.grownBy w7 (some gR')->Wait w7 w.heap.size (okX ok' w.heap.size ib) (rs++[ys[k].l]) g7 c7->(g7=gR'\/w4.heap.size<=g7)->w7.grownBy w8 (some gL')->Wait w8 w.heap.size (okX ok w.heap.size ia) (ls++[xs[k].l]) g8 c8->(g8=gL'\/w7.heap.size<=g8) ->
          SJ w ok ok' ia ib a b xs ys (.slice (some ⟨xb,xo,none⟩) xs.length xc) (.slice (some ⟨yb,yo,none⟩) ys.length yc) M (k+1) (.slice (some ⟨g8,0,none⟩) (ls.length+1) c8) (.slice (some ⟨g7,0,none⟩) (rs.length+1) c7) w8):=by
          intro g7 c7 g8 c8 w7 w8 q7 h7 o7 q8 h8 o8
          obtain⟨j1,j2,j3,j5,j6,j7⟩:=J.out
          have he:=alike_eq HR.out
          have e4:=cnts_drop hlt
          have e5:=cnt_eq xs[k]
          refine⟨ls++[xs[k].l],rs++[ys[k].l],by rw[j1,drop_both hlt hlt',snoc_both,he.1,and_assoc],j2.push he.2,by rw[mu_push];omega,GM.out,((j5.bel HB4.out).grown q7 nRA.out).grown q8 ?_,((j6.bel HB4.out).grown q7 ?_).grown q8 nLB.out,g8,g7,c8,c7,by simp,by simp,(push_end E4.out.swap q7 h7 o7 q8 h8 o8).swap⟩
          ·exact okX_ne E4.out.1.lt.1 E4.out.2.2.2.1
          ·exact okX_ne E4.out.2.1.lt.1 E4.out.2.2.2.2.2.2.1
         have s5:∀ o,(w4.alloc o).cell? ⟨xb,xo+k * 5+4,none⟩=some (.slice p6 xs[k].l.length q6):=fun o=>cell_bel (bel_alloc w4 o) s4
         have r5:∀ o,(w4.alloc o).cell? ⟨yb,yo+k * 5+4,none⟩=some (.slice p8 ys[k].l.length q8):=fun o=>cell_bel (bel_alloc w4 o) r4
         have s6:∀ o o',((w4.alloc o).alloc o').cell? ⟨xb,xo+k * 5+4,none⟩=some (.slice p6 xs[k].l.length q6):=fun o o'=>cell_bel (bel_alloc _ o') (s5 o)
         have r6:∀ o o',((w4.alloc o).alloc o').cell? ⟨yb,yo+k * 5+4,none⟩=some (.slice p8 ys[k].l.length q8):=fun o o'=>cell_bel (bel_alloc _ o') (r5 o)
         clear h0
         go_upto_region 12 with fail
         go_region_held3 (fun w'=>w'.cell? ⟨xb,xo+k * 5+4,none⟩=some (.slice p6 xs[k].l.length q6)/\w'.cell? ⟨yb,yo+k * 5+4,none⟩=some (.slice p8 ys[k].l.length q8)) (go_keep)
          (first | (refine step_push (by rfl) _ _ (by rfl) (by rfl) (by rfl) (WL.out.bel (by first | exact Below.refl _ _ | exact bel_al (Below.refl _ _) _ | exact bel_al (bel_al (Below.refl _ _) _) _ | exact bel_dr (Below.refl _ _) | exact bel_dr (bel_al (Below.refl _ _) _) | exact bel_dr (bel_al (bel_al (Below.refl _ _) _) _) | exact bel_dr (bel_dr (Below.refl _ _)) | exact bel_dr (bel_dr (bel_al (Below.refl _ _) _)) | exact bel_dr (bel_dr (bel_al (bel_al (Below.refl _ _) _) _)) | exact bel_dr (bel_dr (bel_dr (Below.refl _ _))) | exact bel_dr (bel_dr (bel_dr (bel_al (Below.refl _ _) _))) | exact bel_dr (bel_dr (bel_dr (bel_al (bel_al (Below.refl _ _) _) _))))) (by first | exact heap_alloc_new _ _ | exact h2a _ _ _ | exact h2b _ _ _) (VX4.out.bel (by first | exact Below.refl _ _ | exact bel_al (Below.refl _ _) _ | exact bel_al (bel_al (Below.refl _ _) _) _ | exact bel_dr (Below.refl _ _) | exact bel_dr (bel_al (Below.refl _ _) _) | exact bel_dr (bel_al (bel_al (Below.refl _ _) _) _) | exact bel_dr (bel_dr (Below.refl _ _)) | exact bel_dr (bel_dr (bel_al (Below.refl _ _) _)) | exact bel_dr (bel_dr (bel_al (bel_al (Below.refl _ _) _) _)) | exact bel_dr (bel_dr (bel_dr (Below.refl _ _))) | exact bel_dr (bel_dr (bel_dr (bel_al (Below.refl _ _) _))) | exact bel_dr (bel_dr (bel_dr (bel_al (bel_al (Below.refl _ _) _) _))))) (by omega) (fun j hj=>Nat.lt_of_lt_of_le (LA.out j hj) (szle (a:=w4) (by first | exact Below.refl _ _ | exact bel_al (Below.refl _ _) _ | exact bel_al (bel_al (Below.refl _ _) _) _ | exact bel_dr (Below.refl _ _) | exact bel_dr (bel_al (Below.refl _ _) _) | exact bel_dr (bel_al (bel_al (Below.refl _ _) _) _) | exact bel_dr (bel_dr (Below.refl _ _)) | exact bel_dr (bel_dr (bel_al (Below.refl _ _) _)) | exact bel_dr (bel_dr (bel_al (bel_al (Below.refl _ _) _) _)) | exact bel_dr (bel_dr (bel_dr (Below.refl _ _))) | exact bel_dr (bel_dr (bel_dr (bel_al (Below.refl _ _) _))) | exact bel_dr (bel_dr (bel_dr (bel_al (bel_al (Below.refl _ _) _) _)))))) ?_;intro g7 c7 w7 h7 q7 o7;have P7:Hid _:=hidI (midL.out _ _ _ _ (by first | exact Below.refl _ _ | exact bel_al (Below.refl _ _) _ | exact bel_al (bel_al (Below.refl _ _) _) _ | exact bel_dr (Below.refl _ _) | exact bel_dr (bel_al (Below.refl _ _) _) | exact bel_dr (bel_al (bel_al (Below.refl _ _) _) _) | exact bel_dr (bel_dr (Below.refl _ _)) | exact bel_dr (bel_dr (bel_al (Below.refl _ _) _)) | exact bel_dr (bel_dr (bel_al (bel_al (Below.refl _ _) _) _)) | exact bel_dr (bel_dr (bel_dr (Below.refl _ _))) | exact bel_dr (bel_dr (bel_dr (bel_al (Below.refl _ _) _))) | exact bel_dr (bel_dr (bel_dr (bel_al (bel_al (Below.refl _ _) _) _)))) h7 q7 o7);obtain⟨v1,v2,v3,v4⟩:=P7.out.1;have N7:Hid _:=hidI P7.out.2.1;clear h7 q7 o7) | (refine step_push (by rfl) _ _ (by rfl) (by rfl) (by rfl) (P7.out.2.2.1.bel (by first | exact Below.refl _ _ | exact bel_al (Below.refl _ _) _ | exact bel_al (bel_al (Below.refl _ _) _) _ | exact bel_dr (Below.refl _ _) | exact bel_dr (bel_al (Below.refl _ _) _) | exact bel_dr (bel_al (bel_al (Below.refl _ _) _) _) | exact bel_dr (bel_dr (Below.refl _ _)) | exact bel_dr (bel_dr (bel_al (Below.refl _ _) _)) | exact bel_dr (bel_dr (bel_al (bel_al (Below.refl _ _) _) _)) | exact bel_dr (bel_dr (bel_dr (Below.refl _ _))) | exact bel_dr (bel_dr (bel_dr (bel_al (Below.refl _ _) _))) | exact bel_dr (bel_dr (bel_dr (bel_al (bel_al (Below.refl _ _) _) _))))) (by first | exact heap_alloc_new _ _ | exact N7.out _ _ (by simp) (heap_alloc_new _ _) | exact N7.out _ _ (by simp) (h2a _ _ _) | exact N7.out _ _ (by simp) (h2b _ _ _)) (P7.out.2.2.2.1.bel (by first | exact Below.refl _ _ | exact bel_al (Below.refl _ _) _ | exact bel_al (bel_al (Below.refl _ _) _) _ | exact bel_dr (Below.refl _ _) | exact bel_dr (bel_al (Below.refl _ _) _) | exact bel_dr (bel_al (bel_al (Below.refl _ _) _) _) | exact bel_dr (bel_dr (Below.refl _ _)) | exact bel_dr (bel_dr (bel_al (Below.refl _ _) _)) | exact bel_dr (bel_dr (bel_al (bel_al (Below.refl _ _) _) _)) | exact bel_dr (bel_dr (bel_dr (Below.refl _ _))) | exact bel_dr (bel_dr (bel_dr (bel_al (Below.refl _ _) _))) | exact bel_dr (bel_dr (bel_dr (bel_al (bel_al (Below.refl _ _) _) _))))) (by omega) (fun j hj=>Nat.lt_of_lt_of_le (P7.out.2.2.2.2.1 j hj) (szle (a:=w7) (by first | exact Below.refl _ _ | exact bel_al (Below.refl _ _) _ | exact bel_al (bel_al (Below.refl _ _) _) _ | exact bel_dr (Below.refl _ _) | exact bel_dr (bel_al (Below.refl _ _) _) | exact bel_dr (bel_al (bel_al (Below.refl _ _) _) _) | exact bel_dr (bel_dr (Below.refl _ _)) | exact bel_dr (bel_dr (bel_al (Below.refl _ _) _)) | exact bel_dr (bel_dr (bel_al (bel_al (Below.refl _ _) _) _)) | exact bel_dr (bel_dr (bel_dr (Below.refl _ _))) | exact bel_dr (bel_dr (bel_dr (bel_al (Below.refl _ _) _))) | exact bel_dr (bel_dr (bel_dr (bel_al (bel_al (Below.refl _ _) _) _)))))) ?_;intro g8 c8 w8 h8 q8 o8;have P8:=hidI (two_up (a:=w7) (by first | exact Below.refl _ _ | exact bel_al (Below.refl _ _) _ | exact bel_al (bel_al (Below.refl _ _) _) _ | exact bel_dr (Below.refl _ _) | exact bel_dr (bel_al (Below.refl _ _) _) | exact bel_dr (bel_al (bel_al (Below.refl _ _) _) _) | exact bel_dr (bel_dr (Below.refl _ _)) | exact bel_dr (bel_dr (bel_al (Below.refl _ _) _)) | exact bel_dr (bel_dr (bel_al (bel_al (Below.refl _ _) _) _)) | exact bel_dr (bel_dr (bel_dr (Below.refl _ _))) | exact bel_dr (bel_dr (bel_dr (bel_al (Below.refl _ _) _))) | exact bel_dr (bel_dr (bel_dr (bel_al (bel_al (Below.refl _ _) _) _)))) q8 o8);have P9:=hidI h8;have v5:=P8.out.1.cell v1 (by simpa using nXL.out);have v6:=P8.out.1.cell v2 (by simpa using nYL.out);clear h8 q8 o8) | (refine step_push (by rfl) _ _ (by rfl) (by rfl) (by rfl) (WR.out.bel (by first | exact Below.refl _ _ | exact bel_al (Below.refl _ _) _ | exact bel_al (bel_al (Below.refl _ _) _) _ | exact bel_dr (Below.refl _ _) | exact bel_dr (bel_al (Below.refl _ _) _) | exact bel_dr (bel_al (bel_al (Below.refl _ _) _) _) | exact bel_dr (bel_dr (Below.refl _ _)) | exact bel_dr (bel_dr (bel_al (Below.refl _ _) _)) | exact bel_dr (bel_dr (bel_al (bel_al (Below.refl _ _) _) _)) | exact bel_dr (bel_dr (bel_dr (Below.refl _ _))) | exact bel_dr (bel_dr (bel_dr (bel_al (Below.refl _ _) _))) | exact bel_dr (bel_dr (bel_dr (bel_al (bel_al (Below.refl _ _) _) _))))) (by first | exact heap_alloc_new _ _ | exact h2a _ _ _ | exact h2b _ _ _) (VY4.out.bel (by first | exact Below.refl _ _ | exact bel_al (Below.refl _ _) _ | exact bel_al (bel_al (Below.refl _ _) _) _ | exact bel_dr (Below.refl _ _) | exact bel_dr (bel_al (Below.refl _ _) _) | exact bel_dr (bel_al (bel_al (Below.refl _ _) _) _) | exact bel_dr (bel_dr (Below.refl _ _)) | exact bel_dr (bel_dr (bel_al (Below.refl _ _) _)) | exact bel_dr (bel_dr (bel_al (bel_al (Below.refl _ _) _) _)) | exact bel_dr (bel_dr (bel_dr (Below.refl _ _))) | exact bel_dr (bel_dr (bel_dr (bel_al (Below.refl _ _) _))) | exact bel_dr (bel_dr (bel_dr (bel_al (bel_al (Below.refl _ _) _) _))))) (by omega) (fun j hj=>Nat.lt_of_lt_of_le (LB.out j hj) (szle (a:=w4) (by first | exact Below.refl _ _ | exact bel_al (Below.refl _ _) _ | exact bel_al (bel_al (Below.refl _ _) _) _ | exact bel_dr (Below.refl _ _) | exact bel_dr (bel_al (Below.refl _ _) _) | exact bel_dr (bel_al (bel_al (Below.refl _ _) _) _) | exact bel_dr (bel_dr (Below.refl _ _)) | exact bel_dr (bel_dr (bel_al (Below.refl _ _) _)) | exact bel_dr (bel_dr (bel_al (bel_al (Below.refl _ _) _) _)) | exact bel_dr (bel_dr (bel_dr (Below.refl _ _))) | exact bel_dr (bel_dr (bel_dr (bel_al (Below.refl _ _) _))) | exact bel_dr (bel_dr (bel_dr (bel_al (bel_al (Below.refl _ _) _) _)))))) ?_;intro g7 c7 w7 h7 q7 o7;have P7:Hid _:=hidI (midR.out _ _ _ _ (by first | exact Below.refl _ _ | exact bel_al (Below.refl _ _) _ | exact bel_al (bel_al (Below.refl _ _) _) _ | exact bel_dr (Below.refl _ _) | exact bel_dr (bel_al (Below.refl _ _) _) | exact bel_dr (bel_al (bel_al (Below.refl _ _) _) _) | exact bel_dr (bel_dr (Below.refl _ _)) | exact bel_dr (bel_dr (bel_al (Below.refl _ _) _)) | exact bel_dr (bel_dr (bel_al (bel_al (Below.refl _ _) _) _)) | exact bel_dr (bel_dr (bel_dr (Below.refl _ _))) | exact bel_dr (bel_dr (bel_dr (bel_al (Below.refl _ _) _))) | exact bel_dr (bel_dr (bel_dr (bel_al (bel_al (Below.refl _ _) _) _)))) h7 q7 o7);obtain⟨v1,v2,v3,v4⟩:=P7.out.1;have N7:Hid _:=hidI P7.out.2.1;clear h7 q7 o7) | (refine step_push (by rfl) _ _ (by rfl) (by rfl) (by rfl) (P7.out.2.2.1.bel (by first | exact Below.refl _ _ | exact bel_al (Below.refl _ _) _ | exact bel_al (bel_al (Below.refl _ _) _) _ | exact bel_dr (Below.refl _ _) | exact bel_dr (bel_al (Below.refl _ _) _) | exact bel_dr (bel_al (bel_al (Below.refl _ _) _) _) | exact bel_dr (bel_dr (Below.refl _ _)) | exact bel_dr (bel_dr (bel_al (Below.refl _ _) _)) | exact bel_dr (bel_dr (bel_al (bel_al (Below.refl _ _) _) _)) | exact bel_dr (bel_dr (bel_dr (Below.refl _ _))) | exact bel_dr (bel_dr (bel_dr (bel_al (Below.refl _ _) _))) | exact bel_dr (bel_dr (bel_dr (bel_al (bel_al (Below.refl _ _) _) _))))) (by first | exact heap_alloc_new _ _ | exact N7.out _ _ (by simp) (heap_alloc_new _ _) | exact N7.out _ _ (by simp) (h2a _ _ _) | exact N7.out _ _ (by simp) (h2b _ _ _)) (P7.out.2.2.2.1.bel (by first | exact Below.refl _ _ | exact bel_al (Below.refl _ _) _ | exact bel_al (bel_al (Below.refl _ _) _) _ | exact bel_dr (Below.refl _ _) | exact bel_dr (bel_al (Below.refl _ _) _) | exact bel_dr (bel_al (bel_al (Below.refl _ _) _) _) | exact bel_dr (bel_dr (Below.refl _ _)) | exact bel_dr (bel_dr (bel_al (Below.refl _ _) _)) | exact bel_dr (bel_dr (bel_al (bel_al (Below.refl _ _) _) _)) | exact bel_dr (bel_dr (bel_dr (Below.refl _ _))) | exact bel_dr (bel_dr (bel_dr (bel_al (Below.refl _ _) _))) | exact bel_dr (bel_dr (bel_dr (bel_al (bel_al (Below.refl _ _) _) _))))) (by omega) (fun j hj=>Nat.lt_of_lt_of_le (P7.out.2.2.2.2.1 j hj) (szle (a:=w7) (by first | exact Below.refl _ _ | exact bel_al (Below.refl _ _) _ | exact bel_al (bel_al (Below.refl _ _) _) _ | exact bel_dr (Below.refl _ _) | exact bel_dr (bel_al (Below.refl _ _) _) | exact bel_dr (bel_al (bel_al (Below.refl _ _) _) _) | exact bel_dr (bel_dr (Below.refl _ _)) | exact bel_dr (bel_dr (bel_al (Below.refl _ _) _)) | exact bel_dr (bel_dr (bel_al (bel_al (Below.refl _ _) _) _)) | exact bel_dr (bel_dr (bel_dr (Below.refl _ _))) | exact bel_dr (bel_dr (bel_dr (bel_al (Below.refl _ _) _))) | exact bel_dr (bel_dr (bel_dr (bel_al (bel_al (Below.refl _ _) _) _)))))) ?_;intro g8 c8 w8 h8 q8 o8;have P8:=hidI (two_up (a:=w7) (by first | exact Below.refl _ _ | exact bel_al (Below.refl _ _) _ | exact bel_al (bel_al (Below.refl _ _) _) _ | exact bel_dr (Below.refl _ _) | exact bel_dr (bel_al (Below.refl _ _) _) | exact bel_dr (bel_al (bel_al (Below.refl _ _) _) _) | exact bel_dr (bel_dr (Below.refl _ _)) | exact bel_dr (bel_dr (bel_al (Below.refl _ _) _)) | exact bel_dr (bel_dr (bel_al (bel_al (Below.refl _ _) _) _)) | exact bel_dr (bel_dr (bel_dr (Below.refl _ _))) | exact bel_dr (bel_dr (bel_dr (bel_al (Below.refl _ _) _))) | exact bel_dr (bel_dr (bel_dr (bel_al (bel_al (Below.refl _ _) _) _)))) q8 o8);have P9:=hidI h8;have v5:=P8.out.1.cell v1 (by simpa using nXR.out);have v6:=P8.out.1.cell v2 (by simpa using nYR.out);clear h8 q8 o8))
         all_goals
          go_wp2_with fail
          go_roundg (xs.length - (k+1))
          case measure=>rw[GI.out];omega
          case rel=>first
           | exact⟨k+1,hlt,rfl,by go_num,FINL.out _ _ _ _ _ _ P7.out.2.2.2.2.2.1 P7.out.2.2.2.2.2.2.1 P7.out.2.2.2.2.2.2.2 P8.out.1 P9.out P8.out.2⟩
           | exact⟨k+1,hlt,rfl,by go_num,FINR.out _ _ _ _ _ _ P7.out.2.2.2.2.2.1 P7.out.2.2.2.2.2.2.1 P7.out.2.2.2.2.2.2.2 P8.out.1 P9.out P8.out.2⟩
     ·have FIN:Hid ((∃ ls2 rs2,(a=b↔ls2=rs2)/\PL ls2 rs2/\mu ls=mu ls2/\mu ls2<=2000000000001/\SI w ok ok' ia ib ls2 rs2 (.slice (some ⟨gL',0,none⟩) ls.length cL') (.slice (some ⟨gR',0,none⟩) rs.length cR') wr)/\mu ls < M):=by
       obtain⟨j1,j2,j3,j5,j6,j7⟩:=J.out
       have l1:xs.drop k=[]:=List.drop_eq_nil_of_le (by omega)
       have l2:ys.drop k=[]:=List.drop_eq_nil_of_le (by have:=HXY.out;omega)
       have:=GM.out
       exact hidI ⟨⟨ls,rs,by rw[j1,l1,l2];simp,j2,rfl,by omega,gL',gR',cL',cR',rfl,rfl,j7⟩,by omega⟩
      have d1:¬(k:Int) < (xs.length:Int):=by omega
      clear i5 i6 J
      go_wp2_with fail
      go_roundg (mu ls)
      case measure=>rw[GKM.out];exact FIN.out.2
      case rel=>exact FIN.out.1
end Go.Proofs.YtmdemcjmcnfjmaaGreatDoor
namespace Go.Proofs.YtmdemcjmcnfjmaaGreatDoor
open Go.RowKit
def WishIs (w:World) (ok:Nat->Prop) (t:V) (L:List (List UInt8)) (v:Value):Prop:=
 ∃ (a1 a2 a3:Option Addr) (c1 c2 c3:Nat),v=.agg #[.int .i64 t.kind,.int .i64 t.n,.string ⟨t.s.toArray⟩,.slice a1 t.keys.length c1,.slice a2 t.l.length c2,.slice a3 L.length c3] /\
  In w ok t (.agg #[.int .i64 t.kind,.int .i64 t.n,.string ⟨t.s.toArray⟩,.slice a1 t.keys.length c1,.slice a2 t.l.length c2])/\StrsAre w ok L (.slice a3 L.length c3)
theorem WishIs.bel {w w':World} {ok:Nat->Prop} {t:V} {L:List (List UInt8)} {v:Value} (h:WishIs w ok t L v) (hb:Below w.heap.size w w'):WishIs w' ok t L v:=by
 obtain⟨a1,a2,a3,c1,c2,c3,rfl,h1,h2⟩:=h
 exact⟨a1,a2,a3,c1,c2,c3,rfl,h1.bel hb,h2.imp fun a x h1 h2=>⟨h1,cell_bel hb h2⟩⟩
theorem WishIs.weak {w:World} {ok ok':Nat->Prop} {t:V} {L:List (List UInt8)} {v:Value} (h:WishIs w ok t L v) (hk:∀ k,ok k->ok' k):WishIs w ok' t L v:=by
 obtain⟨a1,a2,a3,c1,c2,c3,rfl,h1,h2⟩:=h
 exact⟨a1,a2,a3,c1,c2,c3,rfl,h1.weak hk,h2.imp fun a x h1 h2=>⟨hk _ h1,h2⟩⟩
theorem box6 {w:World} {g:Nat} {a b c d e f:Value} {t:TypeId} (h:w.heap[g]?=some (.cells #[a,b,c,d,e,f] t)):w.cell? ⟨g,0,none⟩=some a/\w.cell? ⟨g,1,none⟩=some b/\w.cell? ⟨g,2,none⟩=some c/\w.cell? ⟨g,3,none⟩=some d/\w.cell? ⟨g,4,none⟩=some e/\w.cell? ⟨g,5,none⟩=some f:=by
 refine⟨?_,?_,?_,?_,?_,?_⟩ <;> simp[World.cell?,h]
theorem blk_bel {w w':World} {g:Nat} {o:Obj} (hb:Below w.heap.size w w') (h:w.heap[g]?=some o):w'.heap[g]?=some o:=(hb.block g (Array.getElem?_eq_some_iff.1 h).1).trans h
set_option maxRecDepth 100000 in
set_option maxHeartbeats 4000000 in
theorem hasLeaf_at (w:World) (ok:Nat->Prop) (t:V) (L:List (List UInt8)) (v:Value) (p:List UInt8) (h:WishIs w ok t L v) (hr:Rises L) (hn:L.length < 4611686018427387904) :
 Calls Tryz.prog 51 #[v,.string ⟨p.toArray⟩] w fun e w'=>e=.returned (.bool (L.contains p))/\Below w.heap.size w w':=by
 obtain⟨a1,a2,a3,c1,c2,c3,rfl,h1,h2⟩:=h
 have H2:=hidI h2
 have HR:=hidI hr
 have HN:=hidI hn
 have ll:=h2.1
 unfold maxLen at ll
 clear h1 h2 hr hn
 have C:Hid (∀ W,Below w.heap.size w W->Calls Tryz.prog 80 #[.slice a3 L.length c3,.string ⟨p.toArray⟩,.func (.func 34) #[] #[]] W fun e w'=>e=.returned (.tuple #[.int .i64 (L.countP (fun x=>Op.bytesLess x p):Nat),.bool (L.contains p)])/\Below W.heap.size W w'):=hidI (fun W hW=>searchS_at W ok L _ p (H2.out.imp fun a x h1 h2=>⟨h1,cell_bel hW h2⟩) HR.out HN.out)
 generalize L.contains p=o at C ⊢
 go_enter Tryz.func51,Tryz.ntmps51
 go_wp2_with (go_at_call 80;refine(C.out _ (bel_alloc _ _)).mono ?_;rintro e w1 ⟨rfl,hb⟩)
 go_ret
 exact⟨rfl,bel_trans (bel_alloc _ _) hb⟩
set_option maxRecDepth 100000 in
set_option maxHeartbeats 4000000 in
theorem other_at (w:World) (ok ok':Nat->Prop) (want t:V) (L:List (List UInt8)) (v vt:Value) (p:List UInt8) (h:WishIs w ok want L v) (ht:In w ok' t vt) (hp:p.length<=140737488351232) (hM:GlobM w) (hc:cnt ((thr (namesP p) t).getD zeroT)<=2000000000000) :
 Calls Tryz.prog 52 #[v,vt,.string ⟨p.toArray⟩] w fun e w'=>e=.returned (.bool (otherF want t p))/\Below w.heap.size w w':=by
 obtain⟨a1,a2,a3,c1,c2,c3,rfl,h1,h2⟩:=h
 have HT:=hidI ht
 have H1:=hidI h1
 have HM:=hidI hM
 have HC:=hidI hc
 obtain⟨b1,b2,d1,d2,rfl⟩:=ht.form
 clear ht h1 h2 hM hc
 obtain⟨x,hx⟩:∃ x,(thr (namesP p) t).getD zeroT=x:=⟨_,rfl⟩
 obtain⟨y,hy⟩:∃ y,(thr (namesP p) want).getD zeroT=y:=⟨_,rfl⟩
 obtain⟨there,hth⟩:∃ b,(thr (namesP p) t).isSome=b:=⟨_,rfl⟩
 obtain⟨there2,hth2⟩:∃ b,(thr (namesP p) want).isSome=b:=⟨_,rfl⟩
 have S1:Hid (∀ W,Below w.heap.size w W->Calls Tryz.prog 56 #[.agg #[.int .i64 t.kind,.int .i64 t.n,.string ⟨t.s.toArray⟩,.slice b1 t.keys.length d1,.slice b2 t.l.length d2],.string ⟨p.toArray⟩] W fun e w'=>∃ r,e=.returned (.tuple #[r,.bool there])/\Below W.heap.size W w'/\In w' ok' x r):=hidI (fun W hW=>by
  have:=standing_is W ok' t _ p (HT.out.bel hW) hp (HM.out.bel hW)
  rw[hx,hth]at this;exact this)
 have S2:Hid (∀ W,Below w.heap.size w W->Calls Tryz.prog 56 #[.agg #[.int .i64 want.kind,.int .i64 want.n,.string ⟨want.s.toArray⟩,.slice a1 want.keys.length c1,.slice a2 want.l.length c2],.string ⟨p.toArray⟩] W fun e w'=>∃ r,e=.returned (.tuple #[r,.bool there2])/\Below W.heap.size W w'/\In w' ok y r):=hidI (fun W hW=>by
  have:=standing_is W ok want _ p (H1.out.bel hW) hp (HM.out.bel hW)
  rw[hy,hth2]at this;exact this)
 have R1:Hid (there=false->otherF want t p=true):=hidI (fun h9=>by
  unfold otherF
  cases h8:thr (namesP p) t with
  | none=>rfl
  | some z=>rw[h8,h9]at hth;cases hth)
 have TS:there=true->thr (namesP p) t=some x:=fun h9=>by
  cases h8:thr (namesP p) t with
  | none=>rw[h8,h9]at hth;cases hth
  | some z=>rw[h8]at hx;simp at hx;rw[hx]
 have R2:Hid (there=true->(x=y\/x.kind=5/\y.kind=5)->otherF want t p=false):=hidI (fun h9 h8=>other_no (TS h9) (by rw[hy];exact h8))
 have R4:Hid (there=true->¬(x=y\/x.kind=5/\y.kind=5)->otherF want t p=true):=hidI (fun h9 h8=>by
  cases h7:otherF want t p with
  | true=>rfl
  | false=>
   obtain⟨z,h1,h2⟩:=other_not h7
   rw[TS h9]at h1
   cases h1
   rw[hy]at h2
   exact absurd h2 h8)
 rw[hx]at HC
 clear hx hy hth hth2 TS
 have B2:Hid (∀ o1 o2,Below w.heap.size w ((w.alloc o1).alloc o2)):=fun o1 o2=>bel_trans (bel_alloc _ _) (bel_alloc _ _)
 go_enter Tryz.func52,Tryz.ntmps52
 go_upto_region 2 with (go_at_call 56;refine(S1.out _ (B2.out _ _)).mono ?_;rintro e w1 ⟨r,rfl,hb1,hr⟩;obtain⟨x1,x2,y1,y2,rfl⟩:=hr.form;have HX:=hidI hr;have BW1:=hidI hb1;clear hb1 hr)
 obtain⟨WX,hWX⟩:∃ W,W=w1.alloc (.cells #[.int .i64 x.kind,.int .i64 x.n,.string ⟨x.s.toArray⟩,.slice x1 x.keys.length y1,.slice x2 x.l.length y2] 25):=⟨_,rfl⟩
 have BX:Hid (Below w1.heap.size w1 WX):=hidI (by rw[hWX];exact bel_alloc _ _)
 have XB:Hid (BoxIs WX w1.heap.size (.int .i64 x.kind) (.int .i64 x.n) (.string ⟨x.s.toArray⟩) (.slice x1 x.keys.length y1) (.slice x2 x.l.length y2)):=hidI (by rw[hWX];exact heap_alloc_new _ _)
 have XI:=hidI (HX.out.bel BX.out)
 have BW2:=hidI (bel_trans (B2.out _ _) (bel_trans BW1.out BX.out))
 obtain⟨q0,q1,q2,q3,q4,-⟩:=box6 (blk_bel (bel_trans BW1.out BX.out) (h2a w (.cells #[.int .i64 want.kind,.int .i64 want.n,.string ⟨want.s.toArray⟩,.slice a1 want.keys.length c1,.slice a2 want.l.length c2,.slice a3 L.length c3] 53) _))
 rw[<-hWX]
 clear hWX HX BX BW1
 go_upto_region 3 with (go_at_call 56;refine(S2.out _ BW2.out).mono ?_;rintro e w2 ⟨r,rfl,hb2,hr⟩;obtain⟨u1,u2,z1,z2,rfl⟩:=hr.form;have HY:=hidI hr;have BY1:=hidI hb2;clear hb2 hr)
 obtain⟨WY,hWY⟩:∃ W,W=w2.alloc (.cells #[.int .i64 y.kind,.int .i64 y.n,.string ⟨y.s.toArray⟩,.slice u1 y.keys.length z1,.slice u2 y.l.length z2] 25):=⟨_,rfl⟩
 have BY:Hid (Below w2.heap.size w2 WY):=hidI (by rw[hWY];exact bel_alloc _ _)
 have YB:Hid (BoxIs WY w2.heap.size (.int .i64 y.kind) (.int .i64 y.n) (.string ⟨y.s.toArray⟩) (.slice u1 y.keys.length z1) (.slice u2 y.l.length z2)):=hidI (by rw[hWY];exact heap_alloc_new _ _)
 have YI:=hidI (HY.out.bel BY.out)
 have XI2:=hidI (XI.out.bel (bel_trans BY1.out BY.out))
 have XB2:=hidI (box_bel (bel_trans BY1.out BY.out) XB.out)
 have BW3:=hidI (bel_trans BW2.out (bel_trans BY1.out BY.out))
 rw[<-hWY]
 clear hWY HY BY BY1 q0 q1 q2 q3 q4 XB XI
 obtain⟨p0,p1,p2,p3,p4,-⟩:=XB2.out.c
 obtain⟨r0,r1,r2,r3,r4,-⟩:=YB.out.c
 cases there with
 | false=>
  have R:=hidI (R1.out rfl)
  go_wp2_with fail
  go_ret
  exact⟨by rw[R.out];rfl,BW3.out⟩
 | true=>
  have SM:=hidI (same_run WY ok' ok x y _ _ XI2.out YI.out HC.out)
  have PB:Hid (∀ W,Below WY.heap.size WY W->BoxIs W w1.heap.size (.int .i64 x.kind) (.int .i64 x.n) (.string ⟨x.s.toArray⟩) (.slice x1 x.keys.length y1) (.slice x2 x.l.length y2)/\BoxIs W w2.heap.size (.int .i64 y.kind) (.int .i64 y.n) (.string ⟨y.s.toArray⟩) (.slice u1 y.keys.length z1) (.slice u2 y.l.length z2)):=hidI (fun W hW=>⟨box_bel hW XB2.out,box_bel hW YB.out⟩)
  by_cases hxy:x=y
  ·have R:=hidI (R2.out rfl (.inl hxy))
   have HXY:=hidI hxy
   clear hxy
   go_wp2_with (go_at_call 31;refine SM.out.mono ?_;rintro e w3 ⟨r,rfl,hr,hb⟩;have hrt:=hr.2 HXY.out;subst hrt;clear hr;have B3:=hidI (bel_trans BW3.out hb);clear hb)
   go_ret
   exact⟨by rw[R.out];rfl,B3.out⟩
  ·by_cases hk:x.kind=5
   ·have e1:(x.kind == 5)=true:=by simp[hk]
    by_cases hk2:y.kind=5
    ·have e2:(y.kind == 5)=true:=by simp[hk2]
     have R:=hidI (R2.out rfl (.inr ⟨hk,hk2⟩))
     have NXY:=hidI hxy
     clear hk hk2 hxy
     go_wp2_with (go_at_call 31;refine SM.out.mono ?_;rintro e w3 ⟨r,rfl,hr,hb⟩;have hrt:r=false:=(by cases r;rfl;exact absurd (hr.1 rfl) NXY.out);subst hrt;clear hr;have B3:=hidI (bel_trans BW3.out hb);obtain⟨g0,-⟩:=(PB.out _ hb).1.c;obtain⟨g1,-⟩:=(PB.out _ hb).2.c;clear hb)
     go_ret
     exact⟨by rw[R.out];rfl,B3.out⟩
    ·have e2:(y.kind == 5)=false:=by rw[beq_eq_false_iff_ne];exact hk2
     have R:=hidI (R4.out rfl (fun h9=>h9.elim hxy (fun h8=>hk2 h8.2)))
     have NXY:=hidI hxy
     clear hk hk2 hxy
     go_wp2_with (go_at_call 31;refine SM.out.mono ?_;rintro e w3 ⟨r,rfl,hr,hb⟩;have hrt:r=false:=(by cases r;rfl;exact absurd (hr.1 rfl) NXY.out);subst hrt;clear hr;have B3:=hidI (bel_trans BW3.out hb);obtain⟨g0,-⟩:=(PB.out _ hb).1.c;obtain⟨g1,-⟩:=(PB.out _ hb).2.c;clear hb)
     go_ret
     exact⟨by rw[R.out];rfl,B3.out⟩
   ·have e1:(x.kind == 5)=false:=by rw[beq_eq_false_iff_ne];exact hk
    have R:=hidI (R4.out rfl (fun h9=>h9.elim hxy (fun h8=>hk h8.1)))
    have NXY:=hidI hxy
    clear hk hxy
    go_wp2_with (go_at_call 31;refine SM.out.mono ?_;rintro e w3 ⟨r,rfl,hr,hb⟩;have hrt:r=false:=(by cases r;rfl;exact absurd (hr.1 rfl) NXY.out);subst hrt;clear hr;have B3:=hidI (bel_trans BW3.out hb);obtain⟨g0,-⟩:=(PB.out _ hb).1.c;obtain⟨g1,-⟩:=(PB.out _ hb).2.c;clear hb)
    go_ret
    exact⟨by rw[R.out];rfl,B3.out⟩
end Go.Proofs.YtmdemcjmcnfjmaaGreatDoor
namespace Go.Proofs.YtmdemcjmcnfjmaaGreatDoor
open Go.RowKit
theorem run_pushS {W:World} {B:Nat} {v:Value} {n:Nat} {cs:List Value} {nb:Nat} {k:ByteArray} (ho:W.ownsRow B 9 1 v n cs) (hnb:W.heap[nb]?=some (.cells #[.string k] 9)) (hn:n<=1000000) (hB:B<=W.heap.size) (ty:TypeId) :
 ∃ g cap W',(Builtin.append_ #[22,22] ty #[v,.slice (some ⟨nb,0,none⟩) 1 1]).run Tryz.prog W=.ok (.slice (some ⟨g,0,none⟩) (n+1) cap) W'/\W'.ownsRow B 9 1 (.slice (some ⟨g,0,none⟩) (n+1) cap) (n+1) (cs++[.string k])/\W.grownBy W' v.ownBlock/\(v.ownBlock=some g\/W.heap.size=g):=by
 obtain⟨i0,hi,hz0,hz1,hz2⟩:=info_parts info9
 obtain⟨g,cap,W',hr,h1,h2,h3,-⟩:=run_append_lies (P:=Tryz.prog) W 22 ty B 9 i0 _ 1 16 Tryz.underlying22 hi hz0 hz1 hz2 rfl (by decide) v n cs ho ⟨nb,0,none⟩ 1 1 [.string k] rfl
  (World.news_of_block (cs:=#[.string k]) hnb) (by intro u hu;simp only[List.mem_cons,List.not_mem_nil,or_false]at hu;subst hu;rfl) (by decide) (by unfold maxLen;omega) (by omega) hB W.heap.size rfl
 exact⟨g,cap,W',hr,h1,h2,h3.imp id Eq.symm⟩
theorem gb_far {a w w':World} {r:Option Nat} (hb:Below a.heap.size a w) (hg:w.grownBy w' r) (hr:∀ g,r=some g->a.heap.size<=g):Below a.heap.size a w':=
 ⟨hg.os.trans hb.os,hg.tape.trans hb.tape,hg.output.trans hb.output,Nat.le_trans hb.size hg.size,fun k hk=>(hg.block k (Nat.lt_of_lt_of_le hk hb.size) (fun e=>by have:=hr k e.symm;omega)).trans (hb.block k hk)⟩
end Go.Proofs.YtmdemcjmcnfjmaaGreatDoor
namespace Go.Proofs.YtmdemcjmcnfjmaaGreatDoor
open Go.RowKit
structure Kept2 (w w':World) (gl:Nat) (r:Option Nat):Prop where
 os:w'.os=w.os
 tape:w'.tape=w.tape
 output:w'.output=w.output
 size:w.heap.size<=w'.heap.size
 block:∀ k,k < w.heap.size->k≠gl->some k≠r->w'.heap[k]?=w.heap[k]?
def Fresh (w:World) (r r':Option Nat):Prop:=r'=r\/∃ g,r'=some g/\w.heap.size<=g
theorem kept2_bel {w w':World} {gl:Nat} {r:Option Nat} (h:Below w.heap.size w w'):Kept2 w w' gl r:=⟨h.os,h.tape,h.output,h.size,fun k hk _ _=>h.block k hk⟩
theorem Kept2.trans {a b c:World} {gl:Nat} {r r1:Option Nat} (h:Kept2 a b gl r) (hf:Fresh a r r1) (k:Kept2 b c gl r1):Kept2 a c gl r:=
 ⟨k.os.trans h.os,k.tape.trans h.tape,k.output.trans h.output,Nat.le_trans h.size k.size,fun i hi h1 h2=>by
  rw[k.block i (Nat.lt_of_lt_of_le hi h.size) h1 ?_,h.block i hi h1 h2]
  rcases hf with rfl | ⟨g,rfl,hg⟩
  ·exact h2
  ·simp;omega⟩
theorem Fresh.trans {a b:World} {r r1 r2:Option Nat} (h:Fresh a r r1) (hs:a.heap.size<=b.heap.size) (k:Fresh b r1 r2):Fresh a r r2:=by
 rcases k with rfl | ⟨g,rfl,hg⟩
 ·exact h
 ·exact .inr ⟨g,rfl,by omega⟩
theorem Kept2.low {w w':World} {gl:Nat} {r:Option Nat} (h:Kept2 w w' gl r) (hg:gl < w.heap.size) (hr:∀ g,r=some g->gl < g):Below gl w w':=
 ⟨h.os,h.tape,h.output,h.size,fun k hk=>h.block k (by omega) (by omega) (fun e=>by have:=hr k e.symm;omega)⟩
theorem In.belB {w w':World} {ok:Nat->Prop} {B:Nat} {t:V} {v:Value} (h:In w ok t v) (hok:∀ k,ok k->k < B) (hb:Below B w w'):In w' ok t v:=by
 obtain⟨d,h⟩:=h
 exact⟨d,VIs.imp (fun a x h1 h2=>⟨h1,(World.cell?_of_block (hb.block _ (hok _ h1))).trans h2⟩) d h⟩
def GatI (w:World) (gl:Nat) (L:List (List UInt8)) (r:Option Nat):Prop:=
 ∃ sv,w.heap[gl]?=some (.cells #[sv] 22)/\w.ownsRow (gl+1) 9 1 sv L.length (L.map fun s=>.string ⟨s.toArray⟩)/\sv.ownBlock=r
theorem own_lt {w:World} {B:Nat} {e:TypeId} {size n:Nat} {v:Value} {xs:List Value} (h:w.ownsRow B e size v n xs) {g:Nat} (hg:v.ownBlock=some g):B<=g/\g < w.heap.size:=by
 rcases h.2 with⟨rfl,-⟩ | ⟨g',cap,cur,rfl,h1,h2,-⟩
 ·cases hg
 ·cases hg;exact⟨h1,(Array.getElem?_eq_some_iff.1 h2).1⟩
theorem own_same {w w':World} {B:Nat} {e:TypeId} {size n:Nat} {v:Value} {xs:List Value} (h:w.ownsRow B e size v n xs) (hk:∀ g,v.ownBlock=some g->w'.heap[g]?=w.heap[g]?):w'.ownsRow B e size v n xs:=by
 refine⟨h.1,?_⟩
 rcases h.2 with h0 | ⟨g',cap,cur,rfl,h1,h2,h3⟩
 ·exact .inl h0
 ·exact .inr ⟨g',cap,cur,rfl,h1,by rw[hk g' rfl];exact h2,h3⟩
theorem GatI.bel {w w':World} {gl:Nat} {L:List (List UInt8)} {r:Option Nat} (h:GatI w gl L r) (hb:Below w.heap.size w w'):GatI w' gl L r:=by
 obtain⟨sv,h1,h2,h3⟩:=h
 refine⟨sv,(hb.block gl (Array.getElem?_eq_some_iff.1 h1).1).trans h1,own_same h2 fun g hg=>hb.block g (own_lt h2 hg).2,h3⟩
theorem GatI.lt {w:World} {gl:Nat} {L:List (List UInt8)} {r:Option Nat} (h:GatI w gl L r):gl < w.heap.size:=by
 obtain⟨sv,h1,-⟩:=h
 exact(Array.getElem?_eq_some_iff.1 h1).1
theorem GatI.row {w:World} {gl:Nat} {L:List (List UInt8)} {r:Option Nat} (h:GatI w gl L r) {g:Nat} (hg:r=some g):gl < g/\g < w.heap.size:=by
 obtain⟨sv,-,h2,h3⟩:=h
 have:=own_lt h2 (h3.trans hg)
 exact⟨by omega,this.2⟩
def GatP (w w':World) (gl:Nat) (r:Option Nat) (L:List (List UInt8)):Prop:=∃ r',GatI w' gl L r'/\Kept2 w w' gl r/\Fresh w r r'
theorem gat_push {wc W':World} {gl:Nat} {L:List (List UInt8)} {r:Option Nat} {sv:Value} {p:List UInt8} {g cap:Nat} (hb:wc.heap[gl]?=some (.cells #[sv] 22)) (hr:sv.ownBlock=r)
 (hB:∀ g,r=some g->gl < g) (ho:W'.ownsRow (gl+1) 9 1 (.slice (some ⟨g,0,none⟩) (L.length+1) cap) (L.length+1) (L.map (fun s=>Value.string ⟨s.toArray⟩)++[.string ⟨p.toArray⟩])) (hg:(wc.alloc (.cells #[.string ⟨p.toArray⟩] 9)).grownBy W' sv.ownBlock)
 (hf:sv.ownBlock=some g\/(wc.alloc (.cells #[.string ⟨p.toArray⟩] 9)).heap.size=g) (hgl:gl < wc.heap.size) :
 GatP wc (W'.setCell ⟨gl,0,none⟩ (.slice (some ⟨g,0,none⟩) (L.length+1) cap)) gl r (L++[p]):=by
 have ha:=bel_alloc wc (.cells #[.string ⟨p.toArray⟩] 9)
 have hgo:=(own_lt ho (g:=g) rfl).1
 have hbox:W'.heap[gl]?=some (.cells #[sv] 22):=by
  rw[hg.block gl (Nat.lt_of_lt_of_le hgl ha.size) ?_,ha.block gl hgl,hb]
  intro e
  have:=hB gl (by rw[<-hr];exact e.symm)
  omega
 have hset:∀ k,k≠gl->(W'.setCell ⟨gl,0,none⟩ (.slice (some ⟨g,0,none⟩) (L.length+1) cap)).heap[k]?=W'.heap[k]?:=fun k hk=>Below.heap_setCell W' ⟨gl,0,none⟩ _ k hk
 refine⟨some g,⟨_,heap_set hbox 0 _,?_,rfl⟩,⟨hg.os.trans ha.os,hg.tape.trans ha.tape,hg.output.trans ha.output,?_,fun k hk h1 h2=>?_⟩,?_⟩
 ·have:W'.ownsRow (gl+1) 9 1 (.slice (some ⟨g,0,none⟩) (L.length+1) cap) (L++[p]).length ((L++[p]).map fun s=>Value.string ⟨s.toArray⟩):=by simpa using ho
  refine own_same this fun g' hg'=>hset g' ?_
  have e9:g=g':=by simpa [Value.ownBlock] using hg'
  omega
 ·have h1:=ha.size
  have h2:=hg.size
  simp only[World.setCell,Array.size_modify]
  omega
 ·rw[hset k h1,hg.block k (Nat.lt_of_lt_of_le hk ha.size) (by rw[hr];exact h2),ha.block k hk]
 ·rcases hf with hf | hf
  ·exact .inl (by rw[<-hr,hf])
  ·refine .inr ⟨g,rfl,?_⟩
   have:=ha.size;omega
def lvsU (D:Nat) (t:V) (k:Nat):List (List (List UInt8)):=((t.keys.zip t.l).take k).flatMap fun p=>if p.2.kind=5/\p.2.l≠[] then (lvs D p.2).map (p.1 :: ·) else [[p.1]]
theorem lvsU_zero (D:Nat) (t:V):lvsU D t 0=[]:=by simp[lvsU]
theorem lvsU_end {D:Nat} {t:V} (h:t.keys.length=t.l.length):lvsU D t t.keys.length=lvs (D+1) t:=by
 rw[lvsU,List.take_of_length_le (by rw[List.length_zip];omega),lvs]
theorem lvsU_step {D:Nat} {t:V} {k:Nat} (hk:k < t.keys.length) (hl:k < t.l.length):lvsU D t (k+1)=lvsU D t k++(if t.l[k].kind=5/\t.l[k].l≠[] then (lvs D t.l[k]).map (t.keys[k] :: ·) else [[t.keys[k]]]):=by
 unfold lvsU
 rw[List.take_succ_eq_append_getElem (by rw[List.length_zip];omega),List.flatMap_append,List.getElem_zip]
 simp
def pathsU (at_:List UInt8) (l:List (List (List UInt8))):List (List UInt8):=l.map fun ns=>at_++joinP ns
theorem pathsU_deep (at_ key:List UInt8) (l:List (List (List UInt8))):pathsU at_ (l.map (key :: ·))=pathsU (at_++joinP [key]) l:=by
 unfold pathsU
 rw[List.map_map]
 refine List.map_congr_left fun ns _=>?_
 have:joinP (key :: ns)=joinP [key]++joinP ns:=by rw[<-join_append];rfl
 simp[this]
theorem lvs_cnt:∀ (D:Nat) (t:V),(lvs D t).length<=cnts t.l
 | 0,t=>by simp[lvs]
 | D+1,t=>by
  rw[lvs]
  generalize t.keys=ks
  generalize t.l=l
  induction l generalizing ks with
  | nil=>simp
  | cons x l ih=>
   cases ks with
   | nil=>simp
   | cons k ks=>
    rw[List.zip_cons_cons,List.flatMap_cons,List.length_append,cnts_cons]
    have h1:=ih ks
    have h2:=lvs_cnt D x
    have h3:=cnt_eq x
    have h0:(if x.kind=5/\x.l≠[] then (lvs D x).map (k :: ·) else [[k]]).length<=cnt x:=by
     split
     ·rw[List.length_map];omega
     ·simp;omega
    exact Nat.add_le_add h0 h1
theorem lvsU_cnt (D:Nat) (t:V) (k:Nat):(lvsU D t k).length<=cnts (t.l.take k):=by
 unfold lvsU
 generalize t.keys=ks
 generalize t.l=l
 induction l generalizing ks k with
 | nil=>simp
 | cons x l ih=>
  cases ks with
  | nil=>simp
  | cons q ks=>
   cases k with
   | zero=>simp
   | succ k=>
    rw[List.zip_cons_cons,List.take_succ_cons,List.take_succ_cons,List.flatMap_cons,List.length_append,cnts_cons]
    have h1:=ih k ks
    have h2:=lvs_cnt D x
    have h3:=cnt_eq x
    have h0:(if x.kind=5/\x.l≠[] then (lvs D x).map (q :: ·) else [[q]]).length<=cnt x:=by
     split
     ·rw[List.length_map];omega
     ·simp;omega
    exact Nat.add_le_add h0 h1
theorem cnts_takeK {l:List V} {k:Nat} (hk:k < l.length):cnts (l.take k)+cnt l[k]<=cnts l:=by
 have h:=List.take_append_drop k l
 have e:cnts l=cnts (l.take k)+cnts (l.drop k):=by
  rw[cnts,cnts,cnts,<-List.sum_append,<-List.map_append,h]
 rw[e,cnts_drop hk];omega
theorem one_str (W:World) (key:List UInt8) (hk:key.length<=maxLen):StrsAre (W.alloc (.cells #[.string ⟨key.toArray⟩] 9)) (fun _=>True) [key] (.slice (some ⟨W.heap.size,0,none⟩) 1 1):=by
 refine⟨by simp[maxLen],.inr ⟨W.heap.size,0,1,rfl,by simp,by simp[maxLen],fun i x hx=>?_⟩⟩
 cases i with
 | zero=>
  simp only[List.getElem?_cons_zero,Option.some.injEq]at hx
  subst hx
  refine⟨hk,trivial,?_⟩
  have:=heap_alloc_new W (.cells #[.string ⟨key.toArray⟩] 9)
  generalize W.alloc (.cells #[.string ⟨key.toArray⟩] 9)=W2 at this
  simp[World.cell?,this,str]
 | succ i=>simp at hx
end Go.Proofs.YtmdemcjmcnfjmaaGreatDoor
namespace Go.Proofs.YtmdemcjmcnfjmaaGreatDoor
open Go.RowKit
theorem above_p (w:World) (p q:List UInt8):Calls Tryz.prog 55 #[.string ⟨p.toArray⟩,.string ⟨q.toArray⟩] w fun e w'=>e=.returned (.bool (aboveP p q))/\w'=w:=above_at w p q
set_option maxRecDepth 100000 in
theorem blk1_at (w:World) (leaf p:List UInt8) (gp:Nat) (hc:w.cell? ⟨gp,0,none⟩=some (.string ⟨p.toArray⟩)) :
 Calls Tryz.prog 54 #[.string ⟨leaf.toArray⟩,.pointer (some ⟨gp,0,none⟩)] w fun e w'=>e=.returned (.bool (aboveP leaf p || aboveP p leaf))/\w'=w:=by
 have A1:=above_p w leaf p
 have A2:=above_p w p leaf
 generalize aboveP leaf p=o1 at A1 ⊢
 generalize aboveP p leaf=o2 at A2 ⊢
 cases o1 with
 | true=>
  go_enter Tryz.func54,Tryz.ntmps54
  go_wp2_with fail
  refine A1.mono ?_
  rintro e w1 ⟨rfl,hw⟩
  have hw':=hw.symm
  subst hw'
  clear hw A1 A2
  go_wp2_with fail
  go_ret
  exact⟨rfl,rfl⟩
 | false=>
  go_enter Tryz.func54,Tryz.ntmps54
  go_wp2_with fail
  refine A1.mono ?_
  rintro e w1 ⟨rfl,hw⟩
  have hw':=hw.symm
  subst hw'
  clear hw A1
  go_wp2_with fail
  refine A2.mono ?_
  rintro e w2 ⟨rfl,hw⟩
  have hw':=hw.symm
  subst hw'
  clear hw A2
  go_wp2_with fail
  go_ret
  exact⟨by first | rfl | (simp;done) | (simp;rfl),rfl⟩
theorem blk1_enters:∀ args w,(callFunc 54 args).run Tryz.prog w=.ok (.enter 54 args) w:=enters_of Tryz.func54 (by kernel_rfl) rfl
theorem wish_len {want:V} (hk:want.kind=5) (hg:goodV want=true):(leavesF want).length < 4611686018427387904:=by
 have e:leavesF want=sortL ((lvs 12 want).map joinP):=if_pos ⟨hk,hg⟩
 rw[e,(sort_perm _).length_eq,List.length_map]
 have h1:=lvs_cnt 12 want
 have h2:=cnt_eq want
 have h3:=nice_cnt (nice_of hg)
 omega
theorem thr_cnt:∀ (ns:List (List UInt8)) (v x:V),thr ns v=some x->cnt x<=cnt v
 | [],v,x,h=>by cases h;exact Nat.le_refl _
 | n :: ns,v,x,h=>by
  obtain⟨-,z,hm,hz⟩:=thr_kind h
  have h1:=thr_cnt ns z x hz
  have h2:=cnts_mem (mem_in hm)
  have h3:=cnt_eq v
  omega
theorem thrD_cnt {v:V} (h:cnt v<=2000000000000) (ns:List (List UInt8)):cnt ((thr ns v).getD zeroT)<=2000000000000:=by
 cases e:thr ns v with
 | none=>rw[Option.getD_none,cnt_eq];simp[zeroT,cnts]
 | some x=>rw[Option.getD_some];exact Nat.le_trans (thr_cnt ns v x e) h
set_option maxRecDepth 100000 in
set_option maxHeartbeats 4000000 in
theorem blockedBy_at (w:World) (ok ok':Nat->Prop) (want t:V) (L:List (List UInt8)) (v vt:Value) (p:List UInt8) (h:WishIs w ok want L v) (ht:In w ok' t vt) (hp:p.length<=140737488351232) (hM:GlobM w) (hc:cnt t<=2000000000000) (hr:Rises L) (hn:L.length < 4611686018427387904) :
 Calls Tryz.prog 25 #[v,vt,.string ⟨p.toArray⟩] w fun e w'=>e=.returned (.bool (blockedF want t L p))/\Below w.heap.size w w':=by
 have HW:=hidI h
 have HT:=hidI ht
 have HM:=hidI hM
 obtain⟨a1,a2,a3,c1,c2,c3,rfl,h1,h2⟩:=h
 have H2:=hidI h2
 obtain⟨b1,b2,d1,d2,rfl⟩:=ht.form
 have HL:Hid (∀ W,Below w.heap.size w W->Calls Tryz.prog 51 #[.agg #[.int .i64 want.kind,.int .i64 want.n,.string ⟨want.s.toArray⟩,.slice a1 want.keys.length c1,.slice a2 want.l.length c2,.slice a3 L.length c3],.string ⟨p.toArray⟩] W fun e w'=>e=.returned (.bool (L.contains p))/\Below W.heap.size W w'):=hidI (fun W hW=>hasLeaf_at W ok want L _ p (HW.out.bel hW) hr hn)
 have HO:Hid (∀ W,Below w.heap.size w W->Calls Tryz.prog 52 #[.agg #[.int .i64 want.kind,.int .i64 want.n,.string ⟨want.s.toArray⟩,.slice a1 want.keys.length c1,.slice a2 want.l.length c2,.slice a3 L.length c3],.agg #[.int .i64 t.kind,.int .i64 t.n,.string ⟨t.s.toArray⟩,.slice b1 t.keys.length d1,.slice b2 t.l.length d2],.string ⟨p.toArray⟩] W fun e w'=>e=.returned (.bool (otherF want t p))/\Below W.heap.size W w'):=hidI (fun W hW=>other_at W ok ok' want t L _ _ p (HW.out.bel hW) (HT.out.bel hW) hp (HM.out.bel hW) (thrD_cnt hc _))
 have HC:Hid (∀ (W:World) (gp:Nat),Below w.heap.size w W->W.cell? ⟨gp,0,none⟩=some (.string ⟨p.toArray⟩)->Calls Tryz.prog 53 #[.slice a3 L.length c3,.func (.func 54) #[] #[.pointer (some ⟨gp,0,none⟩)]] W fun e w'=>e=.returned (.bool (L.any fun q=>aboveP q p || aboveP p q))/\Below W.heap.size W w'):=hidI (fun W gp hW hcl=>containsS_at W ok L _ _ _ _ (H2.out.imp fun a x h1 h2=>⟨h1,cell_bel hW h2⟩) blk1_enters (fun W2 x hb _=>(blk1_at W2 x p gp (cell_bel hb hcl)).mono fun e w' h=>⟨h.1,by rw[h.2];exact Below.refl _ _⟩))
 have B3:Hid (∀ o1 o2 o3,Below w.heap.size w (((w.alloc o1).alloc o2).alloc o3)):=fun o1 o2 o3=>bel_trans (bel_trans (bel_alloc _ _) (bel_alloc _ _)) (bel_alloc _ _)
 clear h1 h2 ht hM hc hr hn
 have R:Hid (blockedF want t L p=if L.contains p then otherF want t p else L.any fun q=>aboveP q p || aboveP p q):=hidI rfl
 generalize blockedF want t L p=o9 at R ⊢
 generalize otherF want t p=o1 at HO R
 generalize (L.any fun q=>aboveP q p || aboveP p q)=o2 at HC R
 obtain⟨W3,hW3⟩:∃ W,W=((w.alloc (.cells #[.int .i64 want.kind,.int .i64 want.n,.string ⟨want.s.toArray⟩,.slice a1 want.keys.length c1,.slice a2 want.l.length c2,.slice a3 L.length c3] 53)).alloc (.cells #[.int .i64 t.kind,.int .i64 t.n,.string ⟨t.s.toArray⟩,.slice b1 t.keys.length d1,.slice b2 t.l.length d2] 25)).alloc (.cells #[.string ⟨p.toArray⟩] 9):=⟨_,rfl⟩
 have BW:Hid (Below w.heap.size w W3):=hidI (by rw[hW3];exact B3.out _ _ _)
 have X1:Hid (W3.heap[w.heap.size]?=some (.cells #[.int .i64 want.kind,.int .i64 want.n,.string ⟨want.s.toArray⟩,.slice a1 want.keys.length c1,.slice a2 want.l.length c2,.slice a3 L.length c3] 53)):=hidI (by rw[hW3];exact h3a _ _ _ _)
 have X2:Hid (BoxIs W3 (w.heap.size+1) (.int .i64 t.kind) (.int .i64 t.n) (.string ⟨t.s.toArray⟩) (.slice b1 t.keys.length d1) (.slice b2 t.l.length d2)):=hidI (by rw[hW3];exact h3b _ _ _ _)
 have X3:Hid (W3.cell? ⟨w.heap.size+2,0,none⟩=some (.string ⟨p.toArray⟩)):=hidI (by
  have h9:W3.heap[w.heap.size+2]?=some (.cells #[.string ⟨p.toArray⟩] 9):=by rw[hW3];exact h3c _ _ _ _
  simp[World.cell?,h9])
 have HW3:=hidI hW3
 clear hW3
 have FX:Hid (∀ W,Below W3.heap.size W3 W->W.cell? ⟨w.heap.size+2,0,none⟩=some (.string ⟨p.toArray⟩)):=hidI (fun W hW=>cell_bel hW X3.out)
 go_enter Tryz.func25,Tryz.ntmps25
 go_upto_region 1 with fail
 rw[<-HW3.out]
 obtain⟨q0,q1,q2,q3,q4,q5⟩:=box6 X1.out
 have q6:=X3.out
 cases hc:L.contains p with
 | true=>
  have R2:Hid (o9=o1):=hidI (by rw[R.out,hc];rfl)
  have HL2:=hidI (HL.out W3 BW.out)
  rw[hc]at HL2
  clear hc
  go_upto_region 2 with (go_at_call 51;refine HL2.out.mono ?_;rintro e w4 ⟨rfl,hb4⟩;have B4:=hidI hb4;clear hb4 q0 q1 q2 q3 q4 q5 q6)
  have BW4:=hidI (bel_trans BW.out B4.out)
  obtain⟨q0,q1,q2,q3,q4,q5⟩:=box6 (blk_bel B4.out X1.out)
  obtain⟨p0,p1,p2,p3,p4,-⟩:=(box_bel B4.out X2.out).c
  have q6:=FX.out _ B4.out
  go_wp2_with (go_at_call 52;refine(HO.out _ BW4.out).mono ?_;rintro e w5 ⟨rfl,hb5⟩;have B5:=hidI (bel_trans BW4.out hb5);clear hb5)
  go_ret
  exact⟨by rw[R2.out];rfl,B5.out⟩
 | false=>
  have R2:Hid (o9=o2):=hidI (by rw[R.out,hc];rfl)
  have HL2:=hidI (HL.out W3 BW.out)
  rw[hc]at HL2
  clear hc
  go_upto_region 3 with (go_at_call 51;refine HL2.out.mono ?_;rintro e w4 ⟨rfl,hb4⟩;have B4:=hidI hb4;clear hb4 q0 q1 q2 q3 q4 q5 q6)
  have BW4:=hidI (bel_trans BW.out B4.out)
  obtain⟨q0,q1,q2,q3,q4,q5⟩:=box6 (blk_bel B4.out X1.out)
  have q6:=hidI (FX.out _ B4.out)
  go_wp2_with (go_at_call 53;refine(HC.out _ _ BW4.out q6.out).mono ?_;rintro e w5 ⟨rfl,hb5⟩;have B5:=hidI (bel_trans BW4.out hb5);clear hb5)
  go_ret
  exact⟨by rw[R2.out];rfl,B5.out⟩
set_option maxRecDepth 100000 in
theorem conc11_at (w:World) (q p:List UInt8) (gp:Nat) (hc:w.cell? ⟨gp,0,none⟩=some (.string ⟨p.toArray⟩)) :
 Calls Tryz.prog 86 #[.string ⟨q.toArray⟩,.pointer (some ⟨gp,0,none⟩)] w fun e w'=>e=.returned (.bool (q == p || aboveP q p || aboveP p q))/\w'=w:=by
 have A1:=above_p w q p
 have A2:=above_p w p q
 generalize aboveP q p=o1 at A1 ⊢
 generalize aboveP p q=o2 at A2 ⊢
 cases hqp:q == p with
 | true=>
  have e1:((ByteArray.mk q.toArray) == (ByteArray.mk p.toArray))=true:=ba_eq (by simpa using hqp)
  go_enter Tryz.func86,Tryz.ntmps86
  go_wp2_with fail
  go_ret
  exact⟨by first | done | rfl | simp,rfl⟩
 | false=>
  have e1:((ByteArray.mk q.toArray) == (ByteArray.mk p.toArray))=false:=ba_ne (by simpa using hqp)
  cases o1 with
  | true=>
   go_enter Tryz.func86,Tryz.ntmps86
   go_wp2_with fail
   refine A1.mono ?_
   rintro e w1 ⟨rfl,hw⟩
   have hw':=hw.symm
   subst hw'
   clear hw A1 A2
   go_wp2_with fail
   go_ret
   exact⟨by first | done | rfl | simp,rfl⟩
  | false=>
   go_enter Tryz.func86,Tryz.ntmps86
   go_wp2_with fail
   refine A1.mono ?_
   rintro e w1 ⟨rfl,hw⟩
   have hw':=hw.symm
   subst hw'
   clear hw A1
   go_wp2_with fail
   refine A2.mono ?_
   rintro e w2 ⟨rfl,hw⟩
   have hw':=hw.symm
   subst hw'
   clear hw A2
   go_wp2_with fail
   go_ret
   exact⟨by first | done | rfl | (simp;rfl),rfl⟩
theorem conc11_enters:∀ args w,(callFunc 86 args).run Tryz.prog w=.ok (.enter 86 args) w:=enters_of Tryz.func86 (by kernel_rfl) rfl
theorem conc1_enters:∀ args w,(callFunc 85 args).run Tryz.prog w=.ok (.enter 85 args) w:=enters_of Tryz.func85 (by kernel_rfl) rfl
set_option maxRecDepth 100000 in
theorem conc1_at (w:World) (ok:Nat->Prop) (o:Own) (pa:Option Addr) (pc:Nat) (p:List UInt8) (gp:Nat) (hs:StrsAre w ok o.paths (.slice pa o.paths.length pc)) (hc:w.cell? ⟨gp,0,none⟩=some (.string ⟨p.toArray⟩)) :
 Calls Tryz.prog 85 #[.agg #[.string ⟨o.name.toArray⟩,.slice pa o.paths.length pc],.pointer (some ⟨gp,0,none⟩)] w fun e w'=>e=.returned (.bool (o.paths.any fun q=>q == p || aboveP q p || aboveP p q))/\Below w.heap.size w w':=by
 have ll:=hs.1
 unfold maxLen at ll
 have HC:Hid (∀ (W:World),Below w.heap.size w W->Calls Tryz.prog 53 #[.slice pa o.paths.length pc,.func (.func 86) #[] #[.pointer (some ⟨gp,0,none⟩)]] W fun e w'=>e=.returned (.bool (o.paths.any fun q=>q == p || aboveP q p || aboveP p q))/\Below W.heap.size W w'):=hidI (fun W hW=>containsS_at W ok o.paths _ _ _ _ (hs.imp fun a x h1 h2=>⟨h1,cell_bel hW h2⟩) conc11_enters (fun W2 x hb _=>(conc11_at W2 x p gp (cell_bel hb (cell_bel hW hc))).mono fun e w' h=>⟨h.1,by rw[h.2];exact Below.refl _ _⟩))
 generalize (o.paths.any fun q=>q == p || aboveP q p || aboveP p q)=o2 at HC ⊢
 clear hs hc
 go_enter Tryz.func85,Tryz.ntmps85
 go_wp2_with (go_at_call 53;refine(HC.out _ (bel_alloc _ _)).mono ?_;rintro e w5 ⟨rfl,hb5⟩;have B5:=hidI (bel_trans (bel_alloc _ _) hb5);clear hb5)
 go_ret
 exact⟨rfl,B5.out⟩
set_option maxRecDepth 100000 in
theorem concerned_at (w:World) (ok:Nat->Prop) (l:List Own) (v:Value) (p:List UInt8) (h:OwnsAre w ok l v) :
 Calls Tryz.prog 59 #[v,.string ⟨p.toArray⟩] w fun e w'=>e=.returned (.bool (concF l p))/\Below w.heap.size w w':=by
 obtain⟨a,c,rfl⟩:=h.form
 have ll:=h.1
 unfold maxLen at ll
 have HC:Hid (∀ (W:World) (gp:Nat),Below w.heap.size w W->W.cell? ⟨gp,0,none⟩=some (.string ⟨p.toArray⟩)->Calls Tryz.prog 84 #[.slice a l.length c,.func (.func 85) #[] #[.pointer (some ⟨gp,0,none⟩)]] W fun e w'=>e=.returned (.bool (concF l p))/\Below W.heap.size W w'):=hidI (fun W gp hW hcl=>containsO_at W ok l _ _ _ _ (h.bel hW) conc1_enters (fun W2 x pa pc hb _ hs=>conc1_at W2 ok x pa pc p gp hs (cell_bel hb hcl)))
 have CP:Hid ((w.alloc (.cells #[.string ⟨p.toArray⟩] 9)).cell? ⟨w.heap.size,0,none⟩=some (.string ⟨p.toArray⟩)):=hidI (by
  have h9:=heap_alloc_new w (.cells #[.string ⟨p.toArray⟩] 9)
  generalize w.alloc (.cells #[.string ⟨p.toArray⟩] 9)=W2 at h9
  simp[World.cell?,h9])
 generalize concF l p=o2 at HC ⊢
 clear h
 go_enter Tryz.func59,Tryz.ntmps59
 go_wp2_with (go_at_call 84;refine(HC.out _ _ (bel_alloc _ _) CP.out).mono ?_;rintro e w5 ⟨rfl,hb5⟩;have B5:=hidI (bel_trans (bel_alloc _ _) hb5);clear hb5)
 go_ret
 exact⟨rfl,B5.out⟩
end Go.Proofs.YtmdemcjmcnfjmaaGreatDoor
namespace Go.Proofs.YtmdemcjmcnfjmaaGreatDoor
open Go.RowKit
theorem info85:(Tryz.prog.info? 85).map (fun i=>(i.zero,i.size,i.bytes))=some (some (.agg #[.string ⟨#[]⟩,.string ⟨#[]⟩]),2,32):=by kernel_rfl
theorem info41:(Tryz.prog.info? 41).map (fun i=>(i.zero,i.size,i.bytes))=some (some (.agg #[.string ⟨#[]⟩,.slice none 0 0]),2,40):=by kernel_rfl
theorem run_pushC {W:World} {B:Nat} {v:Value} {n:Nat} {cs:List Value} {nb:Nat} {k q:ByteArray} (ho:W.ownsRow B 85 2 v n cs) (hnb:W.heap[nb]?=some (.cells #[.string k,.string q] 85)) (hn:n<=4000000) (hB:B<=W.heap.size) (ty:TypeId) :
 ∃ g cap W',(Builtin.append_ #[27,27] ty #[v,.slice (some ⟨nb,0,none⟩) 1 1]).run Tryz.prog W=.ok (.slice (some ⟨g,0,none⟩) (n+1) cap) W'/\W'.ownsRow B 85 2 (.slice (some ⟨g,0,none⟩) (n+1) cap) (n+1) (cs++[.string k,.string q])/\W.grownBy W' v.ownBlock/\(v.ownBlock=some g\/W.heap.size=g):=by
 obtain⟨i0,hi,hz0,hz1,hz2⟩:=info_parts info85
 obtain⟨g,cap,W',hr,h1,h2,h3,-⟩:=run_append_lies (P:=Tryz.prog) W 27 ty B 85 i0 _ 2 32 Tryz.underlying27 hi hz0 hz1 hz2 rfl (by decide) v n cs ho ⟨nb,0,none⟩ 1 1 [.string k,.string q] rfl
  (World.news_of_block (cs:=#[.string k,.string q]) hnb) (by intro u hu;simp only[List.mem_cons,List.not_mem_nil,or_false]at hu;rcases hu with rfl | rfl <;> rfl) (by decide) (by unfold maxLen;omega) (by omega) hB W.heap.size rfl
 exact⟨g,cap,W',hr,h1,h2,h3.imp id Eq.symm⟩
theorem run_pushO {W:World} {B:Nat} {v:Value} {n:Nat} {cs:List Value} {nb:Nat} {k:ByteArray} {pa:Option Addr} {pn pc:Nat} (ho:W.ownsRow B 41 2 v n cs) (hnb:W.heap[nb]?=some (.cells #[.string k,.slice pa pn pc] 41)) (hn:n<=4000000) (hB:B<=W.heap.size) (ty:TypeId) :
 ∃ g cap W',(Builtin.append_ #[26,26] ty #[v,.slice (some ⟨nb,0,none⟩) 1 1]).run Tryz.prog W=.ok (.slice (some ⟨g,0,none⟩) (n+1) cap) W'/\W'.ownsRow B 41 2 (.slice (some ⟨g,0,none⟩) (n+1) cap) (n+1) (cs++[.string k,.slice pa pn pc])/\W.grownBy W' v.ownBlock/\(v.ownBlock=some g\/W.heap.size=g):=by
 obtain⟨i0,hi,hz0,hz1,hz2⟩:=info_parts info41
 obtain⟨g,cap,W',hr,h1,h2,h3,-⟩:=run_append_lies (P:=Tryz.prog) W 26 ty B 41 i0 _ 2 40 Tryz.underlying26 hi hz0 hz1 hz2 rfl (by decide) v n cs ho ⟨nb,0,none⟩ 1 1 [.string k,.slice pa pn pc] rfl
  (World.news_of_block (cs:=#[.string k,.slice pa pn pc]) hnb) (by intro u hu;simp only[List.mem_cons,List.not_mem_nil,or_false]at hu;rcases hu with rfl | rfl <;> rfl) (by decide) (by unfold maxLen;omega) (by omega) hB W.heap.size rfl
 exact⟨g,cap,W',hr,h1,h2,h3.imp id Eq.symm⟩
def AccI (w0:World) (L T:TypeId) (sz:Nat) (cells:List Value) (n:Nat) (F:Nat->Prop) (W:World):Prop:=
 Below w0.heap.size w0 W/\∃ fv,W.heap[w0.heap.size]?=some (.cells #[fv] L)/\W.ownsRow (w0.heap.size+1) T sz fv n cells/\∀ k,F k->k≠w0.heap.size/\some k≠fv.ownBlock
theorem AccI.bel {w0:World} {L T:TypeId} {sz:Nat} {cells:List Value} {n:Nat} {F:Nat->Prop} {W W':World} (h:AccI w0 L T sz cells n F W) (hb:Below W.heap.size W W'):AccI w0 L T sz cells n F W':=by
 obtain⟨h1,fv,h2,h3,h4⟩:=h
 exact⟨h1.trans (hb.mono h1.size),fv,blk_bel hb h2,own_same h3 fun g hg=>hb.block g (own_lt h3 hg).2,h4⟩
theorem AccI.alloc {w0:World} {L T:TypeId} {sz:Nat} {cells:List Value} {n:Nat} {F:Nat->Prop} {W:World} (h:AccI w0 L T sz cells n F W) (o:Obj):AccI w0 L T sz cells n (fun k=>F k\/k=W.heap.size) (W.alloc o):=by
 obtain⟨h1,fv,h2,h3,h4⟩:=h.bel (bel_alloc W o)
 obtain⟨-,fv',h2',h3',-⟩:=h
 refine⟨h1,fv,h2,h3,fun k hk=>?_⟩
 rcases hk with hk | rfl
 ·exact h4 k hk
 ·have e:fv=fv':=by
   have:=blk_bel (bel_alloc W o) h2'
   rw[h2]at this
   simp only[Option.some.injEq,Obj.cells.injEq,Array.mk.injEq,List.cons.injEq,and_true]at this
   exact this
  subst e
  have hlt:=(Array.getElem?_eq_some_iff.1 h2').1
  exact⟨by omega,fun e=>by have:=(own_lt h3' e.symm).2;omega⟩
theorem AccI.low {w0:World} {L T:TypeId} {sz:Nat} {cells:List Value} {n:Nat} {F G:Nat->Prop} {W:World} (h:AccI w0 L T sz cells n F W) (hk:∀ k,G k->F k):AccI w0 L T sz cells n G W:=by
 obtain⟨h1,fv,h2,h3,h4⟩:=h
 exact⟨h1,fv,h2,h3,fun k hg=>h4 k (hk k hg)⟩
theorem acc_start (w0:World) (L T:TypeId) (sz:Nat):AccI w0 L T sz [] 0 (fun k=>k < w0.heap.size) (w0.alloc (.cells #[.slice none 0 0] L)):=
 ⟨bel_alloc _ _,_,heap_alloc_new _ _,World.ownsRow_nil _ _ _ _,fun k hk=>⟨by omega,by simp[Value.ownBlock]⟩⟩
theorem acc_push {w0:World} {L T:TypeId} {sz:Nat} {cells news:List Value} {n:Nat} {F:Nat->Prop} {wc W':World} {o:Obj} {fv:Value} {g cap:Nat} (h1:Below w0.heap.size w0 wc) (h2:wc.heap[w0.heap.size]?=some (.cells #[fv] L)) (h3:wc.ownsRow (w0.heap.size+1) T sz fv n cells) (h4:∀ k,F k->k≠w0.heap.size/\some k≠fv.ownBlock)
 (ho:W'.ownsRow (w0.heap.size+1) T sz (.slice (some ⟨g,0,none⟩) (n+1) cap) (n+1) (cells++news)) (hg:(wc.alloc o).grownBy W' fv.ownBlock) (hf:fv.ownBlock=some g\/(wc.alloc o).heap.size=g) (hF:∀ k,F k->k < wc.heap.size) :
 AccI w0 L T sz (cells++news) (n+1) F (W'.setCell ⟨w0.heap.size,0,none⟩ (.slice (some ⟨g,0,none⟩) (n+1) cap))/\wc.heap.size<=(W'.setCell ⟨w0.heap.size,0,none⟩ (.slice (some ⟨g,0,none⟩) (n+1) cap)).heap.size/\∀ k,F k->k < wc.heap.size->(W'.setCell ⟨w0.heap.size,0,none⟩ (.slice (some ⟨g,0,none⟩) (n+1) cap)).heap[k]?=wc.heap[k]?:=by
 have ha:=bel_alloc wc o
 have hgo:=(own_lt ho (g:=g) rfl).1
 have hgl:w0.heap.size < wc.heap.size:=(Array.getElem?_eq_some_iff.1 h2).1
 have hrow:∀ k,fv.ownBlock=some k->w0.heap.size+1<=k:=fun k hk=>(own_lt h3 hk).1
 have hW:∀ k,k < wc.heap.size->some k≠fv.ownBlock->W'.heap[k]?=wc.heap[k]?:=fun k hk hr=>by
  rw[hg.block k (Nat.lt_of_lt_of_le hk ha.size) hr,ha.block k hk]
 have hbox:W'.heap[w0.heap.size]?=some (.cells #[fv] L):=by
  rw[hW _ hgl (fun e=>by have:=hrow _ e.symm;omega),h2]
 have hset:∀ k,k≠w0.heap.size->(W'.setCell ⟨w0.heap.size,0,none⟩ (.slice (some ⟨g,0,none⟩) (n+1) cap)).heap[k]?=W'.heap[k]?:=fun k hk=>Below.heap_setCell W' ⟨w0.heap.size,0,none⟩ _ k hk
 have hsz:wc.heap.size<=(W'.setCell ⟨w0.heap.size,0,none⟩ (.slice (some ⟨g,0,none⟩) (n+1) cap)).heap.size:=by
  have h1:=ha.size
  have h2:=hg.size
  simp only[World.setCell,Array.size_modify]
  omega
 refine⟨⟨⟨hg.os.trans (ha.os.trans h1.os),hg.tape.trans (ha.tape.trans h1.tape),hg.output.trans (ha.output.trans h1.output),Nat.le_trans h1.size hsz,fun k hk=>?_⟩,_,heap_set hbox 0 _,?_,fun k hk=>⟨(h4 k hk).1,?_⟩⟩,hsz,fun k hk hlt=>?_⟩
 ·rw[hset k (by omega),hW k (by omega) (fun e=>by have:=hrow _ e.symm;omega),h1.block k hk]
 ·refine own_same ho fun g' hg'=>hset g' ?_
  have e9:g=g':=by simpa [Value.ownBlock] using hg'
  omega
 ·have h9:=hF k hk
  have h8:=(h4 k hk).2
  rcases hf with hf | hf
  ·rw[hf]at h8;simpa [Value.ownBlock] using h8
  ·have:=ha.size
   simp only[Value.ownBlock,ne_eq,Option.some.injEq]
   omega
 ·rw[hset k (h4 k hk).1,hW k hlt (h4 k hk).2]
def cCells (cs:List (List UInt8 × List UInt8)):List Value:=cs.flatMap fun c=>[.string ⟨c.1.toArray⟩,.string ⟨c.2.toArray⟩]
def pick (who:List UInt8) (blk:List UInt8->Bool) (d:List (List UInt8 × List UInt8)):List (List UInt8 × List UInt8):=d.filter fun c=>c.1 != who&&blk c.2
theorem found_pick (blk:List UInt8->Bool) (who:List UInt8) (l:List Own):foundF blk who l=pick who blk (allOf l):=by
 unfold foundF pick allOf
 rw[List.filter_flatMap]
 congr 1
 funext o
 rw[List.filter_map];rfl
def ConI (w0:World) (who:List UInt8) (blk:List UInt8->Bool) (N:Nat) (d:List (List UInt8 × List UInt8)) (F:Nat->Prop) (W:World):Prop:=
 AccI w0 27 85 2 (cCells (pick who blk d)) (pick who blk d).length F W/\(∀ k,F k->k < W.heap.size)
end Go.Proofs.YtmdemcjmcnfjmaaGreatDoor
