/- The walk of keep's OwnerHas. -/
import Derived.Test.YtmdemcjmcnfjmaaGreatDoorGEf
import Derived.Test.YtmdemcjmcnfjmaaGreatDoorGXn
set_option linter.unusedSimpArgs false
set_option linter.unusedVariables false
namespace Go.Proofs.YtmdemcjmcnfjmaaGreatDoor
open Go.RowKit
theorem same_some (w:World) (ok ok':Nat->Prop) (x y:V) (va vb:Value) (ha:In w ok x va) (hb:In w ok' y vb) :
 ∃ b:Bool,Calls Tryz.prog 8 #[va,vb] w fun e w'=>e=.returned (.bool b)/\Below w.heap.size w w':=by
 obtain⟨d,ha⟩:=ha
 obtain⟨d',hb⟩:=hb
 exact⟨_,same_all (d+d') w _ _ x y va vb (VIs.le (by omega) ha) (VIs.le (by omega) hb)⟩
theorem rowv {w:World} {base:Nat} {e:TypeId} {size:Nat} {v:Value} {n:Nat} {xs:List Value} (h:w.ownsRow base e size v n xs):∃ a c,v=.slice a n c:=by
 rcases h.2 with⟨rfl,rfl⟩ | ⟨g,cap,cur,rfl,-⟩
 ·exact⟨_,_,rfl⟩
 ·exact⟨_,_,rfl⟩
attribute [local go_sem ↓] Go.wp_at_zero Go.wp_at_succ
set_option maxRecDepth 100000 in
set_option maxHeartbeats 4000000 in
theorem has_at (w:World) (ok:Nat->Prop) (t want:V) (l:List Own) (who:List UInt8) (force:Bool) (vt vl vw:Value) (ht:In w ok t vt) (hl:OwnsAre w ok l vl) (hw:In w ok want vw) (hG:Glob w) (hM:GlobM w) (hN:(allOf l).length<=2000000) (hP:∀ o∈l,∀ x∈o.paths,x.length<=140737488351232) (hwho:who.length<=9223372036854775807) :
 Calls Tryz.prog 3 #[vt,vl,.string ⟨who.toArray⟩,vw,.bool force] w fun e w'=>e=.returned (.bool true)/\Below w.heap.size w w':=by
 have HT:=hidI ht
 have HL:=hidI hl
 have HW:=hidI hw
 have HM:=hidI hM
 have HG:=hidI hG
 have HN:=hidI hN
 obtain⟨a1,b1,c1,d1,rfl⟩:=ht.form
 obtain⟨a2,b2,c2,d2,rfl⟩:=hw.form
 obtain⟨la,lc,rfl⟩:=hl.form
 have ll:=hl.1
 unfold maxLen at ll
 obtain⟨W2,hW2⟩:∃ W,W=(w.alloc (.cells #[.int .i64 t.kind,.int .i64 t.n,.string ⟨t.s.toArray⟩,.slice a1 t.keys.length c1,.slice b1 t.l.length d1] 25)).alloc (.cells #[.int .i64 want.kind,.int .i64 want.n,.string ⟨want.s.toArray⟩,.slice a2 want.keys.length c2,.slice b2 want.l.length d2] 25):=⟨_,rfl⟩
 have Y2:Hid (Below w.heap.size w W2):=hidI (by rw[hW2];exact bel_trans (bel_alloc _ _) (bel_alloc _ _))
 have VB:Hid (BoxIs W2 w.heap.size (.int .i64 t.kind) (.int .i64 t.n) (.string ⟨t.s.toArray⟩) (.slice a1 t.keys.length c1) (.slice b1 t.l.length d1)):=hidI (by rw[hW2];exact h2a _ _ _)
 have WB:Hid (BoxIs W2 (w.heap.size+1) (.int .i64 want.kind) (.int .i64 want.n) (.string ⟨want.s.toArray⟩) (.slice a2 want.keys.length c2) (.slice b2 want.l.length d2)):=hidI (by rw[hW2];exact h2b _ _ _)
 have HW2:=hidI hW2
 obtain⟨res,m,cf,ee,hA⟩:∃ res m cf ee,applyF t l who want force=(res,m,cf,ee):=⟨_,_,_,_,rfl⟩
 have AP:=apply_at W2 ok t want l who force _ _ _ (HT.out.bel Y2.out) (HL.out.bel Y2.out) (HW.out.bel Y2.out) (HM.out.bel Y2.out) (by omega) hP hwho
 rw[hA]at AP
 have APC:Hid (Calls Tryz.prog 6 #[.agg #[.int .i64 t.kind,.int .i64 t.n,.string ⟨t.s.toArray⟩,.slice a1 t.keys.length c1,.slice b1 t.l.length d1],.slice la l.length lc,.string ⟨who.toArray⟩,.agg #[.int .i64 want.kind,.int .i64 want.n,.string ⟨want.s.toArray⟩,.slice a2 want.keys.length c2,.slice b2 want.l.length d2],.bool force] W2 fun e w'=>∃ (a3 b3:Option Addr) (c3 d3:Nat) (ma:Option Addr) (mc:Nat) (ca:Option Addr) (cc:Nat),e=.returned (.tuple #[.agg #[.int .i64 res.kind,.int .i64 res.n,.string ⟨res.s.toArray⟩,.slice a3 res.keys.length c3,.slice b3 res.l.length d3],.slice ma m.length mc,.slice ca cf.length cc,.int .i64 ee])/\In w' (okN ok W2.heap.size) res (.agg #[.int .i64 res.kind,.int .i64 res.n,.string ⟨res.s.toArray⟩,.slice a3 res.keys.length c3,.slice b3 res.l.length d3])/\OwnsAre w' (okN ok W2.heap.size) m (.slice ma m.length mc)/\Below W2.heap.size W2 w'):=hidI (AP.mono fun e w' h=>by
  obtain⟨r,ro,rc,rfl,h1,h2,h3,hb⟩:=h
  obtain⟨a3,b3,c3,d3,rfl⟩:=h1.form
  obtain⟨ma,mc,rfl⟩:=h2.form
  obtain⟨ca,cc,rfl⟩:=rowv h3
  exact⟨a3,b3,c3,d3,ma,mc,ca,cc,rfl,h1,h2,hb⟩)
 obtain⟨o0,o1,o2,o3,o4,-⟩:=VB.out.c
 obtain⟨q0,q1,q2,q3,q4,-⟩:=WB.out.c
 have HA:=hidI hA
 clear AP hA hW2 ht hl hw hG hM hN hP
 have OWN:Hid (∀ W,Below w.heap.size w W->Calls Tryz.prog 7 #[] W fun e w'=>e=.returned (.bool true)/\Below W.heap.size W w'):=hidI (fun W hW=>owns_at W (HG.out.grown (r:=none) (gb_below hW) (by simp)) (HM.out.bel hW))
 go_enter Tryz.func3,Tryz.ntmps3
 go_upto_region 1 with fail
 rw[<-HW2.out]
 go_upto_region 2 with (go_at_call 6;refine APC.out.mono ?_;rintro e w3 ⟨a3,b3,c3,d3,ma,mc,ca,cc,rfl,h1,h2,hb⟩;have B3:=hidI hb;have I3:=hidI h1;have M3:=hidI h2;clear h1 h2 hb)
 obtain⟨W3,hW3⟩:∃ W,W=w3.alloc (.cells #[.int .i64 res.kind,.int .i64 res.n,.string ⟨res.s.toArray⟩,.slice a3 res.keys.length c3,.slice b3 res.l.length d3] 25):=⟨_,rfl⟩
 have A3:Hid (Below w3.heap.size w3 W3):=hidI (by rw[hW3];exact bel_alloc _ _)
 have X3:Hid (BoxIs W3 w3.heap.size (.int .i64 res.kind) (.int .i64 res.n) (.string ⟨res.s.toArray⟩) (.slice a3 res.keys.length c3) (.slice b3 res.l.length d3)):=hidI (by rw[hW3];exact heap_alloc_new _ _)
 rw[<-hW3]
 clear hW3 o0 o1 o2 o3 o4 q0 q1 q2 q3 q4
 have Y3:=hidI (bel_trans (bel_trans Y2.out B3.out) A3.out)
 by_cases hee:ee=0
 rotate_left
 ·have e0:(ee != 0)=true:=by simpa using hee
  have e1:(ee == 0)=false:=by rw[beq_eq_false_iff_ne];exact hee
  have ER:=apply_err (v:=t) (l:=l) (who:=who) (want:=want) (force:=force) (by rw[HA.out];exact hee)
  rw[HA.out]at ER
  obtain⟨hr,-,h5,hf⟩:=ER
  simp only at hr h5 hf
  subst hr
  have SM:=hidI (same_is W3 _ _ res _ _ (I3.out.bel A3.out) (HT.out.bel Y3.out))
  obtain⟨v0,v1,v2,v3,v4,-⟩:=(box_bel (bel_trans B3.out A3.out) VB.out).c
  obtain⟨x0,x1,x2,x3,x4,-⟩:=X3.out.c
  obtain⟨n,hn⟩:∃ n,cf.length=n:=⟨_,rfl⟩
  have h5n:ee=5↔n≠0:=by rw[h5,<-hn];simp
  rw[hn]
  clear hn h5 hee HA I3
  by_cases he5:ee=5
  ·have hnf:force=false:=by cases force with | false=>rfl | true=>exact absurd he5 (hf rfl)
   subst hnf
   have n0:(0:Int) < (n:Int):=by have:=h5n.1 he5;omega
   have f5:(ee == 5)=true:=by simp[he5]
   clear hf h5n he5
   go_wp2_with (first
    |(go_at_call 8;refine SM.out.mono ?_;rintro e w4 ⟨rfl,hb⟩;have B4:=hidI hb;clear hb)
    |(go_at_call 7;refine(OWN.out _ (bel_trans Y3.out B4.out)).mono ?_;rintro e w5 ⟨rfl,hb⟩;have B5:=hidI hb;clear hb))
   go_ret
   exact⟨rfl,bel_trans (bel_trans Y3.out B4.out) B5.out⟩
  ·have n0:n=0:=by apply Classical.byContradiction;intro h9;exact he5 (h5n.2 h9)
   subst n0
   have f5:(ee == 5)=false:=by rw[beq_eq_false_iff_ne];exact he5
   clear hf h5n he5
   cases force
   ·skip
    go_wp2_with (first
     |(go_at_call 8;refine SM.out.mono ?_;rintro e w4 ⟨rfl,hb⟩;have B4:=hidI hb;clear hb)
     |(go_at_call 7;refine(OWN.out _ (bel_trans Y3.out B4.out)).mono ?_;rintro e w5 ⟨rfl,hb⟩;have B5:=hidI hb;clear hb))
    go_ret
    exact⟨rfl,bel_trans (bel_trans Y3.out B4.out) B5.out⟩
   ·skip
    go_wp2_with (first
     |(go_at_call 8;refine SM.out.mono ?_;rintro e w4 ⟨rfl,hb⟩;have B4:=hidI hb;clear hb)
     |(go_at_call 7;refine(OWN.out _ (bel_trans Y3.out B4.out)).mono ?_;rintro e w5 ⟨rfl,hb⟩;have B5:=hidI hb;clear hb))
    go_ret
    exact⟨rfl,bel_trans (bel_trans Y3.out B4.out) B5.out⟩
 subst hee
 obtain⟨L,hL⟩:∃ L,leavesF want=L:=⟨_,rfl⟩
 obtain⟨gm,pm,-⟩:=apply_good HA.out
 obtain⟨-,-,-,-,gr,-,-⟩:=apply_ok HA.out
 have SZ:=hidI (apply_size HA.out HN.out)
 have AGAIN:=hidI (apply_again HA.out)
 have LEAF:Hid (∀ p∈L,p.length<=140737488351232/\∃ x y,getR (splitP p) want=(x,0)/\getR (splitP p) res=(y,0)/\(x=y\/x.kind=5/\y.kind=5)):=hidI (fun p hp=>⟨SZ.out.2.2.2 p (by rw[hL];exact hp),apply_leaf HA.out (by rw[hL];exact hp)⟩)
 go_upto_region 4 with (go_at_call 7;refine(OWN.out _ Y3.out).mono ?_;rintro e w4 ⟨rfl,hb⟩;have B4:=hidI hb;clear hb)
 have Y4:=hidI (bel_trans Y3.out B4.out)
 have WB4:=hidI (box_bel (bel_trans (bel_trans B3.out A3.out) B4.out) WB.out)
 have RB4:=hidI (box_bel B4.out X3.out)
 have WI4:=hidI (HW.out.bel Y4.out)
 have RI4:=hidI ((I3.out.bel A3.out).bel B4.out)
 have MI4:=hidI ((M3.out.bel A3.out).bel B4.out)
 have GM4:=hidI (HM.out.bel Y4.out)
 have PM:Hid (∀ W,Below w4.heap.size w4 W->Calls Tryz.prog 10 #[.slice ma m.length mc,.string ⟨who.toArray⟩] W fun e w'=>∃ a c,e=.returned (.slice a L.length c)/\StrsAre w' (okN ok W2.heap.size) L (.slice a L.length c)/\Below W.heap.size W w'):=hidI (fun W hW=>by
  have:=pathsOfK_at W _ m _ who (MI4.out.bel hW)
  rwa [pm,hL]at this)
 have LVS:Hid (∀ W,Below w4.heap.size w4 W->Calls Tryz.prog 11 #[.agg #[.int .i64 want.kind,.int .i64 want.n,.string ⟨want.s.toArray⟩,.slice a2 want.keys.length c2,.slice b2 want.l.length d2]] W fun e w'=>∃ (a:Option Addr) (c:Nat),e=.returned (.slice a L.length c)/\StrsAre w' (fun k=>W.heap.size<=k) L (.slice a L.length c)/\Below W.heap.size W w'):=hidI (fun W hW=>by
  have:=leaves_at W _ want _ (WI4.out.bel hW) (GM4.out.bel hW)
  rwa [hL]at this)
 have LV:=hidI LVS.out
 have OG:Hid (∀ W,Below w4.heap.size w4 W->Calls Tryz.prog 12 #[.slice ma m.length mc] W fun e w'=>e=.returned (.bool true)/\Below W.heap.size W w'):=hidI (fun W hW=>by
  have:=goodOwners_at W _ m _ (MI4.out.bel hW) SZ.out.2.1 (GM4.out.bel hW)
  rwa [gm]at this)
 have JG:Hid (∀ W,Below w4.heap.size w4 W->Calls Tryz.prog 13 #[.agg #[.int .i64 res.kind,.int .i64 res.n,.string ⟨res.s.toArray⟩,.slice a3 res.keys.length c3,.slice b3 res.l.length d3]] W fun e w'=>e=.returned (.bool true)/\Below W.heap.size W w'):=hidI (fun W hW=>by
  have:=good_is W _ res _ (RI4.out.bel hW)
  rwa [gr]at this)
 clear hL gm pm gr
 go_cut [81] (fun cv wc=>cv=.bool false/\Hid (Below w4.heap.size w4 wc))
 case first=>
  refine wp_region_T (fun wS=>Below w4.heap.size w4 wS) [] (by kernel_rfl) (bel_drewN _ 1) (fun hHeld=>?_)
  refine WT.out ?_
  refine tk (i:=0) (d:=65) (v:=?_) [] rfl rfl (by decide +kernel) rfl (fun _ _ _ h=>h) hHeld ?_ ?_
  rotate_left
  ·intro wS hSw
   go_simp
   all_goals with_reducible rfl
  simp only[aput,List.set]
  refine tk (i:=1) (d:=66) (v:=?_) [] rfl rfl (by decide +kernel) rfl (fun _ _ _ h=>h) hHeld ?_ ?_
  rotate_left
  ·intro wS hSw
   go_simp
   all_goals with_reducible rfl
  simp only[aput,List.set]
  refine tk (i:=3) (d:=68) (v:=?_) [] rfl rfl (by decide +kernel) rfl (fun _ _ _ h=>h) hHeld ?_ ?_
  rotate_left
  ·intro wS hSw
   obtain⟨u0,u1,u2,u3,u4,-⟩:=(box_bel hSw WB4.out).c
   obtain⟨x0,x1,x2,x3,x4,-⟩:=(box_bel hSw RB4.out).c
   go_simp
   all_goals with_reducible rfl
  simp only[aput,List.set]
  repeat' (first
   | exact nl
   |(refine cns (i:=2) (o:=_) rfl (fun K hK=>?_) ?_
     go_simp
     refine(PM.out _ hHeld).mono ?_
     rintro e w2q ⟨ra,rc9,rfl,hst,hb5⟩
     refine hK.out _ _ (bel_trans hHeld hb5) (fun hHeld2=>?_)
     have PS:=hidI hst
     try replace QS:=hidI (QS.out.bel hb5)
     clear hb5 hst
     clear hK K
     replace hHeld:=hHeld2
     clear hHeld2
     try simp only[Act.put,List.setIfInBounds_toArray,List.set_cons_zero,List.set_cons_succ])
   |(refine cns (i:=4) (o:=_) rfl (fun K hK=>?_) ?_
     go_simp
     refine(LV.out _ hHeld).mono ?_
     rintro e w4q ⟨qa,qc9,rfl,hst,hb5⟩
     refine hK.out _ _ (bel_trans hHeld hb5) (fun hHeld2=>?_)
     have QS:=hidI hst
     try replace PS:=hidI (PS.out.bel hb5)
     clear hb5 hst
     clear hK K
     replace hHeld:=hHeld2
     clear hHeld2
     try simp only[Act.put,List.setIfInBounds_toArray,List.set_cons_zero,List.set_cons_succ])
   |(refine cns (i:=5) (o:=_) rfl (fun K hK=>?_) ?_
     go_simp
     refine(sameTexts_yes _ _ _ L _ _ (by exact PS.out) (by exact QS.out)).mono ?_
     rintro e w5q ⟨rfl,hb5⟩
     refine hK.out _ _ (bel_trans hHeld hb5) (fun hHeld2=>?_)
     clear hb5
     clear hK K
     replace hHeld:=hHeld2
     clear hHeld2
     try simp only[Act.put,List.setIfInBounds_toArray,List.set_cons_zero,List.set_cons_succ])
   |(refine cns (i:=9) (o:=_) rfl (fun K hK=>?_) ?_
     go_simp
     refine(OG.out _ hHeld).mono ?_
     rintro e w9q ⟨rfl,hb5⟩
     refine hK.out _ _ (bel_trans hHeld hb5) (fun hHeld2=>?_)
     clear hb5
     clear hK K
     replace hHeld:=hHeld2
     clear hHeld2
     try simp only[Act.put,List.setIfInBounds_toArray,List.set_cons_zero,List.set_cons_succ])
   |(refine cns (i:=14) (o:=_) rfl (fun K hK=>?_) ?_
     go_simp
     refine(JG.out _ hHeld).mono ?_
     rintro e w14q ⟨rfl,hb5⟩
     refine hK.out _ _ (bel_trans hHeld hb5) (fun hHeld2=>?_)
     have B6:=hidI hHeld2
     clear hb5
     clear hK K
     replace hHeld:=hHeld2
     clear hHeld2
     try simp only[Act.put,List.setIfInBounds_toArray,List.set_cons_zero,List.set_cons_succ])
   |(refine tk (i:=6) (d:=71) (v:=?_) [] rfl rfl (by decide +kernel) rfl (fun _ _ _ h=>h) (by exact hHeld) ?_ ?_
     rotate_left
     ·intro wS hSw
      go_simp
      all_goals with_reducible rfl
     simp only[aput,List.set])
   |(refine tk (i:=7) (d:=72) (v:=?_) [] rfl rfl (by decide +kernel) rfl (fun _ _ _ h=>h) (by exact hHeld) ?_ ?_
     rotate_left
     ·intro wS hSw
      go_simp
      all_goals with_reducible rfl
     simp only[aput,List.set])
   |(refine tk (i:=8) (d:=73) (v:=?_) [] rfl rfl (by decide +kernel) rfl (fun _ _ _ h=>h) (by exact hHeld) ?_ ?_
     rotate_left
     ·intro wS hSw
      go_simp
      all_goals with_reducible rfl
     simp only[aput,List.set])
   |(refine tk (i:=10) (d:=75) (v:=?_) [] rfl rfl (by decide +kernel) rfl (fun _ _ _ h=>h) (by exact hHeld) ?_ ?_
     rotate_left
     ·intro wS hSw
      go_simp
      all_goals with_reducible rfl
     simp only[aput,List.set])
   |(refine tk (i:=11) (d:=76) (v:=?_) [] rfl rfl (by decide +kernel) rfl (fun _ _ _ h=>h) (by exact hHeld) ?_ ?_
     rotate_left
     ·intro wS hSw
      go_simp
      all_goals with_reducible rfl
     simp only[aput,List.set])
   |(refine tk (i:=12) (d:=77) (v:=?_) [] rfl rfl (by decide +kernel) rfl (fun _ _ _ h=>h) (by exact hHeld) ?_ ?_
     rotate_left
     ·intro wS hSw
      go_simp
      all_goals with_reducible rfl
     simp only[aput,List.set])
   |(refine tk (i:=13) (d:=78) (v:=?_) [] rfl rfl (by decide +kernel) rfl (fun _ _ _ h=>h) (by exact hHeld) ?_ ?_
     rotate_left
     ·intro wS hSw
      obtain⟨u0,u1,u2,u3,u4,-⟩:=(box_bel hSw WB4.out).c
      obtain⟨x0,x1,x2,x3,x4,-⟩:=(box_bel hSw RB4.out).c
      go_simp
      all_goals with_reducible rfl
     simp only[aput,List.set])
   |(refine tk (i:=15) (d:=80) (v:=?_) [] rfl rfl (by decide +kernel) rfl (fun _ _ _ h=>h) (by exact hHeld) ?_ ?_
     rotate_left
     ·intro wS hSw
      go_simp
      all_goals with_reducible rfl
     simp only[aput,List.set])
   |(refine tk (i:=16) (d:=81) (v:=?_) [] rfl rfl (by decide +kernel) rfl (fun _ _ _ h=>h) (by exact hHeld) ?_ ?_
     rotate_left
     ·intro wS hSw
      go_simp
      all_goals with_reducible rfl
     simp only[aput,List.set])
   | refine rdy [2] (by decide +kernel) ?_
   | refine rdy [4] (by decide +kernel) ?_
   | refine rdy [5] (by decide +kernel) ?_
   | refine rdy [9] (by decide +kernel) ?_
   | refine rdy [14] (by decide +kernel) ?_
   | fail)
  all_goals
   refine dn (by kernel_rfl) ?_
   go_wp2_with fail
   go_meet
   case rel=>exact⟨rfl,B6⟩
 case rest=>
  obtain⟨rfl,B6⟩:=hcut
  clear PM LV OG JG
  have Y6a:=hidI (bel_trans Y4.out B6.out)
  have B46a:=hidI B6.out
  obtain⟨v0,v1,v2,v3,v4,-⟩:=(box_bel B6.out WB4.out).c
  go_upto_region 7 with (go_at_call 11;refine(LVS.out _ B6.out).mono ?_;rintro e w6 ⟨la9,lc9,rfl,hst,hb⟩;have LS:=hidI hst;have B6b:=hidI hb;clear hst hb)
  have B46:=hidI (bel_trans B6.out B6b.out)
  have Y6:=hidI (bel_trans Y4.out B46.out)
  clear v0 v1 v2 v3 v4
  go_loopg [85] L.length (fun gk i wr=>∃ k:Nat,k<=L.length/\gk=L.length - k/\i=.int .i64 k/\Hid (Below w6.heap.size w6 wr))
  case atStart=>exact⟨0,Nat.zero_le _,rfl,rfl,Below.refl _ _⟩
  case round=>
   obtain⟨k,hk,hgk,rfl,BL⟩:=hrel
   have GK:=hidI hgk
   clear hgk
   have BW7:=hidI (bel_trans B46.out BL.out)
   by_cases hlt:k < L.length
   ·obtain⟨pb,po,rfl,hc1',hc2',hcell0⟩:=strs_at LS.out hlt
    unfold maxLen at hc2'
    have hcell:=cell_bel BL.out hcell0
    have j2:(k:Int) < (L.length:Int):=by omega
    have j3:(0:Int)<=(k:Int):=by omega
    have LF:=LEAF.out _ (List.getElem_mem hlt)
    clear hcell0
    obtain⟨p,hp⟩:∃ p,L[k]=p:=⟨_,rfl⟩
    rw[hp]at hcell LF
    clear hp
    obtain⟨hlen,x,y,hx,hy,hxy⟩:=LF
    have G1:=get_is wr _ want _ p (WI4.out.bel BW7.out) hlen (GM4.out.bel BW7.out)
    rw[hx]at G1
    have G1C:Hid (Calls Tryz.prog 14 #[.agg #[.int .i64 want.kind,.int .i64 want.n,.string ⟨want.s.toArray⟩,.slice a2 want.keys.length c2,.slice b2 want.l.length d2],.string ⟨p.toArray⟩] wr fun e w'=>∃ r,e=.returned (.tuple #[r,.int .i64 0])/\Below wr.heap.size wr w'/\In w' ok x r):=hidI G1
    have HXY:=hidI hxy
    have HY:=hidI hy
    have HLEN:=hidI hlen
    clear G1 hx hy hxy hlen
    obtain⟨v0,v1,v2,v3,v4,-⟩:=(box_bel BW7.out WB4.out).c
    go_upto_region 10 with (go_at_call 14;refine G1C.out.mono ?_;rintro e w7 ⟨r,rfl,hb,hx⟩;obtain⟨a4,b4,c4,d4,rfl⟩:=hx.form;have B7:=hidI hb;have XI:=hidI hx;clear hb hx)
    obtain⟨W7,hW7⟩:∃ W,W=w7.alloc (.cells #[.int .i64 x.kind,.int .i64 x.n,.string ⟨x.s.toArray⟩,.slice a4 x.keys.length c4,.slice b4 x.l.length d4] 25):=⟨_,rfl⟩
    have A7:Hid (Below w7.heap.size w7 W7):=hidI (by rw[hW7];exact bel_alloc _ _)
    have X7:Hid (BoxIs W7 w7.heap.size (.int .i64 x.kind) (.int .i64 x.n) (.string ⟨x.s.toArray⟩) (.slice a4 x.keys.length c4) (.slice b4 x.l.length d4)):=hidI (by rw[hW7];exact heap_alloc_new _ _)
    rw[<-hW7]
    clear hW7 v0 v1 v2 v3 v4 hcell
    have BW8:=hidI (bel_trans (bel_trans BW7.out B7.out) A7.out)
    have G2:=get_is W7 _ res _ p (RI4.out.bel BW8.out) HLEN.out (GM4.out.bel BW8.out)
    rw[HY.out]at G2
    have G2C:Hid (Calls Tryz.prog 14 #[.agg #[.int .i64 res.kind,.int .i64 res.n,.string ⟨res.s.toArray⟩,.slice a3 res.keys.length c3,.slice b3 res.l.length d3],.string ⟨p.toArray⟩] W7 fun e w'=>∃ r,e=.returned (.tuple #[r,.int .i64 0])/\Below W7.heap.size W7 w'/\In w' (okN ok W2.heap.size) y r):=hidI G2
    clear G2
    obtain⟨v0,v1,v2,v3,v4,-⟩:=(box_bel BW8.out RB4.out).c
    go_upto_region 11 with (go_at_call 14;refine G2C.out.mono ?_;rintro e w9 ⟨r,rfl,hb,hy⟩;obtain⟨a5,b5,c5,d5,rfl⟩:=hy.form;have B9:=hidI hb;have YI:=hidI hy;clear hb hy)
    obtain⟨W9,hW9⟩:∃ W,W=w9.alloc (.cells #[.int .i64 y.kind,.int .i64 y.n,.string ⟨y.s.toArray⟩,.slice a5 y.keys.length c5,.slice b5 y.l.length d5] 25):=⟨_,rfl⟩
    have A9:Hid (Below w9.heap.size w9 W9):=hidI (by rw[hW9];exact bel_alloc _ _)
    have X9:Hid (BoxIs W9 w9.heap.size (.int .i64 y.kind) (.int .i64 y.n) (.string ⟨y.s.toArray⟩) (.slice a5 y.keys.length c5) (.slice b5 y.l.length d5)):=hidI (by rw[hW9];exact heap_alloc_new _ _)
    rw[<-hW9]
    clear hW9 v0 v1 v2 v3 v4
    have BE:=hidI (bel_trans (bel_trans (bel_trans (bel_trans BL.out B7.out) A7.out) B9.out) A9.out)
    obtain⟨x0,x1,x2,x3,x4,-⟩:=(box_bel (bel_trans B9.out A9.out) X7.out).c
    obtain⟨y0,y1,y2,y3,y4,-⟩:=X9.out.c
    have XI9:=hidI (((XI.out.bel A7.out).bel B9.out).bel A9.out)
    have YI9:=hidI (YI.out.bel A9.out)
    by_cases hxy:x=y
    ·subst hxy
     have SM:=hidI (same_is W9 _ _ x _ _ XI9.out YI9.out)
     go_wp2_with (go_at_call 8;refine SM.out.mono ?_;rintro e w10 ⟨rfl,hb⟩;have BX:=hidI (bel_trans BE.out hb);clear x0 x1 x2 x3 x4 y0 y1 y2 y3 y4;obtain⟨x0,-⟩:=(box_bel (bel_trans (bel_trans B9.out A9.out) hb) X7.out).c;obtain⟨y0,-⟩:=(box_bel hb X9.out).c;clear hb)
     go_roundg (L.length - (k+1))
     case measure=>rw[GK.out];omega
     case rel=>exact⟨k+1,hlt,rfl,by go_num,BX⟩
    ·obtain⟨k1,k2⟩:x.kind=5/\y.kind=5:=HXY.out.resolve_left hxy
     have e5:(x.kind == 5)=true:=by simp[k1]
     have e6:(y.kind == 5)=true:=by simp[k2]
     obtain⟨bb,hbb⟩:=same_some W9 _ _ x y _ _ XI9.out YI9.out
     have SM:=hidI hbb
     clear hbb hxy k1 k2
     cases bb
     ·go_wp2_with (go_at_call 8;refine SM.out.mono ?_;rintro e w10 ⟨rfl,hb⟩;have BX:=hidI (bel_trans BE.out hb);clear x0 x1 x2 x3 x4 y0 y1 y2 y3 y4;obtain⟨x0,-⟩:=(box_bel (bel_trans (bel_trans B9.out A9.out) hb) X7.out).c;obtain⟨y0,-⟩:=(box_bel hb X9.out).c;clear hb)
      go_roundg (L.length - (k+1))
      case measure=>rw[GK.out];omega
      case rel=>exact⟨k+1,hlt,rfl,by go_num,BX⟩
     ·go_wp2_with (go_at_call 8;refine SM.out.mono ?_;rintro e w10 ⟨rfl,hb⟩;have BX:=hidI (bel_trans BE.out hb);clear x0 x1 x2 x3 x4 y0 y1 y2 y3 y4;obtain⟨x0,-⟩:=(box_bel (bel_trans (bel_trans B9.out A9.out) hb) X7.out).c;obtain⟨y0,-⟩:=(box_bel hb X9.out).c;clear hb)
      go_roundg (L.length - (k+1))
      case measure=>rw[GK.out];omega
      case rel=>exact⟨k+1,hlt,rfl,by go_num,BX⟩
   ·have d9:¬(k:Int) < (L.length:Int):=by omega
    have Y7:=hidI (bel_trans Y6.out BL.out)
    obtain⟨v0,v1,v2,v3,v4,-⟩:=(box_bel BW7.out WB4.out).c
    obtain⟨x0,x1,x2,x3,x4,-⟩:=(box_bel BW7.out RB4.out).c
    have AP:=apply_at wr (fun _=>True) res want m who false _ _ _ ((RI4.out.bel BW7.out).weak fun _ _=>trivial) ((MI4.out.bel BW7.out).weak fun _ _=>trivial) ((WI4.out.bel BW7.out).weak fun _ _=>trivial) (GM4.out.bel BW7.out) SZ.out.1 SZ.out.2.1 hwho
    rw[AGAIN.out]at AP
    have AP2:Hid (Calls Tryz.prog 6 #[.agg #[.int .i64 res.kind,.int .i64 res.n,.string ⟨res.s.toArray⟩,.slice a3 res.keys.length c3,.slice b3 res.l.length d3],.slice ma m.length mc,.string ⟨who.toArray⟩,.agg #[.int .i64 want.kind,.int .i64 want.n,.string ⟨want.s.toArray⟩,.slice a2 want.keys.length c2,.slice b2 want.l.length d2],.bool false] wr fun e w'=>∃ (a6 b6:Option Addr) (c6 d6:Nat) (na:Option Addr) (nc:Nat) (rc6:Value),e=.returned (.tuple #[.agg #[.int .i64 res.kind,.int .i64 res.n,.string ⟨res.s.toArray⟩,.slice a6 res.keys.length c6,.slice b6 res.l.length d6],.slice na m.length nc,rc6,.int .i64 0])/\In w' (fun _=>True) res (.agg #[.int .i64 res.kind,.int .i64 res.n,.string ⟨res.s.toArray⟩,.slice a6 res.keys.length c6,.slice b6 res.l.length d6])/\OwnsAre w' (fun _=>True) m (.slice na m.length nc)/\Below wr.heap.size wr w'):=hidI (AP.mono fun e w' h=>by
     obtain⟨r,ro,rc6,rfl,h1,h2,-,hb⟩:=h
     obtain⟨a6,b6,c6,d6,rfl⟩:=h1.form
     obtain⟨na,nc,rfl⟩:=h2.form
     exact⟨a6,b6,c6,d6,na,nc,rc6,rfl,h1.weak fun _ _=>trivial,h2.weak fun _ _=>trivial,hb⟩)
    clear AP
    go_upto_region 15 with (go_at_call 6;refine AP2.out.mono ?_;rintro e w7 ⟨a6,b6,c6,d6,na,nc,rc6,rfl,h1,h2,hb⟩;have B7:=hidI hb;have I7:=hidI h1;have N7:=hidI h2;clear h1 h2 hb)
    obtain⟨W8,hW8⟩:∃ W,W=w7.alloc (.cells #[.int .i64 res.kind,.int .i64 res.n,.string ⟨res.s.toArray⟩,.slice a6 res.keys.length c6,.slice b6 res.l.length d6] 25):=⟨_,rfl⟩
    have A8:Hid (Below w7.heap.size w7 W8):=hidI (by rw[hW8];exact bel_alloc _ _)
    have X8:Hid (BoxIs W8 w7.heap.size (.int .i64 res.kind) (.int .i64 res.n) (.string ⟨res.s.toArray⟩) (.slice a6 res.keys.length c6) (.slice b6 res.l.length d6)):=hidI (by rw[hW8];exact heap_alloc_new _ _)
    rw[<-hW8]
    clear hW8 v0 v1 v2 v3 v4 x0 x1 x2 x3 x4
    have BW8:=hidI (bel_trans (bel_trans BW7.out B7.out) A8.out)
    obtain⟨v0,v1,v2,v3,v4,-⟩:=(box_bel BW8.out RB4.out).c
    obtain⟨x0,x1,x2,x3,x4,-⟩:=X8.out.c
    have SM8:=hidI (same_is W8 _ _ res _ _ (I7.out.bel A8.out) (RI4.out.bel BW8.out))
    go_upto_region 17 with (go_at_call 8;refine SM8.out.mono ?_;rintro e w9 ⟨rfl,hb⟩;have B9:=hidI hb;clear hb)
    have Y9:=hidI (bel_trans (bel_trans (bel_trans Y7.out B7.out) A8.out) B9.out)
    have NI9:=hidI ((N7.out.bel A8.out).bel B9.out)
    have MI9:=hidI ((MI4.out.bel BW8.out).bel B9.out)
    clear v0 v1 v2 v3 v4 x0 x1 x2 x3 x4
    have lm:=MI9.out.1
    unfold maxLen at lm
    go_wp2_with fail
    go_loopg [152] m.length (fun gk i wr=>∃ j:Nat,j<=m.length/\gk=m.length - j/\i=.int .i64 j/\Hid (Below w9.heap.size w9 wr))
    case atStart=>exact⟨0,Nat.zero_le _,rfl,rfl,Below.refl _ _⟩
    case round=>
     obtain⟨j,hj,hgj,rfl,BJ⟩:=hrel
     have GJ:=hidI hgj
     clear hgj
     by_cases hjt:j < m.length
     ·obtain⟨nb,no,np,npc,rfl,hc1,hc2,hn0,hp0,hst0,hnl⟩:=(NI9.out.bel BJ.out).at hjt
      obtain⟨mb,mo,mp,mpc,rfl,hd1,hd2,hn1,hp1,hst1,-⟩:=(MI9.out.bel BJ.out).at hjt
      have j2:(j:Int) < (m.length:Int):=by omega
      have j3:(0:Int)<=(j:Int):=by omega
      obtain⟨nm,hnm⟩:∃ nm,m[j].name=nm:=⟨_,rfl⟩
      obtain⟨ps,hps⟩:∃ ps,m[j].paths=ps:=⟨_,rfl⟩
      rw[hnm]at hn0 hn1 hnl
      rw[hps]at hp0 hp1 hst0 hst1
      have NN:=hidI hn0
      have NP:=hidI hp0
      have MN:=hidI hn1
      have MP:=hidI hp1
      have NS:=hidI hst0
      have MS:=hidI hst1
      have e9:(nm == nm)=true:=by simp
      have e8:(nm != nm)=false:=by simp
      clear hn0 hn1 hp0 hp1 hst0 hst1 hnm hps
      go_upto_region 20 with fail
      refine wp_region_T (fun wS=>Below wr.heap.size wr wS) [] (by kernel_rfl) (bel_drewN _ 1) (fun hHeld=>?_)
      refine WT.out ?_
      refine tk (i:=0) (d:=155) (v:=?_) [] rfl rfl (by decide +kernel) rfl (fun _ _ _ h=>h) hHeld ?_ ?_
      rotate_left
      ·intro wS hSw
       go_simp
       all_goals with_reducible rfl
      simp only[aput,List.set]
      refine tk (i:=1) (d:=156) (v:=?_) [] rfl rfl (by decide +kernel) rfl (fun _ _ _ h=>h) hHeld ?_ ?_
      rotate_left
      ·intro wS hSw
       go_simp
       all_goals with_reducible rfl
      simp only[aput,List.set]
      refine tk (i:=2) (d:=157) (v:=?_) [] rfl rfl (by decide +kernel) rfl (fun _ _ _ h=>h) hHeld ?_ ?_
      rotate_left
      ·intro wS hSw
       go_simp
       all_goals with_reducible rfl
      simp only[aput,List.set]
      refine tk (i:=3) (d:=158) (v:=?_) [] rfl rfl (by decide +kernel) rfl (fun _ _ _ h=>h) hHeld ?_ ?_
      rotate_left
      ·intro wS hSw
       go_simp
       all_goals with_reducible rfl
      simp only[aput,List.set]
      refine tk (i:=4) (d:=159) (v:=?_) [] rfl rfl (by decide +kernel) rfl (fun _ _ _ h=>h) hHeld ?_ ?_
      rotate_left
      ·intro wS hSw
       have u0:=cell_bel hSw NN.out
       have u1:=cell_bel hSw NP.out
       have u2:=cell_bel hSw MN.out
       have u3:=cell_bel hSw MP.out
       go_simp
       all_goals with_reducible rfl
      simp only[aput,List.set]
      refine tk (i:=5) (d:=160) (v:=?_) [] rfl rfl (by decide +kernel) rfl (fun _ _ _ h=>h) hHeld ?_ ?_
      rotate_left
      ·intro wS hSw
       go_simp
       all_goals with_reducible rfl
      simp only[aput,List.set]
      refine tk (i:=6) (d:=161) (v:=?_) [] rfl rfl (by decide +kernel) rfl (fun _ _ _ h=>h) hHeld ?_ ?_
      rotate_left
      ·intro wS hSw
       go_simp
       all_goals with_reducible rfl
      simp only[aput,List.set]
      refine tk (i:=7) (d:=162) (v:=?_) [] rfl rfl (by decide +kernel) rfl (fun _ _ _ h=>h) hHeld ?_ ?_
      rotate_left
      ·intro wS hSw
       go_simp
       all_goals with_reducible rfl
      simp only[aput,List.set]
      refine tk (i:=8) (d:=163) (v:=?_) [] rfl rfl (by decide +kernel) rfl (fun _ _ _ h=>h) hHeld ?_ ?_
      rotate_left
      ·intro wS hSw
       go_simp
       all_goals with_reducible rfl
      simp only[aput,List.set]
      refine tk (i:=9) (d:=164) (v:=?_) [] rfl rfl (by decide +kernel) rfl (fun _ _ _ h=>h) hHeld ?_ ?_
      rotate_left
      ·intro wS hSw
       have u0:=cell_bel hSw NN.out
       have u1:=cell_bel hSw NP.out
       have u2:=cell_bel hSw MN.out
       have u3:=cell_bel hSw MP.out
       go_simp
       all_goals with_reducible rfl
      simp only[aput,List.set]
      refine tk (i:=10) (d:=165) (v:=?_) [] rfl rfl (by decide +kernel) rfl (fun _ _ _ h=>h) hHeld ?_ ?_
      rotate_left
      ·intro wS hSw
       go_simp
       all_goals with_reducible rfl
      simp only[aput,List.set]
      refine tk (i:=11) (d:=166) (v:=?_) [] rfl rfl (by decide +kernel) rfl (fun _ _ _ h=>h) hHeld ?_ ?_
      rotate_left
      ·intro wS hSw
       go_simp
       all_goals with_reducible rfl
      simp only[aput,List.set]
      refine tk (i:=12) (d:=167) (v:=?_) [] rfl rfl (by decide +kernel) rfl (fun _ _ _ h=>h) hHeld ?_ ?_
      rotate_left
      ·intro wS hSw
       go_simp
       all_goals with_reducible rfl
      simp only[aput,List.set]
      refine tk (i:=13) (d:=168) (v:=?_) [] rfl rfl (by decide +kernel) rfl (fun _ _ _ h=>h) hHeld ?_ ?_
      rotate_left
      ·intro wS hSw
       go_simp
       all_goals with_reducible rfl
      simp only[aput,List.set]
      refine tk (i:=14) (d:=169) (v:=?_) [] rfl rfl (by decide +kernel) rfl (fun _ _ _ h=>h) hHeld ?_ ?_
      rotate_left
      ·intro wS hSw
       go_simp
       all_goals with_reducible rfl
      simp only[aput,List.set]
      refine tk (i:=15) (d:=170) (v:=?_) [] rfl rfl (by decide +kernel) rfl (fun _ _ _ h=>h) hHeld ?_ ?_
      rotate_left
      ·intro wS hSw
       go_simp
       all_goals with_reducible rfl
      simp only[aput,List.set]
      refine tk (i:=16) (d:=171) (v:=?_) [] rfl rfl (by decide +kernel) rfl (fun _ _ _ h=>h) hHeld ?_ ?_
      rotate_left
      ·intro wS hSw
       have u0:=cell_bel hSw NN.out
       have u1:=cell_bel hSw NP.out
       have u2:=cell_bel hSw MN.out
       have u3:=cell_bel hSw MP.out
       go_simp
       all_goals with_reducible rfl
      simp only[aput,List.set]
      refine tk (i:=17) (d:=172) (v:=?_) [] rfl rfl (by decide +kernel) rfl (fun _ _ _ h=>h) hHeld ?_ ?_
      rotate_left
      ·intro wS hSw
       go_simp
       all_goals with_reducible rfl
      simp only[aput,List.set]
      refine tk (i:=18) (d:=173) (v:=?_) [] rfl rfl (by decide +kernel) rfl (fun _ _ _ h=>h) hHeld ?_ ?_
      rotate_left
      ·intro wS hSw
       go_simp
       all_goals with_reducible rfl
      simp only[aput,List.set]
      refine tk (i:=19) (d:=174) (v:=?_) [] rfl rfl (by decide +kernel) rfl (fun _ _ _ h=>h) hHeld ?_ ?_
      rotate_left
      ·intro wS hSw
       go_simp
       all_goals with_reducible rfl
      simp only[aput,List.set]
      refine tk (i:=20) (d:=175) (v:=?_) [] rfl rfl (by decide +kernel) rfl (fun _ _ _ h=>h) hHeld ?_ ?_
      rotate_left
      ·intro wS hSw
       go_simp
       all_goals with_reducible rfl
      simp only[aput,List.set]
      refine tk (i:=21) (d:=176) (v:=?_) [] rfl rfl (by decide +kernel) rfl (fun _ _ _ h=>h) hHeld ?_ ?_
      rotate_left
      ·intro wS hSw
       have u0:=cell_bel hSw NN.out
       have u1:=cell_bel hSw NP.out
       have u2:=cell_bel hSw MN.out
       have u3:=cell_bel hSw MP.out
       go_simp
       all_goals with_reducible rfl
      simp only[aput,List.set]
      repeat' (first
       | exact nl
       |(refine cns (i:=22) (o:=_) rfl (fun K hK=>?_) ?_
         go_simp
         refine(sameTexts_yes _ _ _ ps _ _ (by exact NS.out.bel hHeld) (by exact MS.out.bel hHeld)).mono ?_
         rintro e w22q ⟨rfl,hb5⟩
         refine hK.out _ _ (bel_trans hHeld hb5) (fun hHeld2=>?_)
         have B9:=hidI hHeld2
         clear hb5
         clear hK K
         replace hHeld:=hHeld2
         clear hHeld2
         try simp only[Act.put,List.setIfInBounds_toArray,List.set_cons_zero,List.set_cons_succ])
       |(refine tk (i:=23) (d:=178) (v:=?_) [] rfl rfl (by decide +kernel) rfl (fun _ _ _ h=>h) (by exact hHeld) ?_ ?_
         rotate_left
         ·intro wS hSw
          go_simp
          all_goals with_reducible rfl
         simp only[aput,List.set])
       |(refine tk (i:=24) (d:=179) (v:=?_) [] rfl rfl (by decide +kernel) rfl (fun _ _ _ h=>h) (by exact hHeld) ?_ ?_
         rotate_left
         ·intro wS hSw
          go_simp
          all_goals with_reducible rfl
         simp only[aput,List.set])
       | refine rdy [22] (by decide +kernel) ?_
       | fail)
      all_goals
       refine dn (by kernel_rfl) ?_
       go_wp2_with fail
       go_roundg (m.length - (j+1))
       case measure=>rw[GJ.out];omega
       case rel=>exact⟨j+1,hjt,rfl,by go_num,hidI (bel_trans BJ.out B9.out)⟩
     ·have d9:¬(j:Int) < (m.length:Int):=by omega
      go_wp2_with fail
      go_ret
      exact⟨rfl,bel_trans Y9.out BJ.out⟩
end Go.Proofs.YtmdemcjmcnfjmaaGreatDoor
