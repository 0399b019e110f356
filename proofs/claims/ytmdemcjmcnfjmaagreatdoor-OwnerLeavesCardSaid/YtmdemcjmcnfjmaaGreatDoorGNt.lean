/- Apply of package owner: the conflicts. -/
import Derived.Test.YtmdemcjmcnfjmaaGreatDoorGNi
import Derived.Test.YtmdemcjmcnfjmaaGreatDoorGOi
import Derived.Test.YtmdemcjmcnfjmaaGreatDoorGOt
import Derived.Test.YtmdemcjmcnfjmaaGreatDoorGNe
set_option linter.unusedSimpArgs false
set_option linter.unusedVariables false
namespace Go.Proofs.YtmdemcjmcnfjmaaGreatDoor
open Go.RowKit
attribute [local go_sem ↓] Go.wp_at_zero Go.wp_at_succ
set_option maxRecDepth 100000 in
set_option maxHeartbeats 8000000 in
theorem owithout_at:∀ (ns:List (List UInt8)) (w:World) (ok okn:Nat->Prop) (o:V) (v nv:Value),In w ok o v->StrsAre w okn ns nv->ns≠[]->Obs o->(∃ y,thr ns o=some y)->cnt o<=90000 ->
 Calls Tryz.prog 60 #[v,nv] w fun e w'=>∃ r,e=.returned r/\In w' (okN ok w.heap.size) (outF ns o) r/\Below w.heap.size w w':=by
 intro ns
 induction ns with
 | nil=>intro w ok okn o v nv _ _ h;exact absurd rfl h
 | cons n ns ih=>
 intro w ok okn o v nv h hnv _ hob hth hcn
 have IH:=hidI ih
 obtain⟨nb,no,nc,rfl,hcl,hnl,hnc,hnn⟩:=strs_head2 hnv
 have hn1:=hnv.1
 unfold maxLen at hn1
 have NV:=hidI hnv
 have NL:=hidI hnn
 have NC0:=hidI hnc
 have HT:=hidI h.low
 have OBT:=hidI hob
 have CT:=hidI hcn
 have TH:=hidI hth
 obtain⟨a1,b1,c1,d1,rfl⟩:=h.form
 have hk5:o.kind=5:=by obtain⟨y,hy⟩:=hth;exact(thr_kind hy).1
 have PO:=hidI (hob.ob hk5).paired
 have LO:Hid (o.l.length<=100000):=hidI (by have:=len_cnt o;omega)
 clear h hnv hnc ih hob hcn hnn hth hk5
 obtain⟨WV,hWV⟩:∃ W,W=(w.alloc (.cells #[.int .i64 o.kind,.int .i64 o.n,.string ⟨o.s.toArray⟩,.slice a1 o.keys.length c1,.slice b1 o.l.length d1] 25)).alloc (.cells #[.int .i64 0,.int .i64 0,.string ⟨#[]⟩,.slice none 0 0,.slice none 0 0] 25):=⟨_,rfl⟩
 have BA:Hid (Below w.heap.size w WV):=hidI (by rw[hWV];exact bel_trans (bel_alloc _ _) (bel_alloc _ _))
 have VB:Hid (BoxIs WV w.heap.size (.int .i64 o.kind) (.int .i64 o.n) (.string ⟨o.s.toArray⟩) (.slice a1 o.keys.length c1) (.slice b1 o.l.length d1)):=hidI (by rw[hWV];exact h2a _ _ _)
 have RB:Hid (BoxIs WV (w.heap.size+1) (.int .i64 0) (.int .i64 0) (.string ⟨#[]⟩) (.slice none 0 0) (.slice none 0 0)):=hidI (by rw[hWV];exact h2b _ _ _)
 have SA:Hid (w.heap.size+2<=WV.heap.size):=hidI (by rw[hWV];simp)
 have OI:=hidI (HT.out.bel BA.out)
 have NC:=hidI (cell_bel BA.out NC0.out)
 have NT:Hid (StrsAre WV okn ns (.slice (some ⟨nb,no+1,none⟩) ns.length (nc - 1))):=hidI ((strs_tail2 NV.out).bel BA.out)
 have HWV:=hidI hWV
 clear hWV
 cases ns with
 | nil=>
  obtain⟨y,hy⟩:∃ y,withoutV o n=y:=⟨_,rfl⟩
  have HY:=hidI hy
  have RES:Hid (outF [n] o=y):=hidI (by rw[<-hy];rfl)
  clear hy
  have OIX:=OI
  have BC:=BA
  have SC:=SA
  go_enter Tryz.func60,Tryz.ntmps60
  go_upto_region 2 with fail
  rw[<-HWV.out]
  refine wp_region_T (fun wS=>Below WV.heap.size WV wS) [5] (by kernel_rfl) (bel_drewN _ 1) (fun hHeld=>?_)
  refine WT.out ?_
  refine tk (i:=0) (d:=10) (v:=?_) [4,5] rfl rfl (by decide +kernel) rfl (fun _ _ _ h=>h) hHeld ?_ ?_
  rotate_left
  ·intro wS hSw
   obtain⟨u0,u1,u2,u3,u4,-⟩:=(box_bel hSw VB.out).c
   have nm:=cell_bel hSw NC.out
   go_simp
   all_goals with_reducible rfl
  simp only[aput,List.set]
  refine tk (i:=1) (d:=11) (v:=?_) [2,3,4,5] rfl rfl (by decide +kernel) rfl (fun _ _ _ h=>h) hHeld ?_ ?_
  rotate_left
  ·intro wS hSw
   go_simp
   all_goals with_reducible rfl
  simp only[aput,List.set]
  refine tk (i:=2) (d:=12) (v:=?_) [3,4,5] rfl rfl (by decide +kernel) rfl (fun _ _ _ h=>h) hHeld ?_ ?_
  rotate_left
  ·intro wS hSw
   go_simp
   all_goals with_reducible rfl
  simp only[aput,List.set]
  refine tk (i:=3) (d:=13) (v:=?_) [4,5] rfl rfl (by decide +kernel) rfl (fun _ _ _ h=>h) hHeld ?_ ?_
  rotate_left
  ·intro wS hSw
   obtain⟨u0,u1,u2,u3,u4,-⟩:=(box_bel hSw VB.out).c
   have nm:=cell_bel hSw NC.out
   go_simp
   all_goals with_reducible rfl
  simp only[aput,List.set]
  repeat' (first
   | exact nl
   |(refine cns (i:=4) (o:=_) rfl (fun K hK=>?_) ?_
     go_simp
     refine(without_is _ (fun k=>ok k/\k < w.heap.size) o _ n (by exact OIX.out.bel hHeld) LO.out).mono ?_
     rintro e w4q ⟨rv,rfl,hr5,hb5⟩
     rw[HY.out]at hr5
     obtain⟨a4,b4,c4,d4,rfl⟩:=hr5.form
     refine hK.out _ _ (bel_trans hHeld hb5) (fun hHeld2=>?_)
     have YI:=hidI (lown_of (D:=WV.heap.size) hr5 hHeld.size)
     clear hb5 hr5
     clear hK K
     replace hHeld:=hHeld2
     clear hHeld2
     try simp only[Act.put,List.setIfInBounds_toArray,List.set_cons_zero,List.set_cons_succ])
   |(refine lst (i:=5) (o:=_) (by decide +kernel) rfl (fun K hK=>?_)
     have HB:=hidI (box_bel hHeld RB.out)
     obtain⟨n0,n1,n2,n3,n4,m0,m1,m2,m3,m4⟩:=HB.out.c
     have ZB:=hidI (HB.out.set (.int .i64 y.kind) (.int .i64 y.n) (.string ⟨y.s.toArray⟩) (.slice a4 y.keys.length c4) (.slice b4 y.l.length d4))
     have Z:=hidI (set_out2 (w:=w) (ok:=ok) (C:=WV.heap.size) (g:=(w.heap.size+1)) YI.out (bel_trans BC.out hHeld) (by omega) (by have:=SC.out;omega))
     go_simp
     refine hK.out _ _ ?_
     clear hK K
     try simp only[Act.put,List.setIfInBounds_toArray,List.set_cons_zero,List.set_cons_succ])
   | refine rdy [4] (by decide +kernel) ?_
   | fail)
  all_goals
   refine dn (by kernel_rfl) ?_
   clear n0 n1 n2 n3 n4 m0 m1 m2 m3 m4
   go_wp2_with fail
   obtain⟨z0,z1,z2,z3,z4,-⟩:=ZB.out.c
   refine bodyPost_ret (v:=.agg #[.int .i64 y.kind,.int .i64 y.n,.string ⟨y.s.toArray⟩,.slice a4 y.keys.length c4,.slice b4 y.l.length d4]) ?_ rfl ?_
   ·simp only[set5]at z0 z1 z2 z3 z4
    simp[results,Tryz.results60,go_sem,z0,z1,z2,z3,z4]
   ·exact⟨_,rfl,by rw[RES.out];exact Z.out.2,Z.out.1⟩
 | cons m ns=>
  obtain⟨was,hwas⟩:∃ x,(memV o n).getD zeroT=x:=⟨_,rfl⟩
  obtain⟨th,hth⟩:∃ x,(memV o n).isSome=x:=⟨_,rfl⟩
  obtain⟨u,hu⟩:∃ u,outF (m :: ns) was=u:=⟨_,rfl⟩
  have RM:Hid ((u.l=[]->outF (n :: m :: ns) o=withoutV o n)/\(u.l≠[]->outF (n :: m :: ns) o=withV o n u)):=hidI ⟨fun h9=>by rw[outF,hwas,hu,if_pos h9],fun h9=>by rw[outF,hwas,hu,if_neg h9]⟩
  have HU:=hidI hu
  have OW:Hid (Obs was):=hidI (by rw[<-hwas];exact obs_was OBT.out n)
  have CW:Hid (cnt was<=90000):=hidI (by rw[<-hwas];exact Nat.le_trans (cnt_was o n) CT.out)
  have TW:Hid (∃ y,thr (m :: ns) was=some y):=hidI (by
   obtain⟨y,hy⟩:=TH.out
   obtain⟨-,z,hm,hz⟩:=thr_kind hy
   rw[<-hwas,hm]
   exact⟨y,hz⟩)
  have HWAS:=hidI hwas
  have HTH:=hidI hth
  clear hwas hth hu
  simp only[List.length_cons]at hcl hn1 hnl ⊢
  obtain⟨mc,rfl⟩:∃ mc,nc=mc+2:=⟨nc - 2,by omega⟩
  have NTL:Hid (StrsAre WV okn (m :: ns) (.slice (some ⟨nb,no+1,none⟩) (ns.length+1) (mc+1))):=hidI (by have:=NT.out;simpa using this)
  have g1:(((ns.length:Int)+1+1) == 1)=false:=by rw[beq_eq_false_iff_ne];omega
  have g2:(ns.length:Int)+1+1<=(mc:Int)+2:=by omega
  have g3:(1:Int)<=(ns.length:Int)+1+1:=by omega
  have g5:(0:Int) < (ns.length:Int)+1+1:=by omega
  go_enter Tryz.func60,Tryz.ntmps60
  go_upto_region 3 with fail
  rw[<-HWV.out]
  go_cut [5,6] (fun pv bv wc=>∃ (g7:Nat) (a3 b3:Option Addr) (c3 d3:Nat),pv=.pointer (some ⟨g7,0,none⟩)/\bv=.bool th/\(BoxIs wc g7 (.int .i64 was.kind) (.int .i64 was.n) (.string ⟨was.s.toArray⟩) (.slice a3 was.keys.length c3) (.slice b3 was.l.length d3)/\WV.heap.size<=g7/\Below WV.heap.size WV wc/\In wc (fun k=>ok k/\k < w.heap.size) was (.agg #[.int .i64 was.kind,.int .i64 was.n,.string ⟨was.s.toArray⟩,.slice a3 was.keys.length c3,.slice b3 was.l.length d3])))
  case first=>
   refine wp_region_T (fun wS=>Below WV.heap.size WV wS) [9] (by kernel_rfl) (bel_drewN _ 1) (fun hHeld=>?_)
   refine WT.out ?_
   refine tk (i:=0) (d:=16) (v:=?_) [4,5,6,7,9,10] rfl rfl (by decide +kernel) rfl (fun _ _ _ h=>h) hHeld ?_ ?_
   rotate_left
   ·intro wS hSw
    obtain⟨u0,u1,u2,u3,u4,-⟩:=(box_bel hSw VB.out).c
    have nm:=cell_bel hSw NC.out
    go_simp
    all_goals with_reducible rfl
   simp only[aput,List.set]
   refine tk (i:=1) (d:=17) (v:=?_) [2,3,4,5,6,7,9,10] rfl rfl (by decide +kernel) rfl (fun _ _ _ h=>h) hHeld ?_ ?_
   rotate_left
   ·intro wS hSw
    go_simp
    all_goals with_reducible rfl
   simp only[aput,List.set]
   refine tk (i:=2) (d:=18) (v:=?_) [3,4,5,6,7,9,10] rfl rfl (by decide +kernel) rfl (fun _ _ _ h=>h) hHeld ?_ ?_
   rotate_left
   ·intro wS hSw
    go_simp
    all_goals with_reducible rfl
   simp only[aput,List.set]
   refine tk (i:=3) (d:=19) (v:=?_) [4,5,6,7,9,10] rfl rfl (by decide +kernel) rfl (fun _ _ _ h=>h) hHeld ?_ ?_
   rotate_left
   ·intro wS hSw
    obtain⟨u0,u1,u2,u3,u4,-⟩:=(box_bel hSw VB.out).c
    have nm:=cell_bel hSw NC.out
    go_simp
    all_goals with_reducible rfl
   simp only[aput,List.set]
   repeat' (first
    | exact nl
    |(refine cns (i:=4) (o:=_) rfl (fun K hK=>?_) ?_
      go_simp
      refine(member_was _ (fun k=>ok k/\k < w.heap.size) o _ n (by exact OI.out.bel hHeld)).mono ?_
      rintro e w4q ⟨rv,rfl,hb5,hr5⟩
      rw[HWAS.out]at hr5
      rw[HTH.out]
      obtain⟨a3,b3,c3,d3,rfl⟩:=hr5.form
      refine hK.out _ _ (bel_trans hHeld hb5) (fun hHeld2=>?_)
      have WI:=hidI hr5
      try replace NB:=hidI (box_bel hb5 NB.out)
      have CALLED:Hid True:=hidI trivial
      clear hb5 hr5
      clear hK K
      replace hHeld:=hHeld2
      clear hHeld2
      try simp only[Act.put,List.setIfInBounds_toArray,List.set_cons_zero,List.set_cons_succ])
    |(refine cns (i:=8) (o:=_) rfl (fun K hK=>?_) ?_
      go_simp
      refine hK.out _ _ (bel_trans hHeld (bel_alloc _ _)) (fun hHeld2=>?_)
      have NB:=hidI (wz_new hHeld)
      first | (have c9:=CALLED.out;clear c9;have FINA:=hidI (was_new hHeld WI.out)) | skip
      clear hK K
      replace hHeld:=hHeld2
      clear hHeld2
      try simp only[Act.put,List.setIfInBounds_toArray,List.set_cons_zero,List.set_cons_succ])
    |(refine lst (i:=9) (o:=_) (by decide +kernel) rfl (fun K hK=>?_)
      try rw[show (World.drew WV).heap.size=WV.heap.size from rfl]at NB
      obtain⟨n0,n1,n2,n3,n4,m0,m1,m2,m3,m4⟩:=NB.out.c
      first | (have c9:=FINA.out;clear c9) | (have FINB:=hidI (was_put (g:=WV.heap.size) hHeld (Nat.le_refl _) NB.out WI.out (fun k hk=>by have h9:=hk.2;have:=SA.out;omega)))
      go_simp
      refine hK.out _ _ ?_
      clear hK K
      try simp only[Act.put,List.setIfInBounds_toArray,List.set_cons_zero,List.set_cons_succ])
    |(refine lst (i:=10) (o:=_) (by decide +kernel) rfl (fun K hK=>?_)
      go_simp
      refine hK.out _ _ ?_
      clear hK K
      try simp only[Act.put,List.setIfInBounds_toArray,List.set_cons_zero,List.set_cons_succ])
    |(refine tk (i:=5) (d:=15) (v:=?_) [6,7,9,10] rfl rfl (by decide +kernel) rfl (fun _ _ _ h=>h) (by exact hHeld) ?_ ?_
      rotate_left
      ·intro wS hSw
       go_simp
       all_goals with_reducible rfl
      simp only[aput,List.set])
    |(refine tk (i:=6) (d:=21) (v:=?_) [9,10] rfl rfl (by decide +kernel) rfl (fun _ _ _ h=>h) (by exact hHeld) ?_ ?_
      rotate_left
      ·intro wS hSw
       go_simp
       all_goals with_reducible rfl
      simp only[aput,List.set])
    |(refine tkY (i:=7) (d:=22) (v:=?_) rfl rfl (by decide +kernel) rfl (fun _ _ _ h=>h) (by exact hHeld) ?_ ?_
      rotate_left
      ·intro wS
       go_simp
       all_goals with_reducible rfl
      simp only[aput,List.set])
    | refine rdy [4,8] (by decide +kernel) ?_
    | refine rdy [8] (by decide +kernel) ?_
    | refine rdy [4] (by decide +kernel) ?_
    | fail)
   all_goals
    refine dn (by kernel_rfl) ?_
    go_wp2_with fail
    go_meet
    case rel=>first | exact⟨_,_,_,_,_,rfl,rfl,FINA.out⟩ | exact⟨_,_,_,_,_,rfl,rfl,FINB.out⟩
  case rest=>
   obtain⟨g7,a3,b3,c3,d3,rfl,rfl,hcW,hcG,hcB,hcI⟩:=hcut
   have WB:=hidI hcW
   have G7:=hidI hcG
   have G7L:=hidI hcW.lt
   have BWC:=hidI hcB
   have WCI:=hidI hcI
   have SC:Hid (w.heap.size+2<=wc.heap.size):=hidI (Nat.le_trans SA.out hcB.size)
   have BC:=hidI (bel_trans BA.out hcB)
   replace VB:=hidI (box_bel hcB VB.out)
   replace RB:=hidI (box_bel hcB RB.out)
   replace NC:=hidI (cell_bel hcB NC.out)
   clear hcW hcG hcB hcI
   go_upto_region 4 with fail
   refine wp_region_T (fun wS=>Below wc.heap.size wc wS) [4] (by kernel_rfl) (bel_drewN _ 1) (fun hHeld=>?_)
   refine WT.out ?_
   refine tk (i:=0) (d:=23) (v:=?_) [3,4] rfl rfl (by decide +kernel) rfl (fun _ _ _ h=>h) hHeld ?_ ?_
   rotate_left
   ·intro wS hSw
    obtain⟨f0,f1,f2,f3,f4,-⟩:=(box_bel hSw WB.out).c
    go_simp
    all_goals with_reducible rfl
   simp only[aput,List.set]
   refine tk (i:=1) (d:=24) (v:=?_) [2,3,4] rfl rfl (by decide +kernel) rfl (fun _ _ _ h=>h) hHeld ?_ ?_
   rotate_left
   ·intro wS hSw
    go_simp
    all_goals with_reducible rfl
   simp only[aput,List.set]
   refine tk (i:=2) (d:=25) (v:=?_) [3,4] rfl rfl (by decide +kernel) rfl (fun _ _ _ h=>h) hHeld ?_ ?_
   rotate_left
   ·intro wS hSw
    go_simp
    all_goals with_reducible rfl
   simp only[aput,List.set]
   repeat' (first
    | exact nl
    |(refine cns (i:=3) (o:=_) rfl (fun K hK=>?_) ?_
      go_simp
      refine(IH.out _ (fun k=>ok k/\k < w.heap.size) okn was _ _ (by exact WCI.out.bel hHeld) (by exact(NTL.out.bel BWC.out).bel hHeld) (by simp) OW.out TW.out CW.out).mono ?_
      rintro e w3q ⟨rv,rfl,hr5,hb5⟩
      rw[HU.out]at hr5
      obtain⟨a5,b5,c5,d5,rfl⟩:=hr5.form
      refine hK.out _ _ (bel_trans hHeld hb5) (fun hHeld2=>?_)
      have UI:=hidI (lown_of (ok:=ok) (B:=w.heap.size) (D:=wc.heap.size) hr5 hHeld.size)
      clear hb5 hr5
      clear hK K
      replace hHeld:=hHeld2
      clear hHeld2
      try simp only[Act.put,List.setIfInBounds_toArray,List.set_cons_zero,List.set_cons_succ])
    |(refine lst (i:=4) (o:=_) (by decide +kernel) rfl (fun K hK=>?_)
      have HB:=hidI (box_bel hHeld WB.out)
      obtain⟨n0,n1,n2,n3,n4,m0,m1,m2,m3,m4⟩:=HB.out.c
      have HH:=hidI hHeld
      go_simp
      refine hK.out _ _ ?_
      clear hK K
      try simp only[Act.put,List.setIfInBounds_toArray,List.set_cons_zero,List.set_cons_succ])
    | refine rdy [3] (by decide +kernel) ?_
    | fail)
   all_goals
    refine dn (by kernel_rfl) ?_
    clear n0 n1 n2 n3 n4 m0 m1 m2 m3 m4
    obtain⟨WD,hWD⟩:∃ W,W=set5 w3q g7 (.int .i64 u.kind) (.int .i64 u.n) (.string ⟨u.s.toArray⟩) (.slice a5 u.keys.length c5) (.slice b5 u.l.length d5):=⟨_,rfl⟩
    have UB:Hid (BoxIs WD g7 (.int .i64 u.kind) (.int .i64 u.n) (.string ⟨u.s.toArray⟩) (.slice a5 u.keys.length c5) (.slice b5 u.l.length d5)):=hidI (by rw[hWD];exact HB.out.set _ _ _ _ _)
    have GB:Hid (w3q.grownBy WD (some g7)):=hidI (by rw[hWD];exact set5_gb _ _ _ _ _ _ _)
    have BD:Hid (Below w.heap.size w WD):=hidI (by rw[hWD];exact bel_set5 (bel_trans BC.out HH.out) (by have:=G7.out;have:=SA.out;omega) _ _ _ _ _)
    have UID:Hid (In WD (okN (fun k=>ok k/\k < w.heap.size) wc.heap.size) u (.agg #[.int .i64 u.kind,.int .i64 u.n,.string ⟨u.s.toArray⟩,.slice a5 u.keys.length c5,.slice b5 u.l.length d5])):=hidI (by rw[hWD];exact UI.out.box (by have:=G7.out;have:=SA.out;omega) (by have:=G7L.out;omega) _ _ _ _ _)
    replace VB:=hidI ((box_bel HH.out VB.out).grown GB.out (by have:=G7.out;have:=SA.out;simp;omega))
    replace RB:=hidI ((box_bel HH.out RB.out).grown GB.out (by have:=G7.out;have:=SA.out;simp;omega))
    have OIX:Hid (In WD (fun k=>ok k/\k < w.heap.size) o (.agg #[.int .i64 o.kind,.int .i64 o.n,.string ⟨o.s.toArray⟩,.slice a1 o.keys.length c1,.slice b1 o.l.length d1])):=hidI (((OI.out.bel BWC.out).bel HH.out).grown GB.out (fun k hk=>by have:=hk.2;have:=G7.out;have:=SA.out;omega))
    replace NC:=hidI (cell_bel BD.out NC0.out)
    have SWD:Hid (wc.heap.size<=WD.heap.size):=hidI (Nat.le_trans HH.out.size GB.out.size)
    have SCC:=SC
    replace SC:=hidI (Nat.le_trans SC.out SWD.out)
    replace BC:=BD
    simp only[set5]at hWD
    go_upto_region 5 with fail
    rw[<-hWD]
    clear hWD
    obtain⟨q0,q1,q2,q3,q4,-⟩:=UB.out.c
    by_cases hul:u.l=[]
    ·have e1:((u.l.length:Int) == 0)=true:=by rw[hul];rfl
     have e3:(u.l.length == 0)=true:=by rw[hul];rfl
     obtain⟨y,hy⟩:∃ y,withoutV o n=y:=⟨_,rfl⟩
     have HY:=hidI hy
     have RES:Hid (outF (n :: m :: ns) o=y):=hidI (by rw[<-hy];exact RM.out.1 hul)
     clear hy hul
     go_upto_region 6 with fail
     clear q0 q1 q2 q3 q4
     refine wp_region_T (fun wS=>Below WD.heap.size WD wS) [5] (by kernel_rfl) (bel_drewN _ 1) (fun hHeld=>?_)
     refine WT.out ?_
     refine tk (i:=0) (d:=31) (v:=?_) [4,5] rfl rfl (by decide +kernel) rfl (fun _ _ _ h=>h) hHeld ?_ ?_
     rotate_left
     ·intro wS hSw
      obtain⟨u0,u1,u2,u3,u4,-⟩:=(box_bel hSw VB.out).c
      have nm:=cell_bel hSw NC.out
      go_simp
      all_goals with_reducible rfl
     simp only[aput,List.set]
     refine tk (i:=1) (d:=32) (v:=?_) [2,3,4,5] rfl rfl (by decide +kernel) rfl (fun _ _ _ h=>h) hHeld ?_ ?_
     rotate_left
     ·intro wS hSw
      go_simp
      all_goals with_reducible rfl
     simp only[aput,List.set]
     refine tk (i:=2) (d:=33) (v:=?_) [3,4,5] rfl rfl (by decide +kernel) rfl (fun _ _ _ h=>h) hHeld ?_ ?_
     rotate_left
     ·intro wS hSw
      go_simp
      all_goals with_reducible rfl
     simp only[aput,List.set]
     refine tk (i:=3) (d:=34) (v:=?_) [4,5] rfl rfl (by decide +kernel) rfl (fun _ _ _ h=>h) hHeld ?_ ?_
     rotate_left
     ·intro wS hSw
      obtain⟨u0,u1,u2,u3,u4,-⟩:=(box_bel hSw VB.out).c
      have nm:=cell_bel hSw NC.out
      go_simp
      all_goals with_reducible rfl
     simp only[aput,List.set]
     repeat' (first
      | exact nl
      |(refine cns (i:=4) (o:=_) rfl (fun K hK=>?_) ?_
        go_simp
        refine(without_is _ (fun k=>ok k/\k < w.heap.size) o _ n (by exact OIX.out.bel hHeld) LO.out).mono ?_
        rintro e w4q ⟨rv,rfl,hr5,hb5⟩
        rw[HY.out]at hr5
        obtain⟨a4,b4,c4,d4,rfl⟩:=hr5.form
        refine hK.out _ _ (bel_trans hHeld hb5) (fun hHeld2=>?_)
        have YI:=hidI (lown_of (D:=WD.heap.size) hr5 hHeld.size)
        clear hb5 hr5
        clear hK K
        replace hHeld:=hHeld2
        clear hHeld2
        try simp only[Act.put,List.setIfInBounds_toArray,List.set_cons_zero,List.set_cons_succ])
      |(refine lst (i:=5) (o:=_) (by decide +kernel) rfl (fun K hK=>?_)
        have HB:=hidI (box_bel hHeld RB.out)
        obtain⟨n0,n1,n2,n3,n4,m0,m1,m2,m3,m4⟩:=HB.out.c
        have ZB:=hidI (HB.out.set (.int .i64 y.kind) (.int .i64 y.n) (.string ⟨y.s.toArray⟩) (.slice a4 y.keys.length c4) (.slice b4 y.l.length d4))
        have Z:=hidI (set_out2 (w:=w) (ok:=ok) (C:=WD.heap.size) (g:=(w.heap.size+1)) YI.out (bel_trans BC.out hHeld) (by omega) (by have:=SC.out;omega))
        go_simp
        refine hK.out _ _ ?_
        clear hK K
        try simp only[Act.put,List.setIfInBounds_toArray,List.set_cons_zero,List.set_cons_succ])
      | refine rdy [4] (by decide +kernel) ?_
      | fail)
     all_goals
      refine dn (by kernel_rfl) ?_
      clear n0 n1 n2 n3 n4 m0 m1 m2 m3 m4
      go_wp2_with fail
      obtain⟨z0,z1,z2,z3,z4,-⟩:=ZB.out.c
      refine bodyPost_ret (v:=.agg #[.int .i64 y.kind,.int .i64 y.n,.string ⟨y.s.toArray⟩,.slice a4 y.keys.length c4,.slice b4 y.l.length d4]) ?_ rfl ?_
      ·simp only[set5]at z0 z1 z2 z3 z4
       simp[results,Tryz.results60,go_sem,z0,z1,z2,z3,z4]
      ·exact⟨_,rfl,by rw[RES.out];exact Z.out.2,Z.out.1⟩
    ·have e1:((u.l.length:Int) == 0)=false:=by rw[beq_eq_false_iff_ne];have:=List.length_pos_iff.2 hul;omega
     have e3:(u.l.length == 0)=false:=by rw[beq_eq_false_iff_ne];have:=List.length_pos_iff.2 hul;omega
     obtain⟨y,hy⟩:∃ y,withV o n u=y:=⟨_,rfl⟩
     have HY:=hidI hy
     have RES:Hid (outF (n :: m :: ns) o=y):=hidI (by rw[<-hy];exact RM.out.2 hul)
     clear hy hul
     go_upto_region 7 with fail
     clear q0 q1 q2 q3 q4
     refine wp_region_T (fun wS=>Below WD.heap.size WD wS) [6] (by kernel_rfl) (bel_drewN _ 1) (fun hHeld=>?_)
     refine WT.out ?_
     refine tk (i:=0) (d:=36) (v:=?_) [5,6] rfl rfl (by decide +kernel) rfl (fun _ _ _ h=>h) hHeld ?_ ?_
     rotate_left
     ·intro wS hSw
      obtain⟨u0,u1,u2,u3,u4,-⟩:=(box_bel hSw VB.out).c
      have nm:=cell_bel hSw NC.out
      obtain⟨f0,f1,f2,f3,f4,-⟩:=(box_bel hSw UB.out).c
      go_simp
      all_goals with_reducible rfl
     simp only[aput,List.set]
     refine tk (i:=1) (d:=37) (v:=?_) [2,3,5,6] rfl rfl (by decide +kernel) rfl (fun _ _ _ h=>h) hHeld ?_ ?_
     rotate_left
     ·intro wS hSw
      go_simp
      all_goals with_reducible rfl
     simp only[aput,List.set]
     refine tk (i:=2) (d:=38) (v:=?_) [3,5,6] rfl rfl (by decide +kernel) rfl (fun _ _ _ h=>h) hHeld ?_ ?_
     rotate_left
     ·intro wS hSw
      go_simp
      all_goals with_reducible rfl
     simp only[aput,List.set]
     refine tk (i:=3) (d:=39) (v:=?_) [5,6] rfl rfl (by decide +kernel) rfl (fun _ _ _ h=>h) hHeld ?_ ?_
     rotate_left
     ·intro wS hSw
      obtain⟨u0,u1,u2,u3,u4,-⟩:=(box_bel hSw VB.out).c
      have nm:=cell_bel hSw NC.out
      obtain⟨f0,f1,f2,f3,f4,-⟩:=(box_bel hSw UB.out).c
      go_simp
      all_goals with_reducible rfl
     simp only[aput,List.set]
     refine tk (i:=4) (d:=40) (v:=?_) [5,6] rfl rfl (by decide +kernel) rfl (fun _ _ _ h=>h) hHeld ?_ ?_
     rotate_left
     ·intro wS hSw
      obtain⟨u0,u1,u2,u3,u4,-⟩:=(box_bel hSw VB.out).c
      have nm:=cell_bel hSw NC.out
      obtain⟨f0,f1,f2,f3,f4,-⟩:=(box_bel hSw UB.out).c
      go_simp
      all_goals with_reducible rfl
     simp only[aput,List.set]
     repeat' (first
      | exact nl
      |(refine cns (i:=5) (o:=_) rfl (fun K hK=>?_) ?_
        go_simp
        refine(with_is _ (okN (fun k=>ok k/\k < w.heap.size) wc.heap.size) o u _ _ n (by exact okn_low (OIX.out.bel hHeld)) (by exact UID.out.bel hHeld) PO.out LO.out NL.out).mono ?_
        rintro e w5q ⟨rv,rfl,hr5,hb5⟩
        rw[HY.out]at hr5
        obtain⟨a4,b4,c4,d4,rfl⟩:=hr5.form
        refine hK.out _ _ (bel_trans hHeld hb5) (fun hHeld2=>?_)
        have YI:Hid (In _ (lowN ok w.heap.size wc.heap.size) y _):=hidI (hr5.weak fun k hk=>by rcases hk with hk | hk;exact hk;exact Or.inr (Nat.le_trans SWD.out (Nat.le_trans hHeld.size hk)))
        clear hb5 hr5
        clear hK K
        replace hHeld:=hHeld2
        clear hHeld2
        try simp only[Act.put,List.setIfInBounds_toArray,List.set_cons_zero,List.set_cons_succ])
      |(refine lst (i:=6) (o:=_) (by decide +kernel) rfl (fun K hK=>?_)
        have HB:=hidI (box_bel hHeld RB.out)
        obtain⟨n0,n1,n2,n3,n4,m0,m1,m2,m3,m4⟩:=HB.out.c
        have ZB:=hidI (HB.out.set (.int .i64 y.kind) (.int .i64 y.n) (.string ⟨y.s.toArray⟩) (.slice a4 y.keys.length c4) (.slice b4 y.l.length d4))
        have Z:=hidI (set_out2 (w:=w) (ok:=ok) (C:=wc.heap.size) (g:=(w.heap.size+1)) YI.out (bel_trans BC.out hHeld) (by omega) (by have:=SCC.out;omega))
        go_simp
        refine hK.out _ _ ?_
        clear hK K
        try simp only[Act.put,List.setIfInBounds_toArray,List.set_cons_zero,List.set_cons_succ])
      | refine rdy [5] (by decide +kernel) ?_
      | fail)
     all_goals
      refine dn (by kernel_rfl) ?_
      clear n0 n1 n2 n3 n4 m0 m1 m2 m3 m4
      go_wp2_with fail
      obtain⟨z0,z1,z2,z3,z4,-⟩:=ZB.out.c
      refine bodyPost_ret (v:=.agg #[.int .i64 y.kind,.int .i64 y.n,.string ⟨y.s.toArray⟩,.slice a4 y.keys.length c4,.slice b4 y.l.length d4]) ?_ rfl ?_
      ·simp only[set5]at z0 z1 z2 z3 z4
       simp[results,Tryz.results60,go_sem,z0,z1,z2,z3,z4]
      ·exact⟨_,rfl,by rw[RES.out];exact Z.out.2,Z.out.1⟩
end Go.Proofs.YtmdemcjmcnfjmaaGreatDoor
namespace Go.Proofs.YtmdemcjmcnfjmaaGreatDoor
open Go.RowKit
def LaidW (w:World) (ok:Nat->Prop) (want:V) (L:List (List UInt8)) (la a5 b5:Option Addr) (lc c5 d5:Nat) (y:V) (a2 b2:Option Addr) (c2 d2:Nat) (wr:World):Prop:=wr.heap[w.heap.size]?=some (.cells #[.int .i64 want.kind,.int .i64 want.n,.string ⟨want.s.toArray⟩,.slice a5 want.keys.length c5,.slice b5 want.l.length d5,.slice la L.length lc] 53)/\BoxIs wr (w.heap.size+1) (.int .i64 y.kind) (.int .i64 y.n) (.string ⟨y.s.toArray⟩) (.slice a2 y.keys.length c2) (.slice b2 y.l.length d2)/\BoxIs wr (w.heap.size+2) (.int .i64 0) (.int .i64 0) (.string ⟨#[]⟩) (.slice none 0 0) (.slice none 0 0)/\Below w.heap.size w wr/\In wr (lowN ok w.heap.size (w.heap.size+3)) y (.agg #[.int .i64 y.kind,.int .i64 y.n,.string ⟨y.s.toArray⟩,.slice a2 y.keys.length c2,.slice b2 y.l.length d2])
theorem LaidW.bel {w wr wr':World} {ok:Nat->Prop} {want:V} {L:List (List UInt8)} {la a5 b5:Option Addr} {lc c5 d5:Nat} {y:V} {a2 b2:Option Addr} {c2 d2:Nat} (h:LaidW w ok want L la a5 b5 lc c5 d5 y a2 b2 c2 d2 wr) (hb:Below wr.heap.size wr wr'):LaidW w ok want L la a5 b5 lc c5 d5 y a2 b2 c2 d2 wr':=
 ⟨blk_bel hb h.1,box_bel hb h.2.1,box_bel hb h.2.2.1,bel_trans h.2.2.2.1 hb,h.2.2.2.2.bel hb⟩
theorem LaidW.put {w wr:World} {ok:Nat->Prop} {want:V} {L:List (List UInt8)} {la a5 b5:Option Addr} {lc c5 d5:Nat} {y z:V} {a2 b2 a4 b4:Option Addr} {c2 d2 c4 d4:Nat} (h:LaidW w ok want L la a5 b5 lc c5 d5 y a2 b2 c2 d2 wr) (hz:In wr (lowN ok w.heap.size (w.heap.size+3)) z (.agg #[.int .i64 z.kind,.int .i64 z.n,.string ⟨z.s.toArray⟩,.slice a4 z.keys.length c4,.slice b4 z.l.length d4])) :
 LaidW w ok want L la a5 b5 lc c5 d5 z a4 b4 c4 d4 (set5 wr (w.heap.size+1) (.int .i64 z.kind) (.int .i64 z.n) (.string ⟨z.s.toArray⟩) (.slice a4 z.keys.length c4) (.slice b4 z.l.length d4)):=by
 have gb:=set5_gb wr (w.heap.size+1) (.int .i64 z.kind) (.int .i64 z.n) (.string ⟨z.s.toArray⟩) (.slice a4 z.keys.length c4) (.slice b4 z.l.length d4)
 exact⟨(gb.block _ (Array.getElem?_eq_some_iff.1 h.1).1 (by simp)).trans h.1,h.2.1.set _ _ _ _ _,h.2.2.1.grown gb (by simp),bel_set5 h.2.2.2.1 (by omega) _ _ _ _ _,hz.box (by omega) (by omega) _ _ _ _ _⟩
theorem LaidW.size {w wr:World} {ok:Nat->Prop} {want:V} {L:List (List UInt8)} {la a5 b5:Option Addr} {lc c5 d5:Nat} {y:V} {a2 b2:Option Addr} {c2 d2:Nat} (h:LaidW w ok want L la a5 b5 lc c5 d5 y a2 b2 c2 d2 wr):w.heap.size+3<=wr.heap.size:=h.2.2.1.lt
theorem U_of {W:World} {ok:Nat->Prop} {B C:Nat} {z:V} {v:Value} (h:In W (okN (lowN ok B (B+3)) C) z v) (hC:B+3<=C):In W (lowN ok B (B+3)) z v:=h.weak fun k hk=>by
 rcases hk with hk | hk
 ·exact hk
 ·exact Or.inr (Nat.le_trans hC hk)
theorem U_low {W:World} {ok:Nat->Prop} {B C:Nat} {z:V} {v:Value} (h:In W (fun k=>ok k/\k < B) z v):In W (lowN ok B C) z v:=h.weak fun k hk=>.inl hk
attribute [local go_sem ↓] Go.wp_at_zero Go.wp_at_succ
set_option maxRecDepth 100000 in
set_option maxHeartbeats 8000000 in
theorem laidInto_at (w:World) (ok:Nat->Prop) (want t:V) (L:List (List UInt8)) (wv v:Value) (h:WishIs w ok want L wv) (ht:In w ok t v) (hM:GlobM w) (hob:Obs t) (hwo:Obs want) (hL:∀ p∈L,p.length<=140737488351232/\namesP p≠[]/\(namesP p).length+cnt ((thr (namesP p) want).getD zeroT)<=300) (hn:L.length<=200) (hc:cnt t<=20000) :
 Calls Tryz.prog 26 #[wv,v] w fun e w'=>∃ r,e=.returned r/\In w' (okN ok w.heap.size) (laidAllF want L t) r/\Below w.heap.size w w':=by
 obtain⟨a5,b5,la,c5,d5,lc,rfl,h1,h2⟩:=h
 obtain⟨a1,b1,c1,d1,rfl⟩:=ht.form
 have HT:=hidI ht.low
 have HW:=hidI h1.low
 have HLS:=hidI h2
 have GM:Hid (∀ W,Below w.heap.size w W->GlobM W):=hidI (fun W hW=>hM.bel hW)
 have HWO:=hidI hwo
 have HL:=hidI hL
 have HN:=hidI hn
 have ll:=h2.1
 unfold maxLen at ll
 have I0:Hid (∃ (y:V) (a2 b2:Option Addr) (c2 d2:Nat),Hid (laidAllF want L t=laidAllF want (L.drop 0) y/\Obs y/\cnt y<=20000+0 * 300)/\Hid (LaidW w ok want L la a5 b5 lc c5 d5 y a2 b2 c2 d2 (((w.alloc (.cells #[.int .i64 want.kind,.int .i64 want.n,.string ⟨want.s.toArray⟩,.slice a5 want.keys.length c5,.slice b5 want.l.length d5,.slice la L.length lc] 53)).alloc (.cells #[.int .i64 t.kind,.int .i64 t.n,.string ⟨t.s.toArray⟩,.slice a1 t.keys.length c1,.slice b1 t.l.length d1] 25)).alloc (.cells #[.int .i64 0,.int .i64 0,.string ⟨#[]⟩,.slice none 0 0,.slice none 0 0] 25)))):=hidI ⟨t,a1,b1,c1,d1,hidI ⟨rfl,hob,by omega⟩,hidI ⟨h3a _ _ _ _,h3b _ _ _ _,h3c _ _ _ _,bel_trans (bel_trans (bel_alloc _ _) (bel_alloc _ _)) (bel_alloc _ _),(U_low HT.out).bel (bel_trans (bel_trans (bel_alloc _ _) (bel_alloc _ _)) (bel_alloc _ _))⟩⟩
 clear h1 h2 ht hM hob hwo hL hn hc
 obtain⟨WV,hWV⟩:∃ W,W=((w.alloc (.cells #[.int .i64 want.kind,.int .i64 want.n,.string ⟨want.s.toArray⟩,.slice a5 want.keys.length c5,.slice b5 want.l.length d5,.slice la L.length lc] 53)).alloc (.cells #[.int .i64 t.kind,.int .i64 t.n,.string ⟨t.s.toArray⟩,.slice a1 t.keys.length c1,.slice b1 t.l.length d1] 25)).alloc (.cells #[.int .i64 0,.int .i64 0,.string ⟨#[]⟩,.slice none 0 0,.slice none 0 0] 25):=⟨_,rfl⟩
 rw[<-hWV]at I0
 have q5:WV.cell? ⟨w.heap.size,5,none⟩=some (.slice la L.length lc):=by
  obtain⟨_,_,_,_,_,-,h9⟩:=I0.out
  exact(box6 h9.out.1).2.2.2.2.2
 have HWV:=hidI hWV
 clear hWV
 go_enter Tryz.func26,Tryz.ntmps26
 go_upto_region 1 with fail
 rw[<-HWV.out]
 go_upto_region 2 with fail
 clear q5
 go_loopg [12] L.length (fun gk i wr=>∃ k:Nat,k<=L.length/\gk=L.length - k/\i=.int .i64 k/\∃ (y:V) (a2 b2:Option Addr) (c2 d2:Nat),Hid (laidAllF want L t=laidAllF want (L.drop k) y/\Obs y/\cnt y<=20000+k * 300)/\Hid (LaidW w ok want L la a5 b5 lc c5 d5 y a2 b2 c2 d2 wr))
 case atStart=>exact⟨0,Nat.zero_le _,rfl,rfl,I0.out⟩
 case round=>
  obtain⟨k,hk,hgk,rfl,y,a2,b2,c2,d2,IY,KR⟩:=hrel
  have GK:=hidI hgk
  clear hgk
  by_cases hlt:k < L.length
  ·obtain⟨b,off,rfl,j1,j2,hcl⟩:=strs_at HLS.out hlt
   unfold maxLen at j2
   have hcell:=cell_bel KR.out.2.2.2.1 hcl
   have w2:(k:Int) < (L.length:Int):=by omega
   have w3:(0:Int)<=(k:Int):=by omega
   obtain⟨hp1,hp2,hp3⟩:=HL.out L[k] (List.getElem_mem hlt)
   have FS:Hid (laidAllF want (L.drop k) y=laidAllF want (L.drop (k+1)) (laidF (namesP L[k]) y ((thr (namesP L[k]) want).getD zeroT))):=hidI (by rw[List.drop_eq_getElem_cons hlt];rfl)
   obtain⟨p,hp⟩:∃ p,L[k]=p:=⟨_,rfl⟩
   rw[hp]at hcell hp1 hp2 hp3 FS
   clear hp hcl
   obtain⟨x,hx⟩:∃ x,(thr (namesP p) want).getD zeroT=x:=⟨_,rfl⟩
   obtain⟨th,hth⟩:∃ x,(thr (namesP p) want).isSome=x:=⟨_,rfl⟩
   rw[hx]at hp3 FS
   obtain⟨z,hz⟩:∃ z,laidF (namesP p) y x=z:=⟨_,rfl⟩
   have HZ:=hidI hz
   have HPL:=hidI hp1
   have NNE:=hidI hp2
   have OX:Hid (Obs x):=hidI (by rw[<-hx];exact obs_thrD HWO.out _)
   have OY:=hidI IY.out.2.1
   have CY:Hid (cnt y<=90000):=hidI (by have:=IY.out.2.2;have:=HN.out;omega)
   have OZ:Hid (Obs z):=hidI (by rw[<-hz];exact obs_laid _ _ _ OY.out OX.out)
   have CZ:Hid (cnt z<=20000+(k+1) * 300):=hidI (by
    have h1:=cnt_laid (namesP p) y x
    have h2:=IY.out.2.2
    rw[hz]at h1
    omega)
   have HD:=hidI IY.out.1
   have ST:=hidI (standing_is wr (fun k=>ok k/\k < w.heap.size) want (.agg #[.int .i64 want.kind,.int .i64 want.n,.string ⟨want.s.toArray⟩,.slice a5 want.keys.length c5,.slice b5 want.l.length d5]) p (by exact HW.out.bel KR.out.2.2.2.1) hp1 (GM.out _ KR.out.2.2.2.1))
   rw[hx,hth]at ST
   clear hx hth hz hp1 hp2 hp3
   obtain⟨q0,q1,q2,q3,q4,q5⟩:=box6 KR.out.1
   go_upto_region 5 with (go_at_call 56;refine ST.out.mono ?_;rintro e w4 ⟨r,rfl,hb4,hr4⟩;obtain⟨a3,b3,c3,d3,rfl⟩:=hr4.form;have B4:=hidI hb4;have X4:=hidI hr4;clear hb4 hr4)
   clear q0 q1 q2 q3 q4 q5
   obtain⟨WX,hWX⟩:∃ W,W=w4.alloc (.cells #[.int .i64 x.kind,.int .i64 x.n,.string ⟨x.s.toArray⟩,.slice a3 x.keys.length c3,.slice b3 x.l.length d3] 25):=⟨_,rfl⟩
   have XB:Hid (BoxIs WX w4.heap.size (.int .i64 x.kind) (.int .i64 x.n) (.string ⟨x.s.toArray⟩) (.slice a3 x.keys.length c3) (.slice b3 x.l.length d3)):=hidI (by rw[hWX];exact heap_alloc_new _ _)
   have BX:Hid (Below wr.heap.size wr WX):=hidI (by rw[hWX];exact bel_trans B4.out (bel_alloc _ _))
   have XI:Hid (In WX (fun k=>ok k/\k < w.heap.size) x (.agg #[.int .i64 x.kind,.int .i64 x.n,.string ⟨x.s.toArray⟩,.slice a3 x.keys.length c3,.slice b3 x.l.length d3])):=hidI (by rw[hWX];exact X4.out.bel (bel_alloc _ _))
   have KX:=hidI (KR.out.bel BX.out)
   rw[<-hWX]
   clear hWX hcell
   refine wp_region_T (fun wS=>Below WX.heap.size WX wS) [5] (by kernel_rfl) (bel_drewN _ 1) (fun hHeld=>?_)
   refine WT.out ?_
   refine tk (i:=0) (d:=23) (v:=?_) [4,5] rfl rfl (by decide +kernel) rfl (fun _ _ _ h=>h) hHeld ?_ ?_
   rotate_left
   ·intro wS hSw
    obtain⟨u0,u1,u2,u3,u4,-⟩:=(KX.out.bel hSw).2.1.c
    obtain⟨f0,f1,f2,f3,f4,-⟩:=(box_bel hSw XB.out).c
    go_simp
    all_goals with_reducible rfl
   simp only[aput,List.set]
   refine tk (i:=1) (d:=24) (v:=?_) [2,4,5] rfl rfl (by decide +kernel) rfl (fun _ _ _ h=>h) hHeld ?_ ?_
   rotate_left
   ·intro wS hSw
    go_simp
    all_goals with_reducible rfl
   simp only[aput,List.set]
   refine tk (i:=3) (d:=26) (v:=?_) [4,5] rfl rfl (by decide +kernel) rfl (fun _ _ _ h=>h) hHeld ?_ ?_
   rotate_left
   ·intro wS hSw
    obtain⟨u0,u1,u2,u3,u4,-⟩:=(KX.out.bel hSw).2.1.c
    obtain⟨f0,f1,f2,f3,f4,-⟩:=(box_bel hSw XB.out).c
    go_simp
    all_goals with_reducible rfl
   simp only[aput,List.set]
   repeat' (first
    | exact nl
    |(refine cns (i:=2) (o:=_) rfl (fun K hK=>?_) ?_
      go_simp
      refine(namesOf_at _ p HPL.out (GM.out _ (bel_trans KX.out.2.2.2.1 hHeld))).mono ?_
      rintro e w2q ⟨na,nc,rfl,hns,hb5⟩
      refine hK.out _ _ (bel_trans hHeld hb5) (fun hHeld2=>?_)
      have NS:=hidI hns
      clear hb5 hns
      clear hK K
      replace hHeld:=hHeld2
      clear hHeld2
      try simp only[Act.put,List.setIfInBounds_toArray,List.set_cons_zero,List.set_cons_succ])
    |(refine cns (i:=4) (o:=_) rfl (fun K hK=>?_) ?_
      go_simp
      refine(owith_at (namesP p) _ (lowN ok w.heap.size (w.heap.size+3)) _ y x _ _ _ (by exact KX.out.2.2.2.2.bel hHeld) (by exact U_low (XI.out.bel hHeld)) (by exact NS.out) NNE.out OY.out CY.out).mono ?_
      rintro e w4q ⟨rv,rfl,hr5,hb5⟩
      rw[HZ.out]at hr5
      obtain⟨a4,b4,c4,d4,rfl⟩:=hr5.form
      refine hK.out _ _ (bel_trans hHeld hb5) (fun hHeld2=>?_)
      have ZI:=hidI (U_of hr5 (Nat.le_trans KX.out.size hHeld.size))
      clear hb5 hr5
      clear hK K
      replace hHeld:=hHeld2
      clear hHeld2
      try simp only[Act.put,List.setIfInBounds_toArray,List.set_cons_zero,List.set_cons_succ])
    |(refine lst (i:=5) (o:=_) (by decide +kernel) rfl (fun K hK=>?_)
      have K8:=hidI (KX.out.bel hHeld)
      obtain⟨n0,n1,n2,n3,n4,m0,m1,m2,m3,m4⟩:=K8.out.2.1.c
      have K9:=hidI (K8.out.put ZI.out)
      go_simp
      refine hK.out _ _ ?_
      clear hK K
      try simp only[Act.put,List.setIfInBounds_toArray,List.set_cons_zero,List.set_cons_succ])
    | refine rdy [2] (by decide +kernel) ?_
    | refine rdy [4] (by decide +kernel) ?_
    | fail)
   all_goals
    refine dn (by kernel_rfl) ?_
    clear n0 n1 n2 n3 n4 m0 m1 m2 m3 m4
    go_wp2_with fail
    go_roundg (L.length - (k+1))
    case measure=>rw[GK.out];omega
    case rel=>exact⟨k+1,hlt,rfl,by go_num,z,_,_,_,_,hidI ⟨by rw[HD.out,FS.out,HZ.out],OZ.out,CZ.out⟩,K9⟩
  ·have d9:¬(k:Int) < (L.length:Int):=by omega
   have RES:Hid (laidAllF want L t=y):=hidI (by rw[IY.out.1,List.drop_eq_nil_of_le (by omega)];rfl)
   obtain⟨v0,v1,v2,v3,v4,-⟩:=KR.out.2.1.c
   obtain⟨n0,n1,n2,n3,n4,m0,m1,m2,m3,m4⟩:=KR.out.2.2.1.c
   have ZB:=hidI (KR.out.2.2.1.set (.int .i64 y.kind) (.int .i64 y.n) (.string ⟨y.s.toArray⟩) (.slice a2 y.keys.length c2) (.slice b2 y.l.length d2))
   have Z:=hidI (set_out2 (w:=w) (ok:=ok) (C:=w.heap.size+3) (g:=w.heap.size+2) KR.out.2.2.2.2 KR.out.2.2.2.1 (by omega) (by omega))
   go_wp2_with fail
   obtain⟨z0,z1,z2,z3,z4,-⟩:=ZB.out.c
   refine bodyPost_ret (v:=.agg #[.int .i64 y.kind,.int .i64 y.n,.string ⟨y.s.toArray⟩,.slice a2 y.keys.length c2,.slice b2 y.l.length d2]) ?_ rfl ?_
   ·simp only[set5]at z0 z1 z2 z3 z4
    simp[results,Tryz.results26,go_sem,z0,z1,z2,z3,z4]
   ·exact⟨_,rfl,by rw[RES.out];exact Z.out.2,Z.out.1⟩
end Go.Proofs.YtmdemcjmcnfjmaaGreatDoor
namespace Go.Proofs.YtmdemcjmcnfjmaaGreatDoor
open Go.RowKit
attribute [local go_sem ↓] Go.wp_at_zero Go.wp_at_succ
set_option maxRecDepth 100000 in
set_option maxHeartbeats 8000000 in
theorem cleared_at (w:World) (ok okh oko:Nat->Prop) (want t:V) (L had:List (List UInt8)) (others:List Own) (wv v hv ov:Value) (h:WishIs w ok want L wv) (ht:In w ok t v) (hh:StrsAre w okh had hv) (ho:OwnsAre w oko others ov) (hM:GlobM w) (hob:Obs t) (hk5:t.kind=5) (hL:∀ p∈had,p.length<=140737488351232/\namesP p≠[]) (hr:Rises L) (hn:L.length < 4611686018427387904) (hc:cnt t<=20000) :
 Calls Tryz.prog 27 #[wv,v,hv,ov] w fun e w'=>∃ r,e=.returned r/\In w' (okN ok w.heap.size) (clearedF L others had t) r/\Below w.heap.size w w'/\Obs (clearedF L others had t)/\cnt (clearedF L others had t)<=20000/\(clearedF L others had t).kind=5:=by
 have HWI:=hidI h
 obtain⟨a5,b5,la,c5,d5,lc,rfl,h1,h2⟩:=h
 obtain⟨a1,b1,c1,d1,rfl⟩:=ht.form
 obtain⟨oa,oc,rfl⟩:=ho.form
 obtain⟨ha,hcp,rfl⟩:=hh.form
 have HT:=hidI ht.low
 have HHS:=hidI hh
 have HOS:=hidI ho
 have GM:Hid (∀ W,Below w.heap.size w W->GlobM W):=hidI (fun W hW=>hM.bel hW)
 have HL:=hidI hL
 have HR:=hidI hr
 have HN:=hidI hn
 have ll:=h2.1
 unfold maxLen at ll
 have lh:=hh.1
 unfold maxLen at lh
 have I0:Hid (∃ (y:V) (a2 b2:Option Addr) (c2 d2:Nat),Hid (clearedF L others had t=clearedF L others (had.drop 0) y/\Obs y/\cnt y<=20000/\y.kind=5)/\Hid (LaidW w ok want L la a5 b5 lc c5 d5 y a2 b2 c2 d2 (((w.alloc (.cells #[.int .i64 want.kind,.int .i64 want.n,.string ⟨want.s.toArray⟩,.slice a5 want.keys.length c5,.slice b5 want.l.length d5,.slice la L.length lc] 53)).alloc (.cells #[.int .i64 t.kind,.int .i64 t.n,.string ⟨t.s.toArray⟩,.slice a1 t.keys.length c1,.slice b1 t.l.length d1] 25)).alloc (.cells #[.int .i64 0,.int .i64 0,.string ⟨#[]⟩,.slice none 0 0,.slice none 0 0] 25)))):=hidI ⟨t,a1,b1,c1,d1,hidI ⟨rfl,hob,hc,hk5⟩,hidI ⟨h3a _ _ _ _,h3b _ _ _ _,h3c _ _ _ _,bel_trans (bel_trans (bel_alloc _ _) (bel_alloc _ _)) (bel_alloc _ _),(U_low HT.out).bel (bel_trans (bel_trans (bel_alloc _ _) (bel_alloc _ _)) (bel_alloc _ _))⟩⟩
 clear h1 h2 ht hM hob hL hn hc hk5 hr hh ho
 go_enter Tryz.func27,Tryz.ntmps27
 go_upto_region 2 with fail
 go_loopg [15] had.length (fun gk i wr=>∃ k:Nat,k<=had.length/\gk=had.length - k/\i=.int .i64 k/\∃ (y:V) (a2 b2:Option Addr) (c2 d2:Nat),Hid (clearedF L others had t=clearedF L others (had.drop k) y/\Obs y/\cnt y<=20000/\y.kind=5)/\Hid (LaidW w ok want L la a5 b5 lc c5 d5 y a2 b2 c2 d2 wr))
 case atStart=>exact⟨0,Nat.zero_le _,rfl,rfl,I0.out⟩
 case round=>
  obtain⟨k,hk,hgk,rfl,y,a2,b2,c2,d2,IY,KR⟩:=hrel
  have GK:=hidI hgk
  clear hgk
  by_cases hlt:k < had.length
  ·obtain⟨b,off,rfl,j1,j2,hcl⟩:=strs_at HHS.out hlt
   unfold maxLen at j2
   have hcell:=cell_bel KR.out.2.2.2.1 hcl
   have w2:(k:Int) < (had.length:Int):=by omega
   have w3:(0:Int)<=(k:Int):=by omega
   obtain⟨hp1,hp2⟩:=HL.out had[k] (List.getElem_mem hlt)
   have FS:Hid (clearedF L others (had.drop k) y=clearedF L others (had.drop (k+1)) (if ((thr (namesP had[k]) y).isSome&&!(L.contains had[k] || concF others had[k]))=true then outF (namesP had[k]) y else y)):=hidI (by rw[List.drop_eq_getElem_cons hlt];rfl)
   obtain⟨p,hp⟩:∃ p,had[k]=p:=⟨_,rfl⟩
   rw[hp]at hcell hp1 hp2 FS
   clear hp hcl
   have HPL:=hidI hp1
   have NNE:=hidI hp2
   have OY:=hidI IY.out.2.1
   have CY:Hid (cnt y<=90000):=hidI (by have:=IY.out.2.2.1;omega)
   have HD:=hidI IY.out.1
   have ST:=hidI (standing_is wr (lowN ok w.heap.size (w.heap.size+3)) y (.agg #[.int .i64 y.kind,.int .i64 y.n,.string ⟨y.s.toArray⟩,.slice a2 y.keys.length c2,.slice b2 y.l.length d2]) p (by exact KR.out.2.2.2.2) hp1 (GM.out _ KR.out.2.2.2.1))
   obtain⟨x,hx⟩:∃ x,(thr (namesP p) y).getD zeroT=x:=⟨_,rfl⟩
   obtain⟨th,hth⟩:∃ x,(thr (namesP p) y).isSome=x:=⟨_,rfl⟩
   rw[hx,hth]at ST
   rw[hth]at FS
   have HTH:=hidI hth
   have HLF:Hid (∀ W,Below w.heap.size w W->Calls Tryz.prog 51 #[.agg #[.int .i64 want.kind,.int .i64 want.n,.string ⟨want.s.toArray⟩,.slice a5 want.keys.length c5,.slice b5 want.l.length d5,.slice la L.length lc],.string ⟨p.toArray⟩] W fun e w'=>e=.returned (.bool (L.contains p))/\Below W.heap.size W w'):=hidI (fun W hW=>hasLeaf_at W ok want L _ p (HWI.out.bel hW) HR.out HN.out)
   have HCO:Hid (∀ W,Below w.heap.size w W->Calls Tryz.prog 59 #[.slice oa others.length oc,.string ⟨p.toArray⟩] W fun e w'=>e=.returned (.bool (concF others p))/\Below W.heap.size W w'):=hidI (fun W hW=>concerned_at W oko others _ p (HOS.out.bel hW))
   generalize L.contains p=o1 at FS HLF
   generalize concF others p=o2 at FS HCO
   clear hx hth hp1 hp2
   obtain⟨v0,v1,v2,v3,v4,-⟩:=KR.out.2.1.c
   go_upto_region 5 with (go_at_call 56;refine ST.out.mono ?_;rintro e w4 ⟨r,rfl,hb4,hr4⟩;obtain⟨a3,b3,c3,d3,rfl⟩:=hr4.form;have B4:=hidI hb4;clear hb4 hr4)
   clear v0 v1 v2 v3 v4
   obtain⟨WX,hWX⟩:∃ W,W=w4.alloc (.cells #[.int .i64 x.kind,.int .i64 x.n,.string ⟨x.s.toArray⟩,.slice a3 x.keys.length c3,.slice b3 x.l.length d3] 25):=⟨_,rfl⟩
   have BX:Hid (Below wr.heap.size wr WX):=hidI (by rw[hWX];exact bel_trans B4.out (bel_alloc _ _))
   have KA:=hidI (KR.out.bel BX.out)
   rw[<-hWX]
   clear hWX hcell
   obtain⟨q0,q1,q2,q3,q4,q5⟩:=box6 KA.out.1
   cases th with
   | false=>
    have COND:Hid (¬(false&&!(o1 || o2))=true):=hidI (by simp)
    go_wp2_with fail
    go_roundg (had.length - (k+1))
    case measure=>rw[GK.out];omega
    case rel=>exact⟨k+1,hlt,rfl,by go_num,y,_,_,_,_,hidI ⟨by rw[HD.out,FS.out,if_neg COND.out],OY.out,IY.out.2.2.1,IY.out.2.2.2⟩,KA⟩
   | true=>
    cases o1 with
    | true=>
     have COND:Hid (¬(true&&!(true || o2))=true):=hidI (by simp)
     go_wp2_with (go_at_call 51;refine(HLF.out _ KA.out.2.2.2.1).mono ?_;rintro e w5 ⟨rfl,hb5⟩;have K5:=hidI (KA.out.bel hb5);clear hb5)
     go_roundg (had.length - (k+1))
     case measure=>rw[GK.out];omega
     case rel=>exact⟨k+1,hlt,rfl,by go_num,y,_,_,_,_,hidI ⟨by rw[HD.out,FS.out,if_neg COND.out],OY.out,IY.out.2.2.1,IY.out.2.2.2⟩,K5⟩
    | false=>
     cases o2 with
     | true=>
      have COND:Hid (¬(true&&!(false || true))=true):=hidI (by simp)
      go_wp2_with (first
       |(go_at_call 51;refine(HLF.out _ KA.out.2.2.2.1).mono ?_;rintro e w5 ⟨rfl,hb5⟩;have K5:=hidI (KA.out.bel hb5);clear hb5)
       |(go_at_call 59;refine(HCO.out _ K5.out.2.2.2.1).mono ?_;rintro e w6 ⟨rfl,hb6⟩;have K6:=hidI (K5.out.bel hb6);clear hb6))
      go_roundg (had.length - (k+1))
      case measure=>rw[GK.out];omega
      case rel=>exact⟨k+1,hlt,rfl,by go_num,y,_,_,_,_,hidI ⟨by rw[HD.out,FS.out,if_neg COND.out],OY.out,IY.out.2.2.1,IY.out.2.2.2⟩,K6⟩
     | false=>
      have COND:Hid ((true&&!(false || false))=true):=hidI (by simp)
      have THY:Hid (∃ y9,thr (namesP p) y=some y9):=hidI (Option.isSome_iff_exists.1 HTH.out)
      obtain⟨z,hz⟩:∃ z,outF (namesP p) y=z:=⟨_,rfl⟩
      have HZ:=hidI hz
      have OUT:=obs_out (namesP p) y OY.out IY.out.2.2.2 THY.out
      have OZ:Hid (Obs z):=hidI (by rw[<-hz];exact OUT.1)
      have KZ:Hid (z.kind=5):=hidI (by rw[<-hz,OUT.2,if_neg NNE.out])
      have CZ:Hid (cnt z<=20000):=hidI (by rw[<-hz];exact Nat.le_trans (cnt_out _ _ THY.out) IY.out.2.2.1)
      clear OUT hz
      go_upto_region 6 with (first
       |(go_at_call 51;refine(HLF.out _ KA.out.2.2.2.1).mono ?_;rintro e w5 ⟨rfl,hb5⟩;have K5:=hidI (KA.out.bel hb5);clear hb5)
       |(go_at_call 59;refine(HCO.out _ K5.out.2.2.2.1).mono ?_;rintro e w6 ⟨rfl,hb6⟩;have KX:=hidI (K5.out.bel hb6);clear hb6))
      clear q0 q1 q2 q3 q4 q5
      refine wp_region_T (fun wS=>Below w6.heap.size w6 wS) [4] (by kernel_rfl) (bel_drewN _ 1) (fun hHeld=>?_)
      refine WT.out ?_
      refine tk (i:=0) (d:=37) (v:=?_) [3,4] rfl rfl (by decide +kernel) rfl (fun _ _ _ h=>h) hHeld ?_ ?_
      rotate_left
      ·intro wS hSw
       obtain⟨u0,u1,u2,u3,u4,-⟩:=(KX.out.bel hSw).2.1.c
       go_simp
       all_goals with_reducible rfl
      simp only[aput,List.set]
      refine tk (i:=1) (d:=38) (v:=?_) [2,3,4] rfl rfl (by decide +kernel) rfl (fun _ _ _ h=>h) hHeld ?_ ?_
      rotate_left
      ·intro wS hSw
       go_simp
       all_goals with_reducible rfl
      simp only[aput,List.set]
      repeat' (first
       | exact nl
       |(refine cns (i:=2) (o:=_) rfl (fun K hK=>?_) ?_
         go_simp
         refine(namesOf_at _ p HPL.out (GM.out _ (bel_trans KX.out.2.2.2.1 hHeld))).mono ?_
         rintro e w2q ⟨na,nc,rfl,hns,hb5⟩
         refine hK.out _ _ (bel_trans hHeld hb5) (fun hHeld2=>?_)
         have NS:=hidI hns
         clear hb5 hns
         clear hK K
         replace hHeld:=hHeld2
         clear hHeld2
         try simp only[Act.put,List.setIfInBounds_toArray,List.set_cons_zero,List.set_cons_succ])
       |(refine cns (i:=3) (o:=_) rfl (fun K hK=>?_) ?_
         go_simp
         refine(owithout_at (namesP p) _ (lowN ok w.heap.size (w.heap.size+3)) _ y _ _ (by exact KX.out.2.2.2.2.bel hHeld) (by exact NS.out) NNE.out OY.out THY.out CY.out).mono ?_
         rintro e w3q ⟨rv,rfl,hr5,hb5⟩
         rw[HZ.out]at hr5
         obtain⟨a4,b4,c4,d4,rfl⟩:=hr5.form
         refine hK.out _ _ (bel_trans hHeld hb5) (fun hHeld2=>?_)
         have ZI:=hidI (U_of hr5 (Nat.le_trans KX.out.size hHeld.size))
         clear hb5 hr5
         clear hK K
         replace hHeld:=hHeld2
         clear hHeld2
         try simp only[Act.put,List.setIfInBounds_toArray,List.set_cons_zero,List.set_cons_succ])
       |(refine lst (i:=4) (o:=_) (by decide +kernel) rfl (fun K hK=>?_)
         have K8:=hidI (KX.out.bel hHeld)
         obtain⟨n0,n1,n2,n3,n4,m0,m1,m2,m3,m4⟩:=K8.out.2.1.c
         have K9:=hidI (K8.out.put ZI.out)
         go_simp
         refine hK.out _ _ ?_
         clear hK K
         try simp only[Act.put,List.setIfInBounds_toArray,List.set_cons_zero,List.set_cons_succ])
       | refine rdy [2] (by decide +kernel) ?_
       | refine rdy [3] (by decide +kernel) ?_
       | fail)
      all_goals
       refine dn (by kernel_rfl) ?_
       clear n0 n1 n2 n3 n4 m0 m1 m2 m3 m4
       go_wp2_with fail
       go_roundg (had.length - (k+1))
       case measure=>rw[GK.out];omega
       case rel=>exact⟨k+1,hlt,rfl,by go_num,z,_,_,_,_,hidI ⟨by rw[HD.out,FS.out,if_pos COND.out,HZ.out],OZ.out,CZ.out,KZ.out⟩,K9⟩
  ·have d9:¬(k:Int) < (had.length:Int):=by omega
   have RES:Hid (clearedF L others had t=y):=hidI (by rw[IY.out.1,List.drop_eq_nil_of_le (by omega)];rfl)
   obtain⟨v0,v1,v2,v3,v4,-⟩:=KR.out.2.1.c
   obtain⟨n0,n1,n2,n3,n4,m0,m1,m2,m3,m4⟩:=KR.out.2.2.1.c
   have ZB:=hidI (KR.out.2.2.1.set (.int .i64 y.kind) (.int .i64 y.n) (.string ⟨y.s.toArray⟩) (.slice a2 y.keys.length c2) (.slice b2 y.l.length d2))
   have Z:=hidI (set_out2 (w:=w) (ok:=ok) (C:=w.heap.size+3) (g:=w.heap.size+2) KR.out.2.2.2.2 KR.out.2.2.2.1 (by omega) (by omega))
   go_wp2_with fail
   obtain⟨z0,z1,z2,z3,z4,-⟩:=ZB.out.c
   refine bodyPost_ret (v:=.agg #[.int .i64 y.kind,.int .i64 y.n,.string ⟨y.s.toArray⟩,.slice a2 y.keys.length c2,.slice b2 y.l.length d2]) ?_ rfl ?_
   ·simp only[set5]at z0 z1 z2 z3 z4
    simp[results,Tryz.results27,go_sem,z0,z1,z2,z3,z4]
   ·exact⟨_,rfl,by rw[RES.out];exact Z.out.2,Z.out.1,by rw[RES.out];exact IY.out.2⟩
end Go.Proofs.YtmdemcjmcnfjmaaGreatDoor
namespace Go.Proofs.YtmdemcjmcnfjmaaGreatDoor
open Go.RowKit
set_option maxRecDepth 100000 in
set_option maxHeartbeats 4000000 in
theorem apply1_at (W:World) (ok ok':Nat->Prop) (who:List UInt8) (want t:V) (L:List (List UInt8)) (g2 g9 g4:Nat) (a1 a2 a3 b1 b2:Option Addr) (c1 c2 c3 d1 d2:Nat) (n p:List UInt8)
 (hc:CapI W ok ok' who want t L g2 g9 g4 a1 a2 a3 b1 b2 c1 c2 c3 d1 d2) (hp:p.length<=140737488351232) :
 Calls Tryz.prog 24 #[.string ⟨n.toArray⟩,.string ⟨p.toArray⟩,.pointer (some ⟨g2,0,none⟩),.pointer (some ⟨g9,0,none⟩),.pointer (some ⟨g4,0,none⟩)] W fun e w'=>e=.returned (.bool (n != who&&!blockedF want t L p))/\Below W.heap.size W w':=by
 have BK:=hidI (hc.blocked p hp)
 have q9:=hc.who
 obtain⟨x0,x1,x2,x3,x4,x5⟩:=box6 hc.wish
 obtain⟨y0,y1,y2,y3,y4,-⟩:=hc.val.c
 clear hc
 generalize blockedF want t L p=o at BK ⊢
 by_cases hn:n=who
 ·have R:Hid ((n != who&&!o)=false):=hidI (by simp[hn])
  subst hn
  go_enter Tryz.func24,Tryz.ntmps24
  go_wp2_with fail
  go_ret
  exact⟨by rw[R.out];first | done | rfl | simp,Below.refl _ _⟩
 ·have e9:(n == who)=false:=by simpa using hn
  have R:Hid ((n != who&&!o)=!o):=hidI (by simp[hn])
  go_enter Tryz.func24,Tryz.ntmps24
  go_wp2_with (go_at_call 25;refine BK.out.mono ?_;rintro e w1 ⟨rfl,hb⟩;have B1:=hidI hb;clear hb)
  go_ret
  exact⟨by rw[R.out];first | done | rfl | simp,B1.out⟩
theorem apply1_enters:∀ args w,(callFunc 24 args).run Tryz.prog w=.ok (.enter 24 args) w:=enters_of Tryz.func24 (by kernel_rfl) rfl
end Go.Proofs.YtmdemcjmcnfjmaaGreatDoor
namespace Go.Proofs.YtmdemcjmcnfjmaaGreatDoor
open Go.RowKit
def ApplyIs (w w':World) (ok:Nat->Prop) (A:V × List Own × List (List UInt8 × List UInt8) × Int) (e:Ending):Prop:=∃ r ro rc,e=.returned (.tuple #[r,ro,rc,.int .i64 A.2.2.2])/\In w' (okN ok w.heap.size) A.1 r/\OwnsAre w' (okN ok w.heap.size) A.2.1 ro/\w'.ownsRow w.heap.size 85 2 rc A.2.2.1.length (cCells A.2.2.1)/\Below w.heap.size w w'
theorem OwnsAre.belB {w w':World} {ok:Nat->Prop} {B:Nat} {xs:List Own} {v:Value} (h:OwnsAre w ok xs v) (hok:∀ k,ok k->k < B) (hb:Below B w w'):OwnsAre w' ok xs v:=
 h.imp fun a x h1 h2=>⟨h1,(World.cell?_of_block (hb.block _ (hok _ h1))).trans h2⟩
theorem h4z (w:World) (o1 o2 o3 o4:Obj) {k:Nat} {o:Obj} (h:(((w.alloc o1).alloc o2).alloc o3).heap[k]?=some o):((((w.alloc o1).alloc o2).alloc o3).alloc o4).heap[k]?=some o:=blk_bel (bel_alloc _ _) h
theorem h4dO (w:World) (o1 o2 o3 o4:Obj):((((w.alloc o1).alloc o2).alloc o3).alloc o4).heap[w.heap.size+3]?=some o4:=by
 have:=heap_alloc_new (((w.alloc o1).alloc o2).alloc o3) o4
 simpa using this
set_option maxRecDepth 100000 in
set_option maxHeartbeats 4000000 in
theorem apply_bad1 (w:World) (ok:Nat->Prop) (t want:V) (l:List Own) (who:List UInt8) (force:Bool) (vt vl vw:Value) (ht:In w ok t vt) (hl:OwnsAre w ok l vl) (hw:In w ok want vw) (hM:GlobM w) (hN:(allOf l).length<=4000000) (hP:∀ o∈l,∀ x∈o.paths,x.length<=140737488351232) (hwho:who.length<=9223372036854775807) (hg1:(decide (t.kind=5)&&goodV t)=false) :
 Calls Tryz.prog 6 #[vt,vl,.string ⟨who.toArray⟩,vw,.bool force] w fun e w'=>ApplyIs w w' ok (applyF t l who want force) e:=by
 have R:Hid (applyF t l who want force=(t,l,[],1)):=hidI (by unfold applyF;rw[if_neg (by intro h;obtain⟨⟨h1,h2⟩,⟨h3,h4⟩,h5,h6⟩:=h;simp[h1,h2]at hg1)])
 have HT:=hidI ht.low
 have HL:=hidI hl.low
 have HW:=hidI hw.low
 have HM:=hidI hM
 have HN:=hidI hN
 have HP:=hidI hP
 obtain⟨b1,b2,d1,d2,rfl⟩:=ht.form
 obtain⟨a1,a2,c1,c2,rfl⟩:=hw.form
 obtain⟨la,lc,rfl⟩:=hl.form
 have ll:=hl.1
 unfold maxLen at ll
 clear ht hl hw hM hN hP
 obtain⟨W3,hW3⟩:∃ W,W=(((w.alloc (.cells #[.int .i64 t.kind,.int .i64 t.n,.string ⟨t.s.toArray⟩,.slice b1 t.keys.length d1,.slice b2 t.l.length d2] 25)).alloc (.cells #[.string ⟨who.toArray⟩] 9)).alloc (.cells #[.int .i64 want.kind,.int .i64 want.n,.string ⟨want.s.toArray⟩,.slice a1 want.keys.length c1,.slice a2 want.l.length c2] 25)).alloc (.cells #[.int .i64 0,.int .i64 0,.string ⟨#[]⟩,.slice none 0 0,.slice none 0 0] 25):=⟨_,rfl⟩
 have BW:Hid (Below w.heap.size w W3):=hidI (by rw[hW3];exact bel_trans (bel_trans (bel_trans (bel_alloc _ _) (bel_alloc _ _)) (bel_alloc _ _)) (bel_alloc _ _))
 have X1:Hid (BoxIs W3 w.heap.size (.int .i64 t.kind) (.int .i64 t.n) (.string ⟨t.s.toArray⟩) (.slice b1 t.keys.length d1) (.slice b2 t.l.length d2)):=hidI (by rw[hW3];exact h4z _ _ _ _ _ (h3a _ _ _ _))
 have X2:Hid (W3.heap[w.heap.size+1]?=some (.cells #[.string ⟨who.toArray⟩] 9)):=hidI (by rw[hW3];exact h4z _ _ _ _ _ (h3b _ _ _ _))
 have X3:Hid (BoxIs W3 (w.heap.size+2) (.int .i64 want.kind) (.int .i64 want.n) (.string ⟨want.s.toArray⟩) (.slice a1 want.keys.length c1) (.slice a2 want.l.length c2)):=hidI (by rw[hW3];exact h4z _ _ _ _ _ (h3c _ _ _ _))
 have X4:Hid (BoxIs W3 (w.heap.size+3) (.int .i64 0) (.int .i64 0) (.string ⟨#[]⟩) (.slice none 0 0) (.slice none 0 0)):=hidI (by rw[hW3];exact h4dO _ _ _ _ _)
 have HW3:=hidI hW3
 clear hW3
 have G1:Hid (∀ W,Below w.heap.size w W->Calls Tryz.prog 19 #[.agg #[.int .i64 t.kind,.int .i64 t.n,.string ⟨t.s.toArray⟩,.slice b1 t.keys.length d1,.slice b2 t.l.length d2]] W fun e w'=>e=.returned (.bool (decide (t.kind=5)&&goodV t))/\Below W.heap.size W w'):=hidI (fun W hW=>goodObject_at W _ t _ (HT.out.bel hW))
 have G2:Hid (∀ W,Below w.heap.size w W->Calls Tryz.prog 19 #[.agg #[.int .i64 want.kind,.int .i64 want.n,.string ⟨want.s.toArray⟩,.slice a1 want.keys.length c1,.slice a2 want.l.length c2]] W fun e w'=>e=.returned (.bool (decide (want.kind=5)&&goodV want))/\Below W.heap.size W w'):=hidI (fun W hW=>goodObject_at W _ want _ (HW.out.bel hW))
 have G3:Hid (∀ W,Below w.heap.size w W->Calls Tryz.prog 12 #[.slice la l.length lc] W fun e w'=>e=.returned (.bool (goodOs l))/\Below W.heap.size W w'):=hidI (fun W hW=>goodOwners_at W _ l _ (HL.out.bel hW) HP.out (HM.out.bel hW))
 have G4:Hid (∀ W,Below w.heap.size w W->Calls Tryz.prog 20 #[.string ⟨who.toArray⟩] W fun e w'=>e=.returned (.bool (namedB who))/\Below W.heap.size W w'):=hidI (fun W _=>(named_at W who hwho).mono fun e w' h=>⟨h.1,h.2 ▸ Below.refl _ _⟩)
 rw[hg1]at G1
 clear hg1
 obtain⟨o0,o1,o2,o3,o4,-⟩:=X1.out.c
 go_enter Tryz.func6,Tryz.ntmps6
 go_upto_region 1 with fail
 rw[<-HW3.out]
 go_upto_region 2 with (first
  |(go_at_call 19;refine(G1.out _ BW.out).mono ?_;rintro e w1 ⟨rfl,hb⟩;have B1:=hidI (bel_trans BW.out hb);have Y1:=hidI hb;clear hb;skip))
 clear o0 o1 o2 o3 o4
 obtain⟨v0,v1,v2,v3,v4,-⟩:=(box_bel Y1.out X1.out).c
 obtain⟨n0,n1,n2,n3,n4,m0,m1,m2,m3,m4⟩:=(box_bel Y1.out X4.out).c
 have ZB:=hidI ((box_bel Y1.out X4.out).set (.int .i64 t.kind) (.int .i64 t.n) (.string ⟨t.s.toArray⟩) (.slice b1 t.keys.length d1) (.slice b2 t.l.length d2))
 have BF:=hidI (bel_set5 (g:=w.heap.size+3) B1.out (by omega) (.int .i64 t.kind) (.int .i64 t.n) (.string ⟨t.s.toArray⟩) (.slice b1 t.keys.length d1) (.slice b2 t.l.length d2))
 go_wp2_with fail
 obtain⟨z0,z1,z2,z3,z4,-⟩:=ZB.out.c
 refine bodyPost_ret (v:=.tuple #[.agg #[.int .i64 t.kind,.int .i64 t.n,.string ⟨t.s.toArray⟩,.slice b1 t.keys.length d1,.slice b2 t.l.length d2],.slice la l.length lc,.slice none 0 0,.int .i64 1]) ?_ rfl ?_
 ·simp only[set5]at z0 z1 z2 z3 z4
  simp[results,Tryz.results6,go_sem,z0,z1,z2,z3,z4]
 ·rw[ApplyIs,R.out]
  exact⟨_,_,_,rfl,(HT.out.belB (fun k h=>h.2) BF.out).weak fun k h=>.inl h.1,(HL.out.belB (fun k h=>h.2) BF.out).weak fun k h=>.inl h.1,World.ownsRow_nil _ _ _ _,BF.out⟩
set_option maxRecDepth 100000 in
set_option maxHeartbeats 4000000 in
theorem apply_bad2 (w:World) (ok:Nat->Prop) (t want:V) (l:List Own) (who:List UInt8) (force:Bool) (vt vl vw:Value) (ht:In w ok t vt) (hl:OwnsAre w ok l vl) (hw:In w ok want vw) (hM:GlobM w) (hN:(allOf l).length<=4000000) (hP:∀ o∈l,∀ x∈o.paths,x.length<=140737488351232) (hwho:who.length<=9223372036854775807) (hg1:(decide (t.kind=5)&&goodV t)=true) (hg2:(decide (want.kind=5)&&goodV want)=false) :
 Calls Tryz.prog 6 #[vt,vl,.string ⟨who.toArray⟩,vw,.bool force] w fun e w'=>ApplyIs w w' ok (applyF t l who want force) e:=by
 have R:Hid (applyF t l who want force=(t,l,[],1)):=hidI (by unfold applyF;rw[if_neg (by intro h;obtain⟨⟨h1,h2⟩,⟨h3,h4⟩,h5,h6⟩:=h;simp[h3,h4]at hg2)])
 have HT:=hidI ht.low
 have HL:=hidI hl.low
 have HW:=hidI hw.low
 have HM:=hidI hM
 have HN:=hidI hN
 have HP:=hidI hP
 obtain⟨b1,b2,d1,d2,rfl⟩:=ht.form
 obtain⟨a1,a2,c1,c2,rfl⟩:=hw.form
 obtain⟨la,lc,rfl⟩:=hl.form
 have ll:=hl.1
 unfold maxLen at ll
 clear ht hl hw hM hN hP
 obtain⟨W3,hW3⟩:∃ W,W=(((w.alloc (.cells #[.int .i64 t.kind,.int .i64 t.n,.string ⟨t.s.toArray⟩,.slice b1 t.keys.length d1,.slice b2 t.l.length d2] 25)).alloc (.cells #[.string ⟨who.toArray⟩] 9)).alloc (.cells #[.int .i64 want.kind,.int .i64 want.n,.string ⟨want.s.toArray⟩,.slice a1 want.keys.length c1,.slice a2 want.l.length c2] 25)).alloc (.cells #[.int .i64 0,.int .i64 0,.string ⟨#[]⟩,.slice none 0 0,.slice none 0 0] 25):=⟨_,rfl⟩
 have BW:Hid (Below w.heap.size w W3):=hidI (by rw[hW3];exact bel_trans (bel_trans (bel_trans (bel_alloc _ _) (bel_alloc _ _)) (bel_alloc _ _)) (bel_alloc _ _))
 have X1:Hid (BoxIs W3 w.heap.size (.int .i64 t.kind) (.int .i64 t.n) (.string ⟨t.s.toArray⟩) (.slice b1 t.keys.length d1) (.slice b2 t.l.length d2)):=hidI (by rw[hW3];exact h4z _ _ _ _ _ (h3a _ _ _ _))
 have X2:Hid (W3.heap[w.heap.size+1]?=some (.cells #[.string ⟨who.toArray⟩] 9)):=hidI (by rw[hW3];exact h4z _ _ _ _ _ (h3b _ _ _ _))
 have X3:Hid (BoxIs W3 (w.heap.size+2) (.int .i64 want.kind) (.int .i64 want.n) (.string ⟨want.s.toArray⟩) (.slice a1 want.keys.length c1) (.slice a2 want.l.length c2)):=hidI (by rw[hW3];exact h4z _ _ _ _ _ (h3c _ _ _ _))
 have X4:Hid (BoxIs W3 (w.heap.size+3) (.int .i64 0) (.int .i64 0) (.string ⟨#[]⟩) (.slice none 0 0) (.slice none 0 0)):=hidI (by rw[hW3];exact h4dO _ _ _ _ _)
 have HW3:=hidI hW3
 clear hW3
 have G1:Hid (∀ W,Below w.heap.size w W->Calls Tryz.prog 19 #[.agg #[.int .i64 t.kind,.int .i64 t.n,.string ⟨t.s.toArray⟩,.slice b1 t.keys.length d1,.slice b2 t.l.length d2]] W fun e w'=>e=.returned (.bool (decide (t.kind=5)&&goodV t))/\Below W.heap.size W w'):=hidI (fun W hW=>goodObject_at W _ t _ (HT.out.bel hW))
 have G2:Hid (∀ W,Below w.heap.size w W->Calls Tryz.prog 19 #[.agg #[.int .i64 want.kind,.int .i64 want.n,.string ⟨want.s.toArray⟩,.slice a1 want.keys.length c1,.slice a2 want.l.length c2]] W fun e w'=>e=.returned (.bool (decide (want.kind=5)&&goodV want))/\Below W.heap.size W w'):=hidI (fun W hW=>goodObject_at W _ want _ (HW.out.bel hW))
 have G3:Hid (∀ W,Below w.heap.size w W->Calls Tryz.prog 12 #[.slice la l.length lc] W fun e w'=>e=.returned (.bool (goodOs l))/\Below W.heap.size W w'):=hidI (fun W hW=>goodOwners_at W _ l _ (HL.out.bel hW) HP.out (HM.out.bel hW))
 have G4:Hid (∀ W,Below w.heap.size w W->Calls Tryz.prog 20 #[.string ⟨who.toArray⟩] W fun e w'=>e=.returned (.bool (namedB who))/\Below W.heap.size W w'):=hidI (fun W _=>(named_at W who hwho).mono fun e w' h=>⟨h.1,h.2 ▸ Below.refl _ _⟩)
 rw[hg1]at G1
 rw[hg2]at G2
 clear hg1 hg2
 obtain⟨o0,o1,o2,o3,o4,-⟩:=X1.out.c
 go_enter Tryz.func6,Tryz.ntmps6
 go_upto_region 1 with fail
 rw[<-HW3.out]
 go_upto_region 2 with (first
  |(go_at_call 19;refine(G2.out _ B1.out).mono ?_;rintro e w2 ⟨rfl,hb⟩;have B2:=hidI (bel_trans B1.out hb);have Y2:=hidI (bel_trans Y1.out hb);clear hb;skip)
  |(go_at_call 19;refine(G1.out _ BW.out).mono ?_;rintro e w1 ⟨rfl,hb⟩;have B1:=hidI (bel_trans BW.out hb);have Y1:=hidI hb;clear hb;obtain⟨p0,p1,p2,p3,p4,-⟩:=(box_bel Y1.out X3.out).c;skip))
 clear o0 o1 o2 o3 o4
 obtain⟨v0,v1,v2,v3,v4,-⟩:=(box_bel Y2.out X1.out).c
 obtain⟨n0,n1,n2,n3,n4,m0,m1,m2,m3,m4⟩:=(box_bel Y2.out X4.out).c
 have ZB:=hidI ((box_bel Y2.out X4.out).set (.int .i64 t.kind) (.int .i64 t.n) (.string ⟨t.s.toArray⟩) (.slice b1 t.keys.length d1) (.slice b2 t.l.length d2))
 have BF:=hidI (bel_set5 (g:=w.heap.size+3) B2.out (by omega) (.int .i64 t.kind) (.int .i64 t.n) (.string ⟨t.s.toArray⟩) (.slice b1 t.keys.length d1) (.slice b2 t.l.length d2))
 go_wp2_with fail
 obtain⟨z0,z1,z2,z3,z4,-⟩:=ZB.out.c
 refine bodyPost_ret (v:=.tuple #[.agg #[.int .i64 t.kind,.int .i64 t.n,.string ⟨t.s.toArray⟩,.slice b1 t.keys.length d1,.slice b2 t.l.length d2],.slice la l.length lc,.slice none 0 0,.int .i64 1]) ?_ rfl ?_
 ·simp only[set5]at z0 z1 z2 z3 z4
  simp[results,Tryz.results6,go_sem,z0,z1,z2,z3,z4]
 ·rw[ApplyIs,R.out]
  exact⟨_,_,_,rfl,(HT.out.belB (fun k h=>h.2) BF.out).weak fun k h=>.inl h.1,(HL.out.belB (fun k h=>h.2) BF.out).weak fun k h=>.inl h.1,World.ownsRow_nil _ _ _ _,BF.out⟩
set_option maxRecDepth 100000 in
set_option maxHeartbeats 4000000 in
theorem apply_bad3 (w:World) (ok:Nat->Prop) (t want:V) (l:List Own) (who:List UInt8) (force:Bool) (vt vl vw:Value) (ht:In w ok t vt) (hl:OwnsAre w ok l vl) (hw:In w ok want vw) (hM:GlobM w) (hN:(allOf l).length<=4000000) (hP:∀ o∈l,∀ x∈o.paths,x.length<=140737488351232) (hwho:who.length<=9223372036854775807) (hg1:(decide (t.kind=5)&&goodV t)=true) (hg2:(decide (want.kind=5)&&goodV want)=true) (hg3:goodOs l=false) :
 Calls Tryz.prog 6 #[vt,vl,.string ⟨who.toArray⟩,vw,.bool force] w fun e w'=>ApplyIs w w' ok (applyF t l who want force) e:=by
 have R:Hid (applyF t l who want force=(t,l,[],1)):=hidI (by unfold applyF;rw[if_neg (by intro h;obtain⟨⟨h1,h2⟩,⟨h3,h4⟩,h5,h6⟩:=h;simp[h5]at hg3)])
 have HT:=hidI ht.low
 have HL:=hidI hl.low
 have HW:=hidI hw.low
 have HM:=hidI hM
 have HN:=hidI hN
 have HP:=hidI hP
 obtain⟨b1,b2,d1,d2,rfl⟩:=ht.form
 obtain⟨a1,a2,c1,c2,rfl⟩:=hw.form
 obtain⟨la,lc,rfl⟩:=hl.form
 have ll:=hl.1
 unfold maxLen at ll
 clear ht hl hw hM hN hP
 obtain⟨W3,hW3⟩:∃ W,W=(((w.alloc (.cells #[.int .i64 t.kind,.int .i64 t.n,.string ⟨t.s.toArray⟩,.slice b1 t.keys.length d1,.slice b2 t.l.length d2] 25)).alloc (.cells #[.string ⟨who.toArray⟩] 9)).alloc (.cells #[.int .i64 want.kind,.int .i64 want.n,.string ⟨want.s.toArray⟩,.slice a1 want.keys.length c1,.slice a2 want.l.length c2] 25)).alloc (.cells #[.int .i64 0,.int .i64 0,.string ⟨#[]⟩,.slice none 0 0,.slice none 0 0] 25):=⟨_,rfl⟩
 have BW:Hid (Below w.heap.size w W3):=hidI (by rw[hW3];exact bel_trans (bel_trans (bel_trans (bel_alloc _ _) (bel_alloc _ _)) (bel_alloc _ _)) (bel_alloc _ _))
 have X1:Hid (BoxIs W3 w.heap.size (.int .i64 t.kind) (.int .i64 t.n) (.string ⟨t.s.toArray⟩) (.slice b1 t.keys.length d1) (.slice b2 t.l.length d2)):=hidI (by rw[hW3];exact h4z _ _ _ _ _ (h3a _ _ _ _))
 have X2:Hid (W3.heap[w.heap.size+1]?=some (.cells #[.string ⟨who.toArray⟩] 9)):=hidI (by rw[hW3];exact h4z _ _ _ _ _ (h3b _ _ _ _))
 have X3:Hid (BoxIs W3 (w.heap.size+2) (.int .i64 want.kind) (.int .i64 want.n) (.string ⟨want.s.toArray⟩) (.slice a1 want.keys.length c1) (.slice a2 want.l.length c2)):=hidI (by rw[hW3];exact h4z _ _ _ _ _ (h3c _ _ _ _))
 have X4:Hid (BoxIs W3 (w.heap.size+3) (.int .i64 0) (.int .i64 0) (.string ⟨#[]⟩) (.slice none 0 0) (.slice none 0 0)):=hidI (by rw[hW3];exact h4dO _ _ _ _ _)
 have HW3:=hidI hW3
 clear hW3
 have G1:Hid (∀ W,Below w.heap.size w W->Calls Tryz.prog 19 #[.agg #[.int .i64 t.kind,.int .i64 t.n,.string ⟨t.s.toArray⟩,.slice b1 t.keys.length d1,.slice b2 t.l.length d2]] W fun e w'=>e=.returned (.bool (decide (t.kind=5)&&goodV t))/\Below W.heap.size W w'):=hidI (fun W hW=>goodObject_at W _ t _ (HT.out.bel hW))
 have G2:Hid (∀ W,Below w.heap.size w W->Calls Tryz.prog 19 #[.agg #[.int .i64 want.kind,.int .i64 want.n,.string ⟨want.s.toArray⟩,.slice a1 want.keys.length c1,.slice a2 want.l.length c2]] W fun e w'=>e=.returned (.bool (decide (want.kind=5)&&goodV want))/\Below W.heap.size W w'):=hidI (fun W hW=>goodObject_at W _ want _ (HW.out.bel hW))
 have G3:Hid (∀ W,Below w.heap.size w W->Calls Tryz.prog 12 #[.slice la l.length lc] W fun e w'=>e=.returned (.bool (goodOs l))/\Below W.heap.size W w'):=hidI (fun W hW=>goodOwners_at W _ l _ (HL.out.bel hW) HP.out (HM.out.bel hW))
 have G4:Hid (∀ W,Below w.heap.size w W->Calls Tryz.prog 20 #[.string ⟨who.toArray⟩] W fun e w'=>e=.returned (.bool (namedB who))/\Below W.heap.size W w'):=hidI (fun W _=>(named_at W who hwho).mono fun e w' h=>⟨h.1,h.2 ▸ Below.refl _ _⟩)
 rw[hg1]at G1
 rw[hg2]at G2
 rw[hg3]at G3
 clear hg1 hg2 hg3
 obtain⟨o0,o1,o2,o3,o4,-⟩:=X1.out.c
 go_enter Tryz.func6,Tryz.ntmps6
 go_upto_region 1 with fail
 rw[<-HW3.out]
 go_upto_region 2 with (first
  |(go_at_call 12;refine(G3.out _ B2.out).mono ?_;rintro e w3 ⟨rfl,hb⟩;have B3:=hidI (bel_trans B2.out hb);have Y3:=hidI (bel_trans Y2.out hb);clear hb;skip)
  |(go_at_call 19;refine(G2.out _ B1.out).mono ?_;rintro e w2 ⟨rfl,hb⟩;have B2:=hidI (bel_trans B1.out hb);have Y2:=hidI (bel_trans Y1.out hb);clear hb;skip)
  |(go_at_call 19;refine(G1.out _ BW.out).mono ?_;rintro e w1 ⟨rfl,hb⟩;have B1:=hidI (bel_trans BW.out hb);have Y1:=hidI hb;clear hb;obtain⟨p0,p1,p2,p3,p4,-⟩:=(box_bel Y1.out X3.out).c;skip))
 clear o0 o1 o2 o3 o4
 obtain⟨v0,v1,v2,v3,v4,-⟩:=(box_bel Y3.out X1.out).c
 obtain⟨n0,n1,n2,n3,n4,m0,m1,m2,m3,m4⟩:=(box_bel Y3.out X4.out).c
 have ZB:=hidI ((box_bel Y3.out X4.out).set (.int .i64 t.kind) (.int .i64 t.n) (.string ⟨t.s.toArray⟩) (.slice b1 t.keys.length d1) (.slice b2 t.l.length d2))
 have BF:=hidI (bel_set5 (g:=w.heap.size+3) B3.out (by omega) (.int .i64 t.kind) (.int .i64 t.n) (.string ⟨t.s.toArray⟩) (.slice b1 t.keys.length d1) (.slice b2 t.l.length d2))
 go_wp2_with fail
 obtain⟨z0,z1,z2,z3,z4,-⟩:=ZB.out.c
 refine bodyPost_ret (v:=.tuple #[.agg #[.int .i64 t.kind,.int .i64 t.n,.string ⟨t.s.toArray⟩,.slice b1 t.keys.length d1,.slice b2 t.l.length d2],.slice la l.length lc,.slice none 0 0,.int .i64 1]) ?_ rfl ?_
 ·simp only[set5]at z0 z1 z2 z3 z4
  simp[results,Tryz.results6,go_sem,z0,z1,z2,z3,z4]
 ·rw[ApplyIs,R.out]
  exact⟨_,_,_,rfl,(HT.out.belB (fun k h=>h.2) BF.out).weak fun k h=>.inl h.1,(HL.out.belB (fun k h=>h.2) BF.out).weak fun k h=>.inl h.1,World.ownsRow_nil _ _ _ _,BF.out⟩
set_option maxRecDepth 100000 in
set_option maxHeartbeats 4000000 in
theorem apply_bad4 (w:World) (ok:Nat->Prop) (t want:V) (l:List Own) (who:List UInt8) (force:Bool) (vt vl vw:Value) (ht:In w ok t vt) (hl:OwnsAre w ok l vl) (hw:In w ok want vw) (hM:GlobM w) (hN:(allOf l).length<=4000000) (hP:∀ o∈l,∀ x∈o.paths,x.length<=140737488351232) (hwho:who.length<=9223372036854775807) (hg1:(decide (t.kind=5)&&goodV t)=true) (hg2:(decide (want.kind=5)&&goodV want)=true) (hg3:goodOs l=true) (hg4:namedB who=false) :
 Calls Tryz.prog 6 #[vt,vl,.string ⟨who.toArray⟩,vw,.bool force] w fun e w'=>ApplyIs w w' ok (applyF t l who want force) e:=by
 have R:Hid (applyF t l who want force=(t,l,[],1)):=hidI (by unfold applyF;rw[if_neg (by intro h;obtain⟨⟨h1,h2⟩,⟨h3,h4⟩,h5,h6⟩:=h;simp[h6]at hg4)])
 have HT:=hidI ht.low
 have HL:=hidI hl.low
 have HW:=hidI hw.low
 have HM:=hidI hM
 have HN:=hidI hN
 have HP:=hidI hP
 obtain⟨b1,b2,d1,d2,rfl⟩:=ht.form
 obtain⟨a1,a2,c1,c2,rfl⟩:=hw.form
 obtain⟨la,lc,rfl⟩:=hl.form
 have ll:=hl.1
 unfold maxLen at ll
 clear ht hl hw hM hN hP
 obtain⟨W3,hW3⟩:∃ W,W=(((w.alloc (.cells #[.int .i64 t.kind,.int .i64 t.n,.string ⟨t.s.toArray⟩,.slice b1 t.keys.length d1,.slice b2 t.l.length d2] 25)).alloc (.cells #[.string ⟨who.toArray⟩] 9)).alloc (.cells #[.int .i64 want.kind,.int .i64 want.n,.string ⟨want.s.toArray⟩,.slice a1 want.keys.length c1,.slice a2 want.l.length c2] 25)).alloc (.cells #[.int .i64 0,.int .i64 0,.string ⟨#[]⟩,.slice none 0 0,.slice none 0 0] 25):=⟨_,rfl⟩
 have BW:Hid (Below w.heap.size w W3):=hidI (by rw[hW3];exact bel_trans (bel_trans (bel_trans (bel_alloc _ _) (bel_alloc _ _)) (bel_alloc _ _)) (bel_alloc _ _))
 have X1:Hid (BoxIs W3 w.heap.size (.int .i64 t.kind) (.int .i64 t.n) (.string ⟨t.s.toArray⟩) (.slice b1 t.keys.length d1) (.slice b2 t.l.length d2)):=hidI (by rw[hW3];exact h4z _ _ _ _ _ (h3a _ _ _ _))
 have X2:Hid (W3.heap[w.heap.size+1]?=some (.cells #[.string ⟨who.toArray⟩] 9)):=hidI (by rw[hW3];exact h4z _ _ _ _ _ (h3b _ _ _ _))
 have X3:Hid (BoxIs W3 (w.heap.size+2) (.int .i64 want.kind) (.int .i64 want.n) (.string ⟨want.s.toArray⟩) (.slice a1 want.keys.length c1) (.slice a2 want.l.length c2)):=hidI (by rw[hW3];exact h4z _ _ _ _ _ (h3c _ _ _ _))
 have X4:Hid (BoxIs W3 (w.heap.size+3) (.int .i64 0) (.int .i64 0) (.string ⟨#[]⟩) (.slice none 0 0) (.slice none 0 0)):=hidI (by rw[hW3];exact h4dO _ _ _ _ _)
 have HW3:=hidI hW3
 clear hW3
 have G1:Hid (∀ W,Below w.heap.size w W->Calls Tryz.prog 19 #[.agg #[.int .i64 t.kind,.int .i64 t.n,.string ⟨t.s.toArray⟩,.slice b1 t.keys.length d1,.slice b2 t.l.length d2]] W fun e w'=>e=.returned (.bool (decide (t.kind=5)&&goodV t))/\Below W.heap.size W w'):=hidI (fun W hW=>goodObject_at W _ t _ (HT.out.bel hW))
 have G2:Hid (∀ W,Below w.heap.size w W->Calls Tryz.prog 19 #[.agg #[.int .i64 want.kind,.int .i64 want.n,.string ⟨want.s.toArray⟩,.slice a1 want.keys.length c1,.slice a2 want.l.length c2]] W fun e w'=>e=.returned (.bool (decide (want.kind=5)&&goodV want))/\Below W.heap.size W w'):=hidI (fun W hW=>goodObject_at W _ want _ (HW.out.bel hW))
 have G3:Hid (∀ W,Below w.heap.size w W->Calls Tryz.prog 12 #[.slice la l.length lc] W fun e w'=>e=.returned (.bool (goodOs l))/\Below W.heap.size W w'):=hidI (fun W hW=>goodOwners_at W _ l _ (HL.out.bel hW) HP.out (HM.out.bel hW))
 have G4:Hid (∀ W,Below w.heap.size w W->Calls Tryz.prog 20 #[.string ⟨who.toArray⟩] W fun e w'=>e=.returned (.bool (namedB who))/\Below W.heap.size W w'):=hidI (fun W _=>(named_at W who hwho).mono fun e w' h=>⟨h.1,h.2 ▸ Below.refl _ _⟩)
 rw[hg1]at G1
 rw[hg2]at G2
 rw[hg3]at G3
 rw[hg4]at G4
 clear hg1 hg2 hg3 hg4
 obtain⟨o0,o1,o2,o3,o4,-⟩:=X1.out.c
 go_enter Tryz.func6,Tryz.ntmps6
 go_upto_region 1 with fail
 rw[<-HW3.out]
 go_upto_region 2 with (first
  |(go_at_call 20;refine(G4.out _ B3.out).mono ?_;rintro e w4 ⟨rfl,hb⟩;have B4:=hidI (bel_trans B3.out hb);have Y4:=hidI (bel_trans Y3.out hb);clear hb;skip)
  |(go_at_call 12;refine(G3.out _ B2.out).mono ?_;rintro e w3 ⟨rfl,hb⟩;have B3:=hidI (bel_trans B2.out hb);have Y3:=hidI (bel_trans Y2.out hb);clear hb;have u0:w3.cell? ⟨w.heap.size+1,0,none⟩=some (.string ⟨who.toArray⟩):=(by have h9:=blk_bel Y3.out X2.out;simp[World.cell?,h9]);skip)
  |(go_at_call 19;refine(G2.out _ B1.out).mono ?_;rintro e w2 ⟨rfl,hb⟩;have B2:=hidI (bel_trans B1.out hb);have Y2:=hidI (bel_trans Y1.out hb);clear hb;skip)
  |(go_at_call 19;refine(G1.out _ BW.out).mono ?_;rintro e w1 ⟨rfl,hb⟩;have B1:=hidI (bel_trans BW.out hb);have Y1:=hidI hb;clear hb;obtain⟨p0,p1,p2,p3,p4,-⟩:=(box_bel Y1.out X3.out).c;skip))
 clear o0 o1 o2 o3 o4
 obtain⟨v0,v1,v2,v3,v4,-⟩:=(box_bel Y4.out X1.out).c
 obtain⟨n0,n1,n2,n3,n4,m0,m1,m2,m3,m4⟩:=(box_bel Y4.out X4.out).c
 have ZB:=hidI ((box_bel Y4.out X4.out).set (.int .i64 t.kind) (.int .i64 t.n) (.string ⟨t.s.toArray⟩) (.slice b1 t.keys.length d1) (.slice b2 t.l.length d2))
 have BF:=hidI (bel_set5 (g:=w.heap.size+3) B4.out (by omega) (.int .i64 t.kind) (.int .i64 t.n) (.string ⟨t.s.toArray⟩) (.slice b1 t.keys.length d1) (.slice b2 t.l.length d2))
 go_wp2_with fail
 obtain⟨z0,z1,z2,z3,z4,-⟩:=ZB.out.c
 refine bodyPost_ret (v:=.tuple #[.agg #[.int .i64 t.kind,.int .i64 t.n,.string ⟨t.s.toArray⟩,.slice b1 t.keys.length d1,.slice b2 t.l.length d2],.slice la l.length lc,.slice none 0 0,.int .i64 1]) ?_ rfl ?_
 ·simp only[set5]at z0 z1 z2 z3 z4
  simp[results,Tryz.results6,go_sem,z0,z1,z2,z3,z4]
 ·rw[ApplyIs,R.out]
  exact⟨_,_,_,rfl,(HT.out.belB (fun k h=>h.2) BF.out).weak fun k h=>.inl h.1,(HL.out.belB (fun k h=>h.2) BF.out).weak fun k h=>.inl h.1,World.ownsRow_nil _ _ _ _,BF.out⟩
end Go.Proofs.YtmdemcjmcnfjmaaGreatDoor
namespace Go.Proofs.YtmdemcjmcnfjmaaGreatDoor
open Go.RowKit
set_option maxRecDepth 100000 in
set_option maxHeartbeats 4000000 in
theorem apply_conf (w:World) (ok:Nat->Prop) (t want:V) (l:List Own) (who:List UInt8) (force:Bool) (vt vl vw:Value) (ht:In w ok t vt) (hl:OwnsAre w ok l vl) (hw:In w ok want vw) (hM:GlobM w) (hN:(allOf l).length<=4000000) (hP:∀ o∈l,∀ x∈o.paths,x.length<=140737488351232) (hwho:who.length<=9223372036854775807) (hg1:(decide (t.kind=5)&&goodV t)=true) (hg2:(decide (want.kind=5)&&goodV want)=true) (hg3:goodOs l=true) (hg4:namedB who=true) (hf:foundF (blockedF want t (leavesF want)) who l≠[]) (hfo:force=false) :
 Calls Tryz.prog 6 #[vt,vl,.string ⟨who.toArray⟩,vw,.bool force] w fun e w'=>ApplyIs w w' ok (applyF t l who want force) e:=by
 have CC:Hid (confF t l who want=foundF (blockedF want t (leavesF want)) who l):=hidI (by rw[confF,if_pos ⟨by simpa using (Bool.and_eq_true_iff.1 hg1).2,hg3⟩])
 obtain⟨nf,hnf⟩:∃ nf,(foundF (blockedF want t (leavesF want)) who l).length=nf:=⟨_,rfl⟩
 have NF:=hidI hnf
 have R:Hid (applyF t l who want force=(t,l,foundF (blockedF want t (leavesF want)) who l,5)):=hidI (by unfold applyF;rw[if_pos ⟨by simpa using hg1,by simpa using hg2,hg3,hg4⟩,if_pos ⟨hf,hfo⟩])
 have q0:(0:Int) < (nf:Int):=by
  have:nf≠0:=fun e=>hf (List.length_eq_zero_iff.1 (hnf.trans e))
  omega
 subst hfo
 clear hf hnf
 have HT:=hidI ht.low
 have HL:=hidI hl.low
 have HW:=hidI hw.low
 have HM:=hidI hM
 have HN:=hidI hN
 have HP:=hidI hP
 obtain⟨b1,b2,d1,d2,rfl⟩:=ht.form
 obtain⟨a1,a2,c1,c2,rfl⟩:=hw.form
 obtain⟨la,lc,rfl⟩:=hl.form
 have ll:=hl.1
 unfold maxLen at ll
 clear ht hl hw hM hN hP
 obtain⟨W3,hW3⟩:∃ W,W=(((w.alloc (.cells #[.int .i64 t.kind,.int .i64 t.n,.string ⟨t.s.toArray⟩,.slice b1 t.keys.length d1,.slice b2 t.l.length d2] 25)).alloc (.cells #[.string ⟨who.toArray⟩] 9)).alloc (.cells #[.int .i64 want.kind,.int .i64 want.n,.string ⟨want.s.toArray⟩,.slice a1 want.keys.length c1,.slice a2 want.l.length c2] 25)).alloc (.cells #[.int .i64 0,.int .i64 0,.string ⟨#[]⟩,.slice none 0 0,.slice none 0 0] 25):=⟨_,rfl⟩
 have BW:Hid (Below w.heap.size w W3):=hidI (by rw[hW3];exact bel_trans (bel_trans (bel_trans (bel_alloc _ _) (bel_alloc _ _)) (bel_alloc _ _)) (bel_alloc _ _))
 have X1:Hid (BoxIs W3 w.heap.size (.int .i64 t.kind) (.int .i64 t.n) (.string ⟨t.s.toArray⟩) (.slice b1 t.keys.length d1) (.slice b2 t.l.length d2)):=hidI (by rw[hW3];exact h4z _ _ _ _ _ (h3a _ _ _ _))
 have X2:Hid (W3.heap[w.heap.size+1]?=some (.cells #[.string ⟨who.toArray⟩] 9)):=hidI (by rw[hW3];exact h4z _ _ _ _ _ (h3b _ _ _ _))
 have X3:Hid (BoxIs W3 (w.heap.size+2) (.int .i64 want.kind) (.int .i64 want.n) (.string ⟨want.s.toArray⟩) (.slice a1 want.keys.length c1) (.slice a2 want.l.length c2)):=hidI (by rw[hW3];exact h4z _ _ _ _ _ (h3c _ _ _ _))
 have X4:Hid (BoxIs W3 (w.heap.size+3) (.int .i64 0) (.int .i64 0) (.string ⟨#[]⟩) (.slice none 0 0) (.slice none 0 0)):=hidI (by rw[hW3];exact h4dO _ _ _ _ _)
 have HW3:=hidI hW3
 clear hW3
 have G1:Hid (∀ W,Below w.heap.size w W->Calls Tryz.prog 19 #[.agg #[.int .i64 t.kind,.int .i64 t.n,.string ⟨t.s.toArray⟩,.slice b1 t.keys.length d1,.slice b2 t.l.length d2]] W fun e w'=>e=.returned (.bool (decide (t.kind=5)&&goodV t))/\Below W.heap.size W w'):=hidI (fun W hW=>goodObject_at W _ t _ (HT.out.bel hW))
 have G2:Hid (∀ W,Below w.heap.size w W->Calls Tryz.prog 19 #[.agg #[.int .i64 want.kind,.int .i64 want.n,.string ⟨want.s.toArray⟩,.slice a1 want.keys.length c1,.slice a2 want.l.length c2]] W fun e w'=>e=.returned (.bool (decide (want.kind=5)&&goodV want))/\Below W.heap.size W w'):=hidI (fun W hW=>goodObject_at W _ want _ (HW.out.bel hW))
 have G3:Hid (∀ W,Below w.heap.size w W->Calls Tryz.prog 12 #[.slice la l.length lc] W fun e w'=>e=.returned (.bool (goodOs l))/\Below W.heap.size W w'):=hidI (fun W hW=>goodOwners_at W _ l _ (HL.out.bel hW) HP.out (HM.out.bel hW))
 have G4:Hid (∀ W,Below w.heap.size w W->Calls Tryz.prog 20 #[.string ⟨who.toArray⟩] W fun e w'=>e=.returned (.bool (namedB who))/\Below W.heap.size W w'):=hidI (fun W _=>(named_at W who hwho).mono fun e w' h=>⟨h.1,h.2 ▸ Below.refl _ _⟩)
 have SW:Hid (w.heap.size+4<=W3.heap.size):=hidI (by have:=(Array.getElem?_eq_some_iff.1 X4.out).1;omega)
 rw[hg1]at G1
 rw[hg2]at G2
 rw[hg3]at G3
 rw[hg4]at G4
 clear hg1 hg2 hg3 hg4
 obtain⟨o0,o1,o2,o3,o4,-⟩:=X1.out.c
 go_enter Tryz.func6,Tryz.ntmps6
 go_upto_region 1 with fail
 rw[<-HW3.out]
 go_upto_region 3 with (first
  |(go_at_call 20;refine(G4.out _ B3.out).mono ?_;rintro e w4 ⟨rfl,hb⟩;have B4:=hidI (bel_trans B3.out hb);have Y4:=hidI (bel_trans Y3.out hb);clear hb;skip)
  |(go_at_call 12;refine(G3.out _ B2.out).mono ?_;rintro e w3 ⟨rfl,hb⟩;have B3:=hidI (bel_trans B2.out hb);have Y3:=hidI (bel_trans Y2.out hb);clear hb;have u0:w3.cell? ⟨w.heap.size+1,0,none⟩=some (.string ⟨who.toArray⟩):=(by have h9:=blk_bel Y3.out X2.out;simp[World.cell?,h9]);skip)
  |(go_at_call 19;refine(G2.out _ B1.out).mono ?_;rintro e w2 ⟨rfl,hb⟩;have B2:=hidI (bel_trans B1.out hb);have Y2:=hidI (bel_trans Y1.out hb);clear hb;skip)
  |(go_at_call 19;refine(G1.out _ BW.out).mono ?_;rintro e w1 ⟨rfl,hb⟩;have B1:=hidI (bel_trans BW.out hb);have Y1:=hidI hb;clear hb;obtain⟨p0,p1,p2,p3,p4,-⟩:=(box_bel Y1.out X3.out).c;skip))
 clear o0 o1 o2 o3 o4 p0 p1 p2 p3 p4 u0
 obtain⟨o0,o1,o2,o3,o4,-⟩:=(box_bel Y4.out X1.out).c
 obtain⟨p0,p1,p2,p3,p4,-⟩:=(box_bel Y4.out X3.out).c
 have u0:w4.cell? ⟨w.heap.size+1,0,none⟩=some (.string ⟨who.toArray⟩):=(by have h9:=blk_bel Y4.out X2.out;simp[World.cell?,h9])
 have CF:Hid (Calls Tryz.prog 21 #[.agg #[.int .i64 t.kind,.int .i64 t.n,.string ⟨t.s.toArray⟩,.slice b1 t.keys.length d1,.slice b2 t.l.length d2],.slice la l.length lc,.string ⟨who.toArray⟩,.agg #[.int .i64 want.kind,.int .i64 want.n,.string ⟨want.s.toArray⟩,.slice a1 want.keys.length c1,.slice a2 want.l.length c2]] w4 fun e w'=>∃ ra rc,e=.returned (.slice ra nf rc)/\w'.ownsRow w4.heap.size 85 2 (.slice ra nf rc) (foundF (blockedF want t (leavesF want)) who l).length (cCells (foundF (blockedF want t (leavesF want)) who l))/\Below w4.heap.size w4 w'):=hidI (by
  refine(conflicts_at w4 _ _ _ t want l who _ _ _ (HT.out.bel B4.out) (HL.out.bel B4.out) (HW.out.bel B4.out) (HM.out.bel B4.out) HN.out HP.out).mono ?_
  rintro e w' ⟨r,rfl,h1,h2⟩
  rw[CC.out]at h1
  rcases h1.2 with⟨rfl,h9⟩ | ⟨g,cap,cur,rfl,h9⟩
  ·exact⟨none,0,by rw[<-NF.out,h9],by rw[<-NF.out];rw[h9]at h1 ⊢;exact h1,h2⟩
  ·exact⟨_,_,by rw[NF.out],by rw[<-NF.out];exact h1,h2⟩)
 go_upto_region 5 with (go_at_call 21;refine CF.out.mono ?_;rintro e w5 ⟨ra,rc,rfl,hrow,hb⟩;have B5:=hidI (bel_trans B4.out hb);have Y5:=hidI (bel_trans Y4.out hb);have ROW:=hidI hrow;have S4:=hidI (Nat.le_trans (show w.heap.size+4<=W3.heap.size from SW.out) Y4.out.size);clear hb hrow)
 clear o0 o1 o2 o3 o4 p0 p1 p2 p3 p4 u0
 obtain⟨v0,v1,v2,v3,v4,-⟩:=(box_bel Y5.out X1.out).c
 obtain⟨n0,n1,n2,n3,n4,m0,m1,m2,m3,m4⟩:=(box_bel Y5.out X4.out).c
 have ZB:=hidI ((box_bel Y5.out X4.out).set (.int .i64 t.kind) (.int .i64 t.n) (.string ⟨t.s.toArray⟩) (.slice b1 t.keys.length d1) (.slice b2 t.l.length d2))
 have BF:=hidI (bel_set5 (g:=w.heap.size+3) B5.out (by omega) (.int .i64 t.kind) (.int .i64 t.n) (.string ⟨t.s.toArray⟩) (.slice b1 t.keys.length d1) (.slice b2 t.l.length d2))
 go_wp2_with fail
 obtain⟨z0,z1,z2,z3,z4,-⟩:=ZB.out.c
 refine bodyPost_ret (v:=.tuple #[.agg #[.int .i64 t.kind,.int .i64 t.n,.string ⟨t.s.toArray⟩,.slice b1 t.keys.length d1,.slice b2 t.l.length d2],.slice la l.length lc,.slice ra nf rc,.int .i64 5]) ?_ rfl ?_
 ·simp only[set5]at z0 z1 z2 z3 z4
  simp[results,Tryz.results6,go_sem,z0,z1,z2,z3,z4]
 ·rw[ApplyIs,R.out]
  exact⟨_,_,_,rfl,(HT.out.belB (fun k h=>h.2) BF.out).weak fun k h=>.inl h.1,(HL.out.belB (fun k h=>h.2) BF.out).weak fun k h=>.inl h.1,own_base (own_same ROW.out fun g hg=>(set5_gb _ _ _ _ _ _ _).block g (own_lt ROW.out hg).2 (by have h8:=(own_lt ROW.out hg).1;have h9:=S4.out;intro e;cases e;omega)) (by have h9:=S4.out;omega),BF.out⟩
end Go.Proofs.YtmdemcjmcnfjmaaGreatDoor
