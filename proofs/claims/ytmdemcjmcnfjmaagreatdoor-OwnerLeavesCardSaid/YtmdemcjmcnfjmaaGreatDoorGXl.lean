/- What change of package point does. -/
import Derived.Test.YtmdemcjmcnfjmaaGreatDoorGXj
import Derived.Test.YtmdemcjmcnfjmaaGreatDoorGOq
set_option linter.unusedSimpArgs false
set_option linter.unusedVariables false
namespace Go.Proofs.YtmdemcjmcnfjmaaGreatDoor
open Go.RowKit
set_option maxRecDepth 100000 in
set_option maxHeartbeats 40000000 in
theorem changeA (gh gx:Nat) (how:V->List UInt8->Option V) (w0:World) (base:Nat->Prop) (hH:HowA gh gx how w0 base) (w:World) (ok:Nat->Prop) (t:V) (v:Value) (p:List UInt8) (hw0:Below w0.heap.size w0 w) (hbase:∀ k,base k->ok k/\k < w0.heap.size)
 (h:In w ok t v) (hp:p.length<=140737488351232) (hM:GlobM w) :
 Calls Tryz.prog 76 #[v,str p,.func (.func 77) #[] #[.pointer (some ⟨gh,0,none⟩),.pointer (some ⟨gx,0,none⟩)]] w fun e w'=>∃ r,e=.returned (.tuple #[r,.int .i64 (changeR how (splitP p) t).2])/\Below w.heap.size w w'/\In w' (okN ok w.heap.size) (changeR how (splitP p) t).1 r:=by
 have H:=hidI h.low
 have HW:=hidI hw0
 have HB:=hidI hbase
 have HH:=hidI hH
 have HMM:=hidI hM
 obtain⟨l1,l2,l3⟩:=h.lens
 obtain⟨a1,a2,c1,c2,rfl⟩:=h.form
 clear h hw0 hbase hH hM
 go_enter Tryz.func76,Tryz.ntmps76
 go_wp2_with fail
 refine(split_all _ p hp (by exact HMM.out.bel (bel_trans (bel_alloc _ _) (bel_alloc _ _)))).mono ?_
 rintro e w1 ⟨ns,ee,na,nc,rfl,hsp,hns,hb1⟩
 have SP:=hidI hsp
 have nlen:=hns.1
 unfold maxLen at nlen
 have K1:Hid (BoxIs w1 w.heap.size (.int .i64 t.kind) (.int .i64 t.n) (.string ⟨t.s.toArray⟩) (.slice a1 t.keys.length c1) (.slice a2 t.l.length c2)/\BoxIs w1 (w.heap.size+1) (.int .i64 0) (.int .i64 0) (.string ⟨#[]⟩) (.slice none 0 0) (.slice none 0 0)/\Below w.heap.size w w1/\StrsAre w1 (fun k=>(((w.alloc _).alloc _).heap.size<=k)) ns (.slice na ns.length nc)):=⟨box_bel hb1 (h2a w _ _),box_bel hb1 (h2b w _ _),bel_trans (bel_trans (bel_alloc _ _) (bel_alloc _ _)) hb1,hns⟩
 clear hb1 hns hsp
 by_cases he:ee=0
 ·subst he
  cases ns with
  | nil=>
   obtain⟨p0,p1,p2,p3,p4,-⟩:=(K1.out.1).c
   obtain⟨x0,x1,x2,x3,x4,y0,y1,y2,y3,y4⟩:=(K1.out.2.1).c
   have Z:Hid (_/\_):=hidI (set_out (C:=(w1).heap.size) (g:=w.heap.size+1) ((H.out.bel K1.out.2.2.1).weak (lowN_low (C:=(w1).heap.size))) K1.out.2.2.1 (by omega) (K1.out.2.1).lt)
   have ZB:Hid _:=hidI ((K1.out.2.1).set (.int .i64 t.kind) (.int .i64 t.n) (.string ⟨t.s.toArray⟩) (.slice a1 t.keys.length c1) (.slice a2 t.l.length c2))
   have HA:Hid (changeR how (splitP p) t=(t,1)):=hidI (by rw[SP.out];rfl)
   clear K1
   go_wp2_with fail
   obtain⟨z0,z1,z2,z3,z4,-⟩:=ZB.out.c
   refine bodyPost_ret (v:=.tuple #[.agg #[.int .i64 t.kind,.int .i64 t.n,.string ⟨t.s.toArray⟩,.slice a1 t.keys.length c1,.slice a2 t.l.length c2],.int .i64 1]) ?_ rfl ?_
   ·simp only[set5]at z0 z1 z2 z3 z4
    simp[results,Tryz.results76,go_sem,z0,z1,z2,z3,z4]
   ·refine⟨_,by rw[HA.out],Z.out.1,?_⟩
    rw[HA.out]
    exact Z.out.2
  | cons s rs=>
   have e1:(((rs.length:Int)+1) == 0)=false:=by rw[beq_eq_false_iff_ne];omega
   simp only[List.length_cons]at nlen ⊢
   obtain⟨p0,p1,p2,p3,p4,-⟩:=K1.out.1.c
   go_wp2_with fail
   refine(good_is _ (fun k=>ok k/\k < w.heap.size) t _ (by exact H.out.bel K1.out.2.2.1)).mono ?_
   rintro e w2 ⟨rfl,hb2⟩
   have K2:Hid (BoxIs w2 w.heap.size (.int .i64 t.kind) (.int .i64 t.n) (.string ⟨t.s.toArray⟩) (.slice a1 t.keys.length c1) (.slice a2 t.l.length c2)/\BoxIs w2 (w.heap.size+1) (.int .i64 0) (.int .i64 0) (.string ⟨#[]⟩) (.slice none 0 0) (.slice none 0 0)/\Below w.heap.size w w2/\StrsAre w2 (fun k=>(((w.alloc (.cells #[] 0)).alloc (.cells #[] 0)).heap.size<=k)) (s :: rs) (.slice na (rs.length+1) nc)):=⟨box_bel hb2 K1.out.1,box_bel hb2 K1.out.2.1,bel_trans K1.out.2.2.1 hb2,by have:=K1.out.2.2.2.bel hb2;simpa using this⟩
   clear hb2 p0 p1 p2 p3 p4 K1
   cases hg:goodV t with
   | false=>
    obtain⟨p0,p1,p2,p3,p4,-⟩:=(K2.out.1).c
    obtain⟨x0,x1,x2,x3,x4,y0,y1,y2,y3,y4⟩:=(K2.out.2.1).c
    have Z:Hid (_/\_):=hidI (set_out (C:=(w2).heap.size) (g:=w.heap.size+1) ((H.out.bel K2.out.2.2.1).weak (lowN_low (C:=(w2).heap.size))) K2.out.2.2.1 (by omega) (K2.out.2.1).lt)
    have ZB:Hid _:=hidI ((K2.out.2.1).set (.int .i64 t.kind) (.int .i64 t.n) (.string ⟨t.s.toArray⟩) (.slice a1 t.keys.length c1) (.slice a2 t.l.length c2))
    have HA:Hid (changeR how (splitP p) t=(t,1)):=hidI (by rw[SP.out];unfold changeR;rw[if_neg (by simp),if_pos (.inr hg)])
    clear K2 hg
    go_wp2_with fail
    obtain⟨z0,z1,z2,z3,z4,-⟩:=ZB.out.c
    refine bodyPost_ret (v:=.tuple #[.agg #[.int .i64 t.kind,.int .i64 t.n,.string ⟨t.s.toArray⟩,.slice a1 t.keys.length c1,.slice a2 t.l.length c2],.int .i64 1]) ?_ rfl ?_
    ·simp only[set5]at z0 z1 z2 z3 z4
     simp[results,Tryz.results76,go_sem,z0,z1,z2,z3,z4]
    ·refine⟨_,by rw[HA.out],Z.out.1,?_⟩
     rw[HA.out]
     exact Z.out.2
   | true=>
    have HG:=hidI hg
    obtain⟨p0,p1,p2,p3,p4,-⟩:=K2.out.1.c
    clear hg
    go_wp2_with fail
    refine(downA_all gh gx how w0 base HH.out s rs _ (fun k=>ok k/\k < w.heap.size) _ t _ _ (by exact HW.out.trans (K2.out.2.2.1.mono HW.out.size)) (fun k hk=>⟨⟨(HB.out k hk).1,by have:=(HB.out k hk).2;have:=HW.out.size;omega⟩,(HB.out k hk).2⟩) (by exact H.out.bel K2.out.2.2.1) (nice_of HG.out) (by exact K2.out.2.2.2)).mono ?_
    rintro e w3 ⟨r,b,rfl,hb3,hb,y,hy,hyz⟩
    obtain⟨a5,a6,c5,c6,rfl⟩:=hy.form
    have hsz:=K2.out.2.1.lt
    have hbb:=bel_trans hb3 (bel_alloc w3 (.cells #[.int .i64 y.kind,.int .i64 y.n,.string ⟨y.s.toArray⟩,.slice a5 y.keys.length c5,.slice a6 y.l.length c6] 25))
    have K3:Hid (BoxIs (w3.alloc (.cells #[.int .i64 y.kind,.int .i64 y.n,.string ⟨y.s.toArray⟩,.slice a5 y.keys.length c5,.slice a6 y.l.length c6] 25)) w.heap.size (.int .i64 t.kind) (.int .i64 t.n) (.string ⟨t.s.toArray⟩) (.slice a1 t.keys.length c1) (.slice a2 t.l.length c2)/\BoxIs (w3.alloc (.cells #[.int .i64 y.kind,.int .i64 y.n,.string ⟨y.s.toArray⟩,.slice a5 y.keys.length c5,.slice a6 y.l.length c6] 25)) (w.heap.size+1) (.int .i64 0) (.int .i64 0) (.string ⟨#[]⟩) (.slice none 0 0) (.slice none 0 0)/\Below w.heap.size w (w3.alloc (.cells #[.int .i64 y.kind,.int .i64 y.n,.string ⟨y.s.toArray⟩,.slice a5 y.keys.length c5,.slice a6 y.l.length c6] 25))/\BoxIs (w3.alloc (.cells #[.int .i64 y.kind,.int .i64 y.n,.string ⟨y.s.toArray⟩,.slice a5 y.keys.length c5,.slice a6 y.l.length c6] 25)) w3.heap.size (.int .i64 y.kind) (.int .i64 y.n) (.string ⟨y.s.toArray⟩) (.slice a5 y.keys.length c5) (.slice a6 y.l.length c6)/\In (w3.alloc (.cells #[.int .i64 y.kind,.int .i64 y.n,.string ⟨y.s.toArray⟩,.slice a5 y.keys.length c5,.slice a6 y.l.length c6] 25)) (lowN ok w.heap.size w2.heap.size) y (.agg #[.int .i64 y.kind,.int .i64 y.n,.string ⟨y.s.toArray⟩,.slice a5 y.keys.length c5,.slice a6 y.l.length c6])/\w2.heap.size<=w3.heap.size):=⟨box_bel hbb K2.out.1,box_bel hbb K2.out.2.1,bel_trans K2.out.2.2.1 hbb,heap_alloc_new w3 _,hy.bel (bel_alloc _ _),hb3.size⟩
    clear hb3 hbb hy p0 p1 p2 p3 p4 K2
    cases hd:downV how (s :: rs) t with
    | none=>
     rw[hd]at hb
     simp only[Option.isSome_none]at hb
     subst hb
     obtain⟨p0,p1,p2,p3,p4,-⟩:=(K3.out.1).c
     obtain⟨x0,x1,x2,x3,x4,y0,y1,y2,y3,y4⟩:=(K3.out.2.1).c
     have Z:Hid (_/\_):=hidI (set_out (C:=(w3.alloc (.cells #[.int .i64 y.kind,.int .i64 y.n,.string ⟨y.s.toArray⟩,.slice a5 y.keys.length c5,.slice a6 y.l.length c6] 25)).heap.size) (g:=w.heap.size+1) ((H.out.bel K3.out.2.2.1).weak (lowN_low (C:=(w3.alloc (.cells #[.int .i64 y.kind,.int .i64 y.n,.string ⟨y.s.toArray⟩,.slice a5 y.keys.length c5,.slice a6 y.l.length c6] 25)).heap.size))) K3.out.2.2.1 (by omega) (K3.out.2.1).lt)
     have ZB:Hid _:=hidI ((K3.out.2.1).set (.int .i64 t.kind) (.int .i64 t.n) (.string ⟨t.s.toArray⟩) (.slice a1 t.keys.length c1) (.slice a2 t.l.length c2))
     have HA:Hid (changeR how (splitP p) t=(t,3)):=hidI (by rw[SP.out];unfold changeR;rw[if_neg (by simp),if_neg (by simp[HG.out])];simp only[hd])
     clear hd hyz
     go_wp2_with fail
     obtain⟨z0,z1,z2,z3,z4,-⟩:=ZB.out.c
     refine bodyPost_ret (v:=.tuple #[.agg #[.int .i64 t.kind,.int .i64 t.n,.string ⟨t.s.toArray⟩,.slice a1 t.keys.length c1,.slice a2 t.l.length c2],.int .i64 3]) ?_ rfl ?_
     ·simp only[set5]at z0 z1 z2 z3 z4
      simp[results,Tryz.results76,go_sem,z0,z1,z2,z3,z4]
     ·refine⟨_,by rw[HA.out],Z.out.1,?_⟩
      rw[HA.out]
      exact Z.out.2
    | some y9=>
     rw[hd]at hb
     simp only[Option.isSome_some]at hb
     subst hb
     obtain rfl:=hyz y9 hd
     obtain⟨q0,q1,q2,q3,q4,-⟩:=K3.out.2.2.2.1.c
     have HD:=hidI hd
     clear hd hyz
     go_wp2_with fail
     refine(good_is _ _ y _ (by exact K3.out.2.2.2.2.1)).mono ?_
     rintro e w4 ⟨rfl,hb4⟩
     have hsz3:w3.heap.size < (w3.alloc (.cells #[.int .i64 y.kind,.int .i64 y.n,.string ⟨y.s.toArray⟩,.slice a5 y.keys.length c5,.slice a6 y.l.length c6] 25)).heap.size:=by simp
     have K4:Hid (BoxIs w4 w.heap.size (.int .i64 t.kind) (.int .i64 t.n) (.string ⟨t.s.toArray⟩) (.slice a1 t.keys.length c1) (.slice a2 t.l.length c2)/\BoxIs w4 (w.heap.size+1) (.int .i64 0) (.int .i64 0) (.string ⟨#[]⟩) (.slice none 0 0) (.slice none 0 0)/\Below w.heap.size w w4/\BoxIs w4 w3.heap.size (.int .i64 y.kind) (.int .i64 y.n) (.string ⟨y.s.toArray⟩) (.slice a5 y.keys.length c5) (.slice a6 y.l.length c6)/\In w4 (lowN ok w.heap.size w2.heap.size) y (.agg #[.int .i64 y.kind,.int .i64 y.n,.string ⟨y.s.toArray⟩,.slice a5 y.keys.length c5,.slice a6 y.l.length c6])):=⟨box_bel hb4 K3.out.1,box_bel hb4 K3.out.2.1,bel_trans K3.out.2.2.1 hb4,box_bel hb4 K3.out.2.2.2.1,K3.out.2.2.2.2.1.bel hb4⟩
     clear hb4 q0 q1 q2 q3 q4 K3
     cases hg:goodV y with
     | false=>
      obtain⟨p0,p1,p2,p3,p4,-⟩:=(K4.out.1).c
      obtain⟨x0,x1,x2,x3,x4,y0,y1,y2,y3,y4⟩:=(K4.out.2.1).c
      have Z:Hid (_/\_):=hidI (set_out (C:=(w4).heap.size) (g:=w.heap.size+1) ((H.out.bel K4.out.2.2.1).weak (lowN_low (C:=(w4).heap.size))) K4.out.2.2.1 (by omega) (K4.out.2.1).lt)
      have ZB:Hid _:=hidI ((K4.out.2.1).set (.int .i64 t.kind) (.int .i64 t.n) (.string ⟨t.s.toArray⟩) (.slice a1 t.keys.length c1) (.slice a2 t.l.length c2))
      have HA:Hid (changeR how (splitP p) t=(t,2)):=hidI (by rw[SP.out];unfold changeR;rw[if_neg (by simp),if_neg (by simp[HG.out])];simp only[HD.out,hg];rfl)
      clear hg
      go_wp2_with fail
      obtain⟨z0,z1,z2,z3,z4,-⟩:=ZB.out.c
      refine bodyPost_ret (v:=.tuple #[.agg #[.int .i64 t.kind,.int .i64 t.n,.string ⟨t.s.toArray⟩,.slice a1 t.keys.length c1,.slice a2 t.l.length c2],.int .i64 2]) ?_ rfl ?_
      ·simp only[set5]at z0 z1 z2 z3 z4
       simp[results,Tryz.results76,go_sem,z0,z1,z2,z3,z4]
      ·refine⟨_,by rw[HA.out],Z.out.1,?_⟩
       rw[HA.out]
       exact Z.out.2
     | true=>
      obtain⟨q0,q1,q2,q3,q4,-⟩:=K4.out.2.2.2.1.c
      obtain⟨x0,x1,x2,x3,x4,y0,y1,y2,y3,y4⟩:=K4.out.2.1.c
      have Z:Hid (_/\_):=hidI (set_out (g:=w.heap.size+1) K4.out.2.2.2.2 K4.out.2.2.1 (by omega) hsz)
      have ZB:Hid _:=hidI (K4.out.2.1.set (.int .i64 y.kind) (.int .i64 y.n) (.string ⟨y.s.toArray⟩) (.slice a5 y.keys.length c5) (.slice a6 y.l.length c6))
      have HA:Hid (changeR how (splitP p) t=(y,0)):=hidI (by rw[SP.out];unfold changeR;rw[if_neg (by simp),if_neg (by simp[HG.out])];simp only[HD.out,hg];rfl)
      clear hg K4
      go_wp2_with fail
      obtain⟨z0,z1,z2,z3,z4,-⟩:=ZB.out.c
      refine bodyPost_ret (v:=.tuple #[.agg #[.int .i64 y.kind,.int .i64 y.n,.string ⟨y.s.toArray⟩,.slice a5 y.keys.length c5,.slice a6 y.l.length c6],.int .i64 0]) ?_ rfl ?_
      ·simp only[set5]at z0 z1 z2 z3 z4
       simp[results,Tryz.results76,go_sem,z0,z1,z2,z3,z4]
      ·refine⟨_,by rw[HA.out],Z.out.1,?_⟩
       rw[HA.out]
       exact Z.out.2
 ·have e1:(ee != 0)=true:=by rw[bne_iff_ne];exact he
  have e2:(ee == 0)=false:=by rw[beq_eq_false_iff_ne];exact he
  have HE:=hidI he
  clear he
  obtain⟨p0,p1,p2,p3,p4,-⟩:=(K1.out.1).c
  obtain⟨x0,x1,x2,x3,x4,y0,y1,y2,y3,y4⟩:=(K1.out.2.1).c
  have Z:Hid (_/\_):=hidI (set_out (C:=(w1).heap.size) (g:=w.heap.size+1) ((H.out.bel K1.out.2.2.1).weak (lowN_low (C:=(w1).heap.size))) K1.out.2.2.1 (by omega) (K1.out.2.1).lt)
  have ZB:Hid _:=hidI ((K1.out.2.1).set (.int .i64 t.kind) (.int .i64 t.n) (.string ⟨t.s.toArray⟩) (.slice a1 t.keys.length c1) (.slice a2 t.l.length c2))
  have HA:Hid (changeR how (splitP p) t=(t,ee)):=hidI (by rw[SP.out];unfold changeR;rw[if_pos HE.out])
  clear K1
  go_wp2_with fail
  obtain⟨z0,z1,z2,z3,z4,-⟩:=ZB.out.c
  refine bodyPost_ret (v:=.tuple #[.agg #[.int .i64 t.kind,.int .i64 t.n,.string ⟨t.s.toArray⟩,.slice a1 t.keys.length c1,.slice a2 t.l.length c2],.int .i64 ee]) ?_ rfl ?_
  ·simp only[set5]at z0 z1 z2 z3 z4
   simp[results,Tryz.results76,go_sem,z0,z1,z2,z3,z4]
  ·refine⟨_,by rw[HA.out],Z.out.1,?_⟩
   rw[HA.out]
   exact Z.out.2
end Go.Proofs.YtmdemcjmcnfjmaaGreatDoor
