/- What lay, Add, Put and Remove of package point do. -/
import Derived.Test.YtmdemcjmcnfjmaaGreatDoorGXl
set_option linter.unusedSimpArgs false
set_option linter.unusedVariables false
namespace Go.Proofs.YtmdemcjmcnfjmaaGreatDoor
open Go.RowKit
theorem h4a (w:World) (o1 o2 o3 o4:Obj):((((w.alloc o1).alloc o2).alloc o3).alloc o4).heap[w.heap.size]?=some o1:=by
 rw[(bel_alloc _ o4).block _ (by simp;omega)];exact h3a w o1 o2 o3
theorem h4b (w:World) (o1 o2 o3 o4:Obj):((((w.alloc o1).alloc o2).alloc o3).alloc o4).heap[w.heap.size+1]?=some o2:=by
 rw[(bel_alloc _ o4).block _ (by simp)];exact h3b w o1 o2 o3
theorem h4c (w:World) (o1 o2 o3 o4:Obj):((((w.alloc o1).alloc o2).alloc o3).alloc o4).heap[w.heap.size+2]?=some o3:=by
 rw[(bel_alloc _ o4).block _ (by simp)];exact h3c w o1 o2 o3
theorem h4d (w:World) (o1 o2 o3 o4:Obj):((((w.alloc o1).alloc o2).alloc o3).alloc o4).heap[w.heap.size+3]?=some o4:=by
 have:=heap_alloc_new (((w.alloc o1).alloc o2).alloc o3) o4
 simpa using this
theorem how_added {W0:World} {ok:Nat->Prop} {B gh gx:Nat} {x:V} {a7 a8:Option Addr} {c7 c8:Nat} {tf:TypeId} (bx:BoxIs W0 gx (.int .i64 x.kind) (.int .i64 x.n) (.string ⟨x.s.toArray⟩) (.slice a7 x.keys.length c7) (.slice a8 x.l.length c8)) (bh:W0.heap[gh]?=some (.cells #[.func (.func 47) #[] #[]] tf))
 (hx:In W0 (fun k=>ok k/\k < B) x (.agg #[.int .i64 x.kind,.int .i64 x.n,.string ⟨x.s.toArray⟩,.slice a7 x.keys.length c7,.slice a8 x.l.length c8])) (hB:B<=W0.heap.size):HowA gh gx (addedV x) W0 (fun k=>ok k/\k < B):=by
 intro W ok' t v s hW hk h hn hs
 exact clo_added W ok' t x v s gh gx a7 a8 c7 c8 tf h ((hx.bel hW).weak fun k hk'=>(hk k hk').1) (box_bel hW bx) (by rw[hW.block _ (Array.getElem?_eq_some_iff.1 bh).1];exact bh) hn hs
set_option maxRecDepth 100000 in
set_option maxHeartbeats 40000000 in
theorem lay_added (w:World) (ok:Nat->Prop) (t x:V) (v xv:Value) (p:List UInt8) (h:In w ok t v) (hx:In w ok x xv) (hp:p.length<=140737488351232) (hM:GlobM w) :
 Calls Tryz.prog 46 #[v,str p,xv,.func (.func 47) #[] #[]] w fun e w'=>∃ r,e=.returned (.tuple #[r,.int .i64 (layR addedV p (splitP p) t x).2])/\Below w.heap.size w w'/\In w' (okN ok w.heap.size) (layR addedV p (splitP p) t x).1 r:=by
 have H:=hidI h.low
 have HX:=hidI hx.low
 have HMM:=hidI hM
 obtain⟨l1,l2,l3⟩:=h.lens
 obtain⟨a1,a2,c1,c2,rfl⟩:=h.form
 obtain⟨a7,a8,c7,c8,rfl⟩:=hx.form
 clear h hx hM
 have B4:Hid (∀ o1 o2 o3 o4,Below w.heap.size w ((((w.alloc o1).alloc o2).alloc o3).alloc o4)):=fun o1 o2 o3 o4=>bel_trans (bel_trans (bel_trans (bel_alloc _ _) (bel_alloc _ _)) (bel_alloc _ _)) (bel_alloc _ _)
 go_enter Tryz.func46,Tryz.ntmps46
 go_wp2_with fail
 refine(good_is _ (fun k=>ok k/\k < w.heap.size) x _ (by exact HX.out.bel (B4.out _ _ _ _))).mono ?_
 rintro e w1 ⟨rfl,hb1⟩
 have K:Hid (BoxIs w1 w.heap.size (.int .i64 t.kind) (.int .i64 t.n) (.string ⟨t.s.toArray⟩) (.slice a1 t.keys.length c1) (.slice a2 t.l.length c2)/\BoxIs w1 (w.heap.size+1) (.int .i64 x.kind) (.int .i64 x.n) (.string ⟨x.s.toArray⟩) (.slice a7 x.keys.length c7) (.slice a8 x.l.length c8)/\w1.heap[w.heap.size+2]?=some (.cells #[.func (.func 47) #[] #[]] 108)/\BoxIs w1 (w.heap.size+3) (.int .i64 0) (.int .i64 0) (.string ⟨#[]⟩) (.slice none 0 0) (.slice none 0 0)/\Below w.heap.size w w1):=⟨box_bel hb1 (h4a w _ _ _ _),box_bel hb1 (h4b w _ _ _ _),by rw[hb1.block _ (by simp)];exact h4c w _ _ _ _,box_bel hb1 (h4d w _ _ _ _),bel_trans (B4.out _ _ _ _) hb1⟩
 clear hb1
 cases hgx:goodV x with
 | false=>
  obtain⟨p0,p1,p2,p3,p4,-⟩:=K.out.1.c
  obtain⟨x0,x1,x2,x3,x4,y0,y1,y2,y3,y4⟩:=K.out.2.2.2.1.c
  have Z:Hid (_/\_):=hidI (set_out (C:=w1.heap.size) (g:=w.heap.size+3) ((H.out.bel K.out.2.2.2.2).weak (lowN_low (C:=w1.heap.size))) K.out.2.2.2.2 (by omega) K.out.2.2.2.1.lt)
  have ZB:Hid _:=hidI (K.out.2.2.2.1.set (.int .i64 t.kind) (.int .i64 t.n) (.string ⟨t.s.toArray⟩) (.slice a1 t.keys.length c1) (.slice a2 t.l.length c2))
  have HA:Hid (layR addedV p (splitP p) t x=(t,1)):=hidI (by unfold layR;rw[if_pos hgx])
  clear hgx
  go_wp2_with fail
  obtain⟨z0,z1,z2,z3,z4,-⟩:=ZB.out.c
  refine bodyPost_ret (v:=.tuple #[.agg #[.int .i64 t.kind,.int .i64 t.n,.string ⟨t.s.toArray⟩,.slice a1 t.keys.length c1,.slice a2 t.l.length c2],.int .i64 1]) ?_ rfl ?_
  ·simp only[set5]at z0 z1 z2 z3 z4
   simp[results,Tryz.results46,go_sem,z0,z1,z2,z3,z4]
  ·refine⟨_,by rw[HA.out],Z.out.1,?_⟩
   rw[HA.out]
   exact Z.out.2
 | true=>
  have GX:=hidI hgx
  clear hgx
  obtain⟨o0,o1,o2,o3,o4,-⟩:=K.out.1.c
  by_cases hpe:p=[]
  ·have q1:(p == [])=true:=by rw[hpe];rfl
   have q2:p.isEmpty=true:=by rw[hpe];rfl
   have PE:=hidI hpe
   clear hpe
   unfold str
   go_wp2_with fail
   refine(good_is _ (fun k=>ok k/\k < w.heap.size) t _ (by exact H.out.bel K.out.2.2.2.2)).mono ?_
   rintro e w2 ⟨rfl,hb2⟩
   have K2:Hid (BoxIs w2 w.heap.size (.int .i64 t.kind) (.int .i64 t.n) (.string ⟨t.s.toArray⟩) (.slice a1 t.keys.length c1) (.slice a2 t.l.length c2)/\BoxIs w2 (w.heap.size+1) (.int .i64 x.kind) (.int .i64 x.n) (.string ⟨x.s.toArray⟩) (.slice a7 x.keys.length c7) (.slice a8 x.l.length c8)/\w2.heap[w.heap.size+2]?=some (.cells #[.func (.func 47) #[] #[]] 108)/\BoxIs w2 (w.heap.size+3) (.int .i64 0) (.int .i64 0) (.string ⟨#[]⟩) (.slice none 0 0) (.slice none 0 0)/\Below w.heap.size w w2):=⟨box_bel hb2 K.out.1,box_bel hb2 K.out.2.1,by rw[hb2.block _ (by have:=K.out.2.2.2.1.lt;omega)];exact K.out.2.2.1,box_bel hb2 K.out.2.2.2.1,bel_trans K.out.2.2.2.2 hb2⟩
   clear hb2 o0 o1 o2 o3 o4 K
   cases hgt:goodV t with
   | true=>
    obtain⟨p0,p1,p2,p3,p4,-⟩:=K2.out.2.1.c
    obtain⟨x0,x1,x2,x3,x4,y0,y1,y2,y3,y4⟩:=K2.out.2.2.2.1.c
    have Z:Hid (_/\_):=hidI (set_out (C:=w2.heap.size) (g:=w.heap.size+3) ((HX.out.bel K2.out.2.2.2.2).weak (lowN_low (C:=w2.heap.size))) K2.out.2.2.2.2 (by omega) K2.out.2.2.2.1.lt)
    have ZB:Hid _:=hidI (K2.out.2.2.2.1.set (.int .i64 x.kind) (.int .i64 x.n) (.string ⟨x.s.toArray⟩) (.slice a7 x.keys.length c7) (.slice a8 x.l.length c8))
    have HA:Hid (layR addedV p (splitP p) t x=(x,0)):=hidI (by unfold layR;rw[if_neg (by simp[GX.out]),if_pos ⟨PE.out,hgt⟩])
    clear hgt
    go_wp2_with fail
    obtain⟨z0,z1,z2,z3,z4,-⟩:=ZB.out.c
    refine bodyPost_ret (v:=.tuple #[.agg #[.int .i64 x.kind,.int .i64 x.n,.string ⟨x.s.toArray⟩,.slice a7 x.keys.length c7,.slice a8 x.l.length c8],.int .i64 0]) ?_ rfl ?_
    ·simp only[set5]at z0 z1 z2 z3 z4
     simp[results,Tryz.results46,go_sem,z0,z1,z2,z3,z4]
    ·refine⟨_,by rw[HA.out],Z.out.1,?_⟩
     rw[HA.out]
     exact Z.out.2
   | false=>
    have GT:=hidI hgt
    clear hgt
    obtain⟨o0,o1,o2,o3,o4,-⟩:=K2.out.1.c
    go_wp2_with fail
    refine(changeA (w.heap.size+2) (w.heap.size+1) (addedV x) w2 (fun k=>ok k/\k < w.heap.size) (how_added (K2.out.2.1) (K2.out.2.2.1) (HX.out.bel K2.out.2.2.2.2) (by have:=K2.out.2.2.2.1.lt;omega)) _ (fun k=>ok k/\k < w.heap.size) t _ p (by exact Below.refl _ _) (fun k hk=>⟨hk,by have:=K2.out.2.2.2.1.lt;omega⟩) (by exact H.out.bel K2.out.2.2.2.2) hp (by exact HMM.out.bel K2.out.2.2.2.2)).mono ?_
    rintro e w9 ⟨r,rfl,hb9,hr⟩
    obtain⟨y,hy⟩:∃ y,changeR (addedV x) (splitP p) t=y:=⟨_,rfl⟩
    rw[hy]at hr ⊢
    obtain⟨y,ye⟩:=y
    simp only at hr ⊢
    have HA:Hid (layR addedV p (splitP p) t x=(y,ye)):=hidI (by unfold layR;rw[if_neg (by simp[GX.out]),if_neg (by simp[GT.out])];exact hy)
    obtain⟨a5,a6,c5,c6,rfl⟩:=hr.form
    have hbx:=box_bel hb9 K2.out.2.2.2.1
    obtain⟨x0,x1,x2,x3,x4,y0,y1,y2,y3,y4⟩:=hbx.c
    have Z:Hid (_/\_):=hidI (set_out (g:=w.heap.size+3) hr (bel_trans K2.out.2.2.2.2 hb9) (by omega) K2.out.2.2.2.1.lt)
    have ZB:Hid _:=hidI (hbx.set (.int .i64 y.kind) (.int .i64 y.n) (.string ⟨y.s.toArray⟩) (.slice a5 y.keys.length c5) (.slice a6 y.l.length c6))
    clear hy hr hb9 hbx
    go_wp2_with fail
    obtain⟨z0,z1,z2,z3,z4,-⟩:=ZB.out.c
    refine bodyPost_ret (v:=.tuple #[.agg #[.int .i64 y.kind,.int .i64 y.n,.string ⟨y.s.toArray⟩,.slice a5 y.keys.length c5,.slice a6 y.l.length c6],.int .i64 ye]) ?_ rfl ?_
    ·simp only[set5]at z0 z1 z2 z3 z4
     simp[results,Tryz.results46,go_sem,z0,z1,z2,z3,z4]
    ·refine⟨_,by rw[HA.out],Z.out.1,?_⟩
     rw[HA.out]
     exact Z.out.2
  ·have q1:(p == [])=false:=by rw[beq_eq_false_iff_ne];exact hpe
   have q2:p.isEmpty=false:=by cases p with | nil=>exact absurd rfl hpe | cons _ _=>rfl
   have PE:=hidI hpe
   clear hpe
   unfold str
   go_wp2_with fail
   refine(changeA (w.heap.size+2) (w.heap.size+1) (addedV x) w1 (fun k=>ok k/\k < w.heap.size) (how_added (K.out.2.1) (K.out.2.2.1) (HX.out.bel K.out.2.2.2.2) (by have:=K.out.2.2.2.1.lt;omega)) _ (fun k=>ok k/\k < w.heap.size) t _ p (by exact Below.refl _ _) (fun k hk=>⟨hk,by have:=K.out.2.2.2.1.lt;omega⟩) (by exact H.out.bel K.out.2.2.2.2) hp (by exact HMM.out.bel K.out.2.2.2.2)).mono ?_
   rintro e w9 ⟨r,rfl,hb9,hr⟩
   obtain⟨y,hy⟩:∃ y,changeR (addedV x) (splitP p) t=y:=⟨_,rfl⟩
   rw[hy]at hr ⊢
   obtain⟨y,ye⟩:=y
   simp only at hr ⊢
   have HA:Hid (layR addedV p (splitP p) t x=(y,ye)):=hidI (by unfold layR;rw[if_neg (by simp[GX.out]),if_neg (fun h=>PE.out h.1)];exact hy)
   obtain⟨a5,a6,c5,c6,rfl⟩:=hr.form
   have hbx:=box_bel hb9 K.out.2.2.2.1
   obtain⟨x0,x1,x2,x3,x4,y0,y1,y2,y3,y4⟩:=hbx.c
   have Z:Hid (_/\_):=hidI (set_out (g:=w.heap.size+3) hr (bel_trans K.out.2.2.2.2 hb9) (by omega) K.out.2.2.2.1.lt)
   have ZB:Hid _:=hidI (hbx.set (.int .i64 y.kind) (.int .i64 y.n) (.string ⟨y.s.toArray⟩) (.slice a5 y.keys.length c5) (.slice a6 y.l.length c6))
   clear hy hr hb9 hbx
   go_wp2_with fail
   obtain⟨z0,z1,z2,z3,z4,-⟩:=ZB.out.c
   refine bodyPost_ret (v:=.tuple #[.agg #[.int .i64 y.kind,.int .i64 y.n,.string ⟨y.s.toArray⟩,.slice a5 y.keys.length c5,.slice a6 y.l.length c6],.int .i64 ye]) ?_ rfl ?_
   ·simp only[set5]at z0 z1 z2 z3 z4
    simp[results,Tryz.results46,go_sem,z0,z1,z2,z3,z4]
   ·refine⟨_,by rw[HA.out],Z.out.1,?_⟩
    rw[HA.out]
    exact Z.out.2
set_option maxRecDepth 100000 in
set_option maxHeartbeats 40000000 in
theorem add_is (w:World) (ok:Nat->Prop) (t x:V) (v xv:Value) (p:List UInt8) (h:In w ok t v) (hx:In w ok x xv) (hp:p.length<=140737488351232) (hM:GlobM w) :
 Calls Tryz.prog 18 #[v,str p,xv] w fun e w'=>∃ r,e=.returned (.tuple #[r,.int .i64 (layR addedV p (splitP p) t x).2])/\Below w.heap.size w w'/\In w' (okN ok w.heap.size) (layR addedV p (splitP p) t x).1 r:=by
 have H:=hidI h.low
 have HX:=hidI hx.low
 have HMM:=hidI hM
 obtain⟨l1,l2,l3⟩:=h.lens
 obtain⟨a1,a2,c1,c2,rfl⟩:=h.form
 obtain⟨a7,a8,c7,c8,rfl⟩:=hx.form
 clear h hx hM
 have B3:Hid (∀ o1 o2 o3,Below w.heap.size w (((w.alloc o1).alloc o2).alloc o3)):=fun o1 o2 o3=>bel_trans (bel_trans (bel_alloc _ _) (bel_alloc _ _)) (bel_alloc _ _)
 go_enter Tryz.func18,Tryz.ntmps18
 go_wp2_with fail
 refine(lay_added _ (fun k=>ok k/\k < w.heap.size) t x _ _ p (by exact H.out.bel (B3.out _ _ _)) (by exact HX.out.bel (B3.out _ _ _)) hp (by exact HMM.out.bel (B3.out _ _ _))).mono ?_
 rintro e w9 ⟨r,rfl,hb9,hr⟩
 obtain⟨y,hy⟩:∃ y,layR addedV p (splitP p) t x=y:=⟨_,rfl⟩
 rw[hy]at hr ⊢
 obtain⟨y,ye⟩:=y
 simp only at hr ⊢
 obtain⟨a5,a6,c5,c6,rfl⟩:=hr.form
 have hbx:=box_bel hb9 (h3c w _ _ _)
 obtain⟨x0,x1,x2,x3,x4,y0,y1,y2,y3,y4⟩:=BoxIs.c hbx
 have Z:Hid (_/\_):=hidI (set_out (g:=w.heap.size+2) hr (bel_trans (B3.out _ _ _) hb9) (by omega) (by simp))
 have ZB:Hid _:=hidI (BoxIs.set hbx (.int .i64 y.kind) (.int .i64 y.n) (.string ⟨y.s.toArray⟩) (.slice a5 y.keys.length c5) (.slice a6 y.l.length c6))
 have HA:=hidI hy
 clear hy hr hb9 hbx
 go_wp2_with fail
 obtain⟨z0,z1,z2,z3,z4,-⟩:=ZB.out.c
 refine bodyPost_ret (v:=.tuple #[.agg #[.int .i64 y.kind,.int .i64 y.n,.string ⟨y.s.toArray⟩,.slice a5 y.keys.length c5,.slice a6 y.l.length c6],.int .i64 ye]) ?_ rfl ?_
 ·simp only[set5]at z0 z1 z2 z3 z4
  simp[results,Tryz.results18,go_sem,z0,z1,z2,z3,z4]
 ·exact⟨_,by rw[HA.out],Z.out.1,by rw[HA.out];exact Z.out.2⟩
end Go.Proofs.YtmdemcjmcnfjmaaGreatDoor
