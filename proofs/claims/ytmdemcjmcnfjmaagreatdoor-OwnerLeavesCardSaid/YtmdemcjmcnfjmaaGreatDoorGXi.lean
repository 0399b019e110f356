/- What the function that lay of package point makes on the spot does. -/
import Derived.Test.YtmdemcjmcnfjmaaGreatDoorGXn
import Derived.Test.YtmdemcjmcnfjmaaGreatDoorGShq
import Derived.Deep.DeepCutAuto
import Derived.Deep.CutBlock
import Derived.Deep.DrawnRows
import Derived.Test.YtmdemcjmcnfjmaaGreatDoorGXe
set_option linter.unusedSimpArgs false
set_option linter.unusedVariables false
namespace Go.Proofs.YtmdemcjmcnfjmaaGreatDoor
open Go.RowKit
attribute [local go_sem ↓] Go.wp_at_zero Go.wp_at_succ
end Go.Proofs.YtmdemcjmcnfjmaaGreatDoor
namespace Go.Proofs.YtmdemcjmcnfjmaaGreatDoor
open Go.RowKit
theorem set_out {w w1:World} {ok:Nat->Prop} {C:Nat} {t:V} {g:Nat} {v0 v1 v2 v3 v4:Value} (h:In w1 (lowN ok w.heap.size C) t (.agg #[v0,v1,v2,v3,v4])) (hb:Below w.heap.size w w1) (hg:w.heap.size<=g) (hC:g < C) :
 Below w.heap.size w (set5 w1 g v0 v1 v2 v3 v4)/\In (set5 w1 g v0 v1 v2 v3 v4) (okN ok w.heap.size) t (.agg #[v0,v1,v2,v3,v4]):=
 ⟨bel_set5 hb hg _ _ _ _ _,(h.box hg hC _ _ _ _ _).weak (lowN_out (by omega))⟩
set_option maxRecDepth 100000 in
set_option maxHeartbeats 4000000 in
theorem added_is (w:World) (ok:Nat->Prop) (t x:V) (v xv:Value) (s:List UInt8) (h:In w ok t v) (hx:In w ok x xv) (hn:Nice t) (hs:s.length<=9223372036854775807) :
 Calls Tryz.prog 47 #[v,str s,xv] w fun e w'=>∃ r b,e=.returned (.tuple #[r,.bool b])/\Below w.heap.size w w'/\OptIn w' (okN ok w.heap.size) (addedV x t s) r b:=by
 have hlen:=nice_len hn
 by_cases hk5:t.kind=5
 ·have HP:=hidI (nice_paired hn hk5)
  have HA:Hid (addedV x t s=some (withV t s x)):=hidI (by unfold addedV;rw[if_pos hk5])
  have q1:(t.kind == 5)=true:=by rw[hk5];rfl
  have H:=hidI h.low
  have HX:=hidI hx.low
  obtain⟨l1,l2,l3⟩:=h.lens
  obtain⟨a1,a2,c1,c2,rfl⟩:=h.form
  obtain⟨a7,a8,c7,c8,rfl⟩:=hx.form
  clear h hx hk5 hn
  go_enter Tryz.func47,Tryz.ntmps47
  go_wp2_with fail
  refine(with_is _ (fun k=>ok k/\k < w.heap.size) t x _ _ s (by exact H.out.bel (bel_trans (bel_trans (bel_alloc _ _) (bel_alloc _ _)) (bel_alloc _ _))) (by exact HX.out.bel (bel_trans (bel_trans (bel_alloc _ _) (bel_alloc _ _)) (bel_alloc _ _))) HP.out (by omega) hs).mono ?_
  rintro e w1 ⟨r,rfl,hr,hb1⟩
  obtain⟨W,hW⟩:∃ W,withV t s x=W:=⟨_,rfl⟩
  rw[hW]at hr
  have HW:=hidI hW
  clear hW
  obtain⟨a5,a6,c5,c6,rfl⟩:=hr.form
  have hbx:BoxIs w1 (w.heap.size+2) (.int .i64 0) (.int .i64 0) (.string ⟨#[]⟩) (.slice none 0 0) (.slice none 0 0):=box_bel hb1 (h3c w _ _ _)
  obtain⟨x0,x1,x2,x3,x4,y0,y1,y2,y3,y4⟩:=hbx.c
  have Z:Hid (_/\_):=hidI (set_out (g:=w.heap.size+2) hr (bel_trans (bel_trans (bel_trans (bel_alloc _ _) (bel_alloc _ _)) (bel_alloc _ _)) hb1) (by omega) (by simp))
  have ZB:Hid _:=hidI (hbx.set (.int .i64 W.kind) (.int .i64 W.n) (.string ⟨W.s.toArray⟩) (.slice a5 W.keys.length c5) (.slice a6 W.l.length c6))
  clear hr hb1 hbx
  go_wp2_with fail
  obtain⟨z0,z1,z2,z3,z4,-⟩:=ZB.out.c
  refine bodyPost_ret (v:=.tuple #[.agg #[.int .i64 W.kind,.int .i64 W.n,.string ⟨W.s.toArray⟩,.slice a5 W.keys.length c5,.slice a6 W.l.length c6],.bool true]) ?_ rfl ?_
  ·simp only[set5]at z0 z1 z2 z3 z4
   simp[results,Tryz.results47,go_sem,z0,z1,z2,z3,z4]
  ·refine⟨_,_,rfl,Z.out.1,?_⟩
   rw[HA.out,HW.out]
   exact OptIn.some Z.out.2
 ·by_cases hk4:t.kind=4
  ·cases hp:placeP t.l.length s with
   | some i=>
    refine(added_list w ok t x v xv s i h hx hk4 hp (by omega) hs).mono ?_
    rintro e w' ⟨r,rfl,hb,hr⟩
    refine⟨r,true,rfl,hb,?_⟩
    have:addedV x t s=some { t with l:=t.l.take i++x :: t.l.drop i }:=by unfold addedV;rw[if_neg hk5,if_pos hk4,hp];rfl
    rw[this]
    exact OptIn.some hr
   | none=>
    have HA:Hid (addedV x t s=none):=hidI (by unfold addedV;rw[if_neg hk5,if_pos hk4,hp];rfl)
    have HP:=hidI hp
    have q1:(t.kind == 5)=false:=by rw[hk4];rfl
    have q2:(t.kind == 4)=true:=by rw[hk4];rfl
    have H:=hidI h.low
    obtain⟨l1,l2,l3⟩:=h.lens
    obtain⟨a1,a2,c1,c2,rfl⟩:=h.form
    obtain⟨a7,a8,c7,c8,rfl⟩:=hx.form
    clear h hx hk5 hk4 hn hp
    go_enter Tryz.func47,Tryz.ntmps47
    go_wp2_with fail
    refine(place_at _ _ t.l.length c2 s l2 hs).mono ?_
    rintro e w1 ⟨rfl,hw⟩
    rw[HP.out]
    unfold numV
    have hb1:Below w.heap.size w w1:=by rw[hw];exact bel_trans (bel_trans (bel_alloc _ _) (bel_alloc _ _)) (bel_alloc _ _)
    have hbx:BoxIs w1 (w.heap.size+2) (.int .i64 0) (.int .i64 0) (.string ⟨#[]⟩) (.slice none 0 0) (.slice none 0 0):=by rw[hw];exact h3c w _ _ _
    have hbv:BoxIs w1 w.heap.size (.int .i64 t.kind) (.int .i64 t.n) (.string ⟨t.s.toArray⟩) (.slice a1 t.keys.length c1) (.slice a2 t.l.length c2):=by rw[hw];exact h3a w _ _ _
    obtain⟨p0,p1,p2,p3,p4,-⟩:=hbv.c
    obtain⟨x0,x1,x2,x3,x4,y0,y1,y2,y3,y4⟩:=hbx.c
    have Z:Hid (_/\_):=hidI (set_out (C:=w1.heap.size) (g:=w.heap.size+2) ((H.out.bel hb1).weak (lowN_low (C:=w1.heap.size))) hb1 (by omega) hbx.lt)
    have ZB:Hid _:=hidI (hbx.set (.int .i64 t.kind) (.int .i64 t.n) (.string ⟨t.s.toArray⟩) (.slice a1 t.keys.length c1) (.slice a2 t.l.length c2))
    clear hw hb1 hbx hbv
    simp only[Option.getD_none,Option.isSome_none]
    go_wp2_with fail
    obtain⟨z0,z1,z2,z3,z4,-⟩:=ZB.out.c
    refine bodyPost_ret (v:=.tuple #[.agg #[.int .i64 t.kind,.int .i64 t.n,.string ⟨t.s.toArray⟩,.slice a1 t.keys.length c1,.slice a2 t.l.length c2],.bool false]) ?_ rfl ?_
    ·simp only[set5]at z0 z1 z2 z3 z4
     simp[results,Tryz.results47,go_sem,z0,z1,z2,z3,z4]
    ·refine⟨_,_,rfl,Z.out.1,?_⟩
     rw[HA.out]
     exact OptIn.none Z.out.2
  ·have HA:Hid (addedV x t s=none):=hidI (by unfold addedV;rw[if_neg hk5,if_neg hk4])
   have q1:(t.kind == 5)=false:=by rw[beq_eq_false_iff_ne];exact hk5
   have q2:(t.kind == 4)=false:=by rw[beq_eq_false_iff_ne];exact hk4
   have H:=hidI h.low
   obtain⟨l1,l2,l3⟩:=h.lens
   obtain⟨a1,a2,c1,c2,rfl⟩:=h.form
   obtain⟨a7,a8,c7,c8,rfl⟩:=hx.form
   clear h hx hk5 hk4 hn
   obtain⟨w1,hw⟩:∃ w1,w1=((w.alloc (.cells #[.int .i64 t.kind,.int .i64 t.n,.string ⟨t.s.toArray⟩,.slice a1 t.keys.length c1,.slice a2 t.l.length c2] 25)).alloc (.cells #[.int .i64 x.kind,.int .i64 x.n,.string ⟨x.s.toArray⟩,.slice a7 x.keys.length c7,.slice a8 x.l.length c8] 25)):=⟨_,rfl⟩
   have hb2:Below w.heap.size w (w1.alloc (.cells #[.int .i64 t.kind,.int .i64 t.n,.string ⟨t.s.toArray⟩,.slice a1 t.keys.length c1,.slice a2 t.l.length c2] 25)):=by rw[hw];exact bel_trans (bel_trans (bel_alloc _ _) (bel_alloc _ _)) (bel_alloc _ _)
   have HB:=hidI hb2
   rw[hw]at HB
   have K:=hidI ((H.out.bel HB.out).weak (low_out))
   clear hb2 hw w1
   go_enter Tryz.func47,Tryz.ntmps47
   go_wp2_with fail
   refine bodyPost_ret (v:=.tuple #[.agg #[.int .i64 t.kind,.int .i64 t.n,.string ⟨t.s.toArray⟩,.slice a1 t.keys.length c1,.slice a2 t.l.length c2],.bool false]) ?_ rfl ?_
   ·simp[results,Tryz.results47,go_sem]
   ·refine⟨_,_,rfl,HB.out,?_⟩
    rw[HA.out]
    exact OptIn.none K.out
end Go.Proofs.YtmdemcjmcnfjmaaGreatDoor
namespace Go.Proofs.YtmdemcjmcnfjmaaGreatDoor
open Go.RowKit
set_option maxRecDepth 100000 in
set_option maxHeartbeats 4000000 in
theorem replaced_is (w:World) (ok:Nat->Prop) (t x:V) (v xv:Value) (s:List UInt8) (h:In w ok t v) (hx:In w ok x xv) (hn:Nice t) (hs:s.length<=9223372036854775807) :
 Calls Tryz.prog 148 #[v,str s,xv] w fun e w'=>∃ r b,e=.returned (.tuple #[r,.bool b])/\Below w.heap.size w w'/\OptIn w' (okN ok w.heap.size) (replacedV x t s) r b:=by
 have hlen:=nice_len hn
 cases hm:meantV t s with
 | none=>
  have HM:=hidI hm
  have HA:Hid (replacedV x t s=none):=hidI (by unfold replacedV;rw[hm];rfl)
  clear hm
  have H:=hidI h.low
  have HX:=hidI hx.low
  obtain⟨l1,l2,l3⟩:=h.lens
  obtain⟨a1,a2,c1,c2,rfl⟩:=h.form
  obtain⟨a7,a8,c7,c8,rfl⟩:=hx.form
  clear h hx hn
  go_enter Tryz.func148,Tryz.ntmps148
  go_wp2_with fail
  refine(meant_is _ (fun k=>ok k/\k < w.heap.size) t _ s (by exact H.out.bel (bel_trans (bel_trans (bel_alloc _ _) (bel_alloc _ _)) (bel_alloc _ _))) hs).mono ?_
  rintro e w0 ⟨x9,b9,rfl,hb0,hb9,y9,hy9,-⟩
  rw[HM.out]at hb9
  simp only[Option.isSome_none]at hb9
  subst hb9
  obtain⟨a5,a6,c5,c6,rfl⟩:=hy9.form
  have M1:Hid (BoxIs (w0.alloc (.cells #[.int .i64 y9.kind,.int .i64 y9.n,.string ⟨y9.s.toArray⟩,.slice a5 y9.keys.length c5,.slice a6 y9.l.length c6] 25)) w.heap.size (.int .i64 t.kind) (.int .i64 t.n) (.string ⟨t.s.toArray⟩) (.slice a1 t.keys.length c1) (.slice a2 t.l.length c2)/\BoxIs (w0.alloc (.cells #[.int .i64 y9.kind,.int .i64 y9.n,.string ⟨y9.s.toArray⟩,.slice a5 y9.keys.length c5,.slice a6 y9.l.length c6] 25)) (w.heap.size+1) (.int .i64 x.kind) (.int .i64 x.n) (.string ⟨x.s.toArray⟩) (.slice a7 x.keys.length c7) (.slice a8 x.l.length c8)/\BoxIs (w0.alloc (.cells #[.int .i64 y9.kind,.int .i64 y9.n,.string ⟨y9.s.toArray⟩,.slice a5 y9.keys.length c5,.slice a6 y9.l.length c6] 25)) (w.heap.size+2) (.int .i64 0) (.int .i64 0) (.string ⟨#[]⟩) (.slice none 0 0) (.slice none 0 0)/\Below w.heap.size w (w0.alloc (.cells #[.int .i64 y9.kind,.int .i64 y9.n,.string ⟨y9.s.toArray⟩,.slice a5 y9.keys.length c5,.slice a6 y9.l.length c6] 25))):=by
   have hbb:=bel_trans hb0 (bel_alloc w0 (.cells #[.int .i64 y9.kind,.int .i64 y9.n,.string ⟨y9.s.toArray⟩,.slice a5 y9.keys.length c5,.slice a6 y9.l.length c6] 25))
   exact⟨box_bel hbb (h3a w _ _ _),box_bel hbb (h3b w _ _ _),box_bel hbb (h3c w _ _ _),bel_trans (bel_trans (bel_trans (bel_alloc _ _) (bel_alloc _ _)) (bel_alloc _ _)) hbb⟩
  obtain⟨m1,mx,m2,m3⟩:=M1.out
  obtain⟨n0,n1,n2,n3,n4,-⟩:=m1.c
  obtain⟨x0,x1,x2,x3,x4,y0,y1,y2,y3,y4⟩:=m2.c
  have Z:Hid (_/\_):=hidI (set_out (C:=(w0.alloc (.cells #[.int .i64 y9.kind,.int .i64 y9.n,.string ⟨y9.s.toArray⟩,.slice a5 y9.keys.length c5,.slice a6 y9.l.length c6] 25)).heap.size) (g:=w.heap.size+2) ((H.out.bel m3).weak (lowN_low (C:=(w0.alloc (.cells #[.int .i64 y9.kind,.int .i64 y9.n,.string ⟨y9.s.toArray⟩,.slice a5 y9.keys.length c5,.slice a6 y9.l.length c6] 25)).heap.size))) m3 (by omega) m2.lt)
  have ZB:Hid _:=hidI (m2.set (.int .i64 t.kind) (.int .i64 t.n) (.string ⟨t.s.toArray⟩) (.slice a1 t.keys.length c1) (.slice a2 t.l.length c2))
  clear hb0 hy9 m1 mx m2 m3 M1
  go_wp2_with fail
  obtain⟨z0,z1,z2,z3,z4,-⟩:=ZB.out.c
  refine bodyPost_ret (v:=.tuple #[.agg #[.int .i64 t.kind,.int .i64 t.n,.string ⟨t.s.toArray⟩,.slice a1 t.keys.length c1,.slice a2 t.l.length c2],.bool false]) ?_ rfl ?_
  ·simp only[set5]at z0 z1 z2 z3 z4
   simp[results,Tryz.results148,go_sem,z0,z1,z2,z3,z4]
  ·refine⟨_,_,rfl,Z.out.1,?_⟩
   rw[HA.out]
   exact OptIn.none Z.out.2
 | some y=>
  rcases meant_kind hm with⟨hk,hp,-⟩ | ⟨hk,i,hi,hlt,-⟩
  ·have HM:=hidI hm
   have HP:=hidI hp
   have HA:Hid (replacedV x t s=some (withV t s x)):=hidI (by unfold replacedV;rw[hm,Option.bind_some,if_pos hk])
   have q1:(t.kind == 5)=true:=by rw[hk];rfl
   clear hm hp hk
   have H:=hidI h.low
   have HX:=hidI hx.low
   obtain⟨l1,l2,l3⟩:=h.lens
   obtain⟨a1,a2,c1,c2,rfl⟩:=h.form
   obtain⟨a7,a8,c7,c8,rfl⟩:=hx.form
   clear h hx hn
   go_enter Tryz.func148,Tryz.ntmps148
   go_wp2_with fail
   refine(meant_is _ (fun k=>ok k/\k < w.heap.size) t _ s (by exact H.out.bel (bel_trans (bel_trans (bel_alloc _ _) (bel_alloc _ _)) (bel_alloc _ _))) hs).mono ?_
   rintro e w0 ⟨x9,b9,rfl,hb0,hb9,y9,hy9,-⟩
   rw[HM.out]at hb9
   simp only[Option.isSome_some]at hb9
   subst hb9
   obtain⟨a5,a6,c5,c6,rfl⟩:=hy9.form
   have M1:Hid (BoxIs (w0.alloc (.cells #[.int .i64 y9.kind,.int .i64 y9.n,.string ⟨y9.s.toArray⟩,.slice a5 y9.keys.length c5,.slice a6 y9.l.length c6] 25)) w.heap.size (.int .i64 t.kind) (.int .i64 t.n) (.string ⟨t.s.toArray⟩) (.slice a1 t.keys.length c1) (.slice a2 t.l.length c2)/\BoxIs (w0.alloc (.cells #[.int .i64 y9.kind,.int .i64 y9.n,.string ⟨y9.s.toArray⟩,.slice a5 y9.keys.length c5,.slice a6 y9.l.length c6] 25)) (w.heap.size+1) (.int .i64 x.kind) (.int .i64 x.n) (.string ⟨x.s.toArray⟩) (.slice a7 x.keys.length c7) (.slice a8 x.l.length c8)/\BoxIs (w0.alloc (.cells #[.int .i64 y9.kind,.int .i64 y9.n,.string ⟨y9.s.toArray⟩,.slice a5 y9.keys.length c5,.slice a6 y9.l.length c6] 25)) (w.heap.size+2) (.int .i64 0) (.int .i64 0) (.string ⟨#[]⟩) (.slice none 0 0) (.slice none 0 0)/\Below w.heap.size w (w0.alloc (.cells #[.int .i64 y9.kind,.int .i64 y9.n,.string ⟨y9.s.toArray⟩,.slice a5 y9.keys.length c5,.slice a6 y9.l.length c6] 25))):=by
    have hbb:=bel_trans hb0 (bel_alloc w0 (.cells #[.int .i64 y9.kind,.int .i64 y9.n,.string ⟨y9.s.toArray⟩,.slice a5 y9.keys.length c5,.slice a6 y9.l.length c6] 25))
    exact⟨box_bel hbb (h3a w _ _ _),box_bel hbb (h3b w _ _ _),box_bel hbb (h3c w _ _ _),bel_trans (bel_trans (bel_trans (bel_alloc _ _) (bel_alloc _ _)) (bel_alloc _ _)) hbb⟩
   obtain⟨m1,mx,m2,m3⟩:=M1.out
   obtain⟨n0,n1,n2,n3,n4,-⟩:=m1.c
   obtain⟨o0,o1,o2,o3,o4,-⟩:=mx.c
   clear hb0 hy9 m1 mx m2 m3
   go_wp2_with fail
   refine(with_is _ (fun k=>ok k/\k < w.heap.size) t x _ _ s (by exact H.out.bel M1.out.2.2.2) (by exact HX.out.bel M1.out.2.2.2) HP.out (by omega) hs).mono ?_
   rintro e w1 ⟨r,rfl,hr,hb1⟩
   obtain⟨W,hW⟩:∃ W,withV t s x=W:=⟨_,rfl⟩
   rw[hW]at hr
   have HW:=hidI hW
   clear hW
   obtain⟨d1,d2,e1,e2,rfl⟩:=hr.form
   have hbx:=box_bel hb1 M1.out.2.2.1
   obtain⟨x0,x1,x2,x3,x4,y0,y1,y2,y3,y4⟩:=hbx.c
   have Z:Hid (_/\_):=hidI (set_out (g:=w.heap.size+2) hr (bel_trans M1.out.2.2.2 hb1) (by omega) M1.out.2.2.1.lt)
   have ZB:Hid _:=hidI (hbx.set (.int .i64 W.kind) (.int .i64 W.n) (.string ⟨W.s.toArray⟩) (.slice d1 W.keys.length e1) (.slice d2 W.l.length e2))
   clear hr hb1 hbx n0 n1 n2 n3 n4
   go_wp2_with fail
   obtain⟨z0,z1,z2,z3,z4,-⟩:=ZB.out.c
   refine bodyPost_ret (v:=.tuple #[.agg #[.int .i64 W.kind,.int .i64 W.n,.string ⟨W.s.toArray⟩,.slice d1 W.keys.length e1,.slice d2 W.l.length e2],.bool true]) ?_ rfl ?_
   ·simp only[set5]at z0 z1 z2 z3 z4
    simp[results,Tryz.results148,go_sem,z0,z1,z2,z3,z4]
   ·refine⟨_,_,rfl,Z.out.1,?_⟩
    rw[HA.out,HW.out]
    exact OptIn.some Z.out.2
  ·refine(replaced_list w ok t x v xv s i h hx hk hi hlt (by omega) hs).mono ?_
   rintro e w' ⟨r,rfl,hb,hr⟩
   refine⟨r,true,rfl,hb,?_⟩
   have:replacedV x t s=some { t with l:=t.l.take i++x :: t.l.drop (i+1) }:=by unfold replacedV;rw[hm,Option.bind_some,if_neg (by omega),hi];rfl
   rw[this]
   exact OptIn.some hr
end Go.Proofs.YtmdemcjmcnfjmaaGreatDoor
namespace Go.Proofs.YtmdemcjmcnfjmaaGreatDoor
open Go.RowKit
set_option maxRecDepth 100000 in
set_option maxHeartbeats 4000000 in
theorem clo_added (w:World) (ok:Nat->Prop) (t x:V) (v:Value) (s:List UInt8) (gh gx:Nat) (a7 a8:Option Addr) (c7 c8:Nat) (tf:TypeId) (h:In w ok t v)
 (hx:In w ok x (.agg #[.int .i64 x.kind,.int .i64 x.n,.string ⟨x.s.toArray⟩,.slice a7 x.keys.length c7,.slice a8 x.l.length c8]))
 (bx:BoxIs w gx (.int .i64 x.kind) (.int .i64 x.n) (.string ⟨x.s.toArray⟩) (.slice a7 x.keys.length c7) (.slice a8 x.l.length c8)) (bh:w.heap[gh]?=some (.cells #[.func (.func 47) #[] #[]] tf))
 (hn:Nice t) (hs:s.length<=9223372036854775807) :
 Calls Tryz.prog 77 #[v,str s,.pointer (some ⟨gh,0,none⟩),.pointer (some ⟨gx,0,none⟩)] w fun e w'=>∃ r b,e=.returned (.tuple #[r,.bool b])/\Below w.heap.size w w'/\OptIn w' (okN ok w.heap.size) (addedV x t s) r b:=by
 have H:=hidI h.low
 have HX:=hidI hx.low
 have HN:=hidI hn
 obtain⟨l1,l2,l3⟩:=h.lens
 obtain⟨a1,a2,c1,c2,rfl⟩:=h.form
 have B2:Hid (∀ o1 o2,Below w.heap.size w ((w.alloc o1).alloc o2)):=fun o1 o2=>bel_trans (bel_alloc _ _) (bel_alloc _ _)
 have hf:w.cell? ⟨gh,0,none⟩=some (.func (.func 47) #[] #[]):=by simp[World.cell?,bh]
 have g0:∀ o1 o2,((w.alloc o1).alloc o2).cell? ⟨gh,0,none⟩=some (.func (.func 47) #[] #[]):=fun o1 o2=>cell_bel (B2.out o1 o2) hf
 obtain⟨m0,m1,m2,m3,m4,-⟩:=bx.c
 have g1:∀ o1 o2,((w.alloc o1).alloc o2).cell? ⟨gx,0,none⟩=some (.int .i64 x.kind):=fun o1 o2=>cell_bel (B2.out o1 o2) m0
 have g2:∀ o1 o2,((w.alloc o1).alloc o2).cell? ⟨gx,1,none⟩=some (.int .i64 x.n):=fun o1 o2=>cell_bel (B2.out o1 o2) m1
 have g3:∀ o1 o2,((w.alloc o1).alloc o2).cell? ⟨gx,2,none⟩=some (.string ⟨x.s.toArray⟩):=fun o1 o2=>cell_bel (B2.out o1 o2) m2
 have g4:∀ o1 o2,((w.alloc o1).alloc o2).cell? ⟨gx,3,none⟩=some (.slice a7 x.keys.length c7):=fun o1 o2=>cell_bel (B2.out o1 o2) m3
 have g5:∀ o1 o2,((w.alloc o1).alloc o2).cell? ⟨gx,4,none⟩=some (.slice a8 x.l.length c8):=fun o1 o2=>cell_bel (B2.out o1 o2) m4
 clear h hx bx bh hf m0 m1 m2 m3 m4 hn
 go_enter Tryz.func77,Tryz.ntmps77
 go_wp2_with fail
 refine(added_is _ (fun k=>ok k/\k < w.heap.size) t x _ _ s (by exact H.out.bel (B2.out _ _)) (by exact HX.out.bel (B2.out _ _)) HN.out hs).mono ?_
 rintro e w1 ⟨r,b,rfl,hb1,hb2,y,hy,hyz⟩
 obtain⟨a5,a6,c5,c6,rfl⟩:=hy.form
 have hbx:=box_bel hb1 (h2b w _ _)
 obtain⟨x0,x1,x2,x3,x4,y0,y1,y2,y3,y4⟩:=BoxIs.c hbx
 have Z:Hid (_/\_):=hidI (set_out (g:=w.heap.size+1) hy (bel_trans (B2.out _ _) hb1) (by omega) (by simp))
 have ZB:Hid _:=hidI (BoxIs.set hbx (.int .i64 y.kind) (.int .i64 y.n) (.string ⟨y.s.toArray⟩) (.slice a5 y.keys.length c5) (.slice a6 y.l.length c6))
 have R:Hid (b=(addedV x t s).isSome/\∀ z,addedV x t s=some z->y=z):=⟨hb2,hyz⟩
 clear hb1 hb2 hy hyz hbx g0 g1 g2 g3 g4 g5
 go_wp2_with fail
 obtain⟨z0,z1,z2,z3,z4,-⟩:=ZB.out.c
 refine bodyPost_ret (v:=.tuple #[.agg #[.int .i64 y.kind,.int .i64 y.n,.string ⟨y.s.toArray⟩,.slice a5 y.keys.length c5,.slice a6 y.l.length c6],.bool b]) ?_ rfl ?_
 ·simp only[set5]at z0 z1 z2 z3 z4
  simp[results,Tryz.results77,go_sem,z0,z1,z2,z3,z4]
 ·exact⟨_,_,rfl,Z.out.1,R.out.1,y,Z.out.2,R.out.2⟩
end Go.Proofs.YtmdemcjmcnfjmaaGreatDoor
