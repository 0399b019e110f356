/- What replaced of package point does in a list. -/
import Derived.Test.YtmdemcjmcnfjmaaGreatDoorGXn
import Derived.Test.YtmdemcjmcnfjmaaGreatDoorGShq
import Derived.Deep.DeepCutAuto
import Derived.Deep.CutBlock
import Derived.Deep.DrawnRows
set_option linter.unusedSimpArgs false
set_option linter.unusedVariables false
namespace Go.Proofs.YtmdemcjmcnfjmaaGreatDoor
open Go.RowKit
attribute [local go_sem ↓] Go.wp_at_zero Go.wp_at_succ
set_option maxRecDepth 100000 in
set_option maxHeartbeats 40000000 in
theorem added_list (w:World) (ok:Nat->Prop) (t x:V) (v xv:Value) (s:List UInt8) (i:Nat) (h:In w ok t v) (hx:In w ok x xv) (hk:t.kind=4) (hp:placeP t.l.length s=some i) (hsz:t.l.length<=100000) (hs:s.length<=9223372036854775807) :
 Calls Tryz.prog 47 #[v,str s,xv] w fun e w'=>∃ r,e=.returned (.tuple #[r,.bool true])/\Below w.heap.size w w'/\In w' (okN ok w.heap.size) { t with l:=t.l.take i++x :: t.l.drop i } r:=by
 obtain⟨l1,l2,l3⟩:=h.lens
 obtain⟨a7,a8,c7,c8,rfl⟩:=hx.form
 obtain⟨d,h,hx⟩:=h.low.two hx.low
 have HX:=hidI hx
 obtain⟨ks,ls,rfl,h1,h2,h3,h4,h5⟩:=h
 have KK:Hid (I64 t.kind/\I64 t.n/\t.s.length<=maxLen/\StrsAre w _ t.keys ks/\ValsAre w _ (VIs w _ d) t.l ls):=⟨h1,h2,h3,h4,h5⟩
 obtain⟨a1,c1,rfl⟩:=h4.form
 obtain⟨a2,c2,rfl⟩:=h5.form
 have hia:=place_le hp
 obtain⟨cs1,cs2,v1,v3,r1,r2,s1,s3,hcase⟩:=rows_at h5 i i (Nat.le_refl _) hia (by omega)
 have R:Hid (RowV (VIs w _ d) (t.l.take i) cs1/\RowV (VIs w _ d) (t.l.drop i) cs2/\SlIs w 5 v1 i cs1/\SlIs w 5 v3 (t.l.length - i) cs2):=⟨r1,r2,s1,s3⟩
 have HC:=hidI hcase
 have HP:=hidI hp
 have q1:(t.kind == 5)=false:=by rw[hk];rfl
 have q2:(t.kind == 4)=true:=by rw[hk];rfl
 clear h1 h2 h4 h5 hx r1 r2 s1 s3 hcase hp hk
 unfold maxLen at h3
 unfold str
 go_enter Tryz.func47,Tryz.ntmps47
 go_wp2_with fail
 refine(place_at _ _ t.l.length c2 s l2 hs).mono ?_
 rintro e w1 ⟨rfl,hw⟩
 rw[HP.out]
 unfold numV
 have hb1:Below w.heap.size w w1:=by rw[hw];exact bel_trans (bel_trans (bel_alloc _ _) (bel_alloc _ _)) (bel_alloc _ _)
 have M:Hid (BoxIs w1 w.heap.size (.int .i64 t.kind) (.int .i64 t.n) (.string ⟨t.s.toArray⟩) (.slice a1 t.keys.length c1) (.slice a2 t.l.length c2)/\BoxIs w1 (w.heap.size+1) (.int .i64 x.kind) (.int .i64 x.n) (.string ⟨x.s.toArray⟩) (.slice a7 x.keys.length c7) (.slice a8 x.l.length c8)/\BoxIs w1 (w.heap.size+2) (.int .i64 0) (.int .i64 0) (.string ⟨#[]⟩) (.slice none 0 0) (.slice none 0 0)/\Below w.heap.size w w1):=by
  rw[hw];exact⟨h3a w _ _ _,h3b w _ _ _,h3c w _ _ _,by rw[<-hw];exact hb1⟩
 clear hw hb1
 have hsz1:w.heap.size+2 < w1.heap.size:=M.out.2.2.1.lt
 simp only[Option.getD_some,Option.isSome_some]
 obtain⟨p0,p1,p2,p3,p4,-,-,-,p9,p10⟩:=M.out.1.c
 obtain⟨q0,q11,q12,q13,q14,-⟩:=M.out.2.1.c
 have k4:∀ o,(w1.alloc o).cell? ⟨w.heap.size,4,none⟩=some (.slice a2 t.l.length c2):=fun o=>(box_bel (bel_alloc w1 o) M.out.1).c.2.2.2.2.1
 have m0:∀ o,(w1.alloc o).cell? ⟨w.heap.size+1,0,none⟩=some (.int .i64 x.kind):=fun o=>(box_bel (bel_alloc w1 o) M.out.2.1).c.1
 have m1:∀ o,(w1.alloc o).cell? ⟨w.heap.size+1,1,none⟩=some (.int .i64 x.n):=fun o=>(box_bel (bel_alloc w1 o) M.out.2.1).c.2.1
 have m2:∀ o,(w1.alloc o).cell? ⟨w.heap.size+1,2,none⟩=some (.string ⟨x.s.toArray⟩):=fun o=>(box_bel (bel_alloc w1 o) M.out.2.1).c.2.2.1
 have m3:∀ o,(w1.alloc o).cell? ⟨w.heap.size+1,3,none⟩=some (.slice a7 x.keys.length c7):=fun o=>(box_bel (bel_alloc w1 o) M.out.2.1).c.2.2.2.1
 have m4:∀ o,(w1.alloc o).cell? ⟨w.heap.size+1,4,none⟩=some (.slice a8 x.l.length c8):=fun o=>(box_bel (bel_alloc w1 o) M.out.2.1).c.2.2.2.2.1
 have con:Hid (∀ W,W.heap=((w1.alloc (.cells #[.int .i64 x.kind,.int .i64 x.n,.string ⟨x.s.toArray⟩,.slice a7 x.keys.length c7,.slice a8 x.l.length c8] 25)).alloc (.cells #[v1,.slice (some ⟨w1.heap.size,0,none⟩) 1 1,v3] 23)).heap->W.os=w1.os->W.tape=w1.tape->W.output=w1.output ->
  Calls Tryz.prog 79 #[.slice (some ⟨w1.heap.size+1,0,none⟩) 3 3] W fun e w'=>∃ g cap,e=.returned (.slice (some ⟨g,0,none⟩) (t.l.length+1) cap)/\w'.ownsRow w1.heap.size 25 5 (.slice (some ⟨g,0,none⟩) (t.l.length+1) cap) (t.l.length+1) (cs1++[.int .i64 x.kind,.int .i64 x.n,.string ⟨x.s.toArray⟩,.slice a7 x.keys.length c7,.slice a8 x.l.length c8]++cs2)/\Below w1.heap.size w1 w'):=by
  intro W e1 e2 e4 e5
  exact conV3 _ _ _ _ _ _ _ _ _ (R.out.2.2.1.bel M.out.2.2.2) (R.out.2.2.2.bel M.out.2.2.2) (by omega) (by omega) W e1 e2 e4 e5
 have fin:Hid (∀ w3 g cap,w3.ownsRow w1.heap.size 25 5 (.slice (some ⟨g,0,none⟩) (t.l.length+1) cap) (t.l.length+1) (cs1++[.int .i64 x.kind,.int .i64 x.n,.string ⟨x.s.toArray⟩,.slice a7 x.keys.length c7,.slice a8 x.l.length c8]++cs2)->Below w1.heap.size w1 w3 ->
  In (set5 (w3.setCell ⟨w.heap.size,4,none⟩ (.slice (some ⟨g,0,none⟩) (t.l.length+1) cap)) (w.heap.size+2) (.int .i64 t.kind) (.int .i64 t.n) (.string ⟨t.s.toArray⟩) (.slice a1 t.keys.length c1) (.slice (some ⟨g,0,none⟩) (t.l.length+1) cap)) (okN ok w.heap.size) { t with l:=t.l.take i++x :: t.l.drop i } (.agg #[.int .i64 t.kind,.int .i64 t.n,.string ⟨t.s.toArray⟩,.slice a1 t.keys.length c1,.slice (some ⟨g,0,none⟩) (t.l.length+1) cap]) /\
  Below w.heap.size w (set5 (w3.setCell ⟨w.heap.size,4,none⟩ (.slice (some ⟨g,0,none⟩) (t.l.length+1) cap)) (w.heap.size+2) (.int .i64 t.kind) (.int .i64 t.n) (.string ⟨t.s.toArray⟩) (.slice a1 t.keys.length c1) (.slice (some ⟨g,0,none⟩) (t.l.length+1) cap))/\BoxIs (set5 (w3.setCell ⟨w.heap.size,4,none⟩ (.slice (some ⟨g,0,none⟩) (t.l.length+1) cap)) (w.heap.size+2) (.int .i64 t.kind) (.int .i64 t.n) (.string ⟨t.s.toArray⟩) (.slice a1 t.keys.length c1) (.slice (some ⟨g,0,none⟩) (t.l.length+1) cap)) (w.heap.size+2) (.int .i64 t.kind) (.int .i64 t.n) (.string ⟨t.s.toArray⟩) (.slice a1 t.keys.length c1) (.slice (some ⟨g,0,none⟩) (t.l.length+1) cap)):=by
  intro w3 g cap ho hb
  have g1:w3.grownBy (w3.setCell ⟨w.heap.size,4,none⟩ (.slice (some ⟨g,0,none⟩) (t.l.length+1) cap)) (some w.heap.size):=gb_set (gb_refl _ _) _ _
  have g2:=set5_gb (w3.setCell ⟨w.heap.size,4,none⟩ (.slice (some ⟨g,0,none⟩) (t.l.length+1) cap)) (w.heap.size+2) (.int .i64 t.kind) (.int .i64 t.n) (.string ⟨t.s.toArray⟩) (.slice a1 t.keys.length c1) (.slice (some ⟨g,0,none⟩) (t.l.length+1) cap)
  have hbx:=((box_bel hb M.out.2.2.1).grown g1 (by simp)).set (.int .i64 t.kind) (.int .i64 t.n) (.string ⟨t.s.toArray⟩) (.slice a1 t.keys.length c1) (.slice (some ⟨g,0,none⟩) (t.l.length+1) cap)
  have hbw:Below w.heap.size w w3:=bel_trans M.out.2.2.2 hb
  have hb9:Below w.heap.size w (set5 (w3.setCell ⟨w.heap.size,4,none⟩ (.slice (some ⟨g,0,none⟩) (t.l.length+1) cap)) (w.heap.size+2) (.int .i64 t.kind) (.int .i64 t.n) (.string ⟨t.s.toArray⟩) (.slice a1 t.keys.length c1) (.slice (some ⟨g,0,none⟩) (t.l.length+1) cap)):=gb_none (gb_set5 (gb_setA (gb_below hbw) (Nat.le_refl _) _ _) (by omega) _ _ _ _ _)
  refine⟨⟨d+1,_,_,rfl,KK.out.1,KK.out.2.1,KK.out.2.2.1,?_,?_⟩,hb9,hbx⟩
  ·exact(KK.out.2.2.2.1.bel hb9).imp fun a x hx hc=>⟨.inl hx.1,hc⟩
  ·have ho9:=own_kept' (own_kept' ho g1 (by omega)) g2 (by omega)
   have hlen:t.l.length+1=(t.l.take i++x :: t.l.drop i).length:=by simp;omega
   refine own_vals hlen ho9 ?_ (fun k hk=>.inr (by omega)) (by rw[<-hlen];unfold maxLen;omega)
   have rx:RowV (VIs _ (okN (fun k=>ok k/\k < w.heap.size) w.heap.size) d) [x] [.int .i64 x.kind,.int .i64 x.n,.string ⟨x.s.toArray⟩,.slice a7 x.keys.length c7,.slice a8 x.l.length c8]:=⟨_,_,_,_,_,[],rfl,(HX.out.bel hb9).toN,rfl⟩
   have:=((R.out.2.1.bel (B:=w.heap.size) hb9).append rx).append (R.out.1.bel (B:=w.heap.size) hb9)
   rw[List.append_assoc]
   exact this.imp fun _ _ h=>h.weak fun k hk=>by rcases hk with hk | hk;exact .inl hk.1;exact .inr hk
 have j0:(0:Int)<=(i:Int):=by omega
 have j1:(i:Int)<=(t.l.length:Int):=by omega
 rcases HC.out with⟨rfl,e3,rfl,rfl⟩ | ⟨b,off,rfl,hc1,hc2,rfl,hv3⟩
 ·have j6:(t.l.length:Int)<=0:=by omega
  have E3:=hidI e3
  have e7:i=0:=by omega
  clear e3 HC
  subst e7
  go_upto_region 8 with fail
  go_region_with ((go_at_call 79;refine(con.out _ (by rfl) (by rfl) (by rfl) (by rfl)).mono ?_;rintro e w3 ⟨g,cap,rfl,ho3,hb3⟩;obtain⟨p0,p1,p2,p3,p4,-,-,-,p9,p10⟩:=(box_bel hb3 M.out.1).c;obtain⟨x0,x1,x2,x3,x4,y0,y1,y2,y3,y4⟩:=(box_bel hb3 M.out.2.2.1).c;have O3:=hidI ho3;have HB3:=hidI hb3;clear ho3 hb3))
  all_goals
   go_wp2_with fail
   obtain⟨f1,f2,f3⟩:=fin.out _ g cap O3.out HB3.out
   obtain⟨z0,z1,z2,z3,z4,-⟩:=f3.c
   refine bodyPost_ret (v:=.tuple #[.agg #[.int .i64 t.kind,.int .i64 t.n,.string ⟨t.s.toArray⟩,.slice a1 t.keys.length c1,.slice (some ⟨g,0,none⟩) (t.l.length+1) cap],.bool true]) ?_ rfl ?_
   ·simp only[set5]at z0 z1 z2 z3 z4
    simp[results,Tryz.results47,go_sem,z0,z1,z2,z3,z4]
   ·exact⟨_,rfl,f2,f1⟩
 ·obtain⟨a3,hifs⟩:∃ a3,(if c2=i then (some ⟨b,off,none⟩:Option Addr) else some ⟨b,off+i * 5,none⟩)=a3:=⟨_,rfl⟩
  rw[hifs]at hv3
  subst hv3
  clear HC
  have j5:(i:Int)<=(c2:Int):=by omega
  have j6:(t.l.length:Int)<=(c2:Int):=by omega
  go_upto_region 8 with fail
  go_region_with ((go_at_call 79;refine(con.out _ (by rfl) (by rfl) (by rfl) (by rfl)).mono ?_;rintro e w3 ⟨g,cap,rfl,ho3,hb3⟩;obtain⟨p0,p1,p2,p3,p4,-,-,-,p9,p10⟩:=(box_bel hb3 M.out.1).c;obtain⟨x0,x1,x2,x3,x4,y0,y1,y2,y3,y4⟩:=(box_bel hb3 M.out.2.2.1).c;have O3:=hidI ho3;have HB3:=hidI hb3;clear ho3 hb3))
  all_goals
   go_wp2_with fail
   obtain⟨f1,f2,f3⟩:=fin.out _ g cap O3.out HB3.out
   obtain⟨z0,z1,z2,z3,z4,-⟩:=f3.c
   refine bodyPost_ret (v:=.tuple #[.agg #[.int .i64 t.kind,.int .i64 t.n,.string ⟨t.s.toArray⟩,.slice a1 t.keys.length c1,.slice (some ⟨g,0,none⟩) (t.l.length+1) cap],.bool true]) ?_ rfl ?_
   ·simp only[set5]at z0 z1 z2 z3 z4
    simp[results,Tryz.results47,go_sem,z0,z1,z2,z3,z4]
   ·exact⟨_,rfl,f2,f1⟩
end Go.Proofs.YtmdemcjmcnfjmaaGreatDoor
namespace Go.Proofs.YtmdemcjmcnfjmaaGreatDoor
open Go.RowKit
attribute [local go_sem ↓] Go.wp_at_zero Go.wp_at_succ
set_option maxRecDepth 100000 in
set_option maxHeartbeats 40000000 in
theorem replaced_list (w:World) (ok:Nat->Prop) (t x:V) (v xv:Value) (s:List UInt8) (i:Nat) (h:In w ok t v) (hx:In w ok x xv) (hk:t.kind=4) (hp:placeP t.l.length s=some i) (hi:i < t.l.length) (hsz:t.l.length<=100000) (hs:s.length<=9223372036854775807) :
 Calls Tryz.prog 148 #[v,str s,xv] w fun e w'=>∃ r,e=.returned (.tuple #[r,.bool true])/\Below w.heap.size w w'/\In w' (okN ok w.heap.size) { t with l:=t.l.take i++x :: t.l.drop (i+1) } r:=by
 obtain⟨l1,l2,l3⟩:=h.lens
 obtain⟨a7,a8,c7,c8,rfl⟩:=hx.form
 obtain⟨d,h,hx⟩:=h.low.two hx.low
 have HX:=hidI hx
 obtain⟨ks,ls,rfl,h1,h2,h3,h4,h5⟩:=h
 have KK:Hid (I64 t.kind/\I64 t.n/\t.s.length<=maxLen/\StrsAre w _ t.keys ks/\ValsAre w _ (VIs w _ d) t.l ls):=⟨h1,h2,h3,h4,h5⟩
 obtain⟨a1,c1,rfl⟩:=h4.form
 obtain⟨a2,c2,rfl⟩:=h5.form
 have hia:=place_le hp
 obtain⟨cs1,cs2,v1,v3,r1,r2,s1,s3,hcase⟩:=rows_at h5 i (i+1) (by omega) hi (by omega)
 have R:Hid (RowV (VIs w _ d) (t.l.take i) cs1/\RowV (VIs w _ d) (t.l.drop (i+1)) cs2/\SlIs w 5 v1 i cs1/\SlIs w 5 v3 (t.l.length - (i+1)) cs2):=⟨r1,r2,s1,s3⟩
 have HC:=hidI hcase
 have HP:=hidI hp
 have q1:(t.kind == 5)=false:=by rw[hk];rfl
 have q2:(t.kind == 4)=true:=by rw[hk];rfl
 clear h1 h2 h4 h5 hx r1 r2 s1 s3 hcase hp hk
 unfold maxLen at h3
 unfold str
 have HM:Hid (meantV t s=some t.l[i]):=hidI (by unfold meantV;rw[if_pos (by simpa using q2),HP.out,Option.bind_some,List.getElem?_eq_getElem hi])
 have HV:Hid (In w (fun k=>ok k/\k < w.heap.size) t (.agg #[.int .i64 t.kind,.int .i64 t.n,.string ⟨t.s.toArray⟩,.slice a1 t.keys.length c1,.slice a2 t.l.length c2])):=⟨d+1,_,_,rfl,KK.out.1,KK.out.2.1,KK.out.2.2.1,KK.out.2.2.2.1,KK.out.2.2.2.2⟩
 go_enter Tryz.func148,Tryz.ntmps148
 go_wp2_with fail
 refine(meant_is _ (fun k=>ok k/\k < w.heap.size) t _ s (by exact HV.out.bel (bel_trans (bel_trans (bel_alloc _ _) (bel_alloc _ _)) (bel_alloc _ _))) hs).mono ?_
 rintro e w0 ⟨x9,b9,rfl,hb0,hb9,y9,hy9,-⟩
 rw[HM.out]at hb9
 simp only[Option.isSome_some]at hb9
 subst hb9
 obtain⟨a5,a6,c5,c6,rfl⟩:=hy9.form
 have M0:Hid (BoxIs w0 w.heap.size (.int .i64 t.kind) (.int .i64 t.n) (.string ⟨t.s.toArray⟩) (.slice a1 t.keys.length c1) (.slice a2 t.l.length c2)/\BoxIs w0 (w.heap.size+1) (.int .i64 x.kind) (.int .i64 x.n) (.string ⟨x.s.toArray⟩) (.slice a7 x.keys.length c7) (.slice a8 x.l.length c8)/\BoxIs w0 (w.heap.size+2) (.int .i64 0) (.int .i64 0) (.string ⟨#[]⟩) (.slice none 0 0) (.slice none 0 0)/\Below w.heap.size w w0):=
  ⟨box_bel hb0 (h3a w _ _ _),box_bel hb0 (h3b w _ _ _),box_bel hb0 (h3c w _ _ _),bel_trans (bel_trans (bel_trans (bel_alloc _ _) (bel_alloc _ _)) (bel_alloc _ _)) hb0⟩
 have M1:Hid (BoxIs (w0.alloc (.cells #[.int .i64 y9.kind,.int .i64 y9.n,.string ⟨y9.s.toArray⟩,.slice a5 y9.keys.length c5,.slice a6 y9.l.length c6] 25)) w.heap.size (.int .i64 t.kind) (.int .i64 t.n) (.string ⟨t.s.toArray⟩) (.slice a1 t.keys.length c1) (.slice a2 t.l.length c2)/\BoxIs (w0.alloc (.cells #[.int .i64 y9.kind,.int .i64 y9.n,.string ⟨y9.s.toArray⟩,.slice a5 y9.keys.length c5,.slice a6 y9.l.length c6] 25)) (w.heap.size+1) (.int .i64 x.kind) (.int .i64 x.n) (.string ⟨x.s.toArray⟩) (.slice a7 x.keys.length c7) (.slice a8 x.l.length c8)/\BoxIs (w0.alloc (.cells #[.int .i64 y9.kind,.int .i64 y9.n,.string ⟨y9.s.toArray⟩,.slice a5 y9.keys.length c5,.slice a6 y9.l.length c6] 25)) (w.heap.size+2) (.int .i64 0) (.int .i64 0) (.string ⟨#[]⟩) (.slice none 0 0) (.slice none 0 0)/\Below w.heap.size w (w0.alloc (.cells #[.int .i64 y9.kind,.int .i64 y9.n,.string ⟨y9.s.toArray⟩,.slice a5 y9.keys.length c5,.slice a6 y9.l.length c6] 25))):=by
  have hbb:=bel_alloc w0 (.cells #[.int .i64 y9.kind,.int .i64 y9.n,.string ⟨y9.s.toArray⟩,.slice a5 y9.keys.length c5,.slice a6 y9.l.length c6] 25)
  exact⟨box_bel hbb M0.out.1,box_bel hbb M0.out.2.1,box_bel hbb M0.out.2.2.1,bel_trans M0.out.2.2.2 hbb⟩
 obtain⟨n0,-,-,-,n4,-⟩:=M1.out.1.c
 clear hb0 hy9
 go_wp2_with fail
 refine(place_at _ _ t.l.length c2 s l2 hs).mono ?_
 rintro e w1 ⟨rfl,hw⟩
 rw[HP.out]
 unfold numV
 have M:Hid (BoxIs w1 w.heap.size (.int .i64 t.kind) (.int .i64 t.n) (.string ⟨t.s.toArray⟩) (.slice a1 t.keys.length c1) (.slice a2 t.l.length c2)/\BoxIs w1 (w.heap.size+1) (.int .i64 x.kind) (.int .i64 x.n) (.string ⟨x.s.toArray⟩) (.slice a7 x.keys.length c7) (.slice a8 x.l.length c8)/\BoxIs w1 (w.heap.size+2) (.int .i64 0) (.int .i64 0) (.string ⟨#[]⟩) (.slice none 0 0) (.slice none 0 0)/\Below w.heap.size w w1):=by
  rw[hw];exact M1.out
 clear hw M1 n0 n4
 have hsz1:w.heap.size+2 < w1.heap.size:=M.out.2.2.1.lt
 simp only[Option.getD_some,Option.isSome_some]
 obtain⟨p0,p1,p2,p3,p4,-,-,-,p9,p10⟩:=M.out.1.c
 obtain⟨q0,q11,q12,q13,q14,-⟩:=M.out.2.1.c
 have k4:∀ o,(w1.alloc o).cell? ⟨w.heap.size,4,none⟩=some (.slice a2 t.l.length c2):=fun o=>(box_bel (bel_alloc w1 o) M.out.1).c.2.2.2.2.1
 have m0:∀ o,(w1.alloc o).cell? ⟨w.heap.size+1,0,none⟩=some (.int .i64 x.kind):=fun o=>(box_bel (bel_alloc w1 o) M.out.2.1).c.1
 have m1:∀ o,(w1.alloc o).cell? ⟨w.heap.size+1,1,none⟩=some (.int .i64 x.n):=fun o=>(box_bel (bel_alloc w1 o) M.out.2.1).c.2.1
 have m2:∀ o,(w1.alloc o).cell? ⟨w.heap.size+1,2,none⟩=some (.string ⟨x.s.toArray⟩):=fun o=>(box_bel (bel_alloc w1 o) M.out.2.1).c.2.2.1
 have m3:∀ o,(w1.alloc o).cell? ⟨w.heap.size+1,3,none⟩=some (.slice a7 x.keys.length c7):=fun o=>(box_bel (bel_alloc w1 o) M.out.2.1).c.2.2.2.1
 have m4:∀ o,(w1.alloc o).cell? ⟨w.heap.size+1,4,none⟩=some (.slice a8 x.l.length c8):=fun o=>(box_bel (bel_alloc w1 o) M.out.2.1).c.2.2.2.2.1
 have con:Hid (∀ W,W.heap=((w1.alloc (.cells #[.int .i64 x.kind,.int .i64 x.n,.string ⟨x.s.toArray⟩,.slice a7 x.keys.length c7,.slice a8 x.l.length c8] 25)).alloc (.cells #[v1,.slice (some ⟨w1.heap.size,0,none⟩) 1 1,v3] 23)).heap->W.os=w1.os->W.tape=w1.tape->W.output=w1.output ->
  Calls Tryz.prog 79 #[.slice (some ⟨w1.heap.size+1,0,none⟩) 3 3] W fun e w'=>∃ g cap,e=.returned (.slice (some ⟨g,0,none⟩) t.l.length cap)/\w'.ownsRow w1.heap.size 25 5 (.slice (some ⟨g,0,none⟩) t.l.length cap) t.l.length (cs1++[.int .i64 x.kind,.int .i64 x.n,.string ⟨x.s.toArray⟩,.slice a7 x.keys.length c7,.slice a8 x.l.length c8]++cs2)/\Below w1.heap.size w1 w'):=by
  intro W e1 e2 e4 e5
  exact conV3 _ _ _ _ _ _ _ _ _ (R.out.2.2.1.bel M.out.2.2.2) (R.out.2.2.2.bel M.out.2.2.2) (by omega) (by omega) W e1 e2 e4 e5
 have fin:Hid (∀ w3 g cap,w3.ownsRow w1.heap.size 25 5 (.slice (some ⟨g,0,none⟩) t.l.length cap) t.l.length (cs1++[.int .i64 x.kind,.int .i64 x.n,.string ⟨x.s.toArray⟩,.slice a7 x.keys.length c7,.slice a8 x.l.length c8]++cs2)->Below w1.heap.size w1 w3 ->
  In (set5 (w3.setCell ⟨w.heap.size,4,none⟩ (.slice (some ⟨g,0,none⟩) t.l.length cap)) (w.heap.size+2) (.int .i64 t.kind) (.int .i64 t.n) (.string ⟨t.s.toArray⟩) (.slice a1 t.keys.length c1) (.slice (some ⟨g,0,none⟩) t.l.length cap)) (okN ok w.heap.size) { t with l:=t.l.take i++x :: t.l.drop (i+1) } (.agg #[.int .i64 t.kind,.int .i64 t.n,.string ⟨t.s.toArray⟩,.slice a1 t.keys.length c1,.slice (some ⟨g,0,none⟩) t.l.length cap]) /\
  Below w.heap.size w (set5 (w3.setCell ⟨w.heap.size,4,none⟩ (.slice (some ⟨g,0,none⟩) t.l.length cap)) (w.heap.size+2) (.int .i64 t.kind) (.int .i64 t.n) (.string ⟨t.s.toArray⟩) (.slice a1 t.keys.length c1) (.slice (some ⟨g,0,none⟩) t.l.length cap))/\BoxIs (set5 (w3.setCell ⟨w.heap.size,4,none⟩ (.slice (some ⟨g,0,none⟩) t.l.length cap)) (w.heap.size+2) (.int .i64 t.kind) (.int .i64 t.n) (.string ⟨t.s.toArray⟩) (.slice a1 t.keys.length c1) (.slice (some ⟨g,0,none⟩) t.l.length cap)) (w.heap.size+2) (.int .i64 t.kind) (.int .i64 t.n) (.string ⟨t.s.toArray⟩) (.slice a1 t.keys.length c1) (.slice (some ⟨g,0,none⟩) t.l.length cap)):=by
  intro w3 g cap ho hb
  have g1:w3.grownBy (w3.setCell ⟨w.heap.size,4,none⟩ (.slice (some ⟨g,0,none⟩) t.l.length cap)) (some w.heap.size):=gb_set (gb_refl _ _) _ _
  have g2:=set5_gb (w3.setCell ⟨w.heap.size,4,none⟩ (.slice (some ⟨g,0,none⟩) t.l.length cap)) (w.heap.size+2) (.int .i64 t.kind) (.int .i64 t.n) (.string ⟨t.s.toArray⟩) (.slice a1 t.keys.length c1) (.slice (some ⟨g,0,none⟩) t.l.length cap)
  have hbx:=((box_bel hb M.out.2.2.1).grown g1 (by simp)).set (.int .i64 t.kind) (.int .i64 t.n) (.string ⟨t.s.toArray⟩) (.slice a1 t.keys.length c1) (.slice (some ⟨g,0,none⟩) t.l.length cap)
  have hbw:Below w.heap.size w w3:=bel_trans M.out.2.2.2 hb
  have hb9:Below w.heap.size w (set5 (w3.setCell ⟨w.heap.size,4,none⟩ (.slice (some ⟨g,0,none⟩) t.l.length cap)) (w.heap.size+2) (.int .i64 t.kind) (.int .i64 t.n) (.string ⟨t.s.toArray⟩) (.slice a1 t.keys.length c1) (.slice (some ⟨g,0,none⟩) t.l.length cap)):=gb_none (gb_set5 (gb_setA (gb_below hbw) (Nat.le_refl _) _ _) (by omega) _ _ _ _ _)
  refine⟨⟨d+1,_,_,rfl,KK.out.1,KK.out.2.1,KK.out.2.2.1,?_,?_⟩,hb9,hbx⟩
  ·exact(KK.out.2.2.2.1.bel hb9).imp fun a x hx hc=>⟨.inl hx.1,hc⟩
  ·have ho9:=own_kept' (own_kept' ho g1 (by omega)) g2 (by omega)
   have hlen:t.l.length=(t.l.take i++x :: t.l.drop (i+1)).length:=by simp;omega
   refine own_vals hlen ho9 ?_ (fun k hk=>.inr (by omega)) (by rw[<-hlen];unfold maxLen;omega)
   have rx:RowV (VIs _ (okN (fun k=>ok k/\k < w.heap.size) w.heap.size) d) [x] [.int .i64 x.kind,.int .i64 x.n,.string ⟨x.s.toArray⟩,.slice a7 x.keys.length c7,.slice a8 x.l.length c8]:=⟨_,_,_,_,_,[],rfl,(HX.out.bel hb9).toN,rfl⟩
   have:=((R.out.2.1.bel (B:=w.heap.size) hb9).append rx).append (R.out.1.bel (B:=w.heap.size) hb9)
   rw[List.append_assoc]
   exact this.imp fun _ _ h=>h.weak fun k hk=>by rcases hk with hk | hk;exact .inl hk.1;exact .inr hk
 have j0:(0:Int)<=(i:Int):=by omega
 have j1:(i:Int)+1<=(t.l.length:Int):=by omega
 have j2:(0:Int)<=(i:Int)+1:=by omega
 have hw1:IntKind.i64.wrap ((i:Int)+1)=(i:Int)+1:=by rw[IntKind.wrap_i64];omega
 rcases HC.out with⟨-,e3,-⟩ | ⟨b,off,rfl,hc1,hc2,rfl,hv3⟩
 ·omega
 ·obtain⟨a3,hifs⟩:∃ a3,(if c2=i+1 then (some ⟨b,off,none⟩:Option Addr) else some ⟨b,off+(i+1) * 5,none⟩)=a3:=⟨_,rfl⟩
  rw[hifs]at hv3
  subst hv3
  clear HC
  have j5:(i:Int)<=(c2:Int):=by omega
  have j6:(t.l.length:Int)<=(c2:Int):=by omega
  go_upto_region 7 with fail
  go_region_with ((go_at_call 79;refine(con.out _ (by rfl) (by rfl) (by rfl) (by rfl)).mono ?_;rintro e w3 ⟨g,cap,rfl,ho3,hb3⟩;obtain⟨p0,p1,p2,p3,p4,-,-,-,p9,p10⟩:=(box_bel hb3 M.out.1).c;obtain⟨x0,x1,x2,x3,x4,y0,y1,y2,y3,y4⟩:=(box_bel hb3 M.out.2.2.1).c;have O3:=hidI ho3;have HB3:=hidI hb3;clear ho3 hb3))
  all_goals
   go_wp2_with fail
   obtain⟨f1,f2,f3⟩:=fin.out _ g cap O3.out HB3.out
   obtain⟨z0,z1,z2,z3,z4,-⟩:=f3.c
   refine bodyPost_ret (v:=.tuple #[.agg #[.int .i64 t.kind,.int .i64 t.n,.string ⟨t.s.toArray⟩,.slice a1 t.keys.length c1,.slice (some ⟨g,0,none⟩) t.l.length cap],.bool true]) ?_ rfl ?_
   ·simp only[set5]at z0 z1 z2 z3 z4
    simp[results,Tryz.results148,go_sem,z0,z1,z2,z3,z4]
   ·exact⟨_,rfl,f2,f1⟩
end Go.Proofs.YtmdemcjmcnfjmaaGreatDoor
