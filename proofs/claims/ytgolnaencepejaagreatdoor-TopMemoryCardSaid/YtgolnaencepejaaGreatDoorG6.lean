import Derived.Test.YtgolnaencepejaaGreatDoorG5
set_option maxRecDepth 100000
set_option maxHeartbeats 40000000
set_option linter.unusedSimpArgs false
set_option linter.unusedVariables false
namespace Go.Proofs.YtgolnaencepejaaGreatDoor
open Go.RowKit
open _root_.Go.Proofs.Tryz
section
attribute [local go_sem ↓] Go.wp_at_zero Go.wp_at_succ
theorem yS(w ok t x v xv s i)(h:In w ok t v)(hx:In w ok x xv)(hk:t.kind=4)(hp:cX t.l.length s=some i)(L9:t.l.length<=100000)(hs:s.length<=9223372036854775807):Calls prog 199 #[v,aR s,xv] w fun e w'=>∃ r,e=.returned (.tuple #[r,.bool true])/\La w w'/\In w' (bQ ok w.heap.size) { t with l:=t.l.take i++x :: t.l.drop i } r:=by
 obtain⟨l1,l2,l3⟩:=h.lens;obtain⟨a7,a8,c7,c8,rfl⟩:=hx.form;obtain⟨d,h,hx⟩:=h.low.two hx.low;have HX:=aa hx;obtain⟨ks,ls,rfl,h1,h2,h3,h4,h5⟩:=h;have KK:Ll (dW t.kind/\dW t.n/\t.s.length<=maxLen/\ao w _ t.keys ks/\cS w _ (bu w _ d) t.l ls):=⟨h1,h2,h3,h4,h5⟩
 obtain⟨a1,c1,rfl⟩:=h4.form;obtain⟨a2,c2,rfl⟩:=h5.form;have hia:=pV hp;obtain⟨cs1,cs2,v1,v3,r1,r2,s1,s3,hcase⟩:=tg h5 i i (MG _) hia (by omega);have R:Ll (cA (bu w _ d) (t.l.take i) cs1/\cA (bu w _ d) (t.l.drop i) cs2/\du w 5 v1 i cs1/\du w 5 v3 (t.l.length - i) cs2):=⟨r1,r2,s1,s3⟩
 have HC:=aa hcase;have HP:=aa hp;have q1:(t.kind == 5)=false:=by rw[hk];rfl
 have q2:(t.kind == 4)=true:=by rw[hk];rfl
 clear h1 h2 h4 h5 hx r1 r2 s1 s3 hcase hp hk;unfold maxLen at h3;unfold aR;go_enter func199,ntmps199;go_wp2_with fail
 refine(jb _ _ t.l.length c2 s l2 hs).mono ?_;rintro e w1 ⟨rfl,hw⟩;rw[HP.o];unfold ow;have hb1:La w w1:=by rw[hw];exact ab (ab (ae _ _) (ae _ _)) (ae _ _)
 have M:Ll (KY w1 w.heap.size t a1 c1 a2 c2/\KY w1 (w.heap.size+1) x a7 c7 a8 c8/\Lc w1 (w.heap.size+2)/\La w w1):=by
  rw[hw];exact⟨lI w _ _ _,mE w _ _ _,jI w _ _ _,by rw[<-hw];exact hb1⟩
 clear hw hb1;have hsz1:w.heap.size+2 < w1.heap.size:=M.o.2.2.1.lt;simp only[Option.getD_some,Option.isSome_some];obtain⟨p0,p1,p2,p3,p4,-,-,-,p9,p10⟩:=M.o.1.c;have q0_:=M.o.2.1.c;have k4:∀ o,(w1.alloc o).cell? ⟨w.heap.size,4,none⟩=some (.slice a2 t.l.length c2):=fun o=>(af (ae w1 o) M.o.1).c.2.2.2.2.1;have m0:∀ o,(w1.alloc o).cell? ⟨w.heap.size+1,0,none⟩=some (.int .i64 x.kind):=fun o=>(af (ae w1 o) M.o.2.1).c.1;have m1:∀ o,(w1.alloc o).cell? ⟨w.heap.size+1,1,none⟩=some (.int .i64 x.n):=fun o=>(af (ae w1 o) M.o.2.1).c.2.1;have m2:∀ o,(w1.alloc o).cell? ⟨w.heap.size+1,2,none⟩=some (.string ⟨x.s.toArray⟩):=fun o=>(af (ae w1 o) M.o.2.1).c.2.2.1;have m3:∀ o,(w1.alloc o).cell? ⟨w.heap.size+1,3,none⟩=some (.slice a7 x.keys.length c7):=fun o=>(af (ae w1 o) M.o.2.1).c.2.2.2.1;have m4:∀ o,(w1.alloc o).cell? ⟨w.heap.size+1,4,none⟩=some (.slice a8 x.l.length c8):=fun o=>(af (ae w1 o) M.o.2.1).c.2.2.2.2.1;have con:Ll (∀ W,W.heap=((w1.alloc (.cells (KV x a7 c7 a8 c8) 39)).alloc (.cells #[v1,.slice (some ⟨w1.heap.size,0,none⟩) 1 1,v3] 37)).heap->W.os=w1.os->W.tape=w1.tape->W.output=w1.output ->
  Calls prog 191 #[.slice (some ⟨w1.heap.size+1,0,none⟩) 3 3] W fun e w'=>∃ g cap,e=.returned (.slice (some ⟨g,0,none⟩) (t.l.length+1) cap)/\w'.ownsRow w1.heap.size 39 5 (.slice (some ⟨g,0,none⟩) (t.l.length+1) cap) (t.l.length+1) (cs1++[.int .i64 x.kind,.int .i64 x.n,.string ⟨x.s.toArray⟩,.slice a7 x.keys.length c7,.slice a8 x.l.length c8]++cs2)/\La w1 w'):=by
  intro W e1 e2 e4 e5;exact EJ _ _ _ _ _ _ _ _ _ (R.o.2.2.1.bel M.o.2.2.2) (R.o.2.2.2.bel M.o.2.2.2) (by omega) (by omega) W e1 e2 e4 e5
 have fin:Ll (∀ w3 g cap,w3.ownsRow w1.heap.size 39 5 (.slice (some ⟨g,0,none⟩) (t.l.length+1) cap) (t.l.length+1) (cs1++[.int .i64 x.kind,.int .i64 x.n,.string ⟨x.s.toArray⟩,.slice a7 x.keys.length c7,.slice a8 x.l.length c8]++cs2)->La w1 w3 ->
  In (ar (w3.setCell ⟨w.heap.size,4,none⟩ (.slice (some ⟨g,0,none⟩) (t.l.length+1) cap)) (w.heap.size+2) (.int .i64 t.kind) (.int .i64 t.n) (.string ⟨t.s.toArray⟩) (.slice a1 t.keys.length c1) (.slice (some ⟨g,0,none⟩) (t.l.length+1) cap)) (bQ ok w.heap.size) { t with l:=t.l.take i++x :: t.l.drop i } (.agg #[.int .i64 t.kind,.int .i64 t.n,.string ⟨t.s.toArray⟩,.slice a1 t.keys.length c1,.slice (some ⟨g,0,none⟩) (t.l.length+1) cap]) /\
  La w (ar (w3.setCell ⟨w.heap.size,4,none⟩ (.slice (some ⟨g,0,none⟩) (t.l.length+1) cap)) (w.heap.size+2) (.int .i64 t.kind) (.int .i64 t.n) (.string ⟨t.s.toArray⟩) (.slice a1 t.keys.length c1) (.slice (some ⟨g,0,none⟩) (t.l.length+1) cap))/\ag (ar (w3.setCell ⟨w.heap.size,4,none⟩ (.slice (some ⟨g,0,none⟩) (t.l.length+1) cap)) (w.heap.size+2) (.int .i64 t.kind) (.int .i64 t.n) (.string ⟨t.s.toArray⟩) (.slice a1 t.keys.length c1) (.slice (some ⟨g,0,none⟩) (t.l.length+1) cap)) (w.heap.size+2) (.int .i64 t.kind) (.int .i64 t.n) (.string ⟨t.s.toArray⟩) (.slice a1 t.keys.length c1) (.slice (some ⟨g,0,none⟩) (t.l.length+1) cap)):=by
  intro w3 g cap ho hb;have g1:w3.grownBy (w3.setCell ⟨w.heap.size,4,none⟩ (.slice (some ⟨g,0,none⟩) (t.l.length+1) cap)) (some w.heap.size):=ap (az _ _) _ _;have g2:=aI (w3.setCell ⟨w.heap.size,4,none⟩ (.slice (some ⟨g,0,none⟩) (t.l.length+1) cap)) (w.heap.size+2) (.int .i64 t.kind) (.int .i64 t.n) (.string ⟨t.s.toArray⟩) (.slice a1 t.keys.length c1) (.slice (some ⟨g,0,none⟩) (t.l.length+1) cap);have LU:=((af hb M.o.2.2.1).grown g1 (by simp)).set (.int .i64 t.kind) (.int .i64 t.n) (.string ⟨t.s.toArray⟩) (.slice a1 t.keys.length c1) (.slice (some ⟨g,0,none⟩) (t.l.length+1) cap);have hbw:La w w3:=ab M.o.2.2.2 hb;have hb9:La w (ar (w3.setCell ⟨w.heap.size,4,none⟩ (.slice (some ⟨g,0,none⟩) (t.l.length+1) cap)) (w.heap.size+2) (.int .i64 t.kind) (.int .i64 t.n) (.string ⟨t.s.toArray⟩) (.slice a1 t.keys.length c1) (.slice (some ⟨g,0,none⟩) (t.l.length+1) cap)):=bS (eD (bi (aq hbw) (MG _) _ _) (by omega) _ _ _ _ _);refine⟨⟨d+1,_,_,rfl,KK.o.1,KK.o.2.1,KK.o.2.2.1,?_,?_⟩,hb9,LU⟩
  ·exact(KK.o.2.2.2.1.bel hb9).imp fun a x hx hc=>⟨.inl hx.1,hc⟩
  ·have ho9:=aW (aW ho g1 (by omega)) g2 (by omega);have LT:t.l.length+1=(t.l.take i++x :: t.l.drop i).length:=by simp;omega
   refine fJ LT ho9 ?_ (fun k hk=>.inr (by omega)) (by rw[<-LT];unfold maxLen;omega);have rx:cA (bu _ (bQ (Lj ok w) w.heap.size) d) [x] [.int .i64 x.kind,.int .i64 x.n,.string ⟨x.s.toArray⟩,.slice a7 x.keys.length c7,.slice a8 x.l.length c8]:=⟨_,_,_,_,_,[],rfl,(HX.o.bel hb9).toN,rfl⟩
   have:=((R.o.2.1.bel (B:=w.heap.size) hb9).append rx).append (R.o.1.bel (B:=w.heap.size) hb9);rw[List.append_assoc];exact this.imp fun _ _ h=>h.weak fun k hk=>by rcases hk with hk | hk;exact .inl hk.1;exact .inr hk
 have j0:(0:Int)<=(i:Int):=by omega
 have j1:(i:Int)<=(t.l.length:Int):=by omega
 rcases HC.o with⟨rfl,e3,rfl,rfl⟩ | ⟨b,off,rfl,hc1,hc2,rfl,hv3⟩
 ·have j6:(t.l.length:Int)<=0:=by omega
  have E3:=aa e3;have e7:i=0:=by omega
  clear e3 HC;subst e7;go_upto_region 8 with fail
  go_region_with ((go_at_call 191;refine(con.o _ (by rfl) (by rfl) (by rfl) (by rfl)).mono ?_;rintro e w3 ⟨g,cap,rfl,ho3,hb3⟩;obtain⟨p0,p1,p2,p3,p4,-,-,-,p9,p10⟩:=(af hb3 M.o.1).c;have x0_:=(af hb3 M.o.2.2.1).c;have O3:=aa ho3;have HB3:=aa hb3;clear ho3 hb3))
  all_goals
   go_wp2_with fail
   obtain⟨f1,f2,f3⟩:=fin.o _ g cap O3.o HB3.o;have z0_:=f3.c;refine MM (v:=.tuple #[.agg #[.int .i64 t.kind,.int .i64 t.n,.string ⟨t.s.toArray⟩,.slice a1 t.keys.length c1,.slice (some ⟨g,0,none⟩) (t.l.length+1) cap],.bool true]) ?_ rfl ?_
   ·simp only[ar]at z0_;simp[results,results199,go_sem,z0_]
   ·exact⟨_,rfl,f2,f1⟩
 ·obtain⟨a3,hifs⟩:∃ a3,(if c2=i then (some ⟨b,off,none⟩:Option Addr) else some ⟨b,off+i * 5,none⟩)=a3:=⟨_,rfl⟩
  rw[hifs]at hv3;subst hv3;clear HC;have j5:(i:Int)<=(c2:Int):=by omega
  have j6:(t.l.length:Int)<=(c2:Int):=by omega
  go_upto_region 8 with fail
  go_region_with ((go_at_call 191;refine(con.o _ (by rfl) (by rfl) (by rfl) (by rfl)).mono ?_;rintro e w3 ⟨g,cap,rfl,ho3,hb3⟩;obtain⟨p0,p1,p2,p3,p4,-,-,-,p9,p10⟩:=(af hb3 M.o.1).c;have x0_:=(af hb3 M.o.2.2.1).c;have O3:=aa ho3;have HB3:=aa hb3;clear ho3 hb3))
  all_goals
   go_wp2_with fail
   obtain⟨f1,f2,f3⟩:=fin.o _ g cap O3.o HB3.o;have z0_:=f3.c;refine MM (v:=.tuple #[.agg #[.int .i64 t.kind,.int .i64 t.n,.string ⟨t.s.toArray⟩,.slice a1 t.keys.length c1,.slice (some ⟨g,0,none⟩) (t.l.length+1) cap],.bool true]) ?_ rfl ?_
   ·simp only[ar]at z0_;simp[results,results199,go_sem,z0_]
   ·exact⟨_,rfl,f2,f1⟩
end
section
attribute [local go_sem ↓] Go.wp_at_zero Go.wp_at_succ
theorem qQ(w ok t x v xv s i)(h:In w ok t v)(hx:In w ok x xv)(hk:t.kind=4)(hp:cX t.l.length s=some i)(hi:i < t.l.length)(L9:t.l.length<=100000)(hs:s.length<=9223372036854775807):Calls prog 202 #[v,aR s,xv] w fun e w'=>∃ r,e=.returned (.tuple #[r,.bool true])/\La w w'/\In w' (bQ ok w.heap.size) { t with l:=t.l.take i++x :: t.l.drop (i+1) } r:=by
 obtain⟨l1,l2,l3⟩:=h.lens;obtain⟨a7,a8,c7,c8,rfl⟩:=hx.form;obtain⟨d,h,hx⟩:=h.low.two hx.low;have HX:=aa hx;obtain⟨ks,ls,rfl,h1,h2,h3,h4,h5⟩:=h;have KK:Ll (dW t.kind/\dW t.n/\t.s.length<=maxLen/\ao w _ t.keys ks/\cS w _ (bu w _ d) t.l ls):=⟨h1,h2,h3,h4,h5⟩
 obtain⟨a1,c1,rfl⟩:=h4.form;obtain⟨a2,c2,rfl⟩:=h5.form;have hia:=pV hp;obtain⟨cs1,cs2,v1,v3,r1,r2,s1,s3,hcase⟩:=tg h5 i (i+1) (by omega) hi (by omega);have R:Ll (cA (bu w _ d) (t.l.take i) cs1/\cA (bu w _ d) (t.l.drop (i+1)) cs2/\du w 5 v1 i cs1/\du w 5 v3 (t.l.length - (i+1)) cs2):=⟨r1,r2,s1,s3⟩
 have HC:=aa hcase;have HP:=aa hp;have q1:(t.kind == 5)=false:=by rw[hk];rfl
 have q2:(t.kind == 4)=true:=by rw[hk];rfl
 clear h1 h2 h4 h5 hx r1 r2 s1 s3 hcase hp hk;unfold maxLen at h3;unfold aR;have HM:Ll (cg t s=some t.l[i]):=aa (by unfold cg;rw[if_pos (by simpa using q2),HP.o,Option.bind_some,Mw hi]);have HV:Ll (In w (Lj ok w) t (.agg (KV t a1 c1 a2 c2))):=⟨d+1,_,_,rfl,KK.o.1,KK.o.2.1,KK.o.2.2.1,KK.o.2.2.2.1,KK.o.2.2.2.2⟩
 go_enter func202,ntmps202;go_wp2_with fail
 refine(eI _ (Lj ok w) t _ s (by exact HV.o.bel (ab (ab (ae _ _) (ae _ _)) (ae _ _))) hs).mono ?_;rintro e w0 ⟨x9,b9,rfl,hb0,hb9,y9,hy9,-⟩;rw[HM.o]at hb9;simp only[Option.isSome_some]at hb9;subst hb9;obtain⟨a5,a6,c5,c6,rfl⟩:=hy9.form;have M0:Ll (KY w0 w.heap.size t a1 c1 a2 c2/\KY w0 (w.heap.size+1) x a7 c7 a8 c8/\Lc w0 (w.heap.size+2)/\La w w0):=
  ⟨af hb0 (lI w _ _ _),af hb0 (mE w _ _ _),af hb0 (jI w _ _ _),ab (ab (ab (ae _ _) (ae _ _)) (ae _ _)) hb0⟩
 have M1:Ll (KY (w0.alloc (.cells (KV y9 a5 c5 a6 c6) 39)) w.heap.size t a1 c1 a2 c2/\KY (w0.alloc (.cells (KV y9 a5 c5 a6 c6) 39)) (w.heap.size+1) x a7 c7 a8 c8/\Lc (w0.alloc (.cells (KV y9 a5 c5 a6 c6) 39)) (w.heap.size+2)/\La w (w0.alloc (.cells (KV y9 a5 c5 a6 c6) 39))):=by
  have LW:=ae w0 (.cells (KV y9 a5 c5 a6 c6) 39);exact⟨af LW M0.o.1,af LW M0.o.2.1,af LW M0.o.2.2.1,ab M0.o.2.2.2 LW⟩
 obtain⟨n0,-,-,-,n4,-⟩:=M1.o.1.c;clear hb0 hy9;go_wp2_with fail
 refine(jb _ _ t.l.length c2 s l2 hs).mono ?_;rintro e w1 ⟨rfl,hw⟩;rw[HP.o];unfold ow;have M:Ll (KY w1 w.heap.size t a1 c1 a2 c2/\KY w1 (w.heap.size+1) x a7 c7 a8 c8/\Lc w1 (w.heap.size+2)/\La w w1):=by
  rw[hw];exact M1.o
 clear hw M1;have hsz1:w.heap.size+2 < w1.heap.size:=M.o.2.2.1.lt;simp only[Option.getD_some,Option.isSome_some];obtain⟨p0,p1,p2,p3,p4,-,-,-,p9,p10⟩:=M.o.1.c;have q0_:=M.o.2.1.c;have k4:∀ o,(w1.alloc o).cell? ⟨w.heap.size,4,none⟩=some (.slice a2 t.l.length c2):=fun o=>(af (ae w1 o) M.o.1).c.2.2.2.2.1;have m0:∀ o,(w1.alloc o).cell? ⟨w.heap.size+1,0,none⟩=some (.int .i64 x.kind):=fun o=>(af (ae w1 o) M.o.2.1).c.1;have m1:∀ o,(w1.alloc o).cell? ⟨w.heap.size+1,1,none⟩=some (.int .i64 x.n):=fun o=>(af (ae w1 o) M.o.2.1).c.2.1;have m2:∀ o,(w1.alloc o).cell? ⟨w.heap.size+1,2,none⟩=some (.string ⟨x.s.toArray⟩):=fun o=>(af (ae w1 o) M.o.2.1).c.2.2.1;have m3:∀ o,(w1.alloc o).cell? ⟨w.heap.size+1,3,none⟩=some (.slice a7 x.keys.length c7):=fun o=>(af (ae w1 o) M.o.2.1).c.2.2.2.1;have m4:∀ o,(w1.alloc o).cell? ⟨w.heap.size+1,4,none⟩=some (.slice a8 x.l.length c8):=fun o=>(af (ae w1 o) M.o.2.1).c.2.2.2.2.1;have con:Ll (∀ W,W.heap=((w1.alloc (.cells (KV x a7 c7 a8 c8) 39)).alloc (.cells #[v1,.slice (some ⟨w1.heap.size,0,none⟩) 1 1,v3] 37)).heap->W.os=w1.os->W.tape=w1.tape->W.output=w1.output ->
  Calls prog 191 #[.slice (some ⟨w1.heap.size+1,0,none⟩) 3 3] W fun e w'=>∃ g cap,e=.returned (.slice (some ⟨g,0,none⟩) t.l.length cap)/\w'.ownsRow w1.heap.size 39 5 (.slice (some ⟨g,0,none⟩) t.l.length cap) t.l.length (cs1++[.int .i64 x.kind,.int .i64 x.n,.string ⟨x.s.toArray⟩,.slice a7 x.keys.length c7,.slice a8 x.l.length c8]++cs2)/\La w1 w'):=by
  intro W e1 e2 e4 e5;exact EJ _ _ _ _ _ _ _ _ _ (R.o.2.2.1.bel M.o.2.2.2) (R.o.2.2.2.bel M.o.2.2.2) (by omega) (by omega) W e1 e2 e4 e5
 have fin:Ll (∀ w3 g cap,w3.ownsRow w1.heap.size 39 5 (.slice (some ⟨g,0,none⟩) t.l.length cap) t.l.length (cs1++[.int .i64 x.kind,.int .i64 x.n,.string ⟨x.s.toArray⟩,.slice a7 x.keys.length c7,.slice a8 x.l.length c8]++cs2)->La w1 w3 ->
  In (ar (w3.setCell ⟨w.heap.size,4,none⟩ (.slice (some ⟨g,0,none⟩) t.l.length cap)) (w.heap.size+2) (.int .i64 t.kind) (.int .i64 t.n) (.string ⟨t.s.toArray⟩) (.slice a1 t.keys.length c1) (.slice (some ⟨g,0,none⟩) t.l.length cap)) (bQ ok w.heap.size) { t with l:=t.l.take i++x :: t.l.drop (i+1) } (.agg #[.int .i64 t.kind,.int .i64 t.n,.string ⟨t.s.toArray⟩,.slice a1 t.keys.length c1,.slice (some ⟨g,0,none⟩) t.l.length cap]) /\
  La w (ar (w3.setCell ⟨w.heap.size,4,none⟩ (.slice (some ⟨g,0,none⟩) t.l.length cap)) (w.heap.size+2) (.int .i64 t.kind) (.int .i64 t.n) (.string ⟨t.s.toArray⟩) (.slice a1 t.keys.length c1) (.slice (some ⟨g,0,none⟩) t.l.length cap))/\ag (ar (w3.setCell ⟨w.heap.size,4,none⟩ (.slice (some ⟨g,0,none⟩) t.l.length cap)) (w.heap.size+2) (.int .i64 t.kind) (.int .i64 t.n) (.string ⟨t.s.toArray⟩) (.slice a1 t.keys.length c1) (.slice (some ⟨g,0,none⟩) t.l.length cap)) (w.heap.size+2) (.int .i64 t.kind) (.int .i64 t.n) (.string ⟨t.s.toArray⟩) (.slice a1 t.keys.length c1) (.slice (some ⟨g,0,none⟩) t.l.length cap)):=by
  intro w3 g cap ho hb;have g1:w3.grownBy (w3.setCell ⟨w.heap.size,4,none⟩ (.slice (some ⟨g,0,none⟩) t.l.length cap)) (some w.heap.size):=ap (az _ _) _ _;have g2:=aI (w3.setCell ⟨w.heap.size,4,none⟩ (.slice (some ⟨g,0,none⟩) t.l.length cap)) (w.heap.size+2) (.int .i64 t.kind) (.int .i64 t.n) (.string ⟨t.s.toArray⟩) (.slice a1 t.keys.length c1) (.slice (some ⟨g,0,none⟩) t.l.length cap);have LU:=((af hb M.o.2.2.1).grown g1 (by simp)).set (.int .i64 t.kind) (.int .i64 t.n) (.string ⟨t.s.toArray⟩) (.slice a1 t.keys.length c1) (.slice (some ⟨g,0,none⟩) t.l.length cap);have hbw:La w w3:=ab M.o.2.2.2 hb;have hb9:La w (ar (w3.setCell ⟨w.heap.size,4,none⟩ (.slice (some ⟨g,0,none⟩) t.l.length cap)) (w.heap.size+2) (.int .i64 t.kind) (.int .i64 t.n) (.string ⟨t.s.toArray⟩) (.slice a1 t.keys.length c1) (.slice (some ⟨g,0,none⟩) t.l.length cap)):=bS (eD (bi (aq hbw) (MG _) _ _) (by omega) _ _ _ _ _);refine⟨⟨d+1,_,_,rfl,KK.o.1,KK.o.2.1,KK.o.2.2.1,?_,?_⟩,hb9,LU⟩
  ·exact(KK.o.2.2.2.1.bel hb9).imp fun a x hx hc=>⟨.inl hx.1,hc⟩
  ·have ho9:=aW (aW ho g1 (by omega)) g2 (by omega);have LT:t.l.length=(t.l.take i++x :: t.l.drop (i+1)).length:=by simp;omega
   refine fJ LT ho9 ?_ (fun k hk=>.inr (by omega)) (by rw[<-LT];unfold maxLen;omega);have rx:cA (bu _ (bQ (Lj ok w) w.heap.size) d) [x] [.int .i64 x.kind,.int .i64 x.n,.string ⟨x.s.toArray⟩,.slice a7 x.keys.length c7,.slice a8 x.l.length c8]:=⟨_,_,_,_,_,[],rfl,(HX.o.bel hb9).toN,rfl⟩
   have:=((R.o.2.1.bel (B:=w.heap.size) hb9).append rx).append (R.o.1.bel (B:=w.heap.size) hb9);rw[List.append_assoc];exact this.imp fun _ _ h=>h.weak fun k hk=>by rcases hk with hk | hk;exact .inl hk.1;exact .inr hk
 have j0:(0:Int)<=(i:Int):=by omega
 have j1:(i:Int)+1<=(t.l.length:Int):=by omega
 have j2:(0:Int)<=(i:Int)+1:=by omega
 have hw1:IntKind.i64.wrap ((i:Int)+1)=(i:Int)+1:=by rw[IntKind.wrap_i64];omega
 rcases HC.o with⟨-,e3,-⟩ | ⟨b,off,rfl,hc1,hc2,rfl,hv3⟩
 ·omega
 ·obtain⟨a3,hifs⟩:∃ a3,(if c2=i+1 then (some ⟨b,off,none⟩:Option Addr) else some ⟨b,off+(i+1) * 5,none⟩)=a3:=⟨_,rfl⟩
  rw[hifs]at hv3;subst hv3;clear HC;have j5:(i:Int)<=(c2:Int):=by omega
  have j6:(t.l.length:Int)<=(c2:Int):=by omega
  go_upto_region 7 with fail
  go_region_with ((go_at_call 191;refine(con.o _ (by rfl) (by rfl) (by rfl) (by rfl)).mono ?_;rintro e w3 ⟨g,cap,rfl,ho3,hb3⟩;obtain⟨p0,p1,p2,p3,p4,-,-,-,p9,p10⟩:=(af hb3 M.o.1).c;have x0_:=(af hb3 M.o.2.2.1).c;have O3:=aa ho3;have HB3:=aa hb3;clear ho3 hb3))
  all_goals
   go_wp2_with fail
   obtain⟨f1,f2,f3⟩:=fin.o _ g cap O3.o HB3.o;have z0_:=f3.c;refine MM (v:=.tuple #[.agg #[.int .i64 t.kind,.int .i64 t.n,.string ⟨t.s.toArray⟩,.slice a1 t.keys.length c1,.slice (some ⟨g,0,none⟩) t.l.length cap],.bool true]) ?_ rfl ?_
   ·simp only[ar]at z0_;simp[results,results202,go_sem,z0_]
   ·exact⟨_,rfl,f2,f1⟩
end
variable {w:World}
variable {ok:Nat->Prop}
variable {t:V}
variable {g:Nat}
theorem aN{w1 C v0 v1 v2 v3 v4}(h:In w1 (bg ok w.heap.size C) t (.agg #[v0,v1,v2,v3,v4]))(hb:La w w1)(hg:w.heap.size<=g)(hC:g < C):La w (ar w1 g v0 v1 v2 v3 v4)/\In (ar w1 g v0 v1 v2 v3 v4) (bQ ok w.heap.size) t (.agg #[v0,v1,v2,v3,v4]):=
 ⟨aP hb hg _ _ _ _ _,(h.box hg hC _ _ _ _ _).weak (ik (by omega))⟩
theorem EB(w ok t x v xv s)(h:In w ok t v)(hx:In w ok x xv)(hn:dz t)(hs:s.length<=9223372036854775807):Calls prog 199 #[v,aR s,xv] w fun e w'=>∃ r b,e=.returned (.tuple #[r,.bool b])/\La w w'/\cZ w' (bQ ok w.heap.size) (bL x t s) r b:=by
 have LT:=hU hn;by_cases hk5:t.kind=5
 ·have HP:=aa (vq hn hk5);have HA:Ll (bL x t s=some (aG t s x)):=aa (by unfold bL;rw[if_pos hk5]);have q1:(t.kind == 5)=true:=by rw[hk5];rfl
  have H:=aa h.low;have HX:=aa hx.low;obtain⟨l1,l2,l3⟩:=h.lens;obtain⟨a1,a2,c1,c2,rfl⟩:=h.form;obtain⟨a7,a8,c7,c8,rfl⟩:=hx.form;clear h hx hk5 hn;go_enter func199,ntmps199;go_wp2_with fail
  refine(gf _ (Lj ok w) t x _ _ s (by exact H.o.bel (ab (ab (ae _ _) (ae _ _)) (ae _ _))) (by exact HX.o.bel (ab (ab (ae _ _) (ae _ _)) (ae _ _))) HP.o (by omega) hs).mono ?_;rintro e w1 ⟨r,rfl,hr,hb1⟩;obtain⟨W,hW⟩:∃ W,aG t s x=W:=⟨_,rfl⟩
  rw[hW]at hr;have HW:=aa hW;clear hW;obtain⟨a5,a6,c5,c6,rfl⟩:=hr.form;have LU:Lc w1 (w.heap.size+2):=af hb1 (jI w _ _ _);have x0_:=LU.c;have Z:Ll (_/\_):=aN (g:=w.heap.size+2) hr (ab (ab (ab (ae _ _) (ae _ _)) (ae _ _)) hb1) (by omega) (by simp);have ZB:Ll _:=aa (LH LU.set W a5 c5 a6 c6);clear hr hb1 LU;go_wp2_with fail
  have z0_:=ZB.o.c;refine MM (v:=.tuple #[.agg (KV W a5 c5 a6 c6),.bool true]) ?_ rfl ?_
  ·simp only[ar]at z0_;simp[results,results199,go_sem,z0_]
  ·refine⟨_,_,rfl,Z.o.1,?_⟩;rw[HA.o,HW.o];exact cZ.some Z.o.2
 ·by_cases hk4:t.kind=4
  ·cases hp:cX t.l.length s with
   | some i=>
    refine(yS w ok t x v xv s i h hx hk4 hp (by omega) hs).mono ?_;rintro e w' ⟨r,rfl,hb,hr⟩;refine⟨r,true,rfl,hb,?_⟩;have:bL x t s=some { t with l:=t.l.take i++x :: t.l.drop i }:=by unfold bL;rw[if_neg hk5,if_pos hk4,hp];rfl
    rw[this];exact cZ.some hr
   | none=>
    have HA:Ll (bL x t s=none):=aa (by unfold bL;rw[if_neg hk5,if_pos hk4,hp];rfl);have HP:=aa hp;have q1:(t.kind == 5)=false:=by rw[hk4];rfl
    have q2:(t.kind == 4)=true:=by rw[hk4];rfl
    have H:=aa h.low;obtain⟨l1,l2,l3⟩:=h.lens;obtain⟨a1,a2,c1,c2,rfl⟩:=h.form;obtain⟨a7,a8,c7,c8,rfl⟩:=hx.form;clear h hx hk5 hk4 hn hp;go_enter func199,ntmps199;go_wp2_with fail
    refine(jb _ _ t.l.length c2 s l2 hs).mono ?_;rintro e w1 ⟨rfl,hw⟩;rw[HP.o];unfold ow;have hb1:La w w1:=by rw[hw];exact ab (ab (ae _ _) (ae _ _)) (ae _ _)
    have LU:Lc w1 (w.heap.size+2):=by rw[hw];exact jI w _ _ _
    have hbv:KY w1 w.heap.size t a1 c1 a2 c2:=by rw[hw];exact lI w _ _ _
    have p0_:=hbv.c;have x0_:=LU.c;have Z:Ll (_/\_):=aN (C:=w1.heap.size) (g:=w.heap.size+2) ((H.o.bel hb1).weak (aO (C:=w1.heap.size))) hb1 (by omega) LU.lt;have ZB:Ll _:=aa (LH LU.set t a1 c1 a2 c2);clear hw hb1 LU hbv;simp only[Option.getD_none,Option.isSome_none];go_wp2_with fail
    have z0_:=ZB.o.c;refine MM (v:=.tuple #[.agg (KV t a1 c1 a2 c2),.bool false]) ?_ rfl ?_
    ·simp only[ar]at z0_;simp[results,results199,go_sem,z0_]
    ·refine⟨_,_,rfl,Z.o.1,?_⟩;rw[HA.o];exact cZ.none Z.o.2
  ·have HA:Ll (bL x t s=none):=aa (by unfold bL;rw[if_neg hk5,if_neg hk4]);have q1:(t.kind == 5)=false:=by rw[MO];exact hk5
   have q2:(t.kind == 4)=false:=by rw[MO];exact hk4
   have H:=aa h.low;obtain⟨l1,l2,l3⟩:=h.lens;obtain⟨a1,a2,c1,c2,rfl⟩:=h.form;obtain⟨a7,a8,c7,c8,rfl⟩:=hx.form;clear h hx hk5 hk4 hn;obtain⟨w1,hw⟩:∃ w1,w1=((w.alloc (.cells (KV t a1 c1 a2 c2) 39)).alloc (.cells (KV x a7 c7 a8 c8) 39)):=⟨_,rfl⟩
   have hb2:La w (w1.alloc (.cells (KV t a1 c1 a2 c2) 39)):=by rw[hw];exact ab (ab (ae _ _) (ae _ _)) (ae _ _)
   have HB:=aa hb2;rw[hw]at HB;have K:=aa ((H.o.bel HB.o).weak (oH));clear hb2 hw w1;go_enter func199,ntmps199;go_wp2_with fail
   refine MM (v:=.tuple #[.agg (KV t a1 c1 a2 c2),.bool false]) ?_ rfl ?_
   ·simp[results,results199,go_sem]
   ·refine⟨_,_,rfl,HB.o,?_⟩;rw[HA.o];exact cZ.none K.o
theorem kn(w ok t x v xv s)(h:In w ok t v)(hx:In w ok x xv)(hn:dz t)(hs:s.length<=9223372036854775807):Calls prog 202 #[v,aR s,xv] w fun e w'=>∃ r b,e=.returned (.tuple #[r,.bool b])/\La w w'/\cZ w' (bQ ok w.heap.size) (aY x t s) r b:=by
 have LT:=hU hn;cases hm:cg t s with
 | none=>
  have HM:=aa hm;have HA:Ll (aY x t s=none):=aa (by unfold aY;rw[hm];rfl);clear hm;have H:=aa h.low;have HX:=aa hx.low;obtain⟨l1,l2,l3⟩:=h.lens;obtain⟨a1,a2,c1,c2,rfl⟩:=h.form;obtain⟨a7,a8,c7,c8,rfl⟩:=hx.form;clear h hx hn;go_enter func202,ntmps202;go_wp2_with fail
  refine(eI _ (Lj ok w) t _ s (by exact H.o.bel (ab (ab (ae _ _) (ae _ _)) (ae _ _))) hs).mono ?_;rintro e w0 ⟨x9,b9,rfl,hb0,hb9,y9,hy9,-⟩;rw[HM.o]at hb9;simp only[Option.isSome_none]at hb9;subst hb9;obtain⟨a5,a6,c5,c6,rfl⟩:=hy9.form;have M1:Ll (KY (w0.alloc (.cells (KV y9 a5 c5 a6 c6) 39)) w.heap.size t a1 c1 a2 c2/\KY (w0.alloc (.cells (KV y9 a5 c5 a6 c6) 39)) (w.heap.size+1) x a7 c7 a8 c8/\Lc (w0.alloc (.cells (KV y9 a5 c5 a6 c6) 39)) (w.heap.size+2)/\La w (w0.alloc (.cells (KV y9 a5 c5 a6 c6) 39))):=by
   have LW:=ab hb0 (ae w0 (.cells (KV y9 a5 c5 a6 c6) 39));exact⟨af LW (lI w _ _ _),af LW (mE w _ _ _),af LW (jI w _ _ _),ab (ab (ab (ae _ _) (ae _ _)) (ae _ _)) LW⟩
  obtain⟨m1,mx,m2,m3⟩:=M1.o;have n0_:=m1.c;have x0_:=m2.c;have Z:Ll (_/\_):=aN (C:=(w0.alloc (.cells (KV y9 a5 c5 a6 c6) 39)).heap.size) (g:=w.heap.size+2) ((H.o.bel m3).weak (aO (C:=(w0.alloc (.cells (KV y9 a5 c5 a6 c6) 39)).heap.size))) m3 (by omega) m2.lt;have ZB:Ll _:=aa (LH m2.set t a1 c1 a2 c2);clear hb0 hy9 m1 mx m2 m3 M1;go_wp2_with fail
  have z0_:=ZB.o.c;refine MM (v:=.tuple #[.agg (KV t a1 c1 a2 c2),.bool false]) ?_ rfl ?_
  ·simp only[ar]at z0_;simp[results,results202,go_sem,z0_]
  ·refine⟨_,_,rfl,Z.o.1,?_⟩;rw[HA.o];exact cZ.none Z.o.2
 | some y=>
  rcases qw hm with⟨hk,hp,-⟩ | ⟨hk,i,hi,hlt,-⟩
  ·have HM:=aa hm;have HP:=aa hp;have HA:Ll (aY x t s=some (aG t s x)):=aa (by unfold aY;rw[hm,Option.bind_some,if_pos hk]);have q1:(t.kind == 5)=true:=by rw[hk];rfl
   clear hm hp hk;have H:=aa h.low;have HX:=aa hx.low;obtain⟨l1,l2,l3⟩:=h.lens;obtain⟨a1,a2,c1,c2,rfl⟩:=h.form;obtain⟨a7,a8,c7,c8,rfl⟩:=hx.form;clear h hx hn;go_enter func202,ntmps202;go_wp2_with fail
   refine(eI _ (Lj ok w) t _ s (by exact H.o.bel (ab (ab (ae _ _) (ae _ _)) (ae _ _))) hs).mono ?_;rintro e w0 ⟨x9,b9,rfl,hb0,hb9,y9,hy9,-⟩;rw[HM.o]at hb9;simp only[Option.isSome_some]at hb9;subst hb9;obtain⟨a5,a6,c5,c6,rfl⟩:=hy9.form;have M1:Ll (KY (w0.alloc (.cells (KV y9 a5 c5 a6 c6) 39)) w.heap.size t a1 c1 a2 c2/\KY (w0.alloc (.cells (KV y9 a5 c5 a6 c6) 39)) (w.heap.size+1) x a7 c7 a8 c8/\Lc (w0.alloc (.cells (KV y9 a5 c5 a6 c6) 39)) (w.heap.size+2)/\La w (w0.alloc (.cells (KV y9 a5 c5 a6 c6) 39))):=by
    have LW:=ab hb0 (ae w0 (.cells (KV y9 a5 c5 a6 c6) 39));exact⟨af LW (lI w _ _ _),af LW (mE w _ _ _),af LW (jI w _ _ _),ab (ab (ab (ae _ _) (ae _ _)) (ae _ _)) LW⟩
   obtain⟨m1,mx,m2,m3⟩:=M1.o;have n0_:=m1.c;have o0_:=mx.c;clear hb0 hy9 m1 mx m2 m3;go_wp2_with fail
   refine(gf _ (Lj ok w) t x _ _ s (by exact H.o.bel M1.o.2.2.2) (by exact HX.o.bel M1.o.2.2.2) HP.o (by omega) hs).mono ?_;rintro e w1 ⟨r,rfl,hr,hb1⟩;obtain⟨W,hW⟩:∃ W,aG t s x=W:=⟨_,rfl⟩
   rw[hW]at hr;have HW:=aa hW;clear hW;obtain⟨d1,d2,e1,e2,rfl⟩:=hr.form;have LU:=af hb1 M1.o.2.2.1;have x0_:=LU.c;have Z:Ll (_/\_):=aN (g:=w.heap.size+2) hr (ab M1.o.2.2.2 hb1) (by omega) M1.o.2.2.1.lt;have ZB:Ll _:=aa (LH LU.set W d1 e1 d2 e2);clear hr hb1 LU;go_wp2_with fail
   have z0_:=ZB.o.c;refine MM (v:=.tuple #[.agg (KV W d1 e1 d2 e2),.bool true]) ?_ rfl ?_
   ·simp only[ar]at z0_;simp[results,results202,go_sem,z0_]
   ·refine⟨_,_,rfl,Z.o.1,?_⟩;rw[HA.o,HW.o];exact cZ.some Z.o.2
  ·refine(qQ w ok t x v xv s i h hx hk hi hlt (by omega) hs).mono ?_;rintro e w' ⟨r,rfl,hb,hr⟩;refine⟨r,true,rfl,hb,?_⟩;have:aY x t s=some { t with l:=t.l.take i++x :: t.l.drop (i+1) }:=by unfold aY;rw[hm,Option.bind_some,if_neg (by omega),hi];rfl
   rw[this];exact cZ.some hr
theorem zz(w ok t v s)(h:In w ok t v)(hn:dz t)(hs:s.length<=9223372036854775807):Calls prog 201 #[v,aR s] w fun e w'=>∃ r b,e=.returned (.tuple #[r,.bool b])/\La w w'/\cZ w' (bQ ok w.heap.size) (ch t s) r b:=by
 have LT:=hU hn;cases hm:cg t s with
 | none=>
  have HM:=aa hm;have HA:Ll (ch t s=none):=aa (by unfold ch;rw[hm];rfl);clear hm;have H:=aa h.low;obtain⟨l1,l2,l3⟩:=h.lens;obtain⟨a1,a2,c1,c2,rfl⟩:=h.form;clear h hn;go_enter func201,ntmps201;go_wp2_with fail
  refine(eI _ (Lj ok w) t _ s (by exact H.o.bel (ab (ae _ _) (ae _ _))) hs).mono ?_;rintro e w0 ⟨x9,b9,rfl,hb0,hb9,y9,hy9,-⟩;rw[HM.o]at hb9;simp only[Option.isSome_none]at hb9;subst hb9;obtain⟨a5,a6,c5,c6,rfl⟩:=hy9.form;have M1:Ll (KY (w0.alloc (.cells (KV y9 a5 c5 a6 c6) 39)) w.heap.size t a1 c1 a2 c2/\Lc (w0.alloc (.cells (KV y9 a5 c5 a6 c6) 39)) (w.heap.size+1)/\La w (w0.alloc (.cells (KV y9 a5 c5 a6 c6) 39))):=by
   have LW:=ab hb0 (ae w0 (.cells (KV y9 a5 c5 a6 c6) 39));exact⟨af LW (fb w _ _),af LW (et w _ _),ab (ab (ae _ _) (ae _ _)) LW⟩
  obtain⟨m1,m2,m3⟩:=M1.o;have n0_:=m1.c;have x0_:=m2.c;have Z:Ll (_/\_):=aN (C:=(w0.alloc (.cells (KV y9 a5 c5 a6 c6) 39)).heap.size) (g:=w.heap.size+1) ((H.o.bel m3).weak (aO (C:=(w0.alloc (.cells (KV y9 a5 c5 a6 c6) 39)).heap.size))) m3 (by omega) m2.lt;have ZB:Ll _:=aa (LH m2.set t a1 c1 a2 c2);clear hb0 hy9 m1 m2 m3 M1;go_wp2_with fail
  have z0_:=ZB.o.c;refine MM (v:=.tuple #[.agg (KV t a1 c1 a2 c2),.bool false]) ?_ rfl ?_
  ·simp only[ar]at z0_;simp[results,results201,go_sem,z0_]
  ·refine⟨_,_,rfl,Z.o.1,?_⟩;rw[HA.o];exact cZ.none Z.o.2
 | some y=>
  rcases qw hm with⟨hk,hp,-⟩ | ⟨hk,i,hi,hlt,-⟩
  ·have HM:=aa hm;have HP:=aa hp;have HA:Ll (ch t s=some (bH t s)):=aa (by unfold ch;rw[hm,Option.bind_some,if_pos hk]);have q1:(t.kind == 5)=true:=by rw[hk];rfl
   clear hm hp hk;have H:=aa h.low;obtain⟨l1,l2,l3⟩:=h.lens;obtain⟨a1,a2,c1,c2,rfl⟩:=h.form;clear h hn;go_enter func201,ntmps201;go_wp2_with fail
   refine(eI _ (Lj ok w) t _ s (by exact H.o.bel (ab (ae _ _) (ae _ _))) hs).mono ?_;rintro e w0 ⟨x9,b9,rfl,hb0,hb9,y9,hy9,-⟩;rw[HM.o]at hb9;simp only[Option.isSome_some]at hb9;subst hb9;obtain⟨a5,a6,c5,c6,rfl⟩:=hy9.form;have M1:Ll (KY (w0.alloc (.cells (KV y9 a5 c5 a6 c6) 39)) w.heap.size t a1 c1 a2 c2/\Lc (w0.alloc (.cells (KV y9 a5 c5 a6 c6) 39)) (w.heap.size+1)/\La w (w0.alloc (.cells (KV y9 a5 c5 a6 c6) 39))):=by
    have LW:=ab hb0 (ae w0 (.cells (KV y9 a5 c5 a6 c6) 39));exact⟨af LW (fb w _ _),af LW (et w _ _),ab (ab (ae _ _) (ae _ _)) LW⟩
   obtain⟨m1,m2,m3⟩:=M1.o;have n0_:=m1.c;clear hb0 hy9 m1 m2 m3;go_wp2_with fail
   refine(jD _ (Lj ok w) t _ s (by exact H.o.bel M1.o.2.2) (by omega)).mono ?_;rintro e w1 ⟨r,rfl,hr,hb1⟩;obtain⟨W,hW⟩:∃ W,bH t s=W:=⟨_,rfl⟩
   rw[hW]at hr;have HW:=aa hW;clear hW;obtain⟨d1,d2,e1,e2,rfl⟩:=hr.form;have LU:=af hb1 M1.o.2.1;have x0_:=LU.c;have Z:Ll (_/\_):=aN (g:=w.heap.size+1) hr (ab M1.o.2.2 hb1) (by omega) M1.o.2.1.lt;have ZB:Ll _:=aa (LH LU.set W d1 e1 d2 e2);clear hr hb1 LU;go_wp2_with fail
   have z0_:=ZB.o.c;refine MM (v:=.tuple #[.agg (KV W d1 e1 d2 e2),.bool true]) ?_ rfl ?_
   ·simp only[ar]at z0_;simp[results,results201,go_sem,z0_]
   ·refine⟨_,_,rfl,Z.o.1,?_⟩;rw[HA.o,HW.o];exact cZ.some Z.o.2
  ·refine(sQ w ok t v s i h hk hi hlt (by omega) hs).mono ?_;rintro e w' ⟨r,rfl,hb,hr⟩;refine⟨r,true,rfl,hb,?_⟩;have:ch t s=some { t with l:=t.l.take i++t.l.drop (i+1) }:=by unfold ch;rw[hm,Option.bind_some,if_neg (by omega),hi];rfl
   rw[this];exact cZ.some hr
theorem C3(w ok t x v s gh gx a7 a8 c7 c8)(tf:TypeId)(h:In w ok t v)(hx:In w ok x (.agg (KV x a7 c7 a8 c8)))(bx:KY w gx x a7 c7 a8 c8)(bh:w.heap[gh]?=some (.cells #[.func (.func 199) #[] #[]] tf))(hn:dz t)(hs:s.length<=9223372036854775807):Calls prog 232 #[v,aR s,.pointer (some ⟨gh,0,none⟩),.pointer (some ⟨gx,0,none⟩)] w fun e w'=>∃ r b,e=.returned (.tuple #[r,.bool b])/\La w w'/\cZ w' (bQ ok w.heap.size) (bL x t s) r b:=by
 have H:=aa h.low;have HX:=aa hx.low;have HN:=aa hn;obtain⟨l1,l2,l3⟩:=h.lens;obtain⟨a1,a2,c1,c2,rfl⟩:=h.form;have B2:Ll (∀ o1 o2,La w ((w.alloc o1).alloc o2)):=fun o1 o2=>ab (ae _ _) (ae _ _);have hf:w.cell? ⟨gh,0,none⟩=some (.func (.func 199) #[] #[]):=by simp[World.cell?,bh]
 have g0:∀ o1 o2,((w.alloc o1).alloc o2).cell? ⟨gh,0,none⟩=some (.func (.func 199) #[] #[]):=fun o1 o2=>ah (B2.o o1 o2) hf;obtain⟨m0,m1,m2,m3,m4,-⟩:=bx.c;have g1:∀ o1 o2,((w.alloc o1).alloc o2).cell? ⟨gx,0,none⟩=some (.int .i64 x.kind):=fun o1 o2=>ah (B2.o o1 o2) m0;have g2:∀ o1 o2,((w.alloc o1).alloc o2).cell? ⟨gx,1,none⟩=some (.int .i64 x.n):=fun o1 o2=>ah (B2.o o1 o2) m1;have g3:∀ o1 o2,((w.alloc o1).alloc o2).cell? ⟨gx,2,none⟩=some (.string ⟨x.s.toArray⟩):=fun o1 o2=>ah (B2.o o1 o2) m2;have g4:∀ o1 o2,((w.alloc o1).alloc o2).cell? ⟨gx,3,none⟩=some (.slice a7 x.keys.length c7):=fun o1 o2=>ah (B2.o o1 o2) m3;have g5:∀ o1 o2,((w.alloc o1).alloc o2).cell? ⟨gx,4,none⟩=some (.slice a8 x.l.length c8):=fun o1 o2=>ah (B2.o o1 o2) m4;clear h hx bx bh hf hn;go_enter func232,ntmps232;go_wp2_with fail
 refine(EB _ (Lj ok w) t x _ _ s (by exact H.o.bel (B2.o _ _)) (by exact HX.o.bel (B2.o _ _)) HN.o hs).mono ?_;rintro e w1 ⟨r,b,rfl,hb1,hb2,y,hy,hyz⟩;obtain⟨a5,a6,c5,c6,rfl⟩:=hy.form;have LU:=af hb1 (et w _ _);obtain⟨x0,x1,x2,x3,x4,y0,y1,y2,y3,y4⟩:=ag.c LU;have Z:Ll (_/\_):=aN (g:=w.heap.size+1) hy (ab (B2.o _ _) hb1) (by omega) (by simp);have ZB:Ll _:=aa (LH (ag.set LU) y a5 c5 a6 c6);have R:Ll (b=(bL x t s).isSome/\∀ z,bL x t s=some z->y=z):=⟨hb2,hyz⟩
 clear hb1 hb2 hy hyz LU g0 g1 g2 g3 g4 g5;go_wp2_with fail
 have z0_:=ZB.o.c;refine MM (v:=.tuple #[.agg (KV y a5 c5 a6 c6),.bool b]) ?_ rfl ?_
 ·simp only[ar]at z0_;simp[results,results232,go_sem,z0_]
 ·exact⟨_,_,rfl,Z.o.1,R.o.1,y,Z.o.2,R.o.2⟩
theorem tx(w ok t x v s gh gx a7 a8 c7 c8)(tf:TypeId)(h:In w ok t v)(hx:In w ok x (.agg (KV x a7 c7 a8 c8)))(bx:KY w gx x a7 c7 a8 c8)(bh:w.heap[gh]?=some (.cells #[.func (.func 202) #[] #[]] tf))(hn:dz t)(hs:s.length<=9223372036854775807):Calls prog 232 #[v,aR s,.pointer (some ⟨gh,0,none⟩),.pointer (some ⟨gx,0,none⟩)] w fun e w'=>∃ r b,e=.returned (.tuple #[r,.bool b])/\La w w'/\cZ w' (bQ ok w.heap.size) (aY x t s) r b:=by
 have H:=aa h.low;have HX:=aa hx.low;have HN:=aa hn;obtain⟨l1,l2,l3⟩:=h.lens;obtain⟨a1,a2,c1,c2,rfl⟩:=h.form;have B2:Ll (∀ o1 o2,La w ((w.alloc o1).alloc o2)):=fun o1 o2=>ab (ae _ _) (ae _ _);have hf:w.cell? ⟨gh,0,none⟩=some (.func (.func 202) #[] #[]):=by simp[World.cell?,bh]
 have g0:∀ o1 o2,((w.alloc o1).alloc o2).cell? ⟨gh,0,none⟩=some (.func (.func 202) #[] #[]):=fun o1 o2=>ah (B2.o o1 o2) hf;obtain⟨m0,m1,m2,m3,m4,-⟩:=bx.c;have g1:∀ o1 o2,((w.alloc o1).alloc o2).cell? ⟨gx,0,none⟩=some (.int .i64 x.kind):=fun o1 o2=>ah (B2.o o1 o2) m0;have g2:∀ o1 o2,((w.alloc o1).alloc o2).cell? ⟨gx,1,none⟩=some (.int .i64 x.n):=fun o1 o2=>ah (B2.o o1 o2) m1;have g3:∀ o1 o2,((w.alloc o1).alloc o2).cell? ⟨gx,2,none⟩=some (.string ⟨x.s.toArray⟩):=fun o1 o2=>ah (B2.o o1 o2) m2;have g4:∀ o1 o2,((w.alloc o1).alloc o2).cell? ⟨gx,3,none⟩=some (.slice a7 x.keys.length c7):=fun o1 o2=>ah (B2.o o1 o2) m3;have g5:∀ o1 o2,((w.alloc o1).alloc o2).cell? ⟨gx,4,none⟩=some (.slice a8 x.l.length c8):=fun o1 o2=>ah (B2.o o1 o2) m4;clear h hx bx bh hf hn;go_enter func232,ntmps232;go_wp2_with fail
 refine(kn _ (Lj ok w) t x _ _ s (by exact H.o.bel (B2.o _ _)) (by exact HX.o.bel (B2.o _ _)) HN.o hs).mono ?_;rintro e w1 ⟨r,b,rfl,hb1,hb2,y,hy,hyz⟩;obtain⟨a5,a6,c5,c6,rfl⟩:=hy.form;have LU:=af hb1 (et w _ _);obtain⟨x0,x1,x2,x3,x4,y0,y1,y2,y3,y4⟩:=ag.c LU;have Z:Ll (_/\_):=aN (g:=w.heap.size+1) hy (ab (B2.o _ _) hb1) (by omega) (by simp);have ZB:Ll _:=aa (LH (ag.set LU) y a5 c5 a6 c6);have R:Ll (b=(aY x t s).isSome/\∀ z,aY x t s=some z->y=z):=⟨hb2,hyz⟩
 clear hb1 hb2 hy hyz LU g0 g1 g2 g3 g4 g5;go_wp2_with fail
 have z0_:=ZB.o.c;refine MM (v:=.tuple #[.agg (KV y a5 c5 a6 c6),.bool b]) ?_ rfl ?_
 ·simp only[ar]at z0_;simp[results,results232,go_sem,z0_]
 ·exact⟨_,_,rfl,Z.o.1,R.o.1,y,Z.o.2,R.o.2⟩
end Go.Proofs.YtgolnaencepejaaGreatDoor
