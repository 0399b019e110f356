import Derived.Test.YtgolnaencepejaaGreatDoorG5
set_option maxRecDepth 100000
set_option maxHeartbeats 40000000
set_option linter.unusedSimpArgs false
set_option linter.unusedVariables false
namespace Go.Proofs.YtgolnaencepejaaGreatDoor
open Go.RowKit
open _root_.Go.Proofs.Tryz
section
attribute [local go_sem ↓] Go.wp_at_zero Go.wp_at_succ
theorem yS(w ok t x v xv s i)(h:In w ok t v)(hx:In w ok x xv)(hk:t.kind=4)(hp:cX t.l.length s=some i)(L9:t.l.length<=100000)(hs:s.length<=9223372036854775807):Calls prog 199 #[v,aR s,xv] w fun e w'=>∃ r,e=.returned (.tuple #[r,.bool true])/\La w w'/\In w' (bQ ok w.heap.size) { t with l:=t.l.take i++x :: t.l.drop i } r:=by
 obtain⟨l1,l2,l3⟩:=h.lens;obtain⟨a7,a8,c7,c8,rfl⟩:=hx.form;obtain⟨d,h,hx⟩:=h.low.two hx.low;have HX:=aa hx;obtain⟨ks,ls,rfl,h1,h2,h3,h4,h5⟩:=h;have KK:Ll (dW t.kind/\dW t.n/\t.s.length<=maxLen/\ao w _ t.keys ks/\cS w _ (bu w _ d) t.l ls):=⟨h1,h2,h3,h4,h5⟩
 obtain⟨a1,c1,rfl⟩:=h4.form;obtain⟨a2,c2,rfl⟩:=h5.form;have hia:=pV hp;obtain⟨cs1,cs2,v1,v3,r1,r2,s1,s3,hcase⟩:=tg h5 i i (MG _) hia (by omega);have R:Ll (cA (bu w _ d) (t.l.take i) cs1/\cA (bu w _ d) (t.l.drop i) cs2/\du w 5 v1 i cs1/\du w 5 v3 (t.l.length - i) cs2):=⟨r1,r2,s1,s3⟩
 have HC:=aa hcase;have HP:=aa hp;have q1:(t.kind == 5)=false:=by rw[hk];rfl
 have q2:(t.kind == 4)=true:=by rw[hk];rfl
 clear h1 h2 h4 h5 hx r1 r2 s1 s3 hcase hp hk;unfold maxLen at h3;unfold aR;go_enter func199,ntmps199;go_wp2_with fail
 refine(jb _ _ t.l.length c2 s l2 hs).mono ?_;rintro e w1 ⟨rfl,hw⟩;rw[HP.o];unfold ow;have hb1:La w w1:=by rw[hw];exact ab (ab (ae _ _) (ae _ _)) (ae _ _)
 have M:Ll (KY w1 w.heap.size t a1 c1 a2 c2/\KY w1 (w.heap.size+1) x a7 c7 a8 c8/\Lc w1 (w.heap.size+2)/\La w w1):=by
  rw[hw];exact⟨lI w _ _ _,mE w _ _ _,jI w _ _ _,by rw[<-hw];exact hb1⟩
 clear hw hb1;have hsz1:w.heap.size+2 < w1.heap.size:=M.o.2.2.1.lt;simp only[Option.getD_some,Option.isSome_some];obtain⟨p0,p1,p2,p3,p4,-,-,-,p9,p10⟩:=M.o.1.c;have q0_:=M.o.2.1.c;have k4:∀ o,(w1.alloc o).cell? ⟨w.heap.size,4,none⟩=some (.slice a2 t.l.length c2):=fun o=>(af (ae w1 o) M.o.1).c.2.2.2.2.1;have m0:∀ o,(w1.alloc o).cell? ⟨w.heap.size+1,0,none⟩=some (.int .i64 x.kind):=fun o=>(af (ae w1 o) M.o.2.1).c.1;have m1:∀ o,(w1.alloc o).cell? ⟨w.heap.size+1,1,none⟩=some (.int .i64 x.n):=fun o=>(af (ae w1 o) M.o.2.1).c.2.1;have m2:∀ o,(w1.alloc o).cell? ⟨w.heap.size+1,2,none⟩=some (.string ⟨x.s.toArray⟩):=fun o=>(af (ae w1 o) M.o.2.1).c.2.2.1;have m3:∀ o,(w1.alloc o).cell? ⟨w.heap.size+1,3,none⟩=some (.slice a7 x.keys.length c7):=fun o=>(af (ae w1 o) M.o.2.1).c.2.2.2.1;have m4:∀ o,(w1.alloc o).cell? ⟨w.heap.size+1,4,none⟩=some (.slice a8 x.l.length c8):=fun o=>(af (ae w1 o) M.o.2.1).c.2.2.2.2.1;have con:Ll (∀ W,W.heap=((w1.alloc (.cells (KV x a7 c7 a8 c8) 39)).alloc (.cells #[v1,.slice (some ⟨w1.heap.size,0,none⟩) 1 1,v3] 37)).heap->W.os=w1.os->W.tape=w1.tape->W.output=w1.output ->
  Calls prog 191 #[.slice (some ⟨w1.heap.size+1,0,none⟩) 3 3] W fun e w'=>∃ g cap,e=.returned (.slice (some ⟨g,0,none⟩) (t.l.length+1) cap)/\w'.ownsRow w1.heap.size 39 5 (.slice (some ⟨g,0,none⟩) (t.l.length+1) cap) (t.l.length+1) (cs1++[.int .i64 x.kind,.int .i64 x.n,.string ⟨x.s.toArray⟩,.slice a7 x.keys.length c7,.slice a8 x.l.length c8]++cs2)/\La w1 w'):=by
  intro W e1 e2 e4 e5;exact EJ _ _ _ _ _ _ _ _ _ (R.o.2.2.1.bel M.o.2.2.2) (R.o.2.2.2.bel M.o.2.2.2) (by omega) (by omega) W e1 e2 e4 e5
 have fin:Ll (∀ w3 g cap,w3.ownsRow w1.heap.size 39 5 (.slice (some ⟨g,0,none⟩) (t.l.length+1) cap) (t.l.length+1) (cs1++[.int .i64 x.kind,.int .i64 x.n,.string ⟨x.s.toArray⟩,.slice a7 x.keys.length c7,.slice a8 x.l.length c8]++cs2)->La w1 w3 ->
  In (ar (w3.setCell ⟨w.heap.size,4,none⟩ (.slice (some ⟨g,0,none⟩) (t.l.length+1) cap)) (w.heap.size+2) (.int .i64 t.kind) (.int .i64 t.n) (.string ⟨t.s.toArray⟩) (.slice a1 t.keys.length c1) (.slice (some ⟨g,0,none⟩) (t.l.length+1) cap)) (bQ ok w.heap.size) { t with l:=t.l.take i++x :: t.l.drop i } (.agg #[.int .i64 t.kind,.int .i64 t.n,.string ⟨t.s.toArray⟩,.slice a1 t.keys.length c1,.slice (some ⟨g,0,none⟩) (t.l.length+1) cap]) /\
  La w (ar (w3.setCell ⟨w.heap.size,4,none⟩ (.slice (some ⟨g,0,none⟩) (t.l.length+1) cap)) (w.heap.size+2) (.int .i64 t.kind) (.int .i64 t.n) (.string ⟨t.s.toArray⟩) (.slice a1 t.keys.length c1) (.slice (some ⟨g,0,none⟩) (t.l.length+1) cap))/\ag (ar (w3.setCell ⟨w.heap.size,4,none⟩ (.slice (some ⟨g,0,none⟩) (t.l.length+1) cap)) (w.heap.size+2) (.int .i64 t.kind) (.int .i64 t.n) (.string ⟨t.s.toArray⟩) (.slice a1 t.keys.length c1) (.slice (some ⟨g,0,none⟩) (t.l.length+1) cap)) (w.heap.size+2) (.int .i64 t.kind) (.int .i64 t.n) (.string ⟨t.s.toArray⟩) (.slice a1 t.keys.length c1) (.slice (some ⟨g,0,none⟩) (t.l.length+1) cap)):=by
  intro w3 g cap ho hb;have g1:w3.grownBy (w3.setCell ⟨w.heap.size,4,none⟩ (.slice (some ⟨g,0,none⟩) (t.l.length+1) cap)) (some w.heap.size):=ap (az _ _) _ _;have g2:=aI (w3.setCell ⟨w.heap.size,4,none⟩ (.slice (some ⟨g,0,none⟩) (t.l.length+1) cap)) (w.heap.size+2) (.int .i64 t.kind) (.int .i64 t.n) (.string ⟨t.s.toArray⟩) (.slice a1 t.keys.length c1) (.slice (some ⟨g,0,none⟩) (t.l.length+1) cap);have LU:=((af hb M.o.2.2.1).grown g1 (by simp)).set (.int .i64 t.kind) (.int .i64 t.n) (.string ⟨t.s.toArray⟩) (.slice a1 t.keys.length c1) (.slice (some ⟨g,0,none⟩) (t.l.length+1) cap);have hbw:La w w3:=ab M.o.2.2.2 hb;have hb9:La w (ar (w3.setCell ⟨w.heap.size,4,none⟩ (.slice (some ⟨g,0,none⟩) (t.l.length+1) cap)) (w.heap.size+2) (.int .i64 t.kind) (.int .i64 t.n) (.string ⟨t.s.toArray⟩) (.slice a1 t.keys.length c1) (.slice (some ⟨g,0,none⟩) (t.l.length+1) cap)):=bS (eD (bi (aq hbw) (MG _) _ _) (by omega) _ _ _ _ _);refine⟨⟨d+1,_,_,rfl,KK.o.1,KK.o.2.1,KK.o.2.2.1,?_,?_⟩,hb9,LU⟩
  ·exact(KK.o.2.2.2.1.bel hb9).imp fun a x hx hc=>⟨.inl hx.1,hc⟩
  ·have ho9:=aW (aW ho g1 (by omega)) g2 (by omega);have LT:t.l.length+1=(t.l.take i++x :: t.l.drop i).length:=by simp;omega
   refine fJ LT ho9 ?_ (fun k hk=>.inr (by omega)) (by rw[<-LT];unfold maxLen;omega);have rx:cA (bu _ (bQ (Lj ok w) w.heap.size) d) [x] [.int .i64 x.kind,.int .i64 x.n,.string ⟨x.s.toArray⟩,.slice a7 x.keys.length c7,.slice a8 x.l.length c8]:=⟨_,_,_,_,_,[],rfl,(HX.o.bel hb9).toN,rfl⟩
   have:=((R.o.2.1.bel (B:=w.heap.size) hb9).append rx).append (R.o.1.bel (B:=w.heap.size) hb9);rw[List.append_assoc];exact this.imp fun _ _ h=>h.weak fun k hk=>by rcases hk with hk | hk;exact .inl hk.1;exact .inr hk
 have j0:(0:Int)<=(i:Int):=by omega
 have j1:(i:Int)<=(t.l.length:Int):=by omega
 rcases HC.o with⟨rfl,e3,rfl,rfl⟩ | ⟨b,off,rfl,hc1,hc2,rfl,hv3⟩
 ·have j6:(t.l.length:Int)<=0:=by omega
  have E3:=aa e3;have e7:i=0:=by omega
  clear e3 HC;subst e7;go_upto_region 8 with fail
  go_region_with ((go_at_call 191;refine(con.o _ (by rfl) (by rfl) (by rfl) (by rfl)).mono ?_;rintro e w3 ⟨g,cap,rfl,ho3,hb3⟩;obtain⟨p0,p1,p2,p3,p4,-,-,-,p9,p10⟩:=(af hb3 M.o.1).c;have x0_:=(af hb3 M.o.2.2.1).c;have O3:=aa ho3;have HB3:=aa hb3;clear ho3 hb3))
  all_goals
   go_wp2_with fail
   obtain⟨f1,f2,f3⟩:=fin.o _ g cap O3.o HB3.o;have z0_:=f3.c;refine MM (v:=.tuple #[.agg #[.int .i64 t.kind,.int .i64 t.n,.string ⟨t.s.toArray⟩,.slice a1 t.keys.length c1,.slice (some ⟨g,0,none⟩) (t.l.length+1) cap],.bool true]) ?_ rfl ?_
   ·simp only[ar]at z0_;simp[results,results199,go_sem,z0_]
   ·exact⟨_,rfl,f2,f1⟩
 ·obtain⟨a3,hifs⟩:∃ a3,(if c2=i then (some ⟨b,off,none⟩:Option Addr) else some ⟨b,off+i * 5,none⟩)=a3:=⟨_,rfl⟩
  rw[hifs]at hv3;subst hv3;clear HC;have j5:(i:Int)<=(c2:Int):=by omega
  have j6:(t.l.length:Int)<=(c2:Int):=by omega
  go_upto_region 8 with fail
  go_region_with ((go_at_call 191;refine(con.o _ (by rfl) (by rfl) (by rfl) (by rfl)).mono ?_;rintro e w3 ⟨g,cap,rfl,ho3,hb3⟩;obtain⟨p0,p1,p2,p3,p4,-,-,-,p9,p10⟩:=(af hb3 M.o.1).c;have x0_:=(af hb3 M.o.2.2.1).c;have O3:=aa ho3;have HB3:=aa hb3;clear ho3 hb3))
  all_goals
   go_wp2_with fail
   obtain⟨f1,f2,f3⟩:=fin.o _ g cap O3.o HB3.o;have z0_:=f3.c;refine MM (v:=.tuple #[.agg #[.int .i64 t.kind,.int .i64 t.n,.string ⟨t.s.toArray⟩,.slice a1 t.keys.length c1,.slice (some ⟨g,0,none⟩) (t.l.length+1) cap],.bool true]) ?_ rfl ?_
   ·simp only[ar]at z0_;simp[results,results199,go_sem,z0_]
   ·exact⟨_,rfl,f2,f1⟩
end
section
attribute [local go_sem ↓] Go.wp_at_zero Go.wp_at_succ
theorem qQ(w ok t x v xv s i)(h:In w ok t v)(hx:In w ok x xv)(hk:t.kind=4)(hp:cX t.l.length s=some i)(hi:i < t.l.length)(L9:t.l.length<=100000)(hs:s.length<=9223372036854775807):Calls prog 202 #[v,aR s,xv] w fun e w'=>∃ r,e=.returned (.tuple #[r,.bool true])/\La w w'/\In w' (bQ ok w.heap.size) { t with l:=t.l.take i++x :: t.l.drop (i+1) } r:=by
 obtain⟨l1,l2,l3⟩:=h.lens;obtain⟨a7,a8,c7,c8,rfl⟩:=hx.form;obtain⟨d,h,hx⟩:=h.low.two hx.low;have HX:=aa hx;obtain⟨ks,ls,rfl,h1,h2,h3,h4,h5⟩:=h;have KK:Ll (dW t.kind/\dW t.n/\t.s.length<=maxLen/\ao w _ t.keys ks/\cS w _ (bu w _ d) t.l ls):=⟨h1,h2,h3,h4,h5⟩
 obtain⟨a1,c1,rfl⟩:=h4.form;obtain⟨a2,c2,rfl⟩:=h5.form;have hia:=pV hp;obtain⟨cs1,cs2,v1,v3,r1,r2,s1,s3,hcase⟩:=tg h5 i (i+1) (by omega) hi (by omega);have R:Ll (cA (bu w _ d) (t.l.take i) cs1/\cA (bu w _ d) (t.l.drop (i+1)) cs2/\du w 5 v1 i cs1/\du w 5 v3 (t.l.length - (i+1)) cs2):=⟨r1,r2,s1,s3⟩
 have HC:=aa hcase;have HP:=aa hp;have q1:(t.kind == 5)=false:=by rw[hk];rfl
 have q2:(t.kind == 4)=true:=by rw[hk];rfl
 clear h1 h2 h4 h5 hx r1 r2 s1 s3 hcase hp hk;unfold maxLen at h3;unfold aR;have HM:Ll (cg t s=some t.l[i]):=aa (by unfold cg;rw[if_pos (by simpa using q2),HP.o,Option.bind_some,Mw hi]);have HV:Ll (In w (Lj ok w) t (.agg (KV t a1 c1 a2 c2))):=⟨d+1,_,_,rfl,KK.o.1,KK.o.2.1,KK.o.2.2.1,KK.o.2.2.2.1,KK.o.2.2.2.2⟩
 go_enter func202,ntmps202;go_wp2_with fail
 refine(eI _ (Lj ok w) t _ s (by exact HV.o.bel (ab (ab (ae _ _) (ae _ _)) (ae _ _))) hs).mono ?_;rintro e w0 ⟨x9,b9,rfl,hb0,hb9,y9,hy9,-⟩;rw[HM.o]at hb9;simp only[Option.isSome_some]at hb9;subst hb9;obtain⟨a5,a6,c5,c6,rfl⟩:=hy9.form;have M0:Ll (KY w0 w.heap.size t a1 c1 a2 c2/\KY w0 (w.heap.size+1) x a7 c7 a8 c8/\Lc w0 (w.heap.size+2)/\La w w0):=
  ⟨af hb0 (lI w _ _ _),af hb0 (mE w _ _ _),af hb0 (jI w _ _ _),ab (ab (ab (ae _ _) (ae _ _)) (ae _ _)) hb0⟩
 have M1:Ll (KY (w0.alloc (.cells (KV y9 a5 c5 a6 c6) 39)) w.heap.size t a1 c1 a2 c2/\KY (w0.alloc (.cells (KV y9 a5 c5 a6 c6) 39)) (w.heap.size+1) x a7 c7 a8 c8/\Lc (w0.alloc (.cells (KV y9 a5 c5 a6 c6) 39)) (w.heap.size+2)/\La w (w0.alloc (.cells (KV y9 a5 c5 a6 c6) 39))):=by
  have LW:=ae w0 (.cells (KV y9 a5 c5 a6 c6) 39);exact⟨af LW M0.o.1,af LW M0.o.2.1,af LW M0.o.2.2.1,ab M0.o.2.2.2 LW⟩
 obtain⟨n0,-,-,-,n4,-⟩:=M1.o.1.c;clear hb0 hy9;go_wp2_with fail
 refine(jb _ _ t.l.length c2 s l2 hs).mono ?_;rintro e w1 ⟨rfl,hw⟩;rw[HP.o];unfold ow;have M:Ll (KY w1 w.heap.size t a1 c1 a2 c2/\KY w1 (w.heap.size+1) x a7 c7 a8 c8/\Lc w1 (w.heap.size+2)/\La w w1):=by
  rw[hw];exact M1.o
 clear hw M1;have hsz1:w.heap.size+2 < w1.heap.size:=M.o.2.2.1.lt;simp only[Option.getD_some,Option.isSome_some];obtain⟨p0,p1,p2,p3,p4,-,-,-,p9,p10⟩:=M.o.1.c;have q0_:=M.o.2.1.c;have k4:∀ o,(w1.alloc o).cell? ⟨w.heap.size,4,none⟩=some (.slice a2 t.l.length c2):=fun o=>(af (ae w1 o) M.o.1).c.2.2.2.2.1;have m0:∀ o,(w1.alloc o).cell? ⟨w.heap.size+1,0,none⟩=some (.int .i64 x.kind):=fun o=>(af (ae w1 o) M.o.2.1).c.1;have m1:∀ o,(w1.alloc o).cell? ⟨w.heap.size+1,1,none⟩=some (.int .i64 x.n):=fun o=>(af (ae w1 o) M.o.2.1).c.2.1;have m2:∀ o,(w1.alloc o).cell? ⟨w.heap.size+1,2,none⟩=some (.string ⟨x.s.toArray⟩):=fun o=>(af (ae w1 o) M.o.2.1).c.2.2.1;have m3:∀ o,(w1.alloc o).cell? ⟨w.heap.size+1,3,none⟩=some (.slice a7 x.keys.length c7):=fun o=>(af (ae w1 o) M.o.2.1).c.2.2.2.1;have m4:∀ o,(w1.alloc o).cell? ⟨w.heap.size+1,4,none⟩=some (.slice a8 x.l.length c8):=fun o=>(af (ae w1 o) M.o.2.1).c.2.2.2.2.1;have con:Ll (∀ W,W.heap=((w1.alloc (.cells (KV x a7 c7 a8 c8) 39)).alloc (.cells #[v1,.slice (some ⟨w1.heap.size,0,none⟩) 1 1,v3] 37)).heap->W.os=w1.os->W.tape=w1.tape->W.output=w1.output ->
  Calls prog 191 #[.slice (some ⟨w1.heap.size+1,0,none⟩) 3 3] W fun e w'=>∃ g cap,e=.returned (.slice (some ⟨g,0,none⟩) t.l.length cap)/\w'.ownsRow w1.heap.size 39 5 (.slice (some ⟨g,0,none⟩) t.l.length cap) t.l.length (cs1++[.int .i64 x.kind,.int .i64 x.n,.string ⟨x.s.toArray⟩,.slice a7 x.keys.length c7,.slice a8 x.l.length c8]++cs2)/\La w1 w'):=by
  intro W e1 e2 e4 e5;exact EJ _ _ _ _ _ _ _ _ _ (R.o.2.2.1.bel M.o.2.2.2) (R.o.2.2.2.bel M.o.2.2.2) (by omega) (by omega) W e1 e2 e4 e5
 have fin:Ll (∀ w3 g cap,w3.ownsRow w1.heap.size 39 5 (.slice (some ⟨g,0,none⟩) t.l.length cap) t.l.length (cs1++[.int .i64 x.kind,.int .i64 x.n,.string ⟨x.s.toArray⟩,.slice a7 x.keys.length c7,.slice a8 x.l.length c8]++cs2)->La w1 w3 ->
  In (ar (w3.setCell ⟨w.heap.size,4,none⟩ (.slice (some ⟨g,0,none⟩) t.l.length cap)) (w.heap.size+2) (.int .i64 t.kind) (.int .i64 t.n) (.string ⟨t.s.toArray⟩) (.slice a1 t.keys.length c1) (.slice (some ⟨g,0,none⟩) t.l.length cap)) (bQ ok w.heap.size) { t with l:=t.l.take i++x :: t.l.drop (i+1) } (.agg #[.int .i64 t.kind,.int .i64 t.n,.string ⟨t.s.toArray⟩,.slice a1 t.keys.length c1,.slice (some ⟨g,0,none⟩) t.l.length cap]) /\
  La w (ar (w3.setCell ⟨w.heap.size,4,none⟩ (.slice (some ⟨g,0,none⟩) t.l.length cap)) (w.heap.size+2) (.int .i64 t.kind) (.int .i64 t.n) (.string ⟨t.s.toArray⟩) (.slice a1 t.keys.length c1) (.slice (some ⟨g,0,none⟩) t.l.length cap))/\ag (ar (w3.setCell ⟨w.heap.size,4,none⟩ (.slice (some ⟨g,0,none⟩) t.l.length cap)) (w.heap.size+2) (.int .i64 t.kind) (.int .i64 t.n) (.string ⟨t.s.toArray⟩) (.slice a1 t.keys.length c1) (.slice (some ⟨g,0,none⟩) t.l.length cap)) (w.heap.size+2) (.int .i64 t.kind) (.int .i64 t.n) (.string ⟨t.s.toArray⟩) (.slice a1 t.keys.length c1) (.slice (some ⟨g,0,none⟩) t.l.length cap)):=by
  intro w3 g cap ho hb;have g1:w3.grownBy (w3.setCell ⟨w.heap.size,4,none⟩ (.slice (some ⟨g,0,none⟩) t.l.length cap)) (some w.heap.size):=ap (az _ _) _ _;have g2:=aI (w3.setCell ⟨w.heap.size,4,none⟩ (.slice (some ⟨g,0,none⟩) t.l.length cap)) (w.heap.size+2) (.int .i64 t.kind) (.int .i64 t.n) (.string ⟨t.s.toArray⟩) (.slice a1 t.keys.length c1) (.slice (some ⟨g,0,none⟩) t.l.length cap);have LU:=((af hb M.o.2.2.1).grown g1 (by simp)).set (.int .i64 t.kind) (.int .i64 t.n) (.string ⟨t.s.toArray⟩) (.slice a1 t.keys.length c1) (.slice (some ⟨g,0,none⟩) t.l.length cap);have hbw:La w w3:=ab M.o.2.2.2 hb;have hb9:La w (ar (w3.setCell ⟨w.heap.size,4,none⟩ (.slice (some ⟨g,0,none⟩) t.l.length cap)) (w.heap.size+2) (.int .i64 t.kind) (.int .i64 t.n) (.string ⟨t.s.toArray⟩) (.slice a1 t.keys.length c1) (.slice (some ⟨g,0,none⟩) t.l.length cap)):=bS (eD (bi (aq hbw) (MG _) _ _) (by omega) _ _ _ _ _);refine⟨⟨d+1,_,_,rfl,KK.o.1,KK.o.2.1,KK.o.2.2.1,?_,?_⟩,hb9,LU⟩
  ·exact(KK.o.2.2.2.1.bel hb9).imp fun a x hx hc=>⟨.inl hx.1,hc⟩
  ·have ho9:=aW (aW ho g1 (by omega)) g2 (by omega);have LT:t.l.length=(t.l.take i++x :: t.l.drop (i+1)).length:=by simp;omega
   refine fJ LT ho9 ?_ (fun k hk=>.inr (by omega)) (by rw[<-LT];unfold maxLen;omega);have rx:cA (bu _ (bQ (Lj ok w) w.heap.size) d) [x] [.int .i64 x.kind,.int .i64 x.n,.string ⟨x.s.toArray⟩,.slice a7 x.keys.length c7,.slice a8 x.l.length c8]:=⟨_,_,_,_,_,[],rfl,(HX.o.bel hb9).toN,rfl⟩
   have:=((R.o.2.1.bel (B:=w.heap.size) hb9).append rx).append (R.o.1.bel (B:=w.heap.size) hb9);rw[List.append_assoc];exact this.imp fun _ _ h=>h.weak fun k hk=>by rcases hk with hk | hk;exact .inl hk.1;exact .inr hk
 have j0:(0:Int)<=(i:Int):=by omega
 have j1:(i:Int)+1<=(t.l.length:Int):=by omega
 have j2:(0:Int)<=(i:Int)+1:=by omega
 have hw1:IntKind.i64.wrap ((i:Int)+1)=(i:Int)+1:=by rw[IntKind.wrap_i64];omega
 rcases HC.o with⟨-,e3,-⟩ | ⟨b,off,rfl,hc1,hc2,rfl,hv3⟩
 ·omega
 ·obtain⟨a3,hifs⟩:∃ a3,(if c2=i+1 then (some ⟨b,off,none⟩:Option Addr) else some ⟨b,off+(i+1) * 5,none⟩)=a3:=⟨_,rfl⟩
  rw[hifs]at hv3;subst hv3;clear HC;have j5:(i:Int)<=(c2:Int):=by omega
  have j6:(t.l.length:Int)<=(c2:Int):=by omega
  go_upto_region 7 with fail
  go_region_with ((go_at_call 191;refine(con.o _ (by rfl) (by rfl) (by rfl) (by rfl)).mono ?_;rintro e w3 ⟨g,cap,rfl,ho3,hb3⟩;obtain⟨p0,p1,p2,p3,p4,-,-,-,p9,p10⟩:=(af hb3 M.o.1).c;have x0_:=(af hb3 M.o.2.2.1).c;have O3:=aa ho3;have HB3:=aa hb3;clear ho3 hb3))
  all_goals
   go_wp2_with fail
   obtain⟨f1,f2,f3⟩:=fin.o _ g cap O3.o HB3.o;have z0_:=f3.c;refine MM (v:=.tuple #[.agg #[.int .i64 t.kind,.int .i64 t.n,.string ⟨t.s.toArray⟩,.slice a1 t.keys.length c1,.slice (some ⟨g,0,none⟩) t.l.length cap],.bool true]) ?_ rfl ?_
   ·simp only[ar]at z0_;simp[results,results202,go_sem,z0_]
   ·exact⟨_,rfl,f2,f1⟩
end
variable {w:World}
variable {ok:Nat->Prop}
variable {t:V}
variable {g:Nat}
theorem aN{w1 C v0 v1 v2 v3 v4}(h:In w1 (bg ok w.heap.size C) t (.agg #[v0,v1,v2,v3,v4]))(hb:La w w1)(hg:w.heap.size<=g)(hC:g < C):La w (ar w1 g v0 v1 v2 v3 v4)/\In (ar w1 g v0 v1 v2 v3 v4) (bQ ok w.heap.size) t (.agg #[v0,v1,v2,v3,v4]):=
 ⟨aP hb hg _ _ _ _ _,(h.box hg hC _ _ _ _ _).weak (ik (by omega))⟩
theorem EB(w ok t x v xv s)(h:In w ok t v)(hx:In w ok x xv)(hn:dz t)(hs:s.length<=9223372036854775807):Calls prog 199 #[v,aR s,xv] w fun e w'=>∃ r b,e=.returned (.tuple #[r,.bool b])/\La w w'/\cZ w' (bQ ok w.heap.size) (bL x t s) r b:=by
 have LT:=hU hn;by_cases hk5:t.kind=5
 ·have HP:=aa (vq hn hk5);have HA:Ll (bL x t s=some (aG t s x)):=aa (by unfold bL;rw[if_pos hk5]);have q1:(t.kind == 5)=true:=by rw[hk5];rfl
  have H:=aa h.low;have HX:=aa hx.low;obtain⟨l1,l2,l3⟩:=h.lens;obtain⟨a1,a2,c1,c2,rfl⟩:=h.form;obtain⟨a7,a8,c7,c8,rfl⟩:=hx.form;clear h hx hk5 hn;go_enter func199,ntmps199;go_wp2_with fail
  refine(gf _ (Lj ok w) t x _ _ s (by exact H.o.bel (ab (ab (ae _ _) (ae _ _)) (ae _ _))) (by exact HX.o.bel (ab (ab (ae _ _) (ae _ _)) (ae _ _))) HP.o (by omega) hs).mono ?_;rintro e w1 ⟨r,rfl,hr,hb1⟩;obtain⟨W,hW⟩:∃ W,aG t s x=W:=⟨_,rfl⟩
  rw[hW]at hr;have HW:=aa hW;clear hW;obtain⟨a5,a6,c5,c6,rfl⟩:=hr.form;have LU:Lc w1 (w.heap.size+2):=af hb1 (jI w _ _ _);have x0_:=LU.c;have Z:Ll (_/\_):=aN (g:=w.heap.size+2) hr (ab (ab (ab (ae _ _) (ae _ _)) (ae _ _)) hb1) (by omega) (by simp);have ZB:Ll _:=aa (LH LU.set W a5 c5 a6 c6);clear hr hb1 LU;go_wp2_with fail
  have z0_:=ZB.o.c;refine MM (v:=.tuple #[.agg (KV W a5 c5 a6 c6),.bool true]) ?_ rfl ?_
  ·simp only[ar]at z0_;simp[results,results199,go_sem,z0_]
  ·refine⟨_,_,rfl,Z.o.1,?_⟩;rw[HA.o,HW.o];exact cZ.some Z.o.2
 ·by_cases hk4:t.kind=4
  ·cases hp:cX t.l.length s with
   | some i=>
    refine(yS w ok t x v xv s i h hx hk4 hp (by omega) hs).mono ?_;rintro e w' ⟨r,rfl,hb,hr⟩;refine⟨r,true,rfl,hb,?_⟩;have:bL x t s=some { t with l:=t.l.take i++x :: t.l.drop i }:=by unfold bL;rw[if_neg hk5,if_pos hk4,hp];rfl
    rw[this];exact cZ.some hr
   | none=>
    have HA:Ll (bL x t s=none):=aa (by unfold bL;rw[if_neg hk5,if_pos hk4,hp];rfl);have HP:=aa hp;have q1:(t.kind == 5)=false:=by rw[hk4];rfl
    have q2:(t.kind == 4)=true:=by rw[hk4];rfl
    have H:=aa h.low;obtain⟨l1,l2,l3⟩:=h.lens;obtain⟨a1,a2,c1,c2,rfl⟩:=h.form;obtain⟨a7,a8,c7,c8,rfl⟩:=hx.form;clear h hx hk5 hk4 hn hp;go_enter func199,ntmps199;go_wp2_with fail
    refine(jb _ _ t.l.length c2 s l2 hs).mono ?_;rintro e w1 ⟨rfl,hw⟩;rw[HP.o];unfold ow;have hb1:La w w1:=by rw[hw];exact ab (ab (ae _ _) (ae _ _)) (ae _ _)
    have LU:Lc w1 (w.heap.size+2):=by rw[hw];exact jI w _ _ _
    have hbv:KY w1 w.heap.size t a1 c1 a2 c2:=by rw[hw];exact lI w _ _ _
    have p0_:=hbv.c;have x0_:=LU.c;have Z:Ll (_/\_):=aN (C:=w1.heap.size) (g:=w.heap.size+2) ((H.o.bel hb1).weak (aO (C:=w1.heap.size))) hb1 (by omega) LU.lt;have ZB:Ll _:=aa (LH LU.set t a1 c1 a2 c2);clear hw hb1 LU hbv;simp only[Option.getD_none,Option.isSome_none];go_wp2_with fail
    have z0_:=ZB.o.c;refine MM (v:=.tuple #[.agg (KV t a1 c1 a2 c2),.bool false]) ?_ rfl ?_
    ·simp only[ar]at z0_;simp[results,results199,go_sem,z0_]
    ·refine⟨_,_,rfl,Z.o.1,?_⟩;rw[HA.o];exact cZ.none Z.o.2
  ·have HA:Ll (bL x t s=none):=aa (by unfold bL;rw[if_neg hk5,if_neg hk4]);have q1:(t.kind == 5)=false:=by rw[MO];exact hk5
   have q2:(t.kind == 4)=false:=by rw[MO];exact hk4
   have H:=aa h.low;obtain⟨l1,l2,l3⟩:=h.lens;obtain⟨a1,a2,c1,c2,rfl⟩:=h.form;obtain⟨a7,a8,c7,c8,rfl⟩:=hx.form;clear h hx hk5 hk4 hn;obtain⟨w1,hw⟩:∃ w1,w1=((w.alloc (.cells (KV t a1 c1 a2 c2) 39)).alloc (.cells (KV x a7 c7 a8 c8) 39)):=⟨_,rfl⟩
   have hb2:La w (w1.alloc (.cells (KV t a1 c1 a2 c2) 39)):=by rw[hw];exact ab (ab (ae _ _) (ae _ _)) (ae _ _)
   have HB:=aa hb2;rw[hw]at HB;have K:=aa ((H.o.bel HB.o).weak (oH));clear hb2 hw w1;go_enter func199,ntmps199;go_wp2_with fail
   refine MM (v:=.tuple #[.agg (KV t a1 c1 a2 c2),.bool false]) ?_ rfl ?_
   ·simp[results,results199,go_sem]
   ·refine⟨_,_,rfl,HB.o,?_⟩;rw[HA.o];exact cZ.none K.o
theorem kn(w ok t x v xv s)(h:In w ok t v)(hx:In w ok x xv)(hn:dz t)(hs:s.length<=9223372036854775807):Calls prog 202 #[v,aR s,xv] w fun e w'=>∃ r b,e=.returned (.tuple #[r,.bool b])/\La w w'/\cZ w' (bQ ok w.heap.size) (aY x t s) r b:=by
 have LT:=hU hn;cases hm:cg t s with
 | none=>
  have HM:=aa hm;have HA:Ll (aY x t s=none):=aa (by unfold aY;rw[hm];rfl);clear hm;have H:=aa h.low;have HX:=aa hx.low;obtain⟨l1,l2,l3⟩:=h.lens;obtain⟨a1,a2,c1,c2,rfl⟩:=h.form;obtain⟨a7,a8,c7,c8,rfl⟩:=hx.form;clear h hx hn;go_enter func202,ntmps202;go_wp2_with fail
  refine(eI _ (Lj ok w) t _ s (by exact H.o.bel (ab (ab (ae _ _) (ae _ _)) (ae _ _))) hs).mono ?_;rintro e w0 ⟨x9,b9,rfl,hb0,hb9,y9,hy9,-⟩;rw[HM.o]at hb9;simp only[Option.isSome_none]at hb9;subst hb9;obtain⟨a5,a6,c5,c6,rfl⟩:=hy9.form;have M1:Ll (KY (w0.alloc (.cells (KV y9 a5 c5 a6 c6) 39)) w.heap.size t a1 c1 a2 c2/\KY (w0.alloc (.cells (KV y9 a5 c5 a6 c6) 39)) (w.heap.size+1) x a7 c7 a8 c8/\Lc (w0.alloc (.cells (KV y9 a5 c5 a6 c6) 39)) (w.heap.size+2)/\La w (w0.alloc (.cells (KV y9 a5 c5 a6 c6) 39))):=by
   have LW:=ab hb0 (ae w0 (.cells (KV y9 a5 c5 a6 c6) 39));exact⟨af LW (lI w _ _ _),af LW (mE w _ _ _),af LW (jI w _ _ _),ab (ab (ab (ae _ _) (ae _ _)) (ae _ _)) LW⟩
  obtain⟨m1,mx,m2,m3⟩:=M1.o;have n0_:=m1.c;have x0_:=m2.c;have Z:Ll (_/\_):=aN (C:=(w0.alloc (.cells (KV y9 a5 c5 a6 c6) 39)).heap.size) (g:=w.heap.size+2) ((H.o.bel m3).weak (aO (C:=(w0.alloc (.cells (KV y9 a5 c5 a6 c6) 39)).heap.size))) m3 (by omega) m2.lt;have ZB:Ll _:=aa (LH m2.set t a1 c1 a2 c2);clear hb0 hy9 m1 mx m2 m3 M1;go_wp2_with fail
  have z0_:=ZB.o.c;refine MM (v:=.tuple #[.agg (KV t a1 c1 a2 c2),.bool false]) ?_ rfl ?_
  ·simp only[ar]at z0_;simp[results,results202,go_sem,z0_]
  ·refine⟨_,_,rfl,Z.o.1,?_⟩;rw[HA.o];exact cZ.none Z.o.2
 | some y=>
  rcases qw hm with⟨hk,hp,-⟩ | ⟨hk,i,hi,hlt,-⟩
  ·have HM:=aa hm;have HP:=aa hp;have HA:Ll (aY x t s=some (aG t s x)):=aa (by unfold aY;rw[hm,Option.bind_some,if_pos hk]);have q1:(t.kind == 5)=true:=by rw[hk];rfl
   clear hm hp hk;have H:=aa h.low;have HX:=aa hx.low;obtain⟨l1,l2,l3⟩:=h.lens;obtain⟨a1,a2,c1,c2,rfl⟩:=h.form;obtain⟨a7,a8,c7,c8,rfl⟩:=hx.form;clear h hx hn;go_enter func202,ntmps202;go_wp2_with fail
   refine(eI _ (Lj ok w) t _ s (by exact H.o.bel (ab (ab (ae _ _) (ae _ _)) (ae _ _))) hs).mono ?_;rintro e w0 ⟨x9,b9,rfl,hb0,hb9,y9,hy9,-⟩;rw[HM.o]at hb9;simp only[Option.isSome_some]at hb9;subst hb9;obtain⟨a5,a6,c5,c6,rfl⟩:=hy9.form;have M1:Ll (KY (w0.alloc (.cells (KV y9 a5 c5 a6 c6) 39)) w.heap.size t a1 c1 a2 c2/\KY (w0.alloc (.cells (KV y9 a5 c5 a6 c6) 39)) (w.heap.size+1) x a7 c7 a8 c8/\Lc (w0.alloc (.cells (KV y9 a5 c5 a6 c6) 39)) (w.heap.size+2)/\La w (w0.alloc (.cells (KV y9 a5 c5 a6 c6) 39))):=by
    have LW:=ab hb0 (ae w0 (.cells (KV y9 a5 c5 a6 c6) 39));exact⟨af LW (lI w _ _ _),af LW (mE w _ _ _),af LW (jI w _ _ _),ab (ab (ab (ae _ _) (ae _ _)) (ae _ _)) LW⟩
   obtain⟨m1,mx,m2,m3⟩:=M1.o;have n0_:=m1.c;have o0_:=mx.c;clear hb0 hy9 m1 mx m2 m3;go_wp2_with fail
   refine(gf _ (Lj ok w) t x _ _ s (by exact H.o.bel M1.o.2.2.2) (by exact HX.o.bel M1.o.2.2.2) HP.o (by omega) hs).mono ?_;rintro e w1 ⟨r,rfl,hr,hb1⟩;obtain⟨W,hW⟩:∃ W,aG t s x=W:=⟨_,rfl⟩
   rw[hW]at hr;have HW:=aa hW;clear hW;obtain⟨d1,d2,e1,e2,rfl⟩:=hr.form;have LU:=af hb1 M1.o.2.2.1;have x0_:=LU.c;have Z:Ll (_/\_):=aN (g:=w.heap.size+2) hr (ab M1.o.2.2.2 hb1) (by omega) M1.o.2.2.1.lt;have ZB:Ll _:=aa (LH LU.set W d1 e1 d2 e2);clear hr hb1 LU;go_wp2_with fail
   have z0_:=ZB.o.c;refine MM (v:=.tuple #[.agg (KV W d1 e1 d2 e2),.bool true]) ?_ rfl ?_
   ·simp only[ar]at z0_;simp[results,results202,go_sem,z0_]
   ·refine⟨_,_,rfl,Z.o.1,?_⟩;rw[HA.o,HW.o];exact cZ.some Z.o.2
  ·refine(qQ w ok t x v xv s i h hx hk hi hlt (by omega) hs).mono ?_;rintro e w' ⟨r,rfl,hb,hr⟩;refine⟨r,true,rfl,hb,?_⟩;have:aY x t s=some { t with l:=t.l.take i++x :: t.l.drop (i+1) }:=by unfold aY;rw[hm,Option.bind_some,if_neg (by omega),hi];rfl
   rw[this];exact cZ.some hr
theorem zz(w ok t v s)(h:In w ok t v)(hn:dz t)(hs:s.length<=9223372036854775807):Calls prog 201 #[v,aR s] w fun e w'=>∃ r b,e=.returned (.tuple #[r,.bool b])/\La w w'/\cZ w' (bQ ok w.heap.size) (ch t s) r b:=by
 have LT:=hU hn;cases hm:cg t s with
 | none=>
  have HM:=aa hm;have HA:Ll (ch t s=none):=aa (by unfold ch;rw[hm];rfl);clear hm;have H:=aa h.low;obtain⟨l1,l2,l3⟩:=h.lens;obtain⟨a1,a2,c1,c2,rfl⟩:=h.form;clear h hn;go_enter func201,ntmps201;go_wp2_with fail
  refine(eI _ (Lj ok w) t _ s (by exact H.o.bel (ab (ae _ _) (ae _ _))) hs).mono ?_;rintro e w0 ⟨x9,b9,rfl,hb0,hb9,y9,hy9,-⟩;rw[HM.o]at hb9;simp only[Option.isSome_none]at hb9;subst hb9;obtain⟨a5,a6,c5,c6,rfl⟩:=hy9.form;have M1:Ll (KY (w0.alloc (.cells (KV y9 a5 c5 a6 c6) 39)) w.heap.size t a1 c1 a2 c2/\Lc (w0.alloc (.cells (KV y9 a5 c5 a6 c6) 39)) (w.heap.size+1)/\La w (w0.alloc (.cells (KV y9 a5 c5 a6 c6) 39))):=by
   have LW:=ab hb0 (ae w0 (.cells (KV y9 a5 c5 a6 c6) 39));exact⟨af LW (fb w _ _),af LW (et w _ _),ab (ab (ae _ _) (ae _ _)) LW⟩
  obtain⟨m1,m2,m3⟩:=M1.o;have n0_:=m1.c;have x0_:=m2.c;have Z:Ll (_/\_):=aN (C:=(w0.alloc (.cells (KV y9 a5 c5 a6 c6) 39)).heap.size) (g:=w.heap.size+1) ((H.o.bel m3).weak (aO (C:=(w0.alloc (.cells (KV y9 a5 c5 a6 c6) 39)).heap.size))) m3 (by omega) m2.lt;have ZB:Ll _:=aa (LH m2.set t a1 c1 a2 c2);clear hb0 hy9 m1 m2 m3 M1;go_wp2_with fail
  have z0_:=ZB.o.c;refine MM (v:=.tuple #[.agg (KV t a1 c1 a2 c2),.bool false]) ?_ rfl ?_
  ·simp only[ar]at z0_;simp[results,results201,go_sem,z0_]
  ·refine⟨_,_,rfl,Z.o.1,?_⟩;rw[HA.o];exact cZ.none Z.o.2
 | some y=>
  rcases qw hm with⟨hk,hp,-⟩ | ⟨hk,i,hi,hlt,-⟩
  ·have HM:=aa hm;have HP:=aa hp;have HA:Ll (ch t s=some (bH t s)):=aa (by unfold ch;rw[hm,Option.bind_some,if_pos hk]);have q1:(t.kind == 5)=true:=by rw[hk];rfl
   clear hm hp hk;have H:=aa h.low;obtain⟨l1,l2,l3⟩:=h.lens;obtain⟨a1,a2,c1,c2,rfl⟩:=h.form;clear h hn;go_enter func201,ntmps201;go_wp2_with fail
   refine(eI _ (Lj ok w) t _ s (by exact H.o.bel (ab (ae _ _) (ae _ _))) hs).mono ?_;rintro e w0 ⟨x9,b9,rfl,hb0,hb9,y9,hy9,-⟩;rw[HM.o]at hb9;simp only[Option.isSome_some]at hb9;subst hb9;obtain⟨a5,a6,c5,c6,rfl⟩:=hy9.form;have M1:Ll (KY (w0.alloc (.cells (KV y9 a5 c5 a6 c6) 39)) w.heap.size t a1 c1 a2 c2/\Lc (w0.alloc (.cells (KV y9 a5 c5 a6 c6) 39)) (w.heap.size+1)/\La w (w0.alloc (.cells (KV y9 a5 c5 a6 c6) 39))):=by
    have LW:=ab hb0 (ae w0 (.cells (KV y9 a5 c5 a6 c6) 39));exact⟨af LW (fb w _ _),af LW (et w _ _),ab (ab (ae _ _) (ae _ _)) LW⟩
   obtain⟨m1,m2,m3⟩:=M1.o;have n0_:=m1.c;clear hb0 hy9 m1 m2 m3;go_wp2_with fail
   refine(jD _ (Lj ok w) t _ s (by exact H.o.bel M1.o.2.2) (by omega)).mono ?_;rintro e w1 ⟨r,rfl,hr,hb1⟩;obtain⟨W,hW⟩:∃ W,bH t s=W:=⟨_,rfl⟩
   rw[hW]at hr;have HW:=aa hW;clear hW;obtain⟨d1,d2,e1,e2,rfl⟩:=hr.form;have LU:=af hb1 M1.o.2.1;have x0_:=LU.c;have Z:Ll (_/\_):=aN (g:=w.heap.size+1) hr (ab M1.o.2.2 hb1) (by omega) M1.o.2.1.lt;have ZB:Ll _:=aa (LH LU.set W d1 e1 d2 e2);clear hr hb1 LU;go_wp2_with fail
   have z0_:=ZB.o.c;refine MM (v:=.tuple #[.agg (KV W d1 e1 d2 e2),.bool true]) ?_ rfl ?_
   ·simp only[ar]at z0_;simp[results,results201,go_sem,z0_]
   ·refine⟨_,_,rfl,Z.o.1,?_⟩;rw[HA.o,HW.o];exact cZ.some Z.o.2
  ·refine(sQ w ok t v s i h hk hi hlt (by omega) hs).mono ?_;rintro e w' ⟨r,rfl,hb,hr⟩;refine⟨r,true,rfl,hb,?_⟩;have:ch t s=some { t with l:=t.l.take i++t.l.drop (i+1) }:=by unfold ch;rw[hm,Option.bind_some,if_neg (by omega),hi];rfl
   rw[this];exact cZ.some hr
theorem C3(w ok t x v s gh gx a7 a8 c7 c8)(tf:TypeId)(h:In w ok t v)(hx:In w ok x (.agg (KV x a7 c7 a8 c8)))(bx:KY w gx x a7 c7 a8 c8)(bh:w.heap[gh]?=some (.cells #[.func (.func 199) #[] #[]] tf))(hn:dz t)(hs:s.length<=9223372036854775807):Calls prog 232 #[v,aR s,.pointer (some ⟨gh,0,none⟩),.pointer (some ⟨gx,0,none⟩)] w fun e w'=>∃ r b,e=.returned (.tuple #[r,.bool b])/\La w w'/\cZ w' (bQ ok w.heap.size) (bL x t s) r b:=by
 have H:=aa h.low;have HX:=aa hx.low;have HN:=aa hn;obtain⟨l1,l2,l3⟩:=h.lens;obtain⟨a1,a2,c1,c2,rfl⟩:=h.form;have B2:Ll (∀ o1 o2,La w ((w.alloc o1).alloc o2)):=fun o1 o2=>ab (ae _ _) (ae _ _);have hf:w.cell? ⟨gh,0,none⟩=some (.func (.func 199) #[] #[]):=by simp[World.cell?,bh]
 have g0:∀ o1 o2,((w.alloc o1).alloc o2).cell? ⟨gh,0,none⟩=some (.func (.func 199) #[] #[]):=fun o1 o2=>ah (B2.o o1 o2) hf;obtain⟨m0,m1,m2,m3,m4,-⟩:=bx.c;have g1:∀ o1 o2,((w.alloc o1).alloc o2).cell? ⟨gx,0,none⟩=some (.int .i64 x.kind):=fun o1 o2=>ah (B2.o o1 o2) m0;have g2:∀ o1 o2,((w.alloc o1).alloc o2).cell? ⟨gx,1,none⟩=some (.int .i64 x.n):=fun o1 o2=>ah (B2.o o1 o2) m1;have g3:∀ o1 o2,((w.alloc o1).alloc o2).cell? ⟨gx,2,none⟩=some (.string ⟨x.s.toArray⟩):=fun o1 o2=>ah (B2.o o1 o2) m2;have g4:∀ o1 o2,((w.alloc o1).alloc o2).cell? ⟨gx,3,none⟩=some (.slice a7 x.keys.length c7):=fun o1 o2=>ah (B2.o o1 o2) m3;have g5:∀ o1 o2,((w.alloc o1).alloc o2).cell? ⟨gx,4,none⟩=some (.slice a8 x.l.length c8):=fun o1 o2=>ah (B2.o o1 o2) m4;clear h hx bx bh hf hn;go_enter func232,ntmps232;go_wp2_with fail
 refine(EB _ (Lj ok w) t x _ _ s (by exact H.o.bel (B2.o _ _)) (by exact HX.o.bel (B2.o _ _)) HN.o hs).mono ?_;rintro e w1 ⟨r,b,rfl,hb1,hb2,y,hy,hyz⟩;obtain⟨a5,a6,c5,c6,rfl⟩:=hy.form;have LU:=af hb1 (et w _ _);obtain⟨x0,x1,x2,x3,x4,y0,y1,y2,y3,y4⟩:=ag.c LU;have Z:Ll (_/\_):=aN (g:=w.heap.size+1) hy (ab (B2.o _ _) hb1) (by omega) (by simp);have ZB:Ll _:=aa (LH (ag.set LU) y a5 c5 a6 c6);have R:Ll (b=(bL x t s).isSome/\∀ z,bL x t s=some z->y=z):=⟨hb2,hyz⟩
 clear hb1 hb2 hy hyz LU g0 g1 g2 g3 g4 g5;go_wp2_with fail
 have z0_:=ZB.o.c;refine MM (v:=.tuple #[.agg (KV y a5 c5 a6 c6),.bool b]) ?_ rfl ?_
 ·simp only[ar]at z0_;simp[results,results232,go_sem,z0_]
 ·exact⟨_,_,rfl,Z.o.1,R.o.1,y,Z.o.2,R.o.2⟩
theorem tx(w ok t x v s gh gx a7 a8 c7 c8)(tf:TypeId)(h:In w ok t v)(hx:In w ok x (.agg (KV x a7 c7 a8 c8)))(bx:KY w gx x a7 c7 a8 c8)(bh:w.heap[gh]?=some (.cells #[.func (.func 202) #[] #[]] tf))(hn:dz t)(hs:s.length<=9223372036854775807):Calls prog 232 #[v,aR s,.pointer (some ⟨gh,0,none⟩),.pointer (some ⟨gx,0,none⟩)] w fun e w'=>∃ r b,e=.returned (.tuple #[r,.bool b])/\La w w'/\cZ w' (bQ ok w.heap.size) (aY x t s) r b:=by
 have H:=aa h.low;have HX:=aa hx.low;have HN:=aa hn;obtain⟨l1,l2,l3⟩:=h.lens;obtain⟨a1,a2,c1,c2,rfl⟩:=h.form;have B2:Ll (∀ o1 o2,La w ((w.alloc o1).alloc o2)):=fun o1 o2=>ab (ae _ _) (ae _ _);have hf:w.cell? ⟨gh,0,none⟩=some (.func (.func 202) #[] #[]):=by simp[World.cell?,bh]
 have g0:∀ o1 o2,((w.alloc o1).alloc o2).cell? ⟨gh,0,none⟩=some (.func (.func 202) #[] #[]):=fun o1 o2=>ah (B2.o o1 o2) hf;obtain⟨m0,m1,m2,m3,m4,-⟩:=bx.c;have g1:∀ o1 o2,((w.alloc o1).alloc o2).cell? ⟨gx,0,none⟩=some (.int .i64 x.kind):=fun o1 o2=>ah (B2.o o1 o2) m0;have g2:∀ o1 o2,((w.alloc o1).alloc o2).cell? ⟨gx,1,none⟩=some (.int .i64 x.n):=fun o1 o2=>ah (B2.o o1 o2) m1;have g3:∀ o1 o2,((w.alloc o1).alloc o2).cell? ⟨gx,2,none⟩=some (.string ⟨x.s.toArray⟩):=fun o1 o2=>ah (B2.o o1 o2) m2;have g4:∀ o1 o2,((w.alloc o1).alloc o2).cell? ⟨gx,3,none⟩=some (.slice a7 x.keys.length c7):=fun o1 o2=>ah (B2.o o1 o2) m3;have g5:∀ o1 o2,((w.alloc o1).alloc o2).cell? ⟨gx,4,none⟩=some (.slice a8 x.l.length c8):=fun o1 o2=>ah (B2.o o1 o2) m4;clear h hx bx bh hf hn;go_enter func232,ntmps232;go_wp2_with fail
 refine(kn _ (Lj ok w) t x _ _ s (by exact H.o.bel (B2.o _ _)) (by exact HX.o.bel (B2.o _ _)) HN.o hs).mono ?_;rintro e w1 ⟨r,b,rfl,hb1,hb2,y,hy,hyz⟩;obtain⟨a5,a6,c5,c6,rfl⟩:=hy.form;have LU:=af hb1 (et w _ _);obtain⟨x0,x1,x2,x3,x4,y0,y1,y2,y3,y4⟩:=ag.c LU;have Z:Ll (_/\_):=aN (g:=w.heap.size+1) hy (ab (B2.o _ _) hb1) (by omega) (by simp);have ZB:Ll _:=aa (LH (ag.set LU) y a5 c5 a6 c6);have R:Ll (b=(aY x t s).isSome/\∀ z,aY x t s=some z->y=z):=⟨hb2,hyz⟩
 clear hb1 hb2 hy hyz LU g0 g1 g2 g3 g4 g5;go_wp2_with fail
 have z0_:=ZB.o.c;refine MM (v:=.tuple #[.agg (KV y a5 c5 a6 c6),.bool b]) ?_ rfl ?_
 ·simp only[ar]at z0_;simp[results,results232,go_sem,z0_]
 ·exact⟨_,_,rfl,Z.o.1,R.o.1,y,Z.o.2,R.o.2⟩
theorem Gc(f):zo f:=DC ut f
def iC (l:Lz):Option V:=(cH (l.length+1) l).bind fun p=>if p.2.dropWhile cw=[]/\aE p.1=true then some p.1 else none
def cW (l:Lz):V × Int:=if 2000 < l.length then (bC 0 0 [],2) else match iC l with | some t=>(t,0) | none=>(bC 0 0 [],1)
theorem FJ(w:LC)(l)(hl:l.length<=maxLen)(hG:cn w):Calls prog 74 #[aR l] w fun e w'=>∃ (t:V) (ee:Int) (a7 a8:Option Addr) (c7 c8:Nat),e=.returned (.tuple #[(.agg (KV t a7 c7 a8 c8)),.int .i64 ee])/\cW l=(t,ee)/\bu w' (fun k=>w.heap.size<=k) 2003 t (.agg (KV t a7 c7 a8 c8))/\La w w':=by
 unfold maxLen at hl;unfold aR;have HG:=aa hG;clear hG;by_cases h2:2000 < l.length
 ·have e0:2000 < (l.length:Int):=by omega
  have PS:Ll (cW l=(bC 0 0 [],2)):=aa (by simp[cW,h2]);go_enter func74,ntmps74;go_wp2_with fail
  refine MM (v:=.tuple #[cz 0 0 [],.int .i64 2]) (by simp[results,results74,go_sem,cz,aR]) rfl ?_;exact⟨bC 0 0 [],2,none,none,0,0,rfl,PS.o,fd _ _ 2002 _ _ _ (by unfold dW;omega) (by unfold dW;omega) (by simp),ae _ _⟩
 ·have e0:¬(2000 < (l.length:Int)):=by omega
  have PS0:Ll (cW l=match iC l with | some t=>(t,0) | none=>(bC 0 0 [],1)):=aa (by simp only[cW,if_neg h2]);go_enter func74,ntmps74;go_wp2_with fail
  have hrd:Ll (bf ((w.alloc fi).alloc (.cells #[.string ⟨l.toArray⟩,.int .i64 0,.bool false] 133)) (w.heap.size+1) ⟨l.toArray⟩ (some l)):=⟨0,⟨et w _ _,Nat.zero_le _,by simp[ByteArray.size];omega⟩,by simp⟩
  have hG2:Ll (cn ((w.alloc fi).alloc (.cells #[.string ⟨l.toArray⟩,.int .i64 0,.bool false] 133))):=HG.o.grown (bd (bd (az w none) _) _) (by simp);have L9:7<=w.heap.size+1:=by have:=HG.o.size;omega
  refine(Gc (l.length+1) _ (w.heap.size+1) ⟨l.toArray⟩ (some l) (by exact hrd.o) (by exact hG2.o) L9 (by simp)).mono ?_;rintro e w3 ⟨t,st3,a7,a8,c7,c8,rfl,hv3,hst3,hr3,hg3⟩;have K3:Ll (bu w3 (fun k=>w.heap.size+2<=k) (l.length+1) t (.agg (KV t a7 c7 a8 c8))/\(some l).bind (cH (l.length+1))=st3.map (fun l=>(t,l))/\bf w3 (w.heap.size+1) ⟨l.toArray⟩ st3/\Lc w3 w.heap.size/\w.grownBy w3 none):=
   ⟨by simpa using hv3,hst3,hr3,ag.grown (fb w _ _) hg3 (by simp),lC (bd (bd (az w none) _) _) hg3 (by omega)⟩
  have hsz3:w.heap.size+1 < w3.heap.size:=hr3.lt;clear hv3 hst3 hr3 hg3;go_wp2_with fail
  refine(rV _ (w.heap.size+1) ⟨l.toArray⟩ st3 (by exact K3.o.2.2.1.grown (World.grownBy_alloc w3 _ none) (by simp))).mono ?_;rintro e w4 ⟨rfl,hr4,hg4⟩;have K4:Ll (bf w4 (w.heap.size+1) ⟨l.toArray⟩ (st3.map (List.dropWhile cw))/\Lc w4 w.heap.size/\KY w4 w3.heap.size t a7 c7 a8 c8/\bu w4 (fun k=>w.heap.size+2<=k) (l.length+1) t (.agg (KV t a7 c7 a8 c8))/\w.grownBy w4 none):=
   ⟨hr4,(K3.o.2.2.2.1.grown (World.grownBy_alloc w3 _ none) (by simp)).grown hg4 (by simp),ag.grown (MN w3 _) hg4 (by simp;omega),(K3.o.1.grown (World.grownBy_alloc w3 _ none) (by simp)).grown hg4 (fun k hk e=>by simp at e;omega),lC (bd K3.o.2.2.2.2 _) hg4 (by omega)⟩
  clear hr4 hg4;have hval:cH (l.length+1) l=st3.map (fun l=>(t,l)):=K3.o.2.1;match st3,K3,K4,hval with
  | none,K3,K4,hval=>
   have PS:Ll (cW l=(bC 0 0 [],1)):=aa (by
    have:iC l=none:=by unfold iC;rw[hval];rfl
    rw[PS0.o,this])
   obtain⟨-,-,c2,-,-⟩:=(eA.nil K4.o.1).c;have EN:Ll (Lc w4 w.heap.size/\w.grownBy w4 none):=⟨K4.o.2.1,K4.o.2.2.2.2⟩
   clear hval;have x0_:=EN.o.1.c;obtain⟨z0,z1,z2,z3,z4,-⟩:=(EN.o.1.set (.int .i64 0) (.int .i64 0) (.string ⟨#[]⟩) (.slice none 0 0) (.slice none 0 0)).c;have Z:Ll (_/\_/\_/\_/\_):=⟨z0,z1,z2,z3,z4⟩
   go_wp2_with fail
   obtain⟨z0,z1,z2,z3,z4⟩:=Z.o;refine MM (v:=.tuple #[cz 0 0 [],.int .i64 1]) ?_ rfl ?_
   ·simp only[ar]at z0 z1 z2 z3 z4;simp[results,results74,go_sem,z0,z1,z2,z3,z4,cz,aR]
   ·exact⟨bC 0 0 [],1,none,none,0,0,rfl,PS.o,fd _ _ 2002 _ _ _ (by unfold dW;omega) (by unfold dW;omega) (by simp),bS (eD EN.o.2 (MG _) _ _ _ _ _)⟩
  | some r,K3,K4,hval=>
   obtain⟨i,hi,ei⟩:=K4.o.1;obtain⟨c0,c1,c2,-,-⟩:=hi.c;have hile:=hi.2.1;have hel:(ByteArray.mk l.toArray).size=l.length:=by simp[ByteArray.size]
   rw[hel]at hile;have EI:=aa ei;clear hi ei;cases hd:r.dropWhile cw with
   | cons x r2=>
    have hlt:(i:Int) < (l.length:Int):=by
     have h9:=EI.o;rw[show (some r).map (List.dropWhile cw)=some (r.dropWhile cw) from rfl,hd]at h9;have:=congrArg List.length h9;simp at this;omega
    have PS:Ll (cW l=(bC 0 0 [],1)):=aa (by
     have:iC l=none:=by unfold iC;rw[hval];simp[hd]
     rw[PS0.o,this])
    have EN:Ll (Lc w4 w.heap.size/\w.grownBy w4 none):=⟨K4.o.2.1,K4.o.2.2.2.2⟩
    clear hval hd;have x0_:=EN.o.1.c;obtain⟨z0,z1,z2,z3,z4,-⟩:=(EN.o.1.set (.int .i64 0) (.int .i64 0) (.string ⟨#[]⟩) (.slice none 0 0) (.slice none 0 0)).c;have Z:Ll (_/\_/\_/\_/\_):=⟨z0,z1,z2,z3,z4⟩
    go_wp2_with fail
    obtain⟨z0,z1,z2,z3,z4⟩:=Z.o;refine MM (v:=.tuple #[cz 0 0 [],.int .i64 1]) ?_ rfl ?_
    ·simp only[ar]at z0 z1 z2 z3 z4;simp[results,results74,go_sem,z0,z1,z2,z3,z4,cz,aR]
    ·exact⟨bC 0 0 [],1,none,none,0,0,rfl,PS.o,fd _ _ 2002 _ _ _ (by unfold dW;omega) (by unfold dW;omega) (by simp),bS (eD EN.o.2 (MG _) _ _ _ _ _)⟩
   | nil=>
    have hge:¬((i:Int) < (l.length:Int)):=by
     have h9:=EI.o;rw[show (some r).map (List.dropWhile cw)=some (r.dropWhile cw) from rfl,hd]at h9;have:=congrArg List.length h9;simp at this;omega
    have p0_:=K4.o.2.2.1.c;cases hgd:aE t with
    | true=>
     have PS:Ll (cW l=(t,0)):=aa (by
      have:iC l=some t:=by unfold iC;rw[hval];simp[hd,hgd]
      rw[PS0.o,this])
     have HGD:=aa hgd;clear hval hd hgd;go_wp2_with fail
     refine Lk (mr _ _ _ t _ (by exact K4.o.2.2.2.1)) fun w5 hb5=>?_;rw[HGD.o];have K5:Ll (Lc w5 w.heap.size/\KY w5 w3.heap.size t a7 c7 a8 c8/\bu w5 (fun k=>w.heap.size+2<=k) (l.length+1) t (.agg (KV t a7 c7 a8 c8))/\w.grownBy w5 none):=⟨af hb5 K4.o.2.1,af hb5 K4.o.2.2.1,K4.o.2.2.2.1.bel hb5,am K4.o.2.2.2.2 (aq hb5)⟩
     clear hb5;have p0_:=K5.o.2.1.c;have x0_:=K5.o.1.c;obtain⟨z0,z1,z2,z3,z4,-⟩:=(LH K5.o.1.set t a7 c7 a8 c8).c;have Z:Ll (_/\_/\_/\_/\_):=⟨z0,z1,z2,z3,z4⟩
     go_wp2_with fail
     obtain⟨z0,z1,z2,z3,z4⟩:=Z.o;refine MM (v:=.tuple #[(.agg (KV t a7 c7 a8 c8)),.int .i64 0]) ?_ rfl ?_
     ·simp only[ar]at z0 z1 z2 z3 z4;simp[results,results74,go_sem,z0,z1,z2,z3,z4]
     ·refine⟨t,0,a7,a8,c7,c8,rfl,PS.o,?_,bS (eD K5.o.2.2.2 (MG _) _ _ _ _ _)⟩;exact((K5.o.2.2.1.grown (LH (aI w5 w.heap.size) t a7 c7 a8 c8) (fun k hk e=>by simp at e;omega)).weak (fun k hk=>by omega)).le (by omega)
    | false=>
     have PS:Ll (cW l=(bC 0 0 [],1)):=aa (by
      have:iC l=none:=by unfold iC;rw[hval];simp[hgd]
      rw[PS0.o,this])
     have HGD:=aa hgd;clear hval hd hgd;go_wp2_with fail
     refine Lk (mr _ _ _ t _ (by exact K4.o.2.2.2.1)) fun w5 hb5=>?_;rw[HGD.o];have EN:Ll (Lc w5 w.heap.size/\w.grownBy w5 none):=⟨af hb5 K4.o.2.1,am K4.o.2.2.2.2 (aq hb5)⟩
     clear hb5;have x0_:=EN.o.1.c;obtain⟨z0,z1,z2,z3,z4,-⟩:=(EN.o.1.set (.int .i64 0) (.int .i64 0) (.string ⟨#[]⟩) (.slice none 0 0) (.slice none 0 0)).c;have Z:Ll (_/\_/\_/\_/\_):=⟨z0,z1,z2,z3,z4⟩
     go_wp2_with fail
     obtain⟨z0,z1,z2,z3,z4⟩:=Z.o;refine MM (v:=.tuple #[cz 0 0 [],.int .i64 1]) ?_ rfl ?_
     ·simp only[ar]at z0 z1 z2 z3 z4;simp[results,results74,go_sem,z0,z1,z2,z3,z4,cz,aR]
     ·exact⟨bC 0 0 [],1,none,none,0,0,rfl,PS.o,fd _ _ 2002 _ _ _ (by unfold dW;omega) (by unfold dW;omega) (by simp),bS (eD EN.o.2 (MG _) _ _ _ _ _)⟩
variable {w':World}
variable {v:Value}
variable {B:Nat}
def dG (w:LC) (B:Nat) (v:Value) (acc:Lz):Prop:=w.ownsRow B 5 1 v acc.length (Lib.byteCells acc)
theorem dG.nil(w B):dG w B (.slice none 0 0) []:=World.ownsRow_nil _ _ _ _
theorem dG.drewN{acc}(h:dG w B v acc)(n):dG (w.drewN n) B v acc:=h
theorem dG.alloc{acc}(h:dG w B v acc)(o:Obj):dG (w.alloc o) B v acc:=World.ownsRow.alloc h o
def Fr (B:Nat) (w w':LC):Prop:=Below B w w'/\Lib.OthersKept 5 none w w'
theorem Fr.refl(B w):Fr B w w:=⟨MK B w,Lib.OthersKept.refl _ _ _⟩
theorem Fr.trans{a}(h:Fr B a w)(k:Fr B w w'):Fr B a w':=⟨h.1.trans k.1,h.2.trans k.2⟩
theorem Fr.size(h:Fr B w w'):w.heap.size<=w'.heap.size:=h.1.size
theorem Et{acc}(h:dG w B v acc)(hg:w.grownBy w' v.ownBlock)(hB:B<=w.heap.size):Fr B w w':=by
 refine⟨⟨hg.os,hg.tape,hg.output,hg.size,fun k hk=>hg.block k (by omega) (fun e=>by have:=(World.ownsRow.lt h k e.symm).1;omega)⟩,?_⟩;intro k o ho _ hno;have hk:k < w.heap.size:=(MF.1 ho).1;refine(hg.block k hk ?_).trans ho;intro e;rcases h.2 with⟨hv,-⟩ | ⟨g,cap,cur,hv,-,hh,-⟩
 ·subst hv;simp[Value.ownBlock]at e
 ·subst hv;simp only[Value.ownBlock,Option.some.injEq]at e;subst e;rw[hh]at ho;cases ho;exact hno _ _ rfl
theorem eq(w B)(o:Obj)(hB:B<=w.heap.size):Fr B w (w.alloc o):=⟨(MK B w).alloc hB o,(Lib.OthersKept.refl _ _ _).alloc o⟩
theorem Fr.box(h:Fr B w w'){c0 c1 c2 c3 c4}(hb:ag w g c0 c1 c2 c3 c4):ag w' g c0 c1 c2 c3 c4:=
 h.2 g _ hb (by simp) (by intro c fz e;simp at e)
theorem jg(acc news):Lib.byteCells acc++Lib.byteCells news=Lib.byteCells (acc++news):=by simp[Lib.byteCells]
theorem CK(news):∀ u∈Lib.byteCells news,u.oneCell'=true:=by
 intro u hu;simp only[Lib.byteCells,List.mem_map]at hu;obtain⟨c,-,rfl⟩:=hu;rfl
theorem DG(news):(Lib.byteCells news).length=news.length:=by simp[Lib.byteCells]
theorem uo{o:Oper}{a}{K:Act->LC->Prop}{Q:Exit->Act->LC->Prop}(s x:Operand)(ho:o.op=.call { callee:=.builtin .append,args:=#[s,x],argTypes:=#[101,101] })(B v acc news)(cs:Array Value)(Mb:cs.toList=Lib.byteCells news)(m)(hm:m=news.length)(hs:a.eval s=v)(hx:a.eval x=.slice (some ⟨w.heap.size,0,none⟩) m m)(hown:dG w B v acc)(hB:B<=w.heap.size)(hl:acc.length<=1000000000)(hn:m<=1000)(hK:∀ v' w',dG w' B v' (acc++news)->Fr B w w'->K (a.put o.dst v') w'):o.wp prog a (w.alloc (.cells cs 5)) K Q:=by
 obtain⟨i0,hi,hz0,hz1,hz2⟩:=info_parts infoByte;refine wp_append_own _ s x 101 ho B 5 i0 (.int .u8 0) 1 1 underlying101 hi hz0 hz1 hz2 rfl (by decide) v acc.length (Lib.byteCells acc) hs (World.ownsRow.alloc hown _) ⟨w.heap.size,0,none⟩ m m (Lib.byteCells news) hx (by rw[DG,hm];simp)
  ?_ (CK news) (by unfold maxLen;omega) (by omega) (by simp;omega) ?_
 ·intro j u hj;rw[<-Mb]at hj;rw[eh];simp only[World.cell?,MN,Nat.zero_add];simpa using hj
 ·intro v' w' h1 h2 _;rw[jg,hm,<-Mx]at h1;exact hK v' w' h1 ((eq w B _ hB).trans (Et (dG.alloc hown _) h2 (by simp;omega)))
theorem zn{ops:Array Oper}{o:Oper}{a}{K:Act->LC->Prop}{Q:Exit->Act->LC->Prop}{E:Prop}(hgd:o.guard=none)(s x:Operand)(ho:o.op=.call { callee:=.builtin .append,args:=#[s,x],argTypes:=#[101,101] })(B v acc news)(cs:Array Value)(Mb:cs.toList=Lib.byteCells news)(m)(hm:m=news.length)(hs:a.eval s=v)(hx:a.eval x=.slice (some ⟨w.heap.size,0,none⟩) m m)(hown:dG w B v acc)(hB:B<=w.heap.size)(hl:acc.length<=1000000000)(hn:m<=1000)(hK:∀ v' w',dG w' B v' (acc++news)->Fr B w w'->K (a.put o.dst v') w'):if Region.wanted o (yielded ops a.tmps)=true then Oper.wp prog o a (w.alloc (.cells cs 5)) K Q else E:=by
 have hw:Region.wanted o (yielded ops a.tmps)=true:=by simp[Region.wanted,hgd]
 rw[if_pos hw];exact uo s x ho B v acc news cs Mb m hm hs hx hown hB hl hn hK
theorem dp{ops:Array Oper}{rest:List Oper}{o:Oper}{a}{Q:Exit->Act->LC->Prop}(hgd:o.guard=none)(s x:Operand)(ho:o.op=.call { callee:=.builtin .append,args:=#[s,x],argTypes:=#[101,101] })(B v acc news)(cs:Array Value)(Mb:cs.toList=Lib.byteCells news)(m)(hm:m=news.length)(hs:a.eval s=v)(hx:a.eval x=.slice (some ⟨w.heap.size,0,none⟩) m m)(hown:dG w B v acc)(hB:B<=w.heap.size)(hl:acc.length<=1000000000)(hn:m<=1000)(hK:∀ v' w',dG w' B v' (acc++news)->Fr B w w'->wpList prog ops Q rest (a.put o.dst v') w'):wpList prog ops Q (o :: rest) a (w.alloc (.cells cs 5)):=
 wpList_plain hgd fun _ hKK=>uo s x ho B v acc news cs Mb m hm hs hx hown hB hl hn fun v' w' h2 h3=>hKK _ _ (hK v' w' h2 h3)
theorem jO{ops:Array Oper}{rest:List Oper}{o:Oper}{a}{Q:Exit->Act->LC->Prop}(hgd:o.guard=none)(s x:Operand)(ho:o.op=.call { callee:=.builtin .append,args:=#[s,x],argTypes:=#[101,9] })(B v acc news)(hs:a.eval s=v)(hx:a.eval x=.string ⟨news.toArray⟩)(hown:dG w B v acc)(hB:B<=w.heap.size)(hl:acc.length<=1000000000)(hn:news.length<=1000)(hK:∀ v' w',dG w' B v' (acc++news)->Fr B w w'->wpList prog ops Q rest (a.put o.dst v') w'):wpList prog ops Q (o :: rest) a w:=by
 obtain⟨i0,hi,hz0,hz1,hz2⟩:=info_parts infoByte;have he:(ByteArray.mk news.toArray).size=news.length:=by simp[ByteArray.size]
 refine Lib.wpList_append_own_string w hgd s x 101 9 ho B 5 i0 underlying101 underlying9 hi hz0 hz1 hz2 v acc.length (Lib.byteCells acc) hs hown ⟨news.toArray⟩ hx (by unfold maxLen;omega) (by omega) hB ?_;intro v' w' h1 h2 _;rw[Lib.strCells_toArray,jg,he,<-Mx]at h1;exact hK v' w' h1 (Et hown h2 hB)
def wT (b:Bool):Lz:=if b then [116,114,117,101] else [102,97,108,115,101]
theorem qK(w B v acc b)(h:dG w B v acc)(hB:B<=w.heap.size)(hl:acc.length<=1000000000):Calls prog 86 #[v,.bool b] w fun e w'=>∃ v',e=.returned v'/\dG w' B v' (acc++wT b)/\Fr B w w':=by
 have H:=aa h;clear h;cases b with
 | true=>
  go_enter func86,ntmps86;go_wp2_with (at_builtin;go_must (refine jO rfl _ _ rfl B v acc [116,114,117,101] rfl rfl H.o hB hl (by decide) ?_);intro v4 w4 LS LR;refine Ll.o ?_)
  refine aa ?_;have D:=aa (And.intro LS LR);clear LS LR;go_wp2
  go_ret;exact⟨v4,rfl,D.o⟩
 | false=>
  go_enter func86,ntmps86;go_wp2_with (at_builtin;go_must (refine jO rfl _ _ rfl B v acc [102,97,108,115,101] rfl rfl H.o hB hl (by decide) ?_);intro v4 w4 LS LR;refine Ll.o ?_)
  refine aa ?_;have D:=aa (And.intro LS LR);clear LS LR;go_wp2
  go_ret;exact⟨v4,rfl,D.o⟩
theorem qV(w B v acc b)(h:dG w B v acc)(hB:B<=w.heap.size)(hl:acc.length<=1000000000):Calls prog 69 #[v,.bool b] w fun e w'=>∃ v',e=.returned v'/\dG w' B v' (acc++wT b)/\Fr B w w':=by
 have H:=aa h;clear h;go_enter func69,ntmps69;go_wp2_with (go_at_call 86;refine(qK _ B v acc b H.o hB hl).mono ?_;rintro e w1 ⟨v1,rfl,h1,hb1⟩)
 have D:=aa (And.intro h1 hb1);clear h1 hb1;go_wp2
 go_ret;exact⟨v1,rfl,D.o⟩
def nh:Lz:=[34,92,8,12,10,13,9]
def zy:Lz:=[48,49,50,51,52,53,54,55,56,57,97,98,99,100,101,102]
def oy (n:Nat):UInt8:=zy.getD n 0
def kp (c:UInt8):Lz:=
 if c=34 then [92,34] else if c=92 then [92,92] else if c=8 then [92,98] else if c=12 then [92,102] else if c=10 then [92,110] else if c=13 then [92,114] else if c=9 then [92,116]
 else if c.toNat < 32\/c.toNat=127 then [92,117,48,48,oy (c.toNat / 16),oy (c.toNat % 16)] else [c]
theorem AU(c):(kp c).length<=6:=by
 unfold kp;repeat' split
 all_goals simp
theorem tw(c)(h:c∈nh):∃ i:Nat,i < 7/\Lib.indexByte nh c=i/\∃ d,([34,92,98,102,110,114,116]:Lz)[i]?=some d/\kp c=[92,d]:=by
 simp only[nh,List.mem_cons,List.not_mem_nil,or_false]at h;rcases h with rfl | rfl | rfl | rfl | rfl | rfl | rfl
 ·exact⟨0,by decide,by decide,34,rfl,by decide⟩
 ·exact⟨1,by decide,by decide,92,rfl,by decide⟩
 ·exact⟨2,by decide,by decide,98,rfl,by decide⟩
 ·exact⟨3,by decide,by decide,102,rfl,by decide⟩
 ·exact⟨4,by decide,by decide,110,rfl,by decide⟩
 ·exact⟨5,by decide,by decide,114,rfl,by decide⟩
 ·exact⟨6,by decide,by decide,116,rfl,by decide⟩
theorem vC(c):∀ (l:Lz),c ∉ l->Lib.indexByte l c=-1
 | [],_=>rfl
 | x :: l,h=>by
  have h1:(x == c)=false:=by rw[MO];rintro rfl;exact h (List.mem_cons_self ..)
  simp[Lib.indexByte,h1,vC c l fun hh=>h (List.mem_cons_of_mem _ hh)]
theorem yM(c)(h:c ∉ nh):kp c=if c.toNat < 32\/c.toNat=127 then [92,117,48,48,oy (c.toNat / 16),oy (c.toNat % 16)] else [c]:=by
 simp only[nh,List.mem_cons,List.not_mem_nil,or_false,not_or]at h;obtain⟨h1,h2,h3,h4,h5,h6,h7⟩:=h;simp[kp,h1,h2,h3,h4,h5,h6,h7]
variable {k i:Nat}
theorem mN{l:Lz}{d:UInt8}(hd:l[i]?=some d)(h:i < (ByteArray.mk l.toArray).size):(ByteArray.mk l.toArray)[i]=d:=by
 obtain⟨h1,h2⟩:=Mz.1 hd;rw[<-h2];rfl
theorem nJ{ops:Array Oper}{o:Oper}{a}{K:Act->LC->Prop}{Q:Exit->Act->LC->Prop}{E:Prop}(hgd:o.guard=none)(s x:Operand)(ho:o.op=.call { callee:=.builtin .append,args:=#[s,x],argTypes:=#[101,101] })(B v acc news)(cs:Array Value)(Mb:cs.toList=Lib.byteCells news)(m)(hm:m=news.length)(hs:a.eval s=v)(hx:a.eval x=.slice (some ⟨w.heap.size,0,none⟩) m m)(hown:dG w B v acc)(hB:B<=w.heap.size)(hl:acc.length<=1000000000)(hn:m<=1000)(hK:∀ v' w',dG w' B v' (acc++news)->Fr B w w'->K (a.put o.dst v') w'):if Region.wanted o (yielded ops a.tmps)=true then Oper.wp prog o a (w.alloc (.cells cs 5)).drew K Q else E:=
 zn (w:=w.drew) hgd s x ho B v acc news cs Mb m hm hs hx hown hB hl hn fun v' w' h1 h2=>hK v' w' h1 ⟨⟨h2.1.os,h2.1.tape,h2.1.output,h2.1.size,h2.1.block⟩,h2.2⟩
theorem qR(w B v acc c)(h:dG w B v acc)(hB:B<=w.heap.size)(hl:acc.length<=1000000000):Calls prog 88 #[v,.int .u8 c.toNat] w fun e w'=>∃ v',e=.returned v'/\dG w' B v' (acc++kp c)/\Fr B w w':=by
 have H:=aa h;clear h;have hc:((c.toNat:Int).toNat).toUInt8=c:=by simp
 by_cases hm:c∈nh
 ·obtain⟨i,hi,e1,d,hd,e2⟩:=tw c hm;have E2:=aa e2;clear e2 hm;have e1':Lib.indexByte (ByteArray.mk #[34,92,8,12,10,13,9]).data.toList ((c.toNat:Int).toNat).toUInt8=i:=by rw[hc];exact e1
  have hi7:i < (ByteArray.mk #[34,92,98,102,110,114,116]).size:=hi;have hd':=mN hd hi7;clear hd e1;go_enter func88,ntmps88;go_wp2_with fail
  refine LE (Tryz.strings_IndexByte _ _ _) ?_;rw[e1'];clear e1';go_wp2_with (at_builtin;go_must (refine dp rfl _ _ rfl B v acc [92,d] _ (by simp[Lib.byteCells,hd']) 2 rfl rfl rfl H.o hB hl (by decide) ?_);intro v4 w4 LS LR;refine Ll.o ?_)
  refine aa ?_;have D:=aa (And.intro LS LR);clear LS LR;go_wp2_with fail
  go_ret;exact⟨v4,rfl,by rw[E2.o];exact D.o.1,D.o.2⟩
 ·have e1':Lib.indexByte (ByteArray.mk #[34,92,8,12,10,13,9]).data.toList ((c.toNat:Int).toNat).toUInt8=-1:=by rw[hc];exact vC c _ hm
  have E2:=aa (yM c hm);clear hm;have hlt:c.toNat < 256:=c.toNat_lt;have fin:Ll (∀ (w':LC) (v':Value) (news:Lz),(c.toNat < 32\/c.toNat=127)->news=[92,117,48,48,oy (c.toNat / 16),oy (c.toNat % 16)]->dG w' B v' (acc++news)->dG w' B v' (acc++kp c)):=fun w' v' news h1 h2 h3=>by rw[E2.o,if_pos h1,<-h2];exact h3
  obtain⟨q,hq⟩:∃ q,q=c.toNat / 16:=⟨_,rfl⟩
  obtain⟨r,hr⟩:∃ r,r=c.toNat % 16:=⟨_,rfl⟩
  have q1:IntKind.u8.wrap ((c.toNat:Int) / 16)=(q:Int):=by
   rw[hq];simp only[IntKind.wrap,IntKind.signed,IntKind.bits];simp;omega
  have r1:((c.toNat:Int)).tmod 16=(r:Int):=by rw[hr,Int.tmod_eq_emod_of_nonneg (by omega)];omega
  have q6:IntKind.u8.wrap (q:Int)=(q:Int):=by
   simp only[IntKind.wrap,IntKind.signed,IntKind.bits];simp;omega
  have q5:(c.toNat:Int) / 16=(q:Int):=by omega
  have r5:(c.toNat:Int) % 16=(r:Int):=by omega
  have q2:(q:Int) < 16:=by omega
  have r2:(r:Int) < 16:=by omega
  have q3:q < (ByteArray.mk #[48,49,50,51,52,53,54,55,56,57,97,98,99,100,101,102]).size:=by show q < 16;omega
  have r3:r < (ByteArray.mk #[48,49,50,51,52,53,54,55,56,57,97,98,99,100,101,102]).size:=by show r < 16;omega
  have q4:(ByteArray.mk #[48,49,50,51,52,53,54,55,56,57,97,98,99,100,101,102])[q]=oy q:=mN (l:=zy) (by unfold oy;rw[List.getD_eq_getElem?_getD,Mw (show q < zy.length from q3)];rfl) q3;have r4:(ByteArray.mk #[48,49,50,51,52,53,54,55,56,57,97,98,99,100,101,102])[r]=oy r:=mN (l:=zy) (by unfold oy;rw[List.getD_eq_getElem?_getD,Mw (show r < zy.length from r3)];rfl) r3;have HQ:=aa hq;have HR:=aa hr;clear hq hr;by_cases h2:c.toNat < 32
  ·have g1:(c.toNat:Int) < 32:=by omega
   go_enter func88,ntmps88;go_wp2_with fail
   refine LE (Tryz.strings_IndexByte _ _ _) ?_;rw[e1'];clear e1';go_wp2_with fail
   go_region_law ((first | (refine nJ (by rfl) _ _ (by rfl) B v acc [92,117,48,48,oy q,oy r] _ (by simp[Lib.byteCells,q4,r4]) 6 (by rfl) (by rfl) (by rfl) (by exact H.o) (by exact hB) hl (by decide) ?_;intro v4 w4 LS LR) | fail))
   all_goals
    have D:=aa (And.intro LS LR);clear LS LR;go_wp2_with fail
    go_ret;exact⟨v4,rfl,fin.o _ _ _ (.inl h2) (by rw[HQ.o,HR.o]) D.o.1,D.o.2⟩
  ·have g1:¬(c.toNat:Int) < 32:=by omega
   by_cases h3:c.toNat=127
   ·have hc127:c=127:=UInt8.toNat_inj.1 h3;subst hc127;clear fin HQ HR q1 r1 q2 r2 q3 r3 q4 r4 q5 q6 r5 e1' E2 hlt g1 h2 h3 hc;show Calls prog 88 #[v,.int .u8 127] w _;have w7:IntKind.u8.wrap 7=7:=by decide
    have x7:(ByteArray.mk #[48,49,50,51,52,53,54,55,56,57,97,98,99,100,101,102])[7]'(by decide)=55:=mN (l:=zy) rfl _;have x15:(ByteArray.mk #[48,49,50,51,52,53,54,55,56,57,97,98,99,100,101,102])[15]'(by decide)=102:=mN (l:=zy) rfl _;go_enter func88,ntmps88;go_wp2_with fail
    refine LE (Tryz.strings_IndexByte _ _ _) ?_;rw[show Lib.indexByte (ByteArray.mk #[34,92,8,12,10,13,9]).data.toList (Int.toNat 127).toUInt8=-1 from by decide];go_wp2_with fail
    go_region_law ((first | (refine nJ (by rfl) _ _ (by rfl) B v acc [92,117,48,48,55,102] _ (by simp[Lib.byteCells,x7,x15]) 6 (by rfl) (by rfl) (by rfl) (by exact H.o) (by exact hB) hl (by decide) ?_;intro v4 w4 LS LR) | fail))
    all_goals
     have D:=aa (And.intro LS LR);clear LS LR;go_wp2_with fail
     go_ret;exact⟨v4,rfl,D.o.1,D.o.2⟩
   ·have g2:((c.toNat:Int) == 127)=false:=by rw[MO];omega
    go_enter func88,ntmps88;go_wp2_with fail
    refine LE (Tryz.strings_IndexByte _ _ _) ?_;rw[e1'];clear e1';go_wp2_with (at_builtin;go_must (refine dp rfl _ _ rfl B v acc [c] _ (by simp[Lib.byteCells]) 1 rfl rfl rfl H.o hB hl (by decide) ?_);intro v4 w4 LS LR;refine Ll.o ?_)
    refine aa ?_;have D:=aa (And.intro LS LR);clear LS LR;go_wp2_with fail
    go_ret;exact⟨v4,rfl,by rw[E2.o,if_neg (by omega)];exact D.o.1,D.o.2⟩
def fZ (s:Lz):Lz:=34 :: s.flatMap kp++[34]
theorem uJ(s:Lz):(s.flatMap kp).length<=6 * s.length:=by
 induction s with
 | nil=>simp
 | cons c s ih=>have:=AU c;simp only[List.flatMap_cons,Mx,My];omega
theorem gV{α:Type}{l:List α}{x:α}(h:l[k]?=some x):l.take (k+1)=l.take k++[x]:=by
 rw[List.take_add_one,h];rfl
theorem gH(w:LC)(B v acc s)(h:dG w B v acc)(hB:B<=w.heap.size)(hl:acc.length<=100000000)(hs:s.length<=1000000):Calls prog 71 #[v,aR s] w fun e w'=>∃ v',e=.returned v'/\dG w' B v' (acc++fZ s)/\Fr B w w':=by
 have H:=aa h;clear h;unfold aR;go_enter func71,ntmps71;go_wp2_with (at_builtin;go_must (refine dp rfl _ _ rfl B v acc [34] _ (by rfl) 1 rfl rfl rfl H.o hB (by omega) (by decide) ?_);intro v4 w4 LS LR;refine Ll.o ?_)
 refine aa ?_;have D:=aa (And.intro LS LR);clear LS LR;go_wp2_with fail
 go_loopg [0,5] s.length (fun gk u i wr=>∃ (k:Nat),k<=s.length/\gk=s.length - k/\i=.int .i64 k/\dG wr B u (acc++[34]++(s.take k).flatMap kp)/\Fr B w wr)
 case atStart=>exact⟨0,Nat.zero_le _,rfl,rfl,by simpa using D.o.1,D.o.2⟩
 case round=>
  obtain⟨k,hk,hgk,rfl,hrow,hbel⟩:=hrel;have LT:(acc++[34]++(s.take k).flatMap kp).length<=107000000:=by
   have:=uJ (s.take k);have h9:(s.take k).length<=1000000:=by rw[MC];omega
   simp only[Mx,My,List.length_nil];omega
  have A:=aa (And.intro hrow hbel);have hBr:B<=wr.heap.size:=MH hB hbel.size;clear hrow hbel;by_cases hlt:k < s.length
  ·have c1:(k:Int) < (s.length:Int):=by omega
   have c2:k < (ByteArray.mk s.toArray).size:=by simpa [ByteArray.size] using hlt
   have hx:s[k]?=some s[k]:=Mw hlt;have c3:=mN hx c2;go_wp2_with fail
   refine(qR _ B u0 _ s[k] A.o.1 hBr (by omega)).mono ?_;rintro e w5 ⟨v5,rfl,hrow5,hbel5⟩;have D5:=aa (And.intro hrow5 hbel5);clear hrow5 hbel5;go_wp2_with fail
   go_roundg (s.length - (k+1))
   case measure=>omega
   case rel=>exact⟨k+1,hlt,rfl,rfl,by rw[gV hx,List.flatMap_append,<-List.append_assoc];simpa using D5.o.1,A.o.2.trans D5.o.2⟩
  ·have c1:¬(k:Int) < (s.length:Int):=by omega
   have hk':k=s.length:=by omega
   subst hk';go_wp2_with (at_builtin;go_must (refine dp rfl _ _ rfl B u0 _ [34] _ (by rfl) 1 rfl rfl rfl A.o.1 hBr (by omega) (by decide) ?_);intro v5 w5 hown5 hgrow5;refine Ll.o ?_)
   refine aa ?_;have D5:=aa (And.intro hown5 hgrow5);clear hown5 hgrow5;go_wp2_with fail
   go_ret;exact⟨v5,rfl,by simpa [fZ] using D5.o.1,A.o.2.trans D5.o.2⟩
variable {d:Nat}
def aZ:List Lz->Lz
 | []=>[]
 | [x]=>x
 | x :: y :: r=>x++44 :: aZ (y :: r)
theorem cK(x):∀ xs,aZ (xs++[x])=(if xs=[] then [] else aZ xs++[44])++x
 | []=>by simp[aZ]
 | [y]=>by simp[aZ]
 | y :: z :: r=>by
  have h:=cK x (z :: r);simp only[List.cons_append,aZ,reduceCtorEq,if_false]at h ⊢;rw[h];simp
theorem lj:∀ (xs:List Lz) (k:Nat),∃ r,aZ xs=aZ (xs.take k)++r
 | [],k=>⟨[],by simp[aZ]⟩
 | [x],0=>⟨x,by simp[aZ]⟩
 | [x],k+1=>⟨[],by simp[aZ]⟩
 | x :: y :: r,0=>⟨_,by simp[aZ];rfl⟩
 | x :: y :: r,1=>⟨44 :: aZ (y :: r),by simp[aZ]⟩
 | x :: y :: r,k+2=>by
  obtain⟨s,h⟩:=lj (y :: r) (k+1);refine⟨s,?_⟩;simp only[List.take_succ_cons,aZ]at h ⊢;rw[h];simp
def dL (g:V->Lz) (ks:List Lz) (l:List V):List Lz:=List.zipWith (fun k x=>fZ k++58 :: g x) ks l
def aH:Nat->V->Lz
 | 0,_=>[]
 | d+1,t=>if t.kind=0 then [110,117,108,108] else if t.kind=1 then wT (t.n == 1) else if t.kind=2 then Lib.itoa t.n else if t.kind=3 then fZ t.s
  else if t.kind=4 then 91 :: aZ (t.l.map (aH d))++[93] else 123 :: aZ (dL (aH d) t.keys t.l)++[125]
def jo:Nat->V->Prop
 | 0,_=>True
 | d+1,t=>t.s.length<=1000/\(t.kind≠4->t.l.length<=t.keys.length)/\(∀ k∈t.keys,k.length<=1000)/\∀ x∈t.l,jo d x
def Dp (d:Nat):Prop:=∀ (w:LC) (B:Nat) (v:Value) (acc:Lz) (t:V) (val:Value),bu w (fun k=>k < B) d t val->jo d t->dG w B v acc->B<=w.heap.size->cn w->7<=B->acc.length+(aH d t).length<=100000000 ->
 Calls prog 54 #[v,val] w fun e w'=>∃ v',e=.returned v'/\dG w' B v' (acc++aH d t)/\Fr B w w'
theorem bu.fr(h:bu w (fun k=>k < B) d t v)(hf:Fr B w w'):bu w' (fun k=>k < B) d t v:=
 bu.imp (fun a x h1 h2=>⟨h1,(World.cell?_of_block (hf.1.block _ h1)).trans h2⟩) d h
theorem cn.fr(h:cn w)(hf:Fr B w w')(hB:7<=B):cn w':=by
 obtain⟨⟨tp,p,t,f,h1⟩,⟨tq,q,t2,f2,h2⟩,⟨t3,f3,h3⟩⟩:=h;exact⟨⟨tp,p,t,f,(hf.1.block _ (by omega)).trans h1⟩,⟨tq,q,t2,f2,(hf.1.block _ (by omega)).trans h2⟩,⟨t3,f3,(hf.1.block _ (by omega)).trans h3⟩⟩
theorem wL{xs x}(hx:xs[k]?=some x):(aZ (xs.take k)).length+(if k=0 then 0 else 1)+x.length<=(aZ xs).length:=by
 obtain⟨r,hr⟩:=lj xs (k+1);rw[gV hx,cK]at hr;have hlt:=(Mz.1 hx).1;rw[hr];by_cases hk:k=0
 ·subst hk;simp[aZ]
 ·have h9:xs.take k≠[]:=by
   intro e;have:=congrArg List.length e;simp only[MC,List.length_nil]at this;omega
  simp only[if_neg h9,if_neg hk,Mx,My,List.length_nil];omega
theorem gn{ops:Array Oper}{rest:List Oper}{o:Oper}{a}{Q:Exit->Act->LC->Prop}(hgd:o.guard=none)(s x:Operand)(ho:o.op=.call { callee:=.builtin .append,args:=#[s,x],argTypes:=#[101,101] })(B v acc news)(cs:Array Value)(Mb:cs.toList=Lib.byteCells news)(m)(hm:m=news.length)(hs:a.eval s=v)(g)(hg:w.heap.size=g)(hx:a.eval x=.slice (some ⟨g,0,none⟩) m m)(hown:dG w B v acc)(hB:B<=w.heap.size)(hl:acc.length<=1000000000)(hn:m<=1000)(hK:∀ v' w',dG w' B v' (acc++news)->Fr B w w'->wpList prog ops Q rest (a.put o.dst v') w'):wpList prog ops Q (o :: rest) a (w.alloc (.cells cs 5)):=
 dp hgd s x ho B v acc news cs Mb m hm hs (by rw[hg];exact hx) hown hB hl hn hK
theorem qL(d)(ih:Dp d)(w:LC)(B v acc t val)(hv:bu w (fun k=>k < B) (d+1) t val)(hsm:jo (d+1) t)(h:dG w B v acc)(hB:B<=w.heap.size)(hG:cn w)(hgB:7<=B)(hl:acc.length+(aZ (t.l.map (aH d))).length+2<=100000000):Calls prog 72 #[v,val] w fun e w'=>∃ v',e=.returned v'/\dG w' B v' (acc++(91 :: aZ (t.l.map (aH d))++[93]))/\Fr B w w':=by
 obtain⟨a7,a8,c7,c8,rfl⟩:=hv.shape;have HV:=aa hv;have IH:=aa ih;have H:=aa h;have HG:=aa hG;have HS:=aa hsm;have l2:t.l.length<=maxLen:=by obtain⟨ks,ls,e,h1,h2,h3,h4,h5⟩:=hv;exact h5.1
 unfold maxLen at l2;clear hv ih h hG hsm;have hB1:B<=(w.alloc (.cells (KV t a7 c7 a8 c8) 39)).heap.size:=by simp;omega
 go_enter func72,ntmps72;go_wp2_with (at_builtin;go_must (refine gn rfl _ _ rfl B v acc [91] _ (by rfl) 1 rfl rfl (w.heap.size+1) (by simp) rfl (by exact H.o.alloc _) hB1 (by omega) (by decide) ?_);intro v4 w4 LS LR;refine Ll.o ?_)
 refine aa ?_;have q4:=(LR.box (g:=w.heap.size) (MN w _)).c.2.2.2.2.1;have D:=aa (And.intro LS ((eq w B _ hB).trans LR));clear LS LR;go_wp2_with fail
 go_loopg [0,13] t.l.length (fun gk u i wr=>∃ (k:Nat),k<=t.l.length/\gk=t.l.length - k/\i=.int .i64 k/\dG wr B u (acc++[91]++aZ ((t.l.map (aH d)).take k))/\Fr B w wr)
 case atStart=>exact⟨0,Nat.zero_le _,rfl,rfl,by simpa [aZ] using D.o.1,D.o.2⟩
 case round=>
  obtain⟨k,hk,hgk,rfl,hrow,hbel⟩:=hrel;have A:=aa (And.intro hrow hbel);have hBr:B<=wr.heap.size:=MH hB hbel.size;clear hrow hbel q4;by_cases hlt:k < t.l.length
  ·have hvr:=HV.o.fr A.o.2;have hxm:(t.l.map (aH d))[k]?=some (aH d t.l[k]):=by rw[List.getElem?_map,Mw hlt];rfl
   have hpl:=wL hxm;have HX:=aa hxm;clear hxm;obtain⟨ks,ls,e,-,-,-,-,h5⟩:=hvr;simp only[Value.agg.injEq,Array.mk.injEq,List.cons.injEq,and_true]at e;obtain⟨-,-,-,-,rfl⟩:=e;obtain⟨_,h5⟩:=h5;rcases h5 with⟨e,_⟩ | ⟨b,off,c,hls,hc1,hc2,Mb⟩
   ·rw[e]at hlt;simp at hlt
   simp only[Value.slice.injEq]at hls;obtain⟨rfl,-,rfl⟩:=hls;obtain⟨v0,v1,v2,v3,v4',g',g0,g1,g2,g3,g4,g5⟩:=Mb k t.l[k] (Mw hlt);have G5:=aa g5;obtain⟨rfl,rfl,rfl,⟨a5,c5,rfl⟩,⟨a6,c6,rfl⟩⟩:=g5.agg;clear Mb g5;unfold maxLen at hc2;have hsx:Ll (jo d t.l[k]):=HS.o.2.2.2 _ (List.getElem_mem hlt);have hBr1:∀ o,B<=(wr.alloc o).heap.size:=fun o=>by simp;omega
   by_cases hk0:k=0
   ·subst hk0;simp only[Nat.zero_mul,Nat.add_zero]at g0 g1 g2 g3 g4;go_wp2_with fail
    refine(IH.o _ B u0 (acc++[91]++aZ ((t.l.map (aH d)).take 0)) t.l[0] _ (by exact G5.o.fr (eq _ _ _ hBr)) hsx.o (by exact A.o.1.alloc _) (by exact hBr1 _) (by exact HG.o.fr (A.o.2.trans (eq _ _ _ hBr)) hgB) hgB ?_).mono ?_
    ·simp only[if_true]at hpl;simp only[Mx,My,List.length_nil];omega
    rintro e w5 ⟨v5,rfl,hrow5,hbel5⟩;have D5:=aa (And.intro hrow5 hbel5);clear hrow5 hbel5;go_wp2_with fail
    go_roundg (t.l.length - 1)
    case measure=>omega
    case rel=>exact⟨1,hlt,rfl,by go_num,by rw[gV HX.o,cK];simpa [aZ] using D5.o.1,A.o.2.trans ((eq _ _ _ hBr).trans D5.o.2)⟩
   ·have hk1:0 < (k:Int):=by omega
    have h9:Ll ((t.l.map (aH d)).take k≠[]):=by
     intro e;have:=congrArg List.length e;simp only[MC,List.length_map,List.length_nil]at this;omega
    have hl9:(acc++[91]++aZ ((t.l.map (aH d)).take k)).length<=1000000000:=by
     simp only[Mx,My,List.length_nil];omega
    go_wp2_with (at_builtin;go_must (refine gn rfl _ _ rfl B u0 _ [44] _ (by rfl) 1 rfl rfl (wr.heap.size+1) (by simp) rfl (by exact A.o.1.alloc _) (hBr1 _) hl9 (by decide) ?_);intro v6 w6 hown6 hgrow6;refine Ll.o ?_)
    refine aa ?_;have p0_:=(hgrow6.box (g:=wr.heap.size) (MN wr _)).c;have D6:=aa (And.intro hown6 ((eq wr B _ hBr).trans hgrow6));have hB6:B<=w6.heap.size:=MH hBr D6.o.2.size;clear hown6 hgrow6;go_wp2_with fail
    refine(IH.o _ B v6 (acc++[91]++aZ ((t.l.map (aH d)).take k)++[44]) t.l[k] _ (by exact G5.o.fr D6.o.2) hsx.o (by exact D6.o.1) hB6 (by exact HG.o.fr (A.o.2.trans D6.o.2) hgB) hgB ?_).mono ?_
    ·simp only[if_neg hk0]at hpl;simp only[Mx,My,List.length_nil];omega
    rintro e w5 ⟨v5,rfl,hrow5,hbel5⟩;have D5:=aa (And.intro hrow5 hbel5);clear hrow5 hbel5;go_wp2_with fail
    go_roundg (t.l.length - (k+1))
    case measure=>omega
    case rel=>exact⟨k+1,hlt,rfl,by go_num,by rw[gV HX.o,cK,if_neg h9.o];simpa using D5.o.1,A.o.2.trans (D6.o.2.trans D5.o.2)⟩
  ·have Mc:k=t.l.length:=by omega
   subst Mc;have htk:Ll ((t.l.map (aH d)).take t.l.length=t.l.map (aH d)):=MD (by simp);have hl9:(acc++[91]++aZ ((t.l.map (aH d)).take t.l.length)).length<=1000000000:=by
    rw[htk.o];simp only[Mx,My,List.length_nil];omega
   go_wp2_with (at_builtin;go_must (refine dp rfl _ _ rfl B u0 _ [93] _ (by rfl) 1 rfl rfl rfl A.o.1 hBr hl9 (by decide) ?_);intro v5 w5 hown5 hgrow5;refine Ll.o ?_)
   refine aa ?_;have D5:=aa (And.intro hown5 hgrow5);clear hown5 hgrow5;go_wp2_with fail
   go_ret;have h8:=D5.o.1;rw[htk.o]at h8;exact⟨v5,rfl,by simpa using h8,A.o.2.trans D5.o.2⟩
theorem nZ(d)(ih:Dp d)(w:LC)(B v acc t val)(hv:bu w (fun k=>k < B) (d+1) t val)(hsm:jo (d+1) t)(h:dG w B v acc)(hB:B<=w.heap.size)(hG:cn w)(hgB:7<=B)(hkd:t.kind≠4)(hl:acc.length+(aZ (dL (aH d) t.keys t.l)).length+2<=100000000):Calls prog 73 #[v,val] w fun e w'=>∃ v',e=.returned v'/\dG w' B v' (acc++(123 :: aZ (dL (aH d) t.keys t.l)++[125]))/\Fr B w w':=by
 obtain⟨a7,a8,c7,c8,rfl⟩:=hv.shape;have HV:=aa hv;have IH:=aa ih;have H:=aa h;have HG:=aa hG;have HS:=aa hsm;have l2:t.l.length<=maxLen:=by obtain⟨ks,ls,e,h1,h2,h3,h4,h5⟩:=hv;exact h5.1
 have lk:t.l.length<=t.keys.length:=hsm.2.1 hkd;have lk2:t.keys.length<=maxLen:=by obtain⟨ks,ls,e,h1,h2,h3,h4,h5⟩:=hv;exact h4.1
 unfold maxLen at l2 lk2;clear hv ih h hG hsm;have hB1:B<=(w.alloc (.cells (KV t a7 c7 a8 c8) 39)).heap.size:=by simp;omega
 go_enter func73,ntmps73;go_wp2_with (at_builtin;go_must (refine gn rfl _ _ rfl B v acc [123] _ (by rfl) 1 rfl rfl (w.heap.size+1) (by simp) rfl (by exact H.o.alloc _) hB1 (by omega) (by decide) ?_);intro v4 w4 LS LR;refine Ll.o ?_)
 refine aa ?_;have Q4:=aa (LR.box (g:=w.heap.size) (MN w _));have q4:=Q4.o.c.2.2.2.2.1;have D:=aa (And.intro LS ((eq w B _ hB).trans LR));clear LS LR;go_wp2_with fail
 go_loopg [0,13] t.l.length (fun gk u i wr=>∃ (k:Nat),k<=t.l.length/\gk=t.l.length - k/\i=.int .i64 k/\dG wr B u (acc++[123]++aZ ((dL (aH d) t.keys t.l).take k))/\Fr B w wr/\KY wr w.heap.size t a7 c7 a8 c8)
 case atStart=>exact⟨0,Nat.zero_le _,rfl,rfl,by simpa [aZ] using D.o.1,D.o.2,Q4.o⟩
 case round=>
  obtain⟨k,hk,hgk,rfl,hrow,hbel,hbox⟩:=hrel;have A:=aa (And.intro hrow hbel);have BX:=aa hbox;have hBr:B<=wr.heap.size:=MH hB hbel.size;clear hrow hbel hbox q4;by_cases hlt:k < t.l.length
  ·have hlk:k < t.keys.length:=by omega
   have hvr:=HV.o.fr A.o.2;have hxm:(dL (aH d) t.keys t.l)[k]?=some (fZ t.keys[k]++58 :: aH d t.l[k]):=by simp[dL,List.getElem?_zipWith,hlt,hlk]
   have hpl:=wL hxm;have HX:=aa hxm;clear hxm;obtain⟨ks,ls,e,-,-,-,h4,h5⟩:=hvr;simp only[Value.agg.injEq,Array.mk.injEq,List.cons.injEq,and_true]at e;obtain⟨-,-,-,rfl,rfl⟩:=e;obtain⟨_,h5⟩:=h5;rcases h5 with⟨e,_⟩ | ⟨b,off,c,hls,hc1,hc2,Mb⟩
   ·rw[e]at hlt;simp at hlt
   simp only[Value.slice.injEq]at hls;obtain⟨rfl,-,rfl⟩:=hls;obtain⟨v0,v1,v2,v3,v4',g',g0,g1,g2,g3,g4,g5⟩:=Mb k t.l[k] (Mw hlt);have G5:=aa g5;obtain⟨rfl,rfl,rfl,⟨a5,c5,rfl⟩,⟨a6,c6,rfl⟩⟩:=g5.agg;clear Mb g5;unfold maxLen at hc2;have hsx:Ll (jo d t.l[k]):=HS.o.2.2.2 _ (List.getElem_mem hlt);have hBr1:∀ o,B<=(wr.alloc o).heap.size:=fun o=>by simp;omega
   have hkl:Ll (t.keys[k].length<=1000000):=MH (HS.o.2.2.1 _ (List.getElem_mem hlk)) (by decide);have hbxs:w.heap.size < wr.heap.size:=BX.o.lt;obtain⟨b2,off2,rfl,kcell,hb2⟩:∃ b2 off2,a7=some ⟨b2,off2,none⟩/\wr.cell? ⟨b2,off2+k,none⟩=some (.string ⟨t.keys[k].toArray⟩)/\b2 < B:=by
    rcases h4.2 with⟨e,_⟩ | ⟨b2,off2,c2,e,-,-,hcs2⟩
    ·rw[e]at hlk;simp at hlk
    ·simp only[Value.slice.injEq]at e;obtain⟨rfl,-,-⟩:=e;obtain⟨-,g1,g2⟩:=hcs2 k t.keys[k] (Mw hlk);exact⟨b2,off2,rfl,g2,g1⟩
   clear h4;have KC:Ll (∀ w',Fr B wr w'->w'.cell? ⟨b2,off2+k,none⟩=some (.string ⟨t.keys[k].toArray⟩)):=fun w' hf=>(World.cell?_of_block (hf.1.block _ hb2)).trans kcell;have hpl':=hpl;simp only[Mx,My]at hpl';clear hpl;by_cases hk0:k=0
   ·subst hk0;simp only[Nat.zero_mul,Nat.add_zero]at g0 g1 g2 g3 g4;have kq:∀ o,(wr.alloc o).cell? ⟨b2,off2,none⟩=some (.string ⟨t.keys[0].toArray⟩):=fun o=>KC.o _ (eq _ _ _ hBr);have x3:∀ o,(wr.alloc o).cell? ⟨w.heap.size,3,none⟩=some (.slice (some ⟨b2,off2,none⟩) t.keys.length c7):=fun o=>((eq wr B o hBr).box BX.o).c.2.2.2.1;have x3':=BX.o.c.2.2.2.1;simp only[Nat.add_zero]at kcell;simp only[if_true]at hpl';go_wp2_with fail
    refine(gH _ B u0 (acc++[123]++aZ ((dL (aH d) t.keys t.l).take 0)) t.keys[0] (by exact A.o.1.alloc _) (by exact hBr1 _) ?_ hkl.o).mono ?_
    ·skip
     simp only[Mx,My,List.length_nil];omega
    rintro e w7 ⟨v7,rfl,hrow7,hbel7⟩;have IB7:=aa (hbel7.box (g:=wr.heap.size) (MN wr _));have D7:=aa (And.intro hrow7 ((eq wr B _ hBr).trans hbel7));have hB7:B<=w7.heap.size:=MH hBr D7.o.2.size;clear hrow7 hbel7;have hl8:((acc++([123]:Lz)++aZ ((dL (aH d) t.keys t.l).take 0):Lz)++fZ t.keys[0]).length<=1000000000:=by
     skip
     simp only[Mx,My,List.length_nil];omega
    go_wp2_with (at_builtin;go_must (refine dp rfl _ _ rfl B v7 _ [58] _ (by rfl) 1 rfl rfl rfl D7.o.1 hB7 hl8 (by decide) ?_);intro v8 w8 hown8 hgrow8;refine Ll.o ?_)
    refine aa ?_;have r0_:=(hgrow8.box IB7.o).c;have D8:=aa (And.intro hown8 (D7.o.2.trans hgrow8));have hB8:B<=w8.heap.size:=MH hBr D8.o.2.size;clear hown8 hgrow8;go_wp2_with fail
    refine(IH.o _ B v8 ((acc++([123]:Lz)++aZ ((dL (aH d) t.keys t.l).take 0):Lz)++fZ t.keys[0]++([58]:Lz)) t.l[0] _ (by exact G5.o.fr D8.o.2) hsx.o (by exact D8.o.1) hB8 (by exact HG.o.fr (A.o.2.trans D8.o.2) hgB) hgB ?_).mono ?_
    ·skip
     simp only[Mx,My,List.length_nil];omega
    rintro e w5 ⟨v5,rfl,hrow5,hbel5⟩;have D5:=aa (And.intro hrow5 (D8.o.2.trans hbel5));clear hrow5 hbel5;go_wp2_with fail
    go_roundg (t.l.length - (0+1))
    case measure=>omega
    case rel=>exact⟨0+1,hlt,rfl,by go_num,by rw[gV HX.o,cK];simpa [aZ] using D5.o.1,A.o.2.trans D5.o.2,D5.o.2.box BX.o⟩
   ·have hk1:0 < (k:Int):=by omega
    have h9:Ll ((dL (aH d) t.keys t.l).take k≠[]):=by
     intro e;have:=congrArg List.length e;simp only[MC,dL,List.length_zipWith,List.length_nil]at this;omega
    simp only[if_neg hk0]at hpl';have hl9:(acc++[123]++aZ ((dL (aH d) t.keys t.l).take k)).length<=1000000000:=by
     simp only[Mx,My,List.length_nil];omega
    go_wp2_with (at_builtin;go_must (refine gn rfl _ _ rfl B u0 _ [44] _ (by rfl) 1 rfl rfl (wr.heap.size+1) (by simp) rfl (by exact A.o.1.alloc _) (hBr1 _) hl9 (by decide) ?_);intro v6 w6 hown6 hgrow6;refine Ll.o ?_)
    refine aa ?_;have IB6:=aa (hgrow6.box (g:=wr.heap.size) (MN wr _));have D6:=aa (And.intro hown6 ((eq wr B _ hBr).trans hgrow6));have hB6:B<=w6.heap.size:=MH hBr D6.o.2.size;have kq:=KC.o _ D6.o.2;have x3:=(D6.o.2.box BX.o).c.2.2.2.1;clear hown6 hgrow6;go_wp2_with fail
    refine(gH _ B v6 (acc++[123]++aZ ((dL (aH d) t.keys t.l).take k)++[44]) t.keys[k] (by exact D6.o.1) (by exact hB6) ?_ hkl.o).mono ?_
    ·skip
     simp only[Mx,My,List.length_nil];omega
    rintro e w7 ⟨v7,rfl,hrow7,hbel7⟩;have IB7:=aa (hbel7.box (g:=wr.heap.size) IB6.o);have D7:=aa (And.intro hrow7 ((D6.o.2).trans hbel7));have hB7:B<=w7.heap.size:=MH hBr D7.o.2.size;clear hrow7 hbel7;have hl8:((acc++([123]:Lz)++aZ ((dL (aH d) t.keys t.l).take k)++[44]:Lz)++fZ t.keys[k]).length<=1000000000:=by
     skip
     simp only[Mx,My,List.length_nil];omega
    go_wp2_with (at_builtin;go_must (refine dp rfl _ _ rfl B v7 _ [58] _ (by rfl) 1 rfl rfl rfl D7.o.1 hB7 hl8 (by decide) ?_);intro v8 w8 hown8 hgrow8;refine Ll.o ?_)
    refine aa ?_;have r0_:=(hgrow8.box IB7.o).c;have D8:=aa (And.intro hown8 (D7.o.2.trans hgrow8));have hB8:B<=w8.heap.size:=MH hBr D8.o.2.size;clear hown8 hgrow8;go_wp2_with fail
    refine(IH.o _ B v8 ((acc++([123]:Lz)++aZ ((dL (aH d) t.keys t.l).take k)++[44]:Lz)++fZ t.keys[k]++([58]:Lz)) t.l[k] _ (by exact G5.o.fr D8.o.2) hsx.o (by exact D8.o.1) hB8 (by exact HG.o.fr (A.o.2.trans D8.o.2) hgB) hgB ?_).mono ?_
    ·skip
     simp only[Mx,My,List.length_nil];omega
    rintro e w5 ⟨v5,rfl,hrow5,hbel5⟩;have D5:=aa (And.intro hrow5 (D8.o.2.trans hbel5));clear hrow5 hbel5;go_wp2_with fail
    go_roundg (t.l.length - (k+1))
    case measure=>omega
    case rel=>exact⟨k+1,hlt,rfl,by go_num,by rw[gV HX.o,cK,if_neg h9.o];simpa [aZ] using D5.o.1,A.o.2.trans D5.o.2,D5.o.2.box BX.o⟩
  ·have Mc:k=t.l.length:=by omega
   subst Mc;have htk:Ll ((dL (aH d) t.keys t.l).take t.l.length=dL (aH d) t.keys t.l):=MD (by simp only[dL,List.length_zipWith];omega);have hl9:(acc++[123]++aZ ((dL (aH d) t.keys t.l).take t.l.length)).length<=1000000000:=by
    rw[htk.o];simp only[Mx,My,List.length_nil];omega
   go_wp2_with (at_builtin;go_must (refine dp rfl _ _ rfl B u0 _ [125] _ (by rfl) 1 rfl rfl rfl A.o.1 hBr hl9 (by decide) ?_);intro v5 w5 hown5 hgrow5;refine Ll.o ?_)
   refine aa ?_;have D5:=aa (And.intro hown5 hgrow5);clear hown5 hgrow5;go_wp2_with fail
   go_ret;have h8:=D5.o.1;rw[htk.o]at h8;exact⟨v5,rfl,by simpa using h8,A.o.2.trans D5.o.2⟩
theorem Cl(hG:cn w)(hB:7<=B):Lib.TabBelow prog B w "internal/strconv.uint64pow10" .u64 Lib.pow10Tab:=by
 intro w' hb;obtain⟨_,_,t3,f3,h3⟩:=hG;have h4:=(hb.block 1 (by omega)).trans h3;unfold Lib.TabIs World.var?;rw[show Program.globalNamed prog _=some 1 from by kernel_rfl];simp[h4]
theorem tU(w:LC)(B:Nat)(v)(acc:Lz)(n:Int)(hn:dW n)(h:dG w B v acc)(hB:B<=w.heap.size)(hl:acc.length<=1000000000)(hG:cn w)(hgB:7<=B):Calls prog 70 #[v,.int .i64 n,.int .i64 10] w fun e w'=>∃ v',e=.returned v'/\dG w' B v' (acc++Lib.itoa n)/\Fr B w w':=by
 refine(Tryz.strconv_AppendInt_10 B acc.length n hn.1 hn.2 v (Lib.byteCells acc) w h hB (by omega) (Cl hG hgB)).mono ?_;rintro e w' ⟨v',rfl,h1,h2,h3⟩;rw[jg,<-Mx]at h1;exact⟨v',rfl,h1,h2,h3⟩
theorem FW:Dp 0:=fun _ _ _ _ _ _ hv=>hv.elim
theorem Eu(d)(ih:Dp d):Dp (d+1):=by
 intro w B v acc t val hv hsm h hB hG hgB hl;have HV:=aa hv;have IH:=aa ih;have H:=aa h;have HG:=aa hG;have HS:=aa hsm;obtain⟨a7,a8,c7,c8,rfl⟩:=hv.shape;have hn:dW t.n:=by obtain⟨ks,ls,e,h1,h2,h3,h4,h5⟩:=hv;exact h2
 have HN:=aa hn;have hs6:=hsm.1;clear hv ih h hG hsm hn;have hB1:B<=(w.alloc (.cells (KV t a7 c7 a8 c8) 39)).heap.size:=by simp;omega
 have F1:Ll (Fr B w (w.alloc (.cells (KV t a7 c7 a8 c8) 39))):=eq _ _ _ hB;have hla:acc.length<=1000000000:=by omega
 by_cases k0:t.kind=0
 ·have e0:(t.kind == 0)=true:=by simp[k0]
  have P:Ll (aH (d+1) t=[110,117,108,108]):=aa (by simp[aH,k0]);rw[P.o]at hl;have K:=aa k0;clear k0;go_enter func54,ntmps54;go_wp2_with (at_builtin;go_must (refine jO rfl _ _ rfl B v acc [110,117,108,108] rfl rfl (by exact H.o.alloc _) hB1 hla (by decide) ?_);intro v4 w4 LS LR;refine Ll.o ?_)
  refine aa ?_;have D:=aa (And.intro LS (F1.o.trans LR));clear LS LR;go_wp2_with fail
  go_ret;exact⟨v4,rfl,by rw[P.o];exact D.o.1,D.o.2⟩
 by_cases k1:t.kind=1
 ·have e1:(t.kind == 1)=true:=by simp[k1]
  have f0:(t.kind == 0)=false:=by simp[k1]
  have P:Ll (aH (d+1) t=wT (t.n == 1)):=aa (by simp[aH,k1]);rw[P.o]at hl;have K:=aa k1;clear k1;go_enter func54,ntmps54;go_wp2_with fail
  refine(qV _ B v acc (t.n == 1) (by exact H.o.alloc _) (by exact hB1) hla).mono ?_;rintro e w4 ⟨v4,rfl,LS,LR⟩;have D:=aa (And.intro LS (F1.o.trans LR));clear LS LR;go_wp2_with fail
  go_ret;exact⟨v4,rfl,by rw[P.o];exact D.o.1,D.o.2⟩
 by_cases k2:t.kind=2
 ·have e2:(t.kind == 2)=true:=by simp[k2]
  have f0:(t.kind == 0)=false:=by simp[k2]
  have f1:(t.kind == 1)=false:=by simp[k2]
  have P:Ll (aH (d+1) t=Lib.itoa t.n):=aa (by simp[aH,k2]);rw[P.o]at hl;have K:=aa k2;clear k2;go_enter func54,ntmps54;go_wp2_with fail
  refine(tU _ B v acc t.n HN.o (by exact H.o.alloc _) (by exact hB1) hla (by exact HG.o.fr F1.o hgB) hgB).mono ?_;rintro e w4 ⟨v4,rfl,LS,LR⟩;have D:=aa (And.intro LS (F1.o.trans LR));clear LS LR;go_wp2_with fail
  go_ret;exact⟨v4,rfl,by rw[P.o];exact D.o.1,D.o.2⟩
 by_cases k3:t.kind=3
 ·have e3:(t.kind == 3)=true:=by simp[k3]
  have f0:(t.kind == 0)=false:=by simp[k3]
  have f1:(t.kind == 1)=false:=by simp[k3]
  have f2:(t.kind == 2)=false:=by simp[k3]
  have P:Ll (aH (d+1) t=fZ t.s):=aa (by simp[aH,k3]);rw[P.o]at hl;have K:=aa k3;clear k3;go_enter func54,ntmps54;go_wp2_with fail
  refine(gH _ B v acc t.s (by exact H.o.alloc _) (by exact hB1) (by omega) (by omega)).mono ?_;rintro e w4 ⟨v4,rfl,LS,LR⟩;have D:=aa (And.intro LS (F1.o.trans LR));clear LS LR;go_wp2_with fail
  go_ret;exact⟨v4,rfl,by rw[P.o];exact D.o.1,D.o.2⟩
 by_cases k4:t.kind=4
 ·have e4:(t.kind == 4)=true:=by simp[k4]
  have f0:(t.kind == 0)=false:=by simp[k4]
  have f1:(t.kind == 1)=false:=by simp[k4]
  have f2:(t.kind == 2)=false:=by simp[k4]
  have f3:(t.kind == 3)=false:=by simp[k4]
  have P:Ll (aH (d+1) t=91 :: aZ (t.l.map (aH d))++[93]):=aa (by simp[aH,k4]);rw[P.o]at hl;have K:=aa k4;clear k4;go_enter func54,ntmps54;go_wp2_with fail
  refine(qL d IH.o _ B v acc t _ (by exact HV.o.fr F1.o) HS.o (by exact H.o.alloc _) (by exact hB1) (by exact HG.o.fr F1.o hgB) hgB (by simp only[Mx,My,List.length_nil]at hl;omega)).mono ?_;rintro e w4 ⟨v4,rfl,LS,LR⟩;have D:=aa (And.intro LS (F1.o.trans LR));clear LS LR;go_wp2_with fail
  go_ret;exact⟨v4,rfl,by rw[P.o];exact D.o.1,D.o.2⟩
 have f0:(t.kind == 0)=false:=by rw[MO];exact k0
 have f1:(t.kind == 1)=false:=by rw[MO];exact k1
 have f2:(t.kind == 2)=false:=by rw[MO];exact k2
 have f3:(t.kind == 3)=false:=by rw[MO];exact k3
 have f4:(t.kind == 4)=false:=by rw[MO];exact k4
 have P:Ll (aH (d+1) t=123 :: aZ (dL (aH d) t.keys t.l)++[125]):=aa (by simp only[aH,if_neg k0,if_neg k1,if_neg k2,if_neg k3,if_neg k4]);rw[P.o]at hl;have K4:=aa k4;clear k0 k1 k2 k3 k4;go_enter func54,ntmps54;go_wp2_with fail
 refine(nZ d IH.o _ B v acc t _ (by exact HV.o.fr F1.o) HS.o (by exact H.o.alloc _) (by exact hB1) (by exact HG.o.fr F1.o hgB) hgB K4.o (by simp only[Mx,My,List.length_nil]at hl;omega)).mono ?_;rintro e w4 ⟨v4,rfl,LS,LR⟩;have D:=aa (And.intro LS (F1.o.trans LR));clear LS LR;go_wp2_with fail
 go_ret;exact⟨v4,rfl,by rw[P.o];exact D.o.1,D.o.2⟩
theorem II(d):Dp d:=by
 induction d with
 | zero=>exact FW
 | succ d ih=>exact Eu d ih
theorem uS:∀ (ks:List Lz) (p:Option Lz),el p ks=true->∀ k∈ks,k.length<=60
 | [],_,_,k,hk=>by simp at hk
 | x :: ks,p,h,k,hk=>by
  simp only[el,MJ]at h;rcases List.mem_cons.1 hk with rfl | hk
  ·have:=h.1.1;simp only[eK,MJ,decide_eq_true_eq]at this;exact this.1
  ·exact uS ks _ h.2 k hk
theorem ml(h:ce t=true):t.s.length<=60/\(t.kind≠4->t.l.length<=t.keys.length)/\(∀ k∈t.keys,k.length<=60)/\-9007199254740992<=t.n/\t.n<=9007199254740992:=by
 have nk:t.keys.length=0->∀ k∈t.keys,k.length<=60:=fun e k hk=>by rw[List.eq_nil_of_length_eq_zero e]at hk;simp at hk
 unfold ce at h;split at h
 ·simp only[bp,MJ,decide_eq_true_eq]at h;obtain⟨⟨h1,h2⟩,h3,h4⟩:=h;exact⟨by rw[h2];simp,fun _=>by omega,nk h3,by omega,by omega⟩
 split at h
 ·simp only[bp,MJ,Bool.or_eq_true,decide_eq_true_eq]at h;obtain⟨⟨h1,h2⟩,h3,h4⟩:=h;exact⟨by rw[h2];simp,fun _=>by omega,nk h3,by omega,by omega⟩
 split at h
 ·simp only[bp,MJ,decide_eq_true_eq]at h;obtain⟨⟨⟨h0,h1⟩,h2⟩,h3,h4⟩:=h;exact⟨by rw[h2];simp,fun _=>by omega,nk h3,by omega,by omega⟩
 split at h
 ·simp only[bp,eK,MJ,decide_eq_true_eq]at h;obtain⟨⟨h1,h2,_⟩,h3,h4⟩:=h;exact⟨h2,fun _=>by omega,nk h3,by omega,by omega⟩
 split at h
 ·rename_i hk;simp only[MJ,decide_eq_true_eq]at h;obtain⟨⟨h1,h2⟩,h3⟩:=h;exact⟨by rw[h2];simp,fun e=>absurd hk e,nk h3,by omega,by omega⟩
 split at h
 ·simp only[MJ,decide_eq_true_eq]at h;obtain⟨⟨⟨h1,h2⟩,h3⟩,h4⟩:=h;exact⟨by rw[h2];simp,fun _=>by omega,uS _ _ h4,by omega,by omega⟩
 ·cases h
theorem yq(d):∀ (D:Nat) (t:V) (r p:Int),bn D t r=(true,p)->jo d t:=by
 induction d with
 | zero=>intro D t r p _;trivial
 | succ d ih=>
  intro D t r p h;obtain⟨D',rfl,hs,h0,hf⟩:=io h;obtain⟨s1,s2,s3,-,-⟩:=ml hs;refine⟨by omega,s2,fun k hk=>MH (s3 k hk) (by decide),?_⟩;have:∀ (l:List V) (r p:Int),eb D' l r=(true,p)->∀ x∈l,jo d x:=by
   intro l;induction l with
   | nil=>intro r p _ x hx;simp at hx
   | cons y l ihl=>
    intro r p hf x hx;obtain⟨q,h1,h2⟩:=jv hf;rcases List.mem_cons.1 hx with rfl | hx
    ·exact ih D' _ r q h1
    ·exact ihl q p h2 x hx
  exact this t.l _ _ hf
theorem sG(x xs):(aZ (x :: xs)).length<=x.length+1+(aZ xs).length:=by
 cases xs with
 | nil=>simp[aZ]
 | cons y ys=>simp only[aZ,Mx,My];omega
theorem rX(s)(h:s.length<=60):(fZ s).length<=362:=by
 have:=uJ s;simp only[fZ,Mx,My,List.length_nil];omega
theorem Fj(d):∀ (D:Nat) (t:V) (r p:Int),0<=r->bn D t r=(true,p)->((aH d t).length:Int)+400<=1000 * (r - p):=by
 induction d with
 | zero=>
  intro D t r p hr h;obtain⟨D',rfl,hs,h0,hf⟩:=io h;have:=(nt (ic D') t.l (r - 1) h0).2.1;have e:(eb D' t.l (r - 1)).2=p:=by rw[hf]
  unfold eb at e;rw[e]at this;simp only[aH,List.length_nil];omega
 | succ d ih=>
  intro D t r p hr h;obtain⟨D',rfl,hs,h0,hf⟩:=io h;have hp:p<=r - 1:=by
   have:=(nt (ic D') t.l (r - 1) h0).2.1;have e:(eb D' t.l (r - 1)).2=p:=by rw[hf]
   unfold eb at e;rwa [e]at this
  obtain⟨s1,s2,s3,s4,s5⟩:=ml hs;have sums:∀ (l:List V) (ks:List Lz) (r p:Int),0<=r->(∀ k∈ks,k.length<=60)->eb D' l r=(true,p)->((aZ (l.map (aH d))).length:Int)<=1000 * (r - p)/\((aZ (dL (aH d) ks l)).length:Int)<=1000 * (r - p):=by
   intro l;induction l with
   | nil=>
    intro ks r p _ _ hf;have e:(true,r)=(true,p):=hf;cases e;simp[aZ,dL]
   | cons x l ihl=>
    intro ks r p hr hks hf;obtain⟨q,h1,h2⟩:=jv hf;have g1:=ih D' x r q hr h1;have hq:0<=q:=by have:=(ic D' x r hr).2.2;rw[h1]at this;exact this rfl
    constructor
    ·obtain⟨g2,-⟩:=ihl [] q p hq (by simp) h2;have:=sG (aH d x) (l.map (aH d));simp only[List.map_cons];omega
    ·cases ks with
     | nil=>
      obtain⟨-,g2⟩:=ihl [] q p hq (by simp) h2;simp only[dL,List.zipWith_nil_left,aZ,List.length_nil]at g2 ⊢;omega
     | cons k ks=>
      obtain⟨-,g2⟩:=ihl ks q p hq (fun j hj=>hks j (List.mem_cons_of_mem _ hj)) h2;have:=sG (fZ k++58 :: aH d x) (dL (aH d) ks l);have h9:=rX k (hks k (List.mem_cons_self ..));simp only[Mx,My]at this;simp only[dL,List.zipWith_cons_cons]at this g2 ⊢;omega
  obtain⟨m1,m2⟩:=sums t.l t.keys (r - 1) p h0 s3 hf;have hi:=Lib.itoa_length_le t.n (by omega) (by omega);have hq:=rX t.s s1;simp only[aH];split
  ·simp only[My,List.length_nil];omega
  split
  ·unfold wT;split <;> simp only[My,List.length_nil] <;> omega
  split
  ·omega
  split
  ·omega
  split
  ·simp only[Mx,My,List.length_nil];omega
  ·simp only[Mx,My,List.length_nil];omega
def eP (d:Nat) (t:V):Lz × Int:=if aE t then (if (aH d t).length<=2000 then (aH d t,0) else ([],2)) else ([],1)
theorem EU(w:LC)(ok d t v)(h:bu w ok d t v)(hG:cn w):Calls prog 37 #[v] w fun e w'=>∃ (l:Lz) (ee:Int),e=.returned (.tuple #[.string ⟨l.toArray⟩,.int .i64 ee])/\eP d t=(l,ee)/\La w w':=by
 obtain⟨a7,a8,c7,c8,rfl⟩:=h.shape;have HV:=aa h;have HG:=aa hG;clear h hG;cases hgd:aE t with
 | false=>
  have P:Ll (eP d t=([],1)):=aa (by simp[eP,hgd]);have HGD:=aa hgd;clear hgd;go_enter func37,ntmps37;go_wp2_with fail
  refine Lk (mr _ ok d t _ (by exact HV.o.bel (ae _ _))) fun w2 hb2=>?_;rw[HGD.o];have B2:=aa (ab (ae w _) hb2);clear hb2;go_wp2_with fail
  refine MM (v:=.tuple #[.string ⟨#[]⟩,.int .i64 1]) (by simp[results,results37,go_sem] <;> rfl) rfl ?_;exact⟨[],1,rfl,P.o,B2.o⟩
 | true=>
  have HGD:=aa hgd;have P:Ll (eP d t=if (aH d t).length<=2000 then (aH d t,0) else ([],2)):=aa (by simp[eP,hgd]);have hg:bn 12 t 120=(true,(bn 12 t 120).2):=by unfold aE at hgd;rw[<-hgd]
  have hln:((aH d t).length:Int)<=122000:=by
   have h1:=Fj d 12 t 120 _ (by decide) hg;have h2:=(ic 12 t 120 (by decide)).1;omega
  have SM:Ll (jo d t):=yq d 12 t 120 _ hg;clear hgd hg;go_enter func37,ntmps37;go_wp2_with fail
  refine Lk (mr _ ok d t _ (by exact HV.o.bel (ae _ _))) fun w2 hb2=>?_;rw[HGD.o];have p0_:=(af hb2 (MN w _)).c;have V2:=aa ((HV.o.bel (ab (ae w _) hb2)).below.weak (ok':=fun k=>k < w2.heap.size) fun k hk=>hk.2);have B2:=aa (ab (ae w _) hb2);have G2:Ll (cn w2):=HG.o.grown (aq (r:=none) B2.o) (by simp);have L9:=G2.o.size;clear hb2;go_wp2_with fail
  refine(II d w2 w2.heap.size (.slice none 0 0) [] t _ V2.o SM.o (dG.nil _ _) (MG _) G2.o L9 (by simp only[List.length_nil];omega)).mono ?_;rintro e w3 ⟨v3,rfl,h3,hb3⟩;rw[List.nil_append]at h3;have B3:Ll (La w w3):=ab B2.o hb3.1;clear hb3;rcases h3.2 with⟨hv,hn⟩ | ⟨g,cap,cur,hv,-,-,hn1,hn2,-,-⟩
  ·subst hv;have hnil:aH d t=[]:=List.eq_nil_of_length_eq_zero hn;have hcv:=run_convert_bytes_nil (P:=prog) (w:=w3) 101 5 underlying101 underlying5 0 0;have HN:=aa hnil;clear h3 hn hnil;go_wp2_with fail
   refine MM (v:=.tuple #[.string ⟨#[]⟩,.int .i64 0]) (by simp[results,results37,go_sem] <;> rfl) rfl ?_;exact⟨[],0,rfl,by rw[P.o,HN.o];rfl,B3.o⟩
  ·subst hv;unfold maxLen at hn2;have hcv:=run_convert_bytes_back (P:=prog) w3 101 9 5 ⟨g,0,none⟩ cap (aH d t) underlying101 underlying5 underlying9 (fun j hj=>World.ownsRow.cells h3 (g:=g) rfl j _ (by simp[Lib.byteCells,hj]));clear h3;by_cases hle:(aH d t).length<=2000
   ·have c1:¬(2000 < ((aH d t).length:Int)):=by omega
    go_wp2_with fail
    refine MM (v:=.tuple #[.string ⟨(aH d t).toArray⟩,.int .i64 0]) (by simp[results,results37,go_sem] <;> rfl) rfl ?_;exact⟨aH d t,0,rfl,by rw[P.o,if_pos hle],B3.o⟩
   ·have c1:2000 < ((aH d t).length:Int):=by omega
    clear hcv;go_wp2_with fail
    refine MM (v:=.tuple #[.string ⟨#[]⟩,.int .i64 2]) (by simp[results,results37,go_sem] <;> rfl) rfl ?_;exact⟨[],2,rfl,by rw[P.o,if_neg hle],B3.o⟩
abbrev Rd:=List UInt8->Option (V × List UInt8)
def KD (g:List UInt8) (f:Rd):Prop:=∀ l,f (l++g)=(f l).map fun p=>(p.1,p.2++g)
def Dr (f:Rd):Prop:=∀ l,f (l.dropWhile cw)=f l
theorem KD.drop{g:List UInt8}{f:Rd}(h:KD g f)(hd:Dr f)(l:List UInt8):f ((l++g).dropWhile cw)=(f (l.dropWhile cw)).map fun p=>(p.1,p.2++g):=by
 rw[hd,hd,h]
theorem AY{f g:V->List UInt8}{ks:List (List UInt8)}{l:List V}(h:∀ x∈l,f x=g x):dL f ks l=dL g ks l:=by
 unfold dL;induction ks generalizing l with
 | nil=>rfl
 | cons k ks ih=>
  cases l with
  | nil=>rfl
  | cons x l=>
   rw[List.zipWith_cons_cons,List.zipWith_cons_cons,h x (by simp),ih fun y hy=>h y (by simp[hy])]
theorem uI(d:Nat):∀ (d':Nat) (t:V),Jd d t->Jd d' t->aH d t=aH d' t:=by
 induction d with
 | zero=>intro d' t h;exact h.elim
 | succ d ih=>
  intro d' t h h';cases d' with
  | zero=>exact h'.elim
  | succ d'=>
   have e:∀ x∈t.l,aH d x=aH d' x:=fun x hx=>ih d' x (h x hx) (h' x hx);simp only[aH];rw[List.map_congr_left e,AY e]
theorem sW(hd:Jd d t):eP d t=eP 12 t:=by
 unfold eP;cases hg:aE t with
 | false=>rfl
 | true=>rw[uI d 12 t hd (fh hg).dep]
theorem H9(d):∀ {t:V} {v:Value},bu w ok d t v->Jd d t:=by
 induction d with
 | zero=>intro t v h;exact h
 | succ d ih=>
  intro t v h x hx;obtain⟨ks,ls,e,h1,h2,h3,h4,h5⟩:=h;obtain⟨y,hy⟩:=Wg h5 hx;exact ih hy
theorem EP(w:LC)(ok t v)(h:In w ok t v)(hG:cn w):Calls prog 37 #[v] w fun e w'=>e=.returned (.tuple #[.string ⟨(eP 12 t).1.toArray⟩,.int .i64 (eP 12 t).2])/\La w w':=by
 obtain⟨d,h⟩:=h;refine(EU w ok d t v h hG).mono ?_;rintro e w' ⟨l,ee,rfl,he,hb⟩;rw[sW (H9 d h)]at he;rw[he];exact⟨rfl,hb⟩
end Go.Proofs.YtgolnaencepejaaGreatDoor
