import Derived.Test.YtkjeiljdoljjgaaGreatDoorG5
set_option maxRecDepth 100000
set_option maxHeartbeats 40000000
set_option linter.unusedSimpArgs false
set_option linter.unusedVariables false
namespace Go.Proofs.YtkjeiljdoljjgaaGreatDoor
open Go.RowKit
open _root_.Go.Proofs.Tryz
section
attribute [local go_sem ↓] Go.wp_at_zero Go.wp_at_succ
theorem yX(w ok d t x v xv key i)(h:bu w ok (d+1) t v)(hx:bu w ok d x xv)(hf:dO t key=some i)(L9:t.l.length<=100000):Calls prog 164 #[v,aR key,xv] w fun e w'=>∃ r,e=.returned r/\bu w' (bQ ok w.heap.size) (d+1) { t with l:=t.l.take i++x :: t.l.drop (i+1) } r/\La w w':=by
 have H:=aa h;have HX:=aa hx;obtain⟨ks,ls,rfl,h1,h2,h3,h4,h5⟩:=h;have K5:=aa h5;have KK:Ll (dW t.kind/\dW t.n/\t.s.length<=maxLen/\ao w ok t.keys ks):=⟨h1,h2,h3,h4⟩
 obtain⟨a1,c1,rfl⟩:=h4.form;have l1:=h4.1;obtain⟨f1,f2,f3,f4⟩:=fW hf;have F:=aa hf;have FP:=aa f1;clear hf f1 f2;obtain⟨_,K5'⟩:=K5.o;rcases K5' with⟨e,_⟩ | ⟨b,off,c,hls',hc1,hc2,Mb⟩
 ·rw[e]at f3;simp at f3
 subst hls';obtain⟨xk,xl,hxv⟩:∃ xk xl,xv=.agg #[.int .i64 x.kind,.int .i64 x.n,aR x.s,xk,xl]:=by
  match d,hx with
  | d+1,hx=>obtain⟨ks,ls,e,_⟩:=hx;exact⟨ks,ls,e⟩
 subst hxv;obtain⟨-,-,-,⟨a7,c7,rfl⟩,⟨a8,c8,rfl⟩⟩:=hx.agg;unfold maxLen at l1 h3 hc2;unfold aR;clear h4 h5 h1 h2 hx Mb;go_enter func164,ntmps164;go_wp2_with fail
 refine Lk (ni _ ok _ t _ (by exact H.o.bel (ab (ab (ae _ _) (ae _ _)) (ae _ _)))) fun w1 hb1=>?_;rw[FP.o];have bx:Ll (ag w1 w.heap.size (.int .i64 t.kind) (.int .i64 t.n) (.string ⟨t.s.toArray⟩) (.slice a1 t.keys.length c1) (.slice (some ⟨b,off,none⟩) t.l.length c)/\KY w1 (w.heap.size+1) x a7 c7 a8 c8/\Lc w1 (w.heap.size+2)):=⟨af hb1 (lI w _ _ _),af hb1 (mE w _ _ _),af hb1 (jI w _ _ _)⟩
 obtain⟨p0,p1,p2,p3,p4,-,-,-,p9,p10⟩:=bx.o.1.c;have B1:Ll (La w w1):=ab (ab (ab (ae _ _) (ae _ _)) (ae _ _)) hb1;clear hb1;go_wp2_with fail
 refine Lk (kJ _ ok _ t _ key (by exact H.o.bel B1.o)) fun w2 hb2=>?_;rw[F.o];have bx2:Ll (ag w2 w.heap.size (.int .i64 t.kind) (.int .i64 t.n) (.string ⟨t.s.toArray⟩) (.slice a1 t.keys.length c1) (.slice (some ⟨b,off,none⟩) t.l.length c)/\KY w2 (w.heap.size+1) x a7 c7 a8 c8/\Lc w2 (w.heap.size+2)):=⟨af hb2 bx.o.1,af hb2 bx.o.2.1,af hb2 bx.o.2.2⟩
 have B2:Ll (La w w2):=ab B1.o hb2;have hsz2:w.heap.size+2 < w2.heap.size:=bx2.o.2.2.lt;clear hb2 bx B1;unfold pS;obtain⟨p0,p1,p2,p3,p4,-,-,-,p9,p10⟩:=bx2.o.1.c;have q0_:=bx2.o.2.1.c;have i0:0<=(i:Int):=by omega
 have i1:(i:Int)<=(c:Int):=by omega
 have i2:(i:Int)+1<=(t.l.length:Int):=by omega
 have i3:(t.l.length:Int)<=(c:Int):=by omega
 obtain⟨cs1,cs2,r1,s1,r2,s2⟩:=km K5.o i (i+1) (by omega) f3 (by omega);obtain⟨a3,hifs⟩:∃ a3,(if c=i+1 then (some ⟨b,off,none⟩:Option Addr) else some ⟨b,off+(i+1) * 5,none⟩)=a3:=⟨_,rfl⟩
 rw[hifs]at s2;have PP:Ll (cA (bu w ok d) (t.l.take i) cs1/\du w 5 (.slice (some ⟨b,off,none⟩) i c) i cs1/\cA (bu w ok d) (t.l.drop (i+1)) cs2/\du w 5 (.slice a3 (t.l.length - (i+1)) (c - (i+1))) (t.l.length - (i+1)) cs2):=⟨r1,s1,r2,s2⟩
 clear r1 s1 r2 s2;go_wp2_with fail
 have hw1:IntKind.i64.wrap ((i:Int)+1)=(i:Int)+1:=by rw[IntKind.wrap_i64];omega
 have i4:(0:Int)<=(i:Int)+1:=by omega
 have hS:Ll (∀ W',La w2 W'->ag W' w.heap.size (.int .i64 t.kind) (.int .i64 t.n) (.string ⟨t.s.toArray⟩) (.slice a1 t.keys.length c1) (.slice (some ⟨b,off,none⟩) t.l.length c)/\KY W' (w.heap.size+1) x a7 c7 a8 c8/\Lc W' (w.heap.size+2)):=
  fun W' hb=>⟨af hb bx2.o.1,af hb bx2.o.2.1,af hb bx2.o.2.2⟩
 have hcon:Ll (∀ W,W.heap=((w2.alloc (.cells (KV x a7 c7 a8 c8) 35)).alloc (.cells #[.slice (some ⟨b,off,none⟩) i c,.slice (some ⟨w2.heap.size,0,none⟩) 1 1,.slice a3 (t.l.length - (i+1)) (c - (i+1))] 33)).heap->W.os=w2.os->W.tape=w2.tape->W.output=w2.output ->
  Calls prog 197 #[.slice (some ⟨w2.heap.size+1,0,none⟩) 3 3] W fun e w'=>∃ g cap,e=.returned (.slice (some ⟨g,0,none⟩) t.l.length cap)/\w'.ownsRow w2.heap.size 35 5 (.slice (some ⟨g,0,none⟩) t.l.length cap) t.l.length (cs1++[.int .i64 x.kind,.int .i64 x.n,.string ⟨x.s.toArray⟩,.slice a7 x.keys.length c7,.slice a8 x.l.length c8]++cs2)/\La w2 w'):=by
  intro W e1 e2 e3 e4;have LY:La w2 W:=by
   have:=ab (ae w2 (.cells (KV x a7 c7 a8 c8) 35)) (ae _ (.cells #[.slice (some ⟨b,off,none⟩) i c,.slice (some ⟨w2.heap.size,0,none⟩) 1 1,.slice a3 (t.l.length - (i+1)) (c - (i+1))] 33));exact⟨e2,e3,e4,by rw[e1];exact this.size,fun k hk=>by rw[e1];exact this.block k hk⟩
  have ha:=fb w2 (.cells (KV x a7 c7 a8 c8) 35) (.cells #[.slice (some ⟨b,off,none⟩) i c,.slice (some ⟨w2.heap.size,0,none⟩) 1 1,.slice a3 (t.l.length - (i+1)) (c - (i+1))] 33);have hb:=et w2 (.cells (KV x a7 c7 a8 c8) 35) (.cells #[.slice (some ⟨b,off,none⟩) i c,.slice (some ⟨w2.heap.size,0,none⟩) 1 1,.slice a3 (t.l.length - (i+1)) (c - (i+1))] 33);rw[<-e1]at ha hb;have hbw:La w W:=ab B2.o LY;refine(vB W (w2.heap.size+1) ⟨_,i,cs1⟩ ⟨_,1,_⟩ ⟨_,t.l.length - (i+1),cs2⟩ (by simp[World.cell?,hb]) (by simp[World.cell?,hb]) (by simp[World.cell?,hb]) (PP.o.2.1.bel hbw) (Gj ha (Ji _ _ _ _ _ _ _ _ _)) (PP.o.2.2.2.bel hbw) (by simp only;omega)).mono ?_;rintro e w' ⟨v,rfl,ho,hb9⟩;have en:i+1+(t.l.length - (i+1))=t.l.length:=by omega
  simp only at ho;rw[en]at ho;have ho':w'.ownsRow w2.heap.size 35 5 v t.l.length (cs1++[.int .i64 x.kind,.int .i64 x.n,.string ⟨x.s.toArray⟩,.slice a7 x.keys.length c7,.slice a8 x.l.length c8]++cs2):=cV ho LY.size;rcases ho'.2 with⟨_,h0⟩ | ⟨g,cap,cur,e,rest⟩
  ·omega
  ·subst e;exact⟨g,cap,rfl,ho',ab LY hb9⟩
 have k4:∀ o,(w2.alloc o).cell? ⟨w.heap.size,4,none⟩=some (.slice (some ⟨b,off,none⟩) t.l.length c):=fun o=>(hS.o _ (ae w2 o)).1.c.2.2.2.2.1;have m0:∀ o,(w2.alloc o).cell? ⟨w.heap.size+1,0,none⟩=some (.int .i64 x.kind):=fun o=>(hS.o _ (ae w2 o)).2.1.c.1;have m1:∀ o,(w2.alloc o).cell? ⟨w.heap.size+1,1,none⟩=some (.int .i64 x.n):=fun o=>(hS.o _ (ae w2 o)).2.1.c.2.1;have m2:∀ o,(w2.alloc o).cell? ⟨w.heap.size+1,2,none⟩=some (.string ⟨x.s.toArray⟩):=fun o=>(hS.o _ (ae w2 o)).2.1.c.2.2.1;have m3:∀ o,(w2.alloc o).cell? ⟨w.heap.size+1,3,none⟩=some (.slice a7 x.keys.length c7):=fun o=>(hS.o _ (ae w2 o)).2.1.c.2.2.2.1;have m4:∀ o,(w2.alloc o).cell? ⟨w.heap.size+1,4,none⟩=some (.slice a8 x.l.length c8):=fun o=>(hS.o _ (ae w2 o)).2.1.c.2.2.2.2.1;have fin:Ll (∀ w3 g cap,w3.ownsRow w2.heap.size 35 5 (.slice (some ⟨g,0,none⟩) t.l.length cap) t.l.length (cs1++[.int .i64 x.kind,.int .i64 x.n,.string ⟨x.s.toArray⟩,.slice a7 x.keys.length c7,.slice a8 x.l.length c8]++cs2)->La w2 w3 ->
  bu (ar (w3.setCell ⟨w.heap.size,4,none⟩ (.slice (some ⟨g,0,none⟩) t.l.length cap)) (w.heap.size+2) (.int .i64 t.kind) (.int .i64 t.n) (.string ⟨t.s.toArray⟩) (.slice a1 t.keys.length c1) (.slice (some ⟨g,0,none⟩) t.l.length cap)) (bQ ok w.heap.size) (d+1) { t with l:=t.l.take i++x :: t.l.drop (i+1) } (.agg #[.int .i64 t.kind,.int .i64 t.n,.string ⟨t.s.toArray⟩,.slice a1 t.keys.length c1,.slice (some ⟨g,0,none⟩) t.l.length cap]) /\
  La w (ar (w3.setCell ⟨w.heap.size,4,none⟩ (.slice (some ⟨g,0,none⟩) t.l.length cap)) (w.heap.size+2) (.int .i64 t.kind) (.int .i64 t.n) (.string ⟨t.s.toArray⟩) (.slice a1 t.keys.length c1) (.slice (some ⟨g,0,none⟩) t.l.length cap)) /\
  ag (ar (w3.setCell ⟨w.heap.size,4,none⟩ (.slice (some ⟨g,0,none⟩) t.l.length cap)) (w.heap.size+2) (.int .i64 t.kind) (.int .i64 t.n) (.string ⟨t.s.toArray⟩) (.slice a1 t.keys.length c1) (.slice (some ⟨g,0,none⟩) t.l.length cap)) (w.heap.size+2) (.int .i64 t.kind) (.int .i64 t.n) (.string ⟨t.s.toArray⟩) (.slice a1 t.keys.length c1) (.slice (some ⟨g,0,none⟩) t.l.length cap)):=by
  intro w3 g cap ho hb;have g1:w3.grownBy (w3.setCell ⟨w.heap.size,4,none⟩ (.slice (some ⟨g,0,none⟩) t.l.length cap)) (some w.heap.size):=ap (az _ _) _ _;have g2:=aI (w3.setCell ⟨w.heap.size,4,none⟩ (.slice (some ⟨g,0,none⟩) t.l.length cap)) (w.heap.size+2) (.int .i64 t.kind) (.int .i64 t.n) (.string ⟨t.s.toArray⟩) (.slice a1 t.keys.length c1) (.slice (some ⟨g,0,none⟩) t.l.length cap);have LU:=((hS.o _ hb).2.2.grown g1 (by simp)).set (.int .i64 t.kind) (.int .i64 t.n) (.string ⟨t.s.toArray⟩) (.slice a1 t.keys.length c1) (.slice (some ⟨g,0,none⟩) t.l.length cap);have hbw:La w w3:=ab B2.o hb;have hb9:La w (ar (w3.setCell ⟨w.heap.size,4,none⟩ (.slice (some ⟨g,0,none⟩) t.l.length cap)) (w.heap.size+2) (.int .i64 t.kind) (.int .i64 t.n) (.string ⟨t.s.toArray⟩) (.slice a1 t.keys.length c1) (.slice (some ⟨g,0,none⟩) t.l.length cap)):=
   bS (eD (bi (aq hbw) (MG _) _ _) (by omega) _ _ _ _ _)
  refine⟨⟨_,_,rfl,KK.o.1,KK.o.2.1,KK.o.2.2.1,?_,?_⟩,hb9,LU⟩
  ·exact(KK.o.2.2.2.bel hb9).imp fun a x h1 h2=>⟨.inl h1,h2⟩
  ·have ho9:=aW (aW ho g1 (by omega)) g2 (by omega);have LT:t.l.length=(t.l.take i++x :: t.l.drop (i+1)).length:=by simp;omega
   refine fJ LT ho9 ?_ (fun k hk=>.inr (by omega)) (by rw[<-LT];unfold maxLen;omega);have rx:cA (bu _ (bQ ok w.heap.size) d) [x] [.int .i64 x.kind,.int .i64 x.n,.string ⟨x.s.toArray⟩,.slice a7 x.keys.length c7,.slice a8 x.l.length c8]:=⟨_,_,_,_,_,[],rfl,(HX.o.bel hb9).toN,rfl⟩
   have:=((PP.o.2.2.1.bel (B:=w.heap.size) hb9).append rx).append (PP.o.1.bel (B:=w.heap.size) hb9);rw[List.append_assoc];exact this
 go_region_with ((go_at_call 197;refine(hcon.o _ (by rfl) (by rfl) (by rfl) (by rfl)).mono ?_;rintro e w3 ⟨g,cap,rfl,ho3,hb3⟩;obtain⟨p0,p1,p2,p3,p4,-,-,-,p9,p10⟩:=(hS.o _ hb3).1.c;have x0_:=(hS.o _ hb3).2.2.c;have O3:=aa ho3;have HB3:=aa hb3;clear ho3 hb3))
 all_goals
  go_wp2_with fail
  obtain⟨f1,f2,f3⟩:=fin.o _ g cap O3.o HB3.o;have z0_:=f3.c;refine MM (v:=.agg #[.int .i64 t.kind,.int .i64 t.n,.string ⟨t.s.toArray⟩,.slice a1 t.keys.length c1,.slice (some ⟨g,0,none⟩) t.l.length cap]) ?_ rfl ?_
  ·simp only[ar]at z0_;simp[results,results164,go_sem,z0_]
  ·exact⟨_,rfl,f1,f2⟩
end
variable {k:Nat}
theorem wf{xs}(h:6 < xs.length):bp xs=false:=by
 have:decide (xs.length<=6)=false:=decide_eq_false (by omega);simp[bp,this]
theorem yJ{xs}(hk:k < xs.length)(h:ol xs[k]=false):bp xs=false:=by
 have:xs.all ol=false:=by rw[List.all_eq_false];exact⟨xs[k],List.getElem_mem _,by simp[h]⟩
 simp[bp,this]
theorem vS{xs j}(hj:j+1 < xs.length)(h:Op.bytesLess xs[j].name xs[j+1].name=false):bp xs=false:=by
 have:dg (xs.map aL.name)=false:=sm (j:=j) (by simpa using hj) (by simpa using h);simp[bp,this]
theorem yH{xs}(h:xs.length<=6)(h1:xs.all ol=true)(h2:dg (xs.map aL.name)=true):bp xs=true:=by
 unfold bp;rw[decide_eq_true h,h1,h2];rfl
theorem yw{xs:List aL}{j:Nat}(h:j+1 < xs.length):dg ((xs.take (j+2)).map aL.name)=(dg ((xs.take (j+1)).map aL.name)&&Op.bytesLess xs[j].name xs[j+1].name):=by
 have:=pR (xs:=xs.map aL.name) (j:=j) (by simpa using h);simpa only[List.map_take,List.getElem_map] using this
theorem BT(xs:List aL):dg ((xs.take 1).map aL.name)=true:=by rw[List.map_take];exact rB _
theorem eZ(w ok xs v)(h:aB w ok xs v)(hP:∀ o∈xs,∀ x∈o.paths,x.length<=140737488351232)(hM:bj w):Calls prog 98 #[v] w fun e w'=>e=.returned (.bool (bp xs))/\La w w':=by
 obtain⟨a,c,rfl⟩:=h.form;have H:=aa h;have HP:=aa hP;have HM:=aa hM;have ll:=h.1;unfold maxLen at ll;clear h hP hM;by_cases h6:6 < xs.length
 ·have R:=aa (wf h6);have g1:(6:Int) < (xs.length:Int):=by omega
  have g2:decide (6 < xs.length)=true:=decide_eq_true h6;go_enter func98,ntmps98;go_wp2_with fail
  go_ret;exact⟨by rw[R.o];rfl,MK _ _⟩
 have g1:¬(6:Int) < (xs.length:Int):=by omega
 have g2:decide (6 < xs.length)=false:=decide_eq_false h6;have L6:Ll (xs.length<=6):=aa (by omega);clear h6;go_enter func98,ntmps98;go_wp2_with fail
 go_loopg [10] xs.length (fun gk i wr=>∃ k:Nat,k<=xs.length/\gk=xs.length - k/\i=.int .i64 k/\Ll ((xs.take k).all ol=true/\dg ((xs.take k).map aL.name)=true)/\Ll (La w wr))
 case atStart=>exact⟨0,Nat.zero_le _,rfl,rfl,⟨rfl,rfl⟩,MK _ _⟩
 case round=>
  obtain⟨k,hk,hgk,rfl,AL,BL⟩:=hrel;have GK:=aa hgk;clear hgk;by_cases hlt:k < xs.length
  ·obtain⟨b,off,pa,pc,rfl,hc1,hc2,hn0,hp0,hst,hnl⟩:=H.o.at hlt;have hn:=ah BL.o hn0;have hp:=ah BL.o hp0;have w2:(k:Int) < (xs.length:Int):=by omega
   have ST:=aa hst;have HPK:=aa (HP.o xs[k] (List.getElem_mem _));have PV:Ll (∀ j,k=j+1->w.cell? ⟨b,off+j * 2,none⟩=some (.string ⟨xs[k - 1].name.toArray⟩)):=fun j hj=>by
    subst hj;obtain⟨b',off',_,_,e,-,-,h9,-⟩:=H.o.at (k:=j) (by omega);cases e;exact h9
   have OB:Ll (ol xs[k]=(bT xs[k].name&&jj xs[k].paths)):=aa rfl;have AT:Ll (ol xs[k]=true->(xs.take (k+1)).all ol=true):=fun h9=>vz hlt AL.o.1 h9;have BD:Ll (ol xs[k]=false->bp xs=false):=fun h9=>yJ hlt h9;have RT:Ll (∀ j (hj:k=j+1),dg ((xs.take (k+1)).map aL.name)=(dg ((xs.take k).map aL.name)&&Op.bytesLess xs[k - 1].name xs[k].name)/\(Op.bytesLess xs[k - 1].name xs[k].name=false->bp xs=false)):=fun j hj=>by
    subst hj;exact⟨yw hlt,fun h9=>vS hlt h9⟩
   clear hn0 hp0 hst;obtain⟨nm,hnm⟩:∃ nm,xs[k].name=nm:=⟨_,rfl⟩
   obtain⟨ps,hps⟩:∃ ps,xs[k].paths=ps:=⟨_,rfl⟩
   rw[hps]at hp ST HPK OB;rw[hnm]at hn hnl OB RT;obtain⟨W5,hW5⟩:∃ W,W=wr.alloc (.cells #[.string ⟨nm.toArray⟩,.slice pa ps.length pc] 68):=⟨_,rfl⟩
   have B5:Ll (La w W5):=aa (by rw[hW5];exact ab BL.o (ae _ _));have s0:∀ p:mq W5,p.W.cell? ⟨wr.heap.size,0,none⟩=some (.string ⟨nm.toArray⟩):=mY (by rw[hW5];exact(rl (MN _ _)).1);have s1:∀ p:mq W5,p.W.cell? ⟨wr.heap.size,1,none⟩=some (.slice pa ps.length pc):=mY (by rw[hW5];exact(rl (MN _ _)).2);have NM:Ll (∀ (o:Bool),bT nm=o->∀ p:mq W5,Calls prog 22 #[.string ⟨nm.toArray⟩] p.W fun e w''=>e=.returned (.bool o)/\∃ q:mq W5,w''=q.W):=fun o ho p=>Calls.belW ((lR p.W nm hnl).mono fun e w4 h9=>⟨by rw[<-ho];exact h9.1,by rw[h9.2];exact MK _ _⟩);have GP:Ll (∀ (o:Bool),jj ps=o->∀ p:mq W5,Calls prog 125 #[.slice pa ps.length pc] p.W fun e w''=>e=.returned (.bool o)/\∃ q:mq W5,w''=q.W):=fun o ho p=>Calls.belW ((sR p.W ok ps _ ((ST.o.bel B5.o).bel p.h) HPK.o (HM.o.bel (ab B5.o p.h))).mono fun e w4 h9=>⟨by rw[<-ho];exact h9.1,h9.2⟩);have hmix:prog.follows .mixedOrders=true:=by kernel_rfl
   have HW:=aa hW5;have hne:Nonempty (mq W5):=⟨⟨W5,MK _ _⟩⟩
   clear hnm hps hW5;cases hna:bT nm with
   | false=>
    have NM2:=aa (NM.o false hna);have R:=aa (BD.o (by rw[OB.o,hna];rfl));clear hna;go_wp2_with fail
    rw[<-HW.o];refine dE (by assumption) (by kernel_rfl) ?_;repeat(first | go_big_quiet_step ((go_at_call 22;exact NM2.o _)) | quiet_step ((go_at_call 22;exact NM2.o _)))
    refine wpQuiet_nil ?_;intro _ hw';obtain⟨pq,hw''⟩:=hw';subst hw'';go_wp2_with fail
    go_ret;exact⟨by rw[R.o];rfl,ab B5.o pq.h⟩
   | true=>
    have NM2:=aa (NM.o true hna);have NA:=aa hna;clear hna;cases k with
    | zero=>
     rw[Nat.zero_mul,Nat.add_zero]at hn hp;cases hg:jj ps with
     | false=>
      have GP2:=aa (GP.o false hg);have R:=aa (BD.o (by rw[OB.o,NA.o,hg];rfl));clear hg;go_wp2_with fail
      rw[<-HW.o];refine dE (by assumption) (by kernel_rfl) ?_;repeat(first | go_big_quiet_step ((first | (go_at_call 22;exact NM2.o _) | (go_at_call 125;exact GP2.o _))) | quiet_step ((first | (go_at_call 22;exact NM2.o _) | (go_at_call 125;exact GP2.o _))))
      refine wpQuiet_nil ?_;intro _ hw';obtain⟨pq,hw''⟩:=hw';subst hw'';go_wp2_with fail
      go_ret;exact⟨by rw[R.o];rfl,ab B5.o pq.h⟩
     | true=>
      have GP2:=aa (GP.o true hg);have A2:=aa (AT.o (by rw[OB.o,NA.o,hg];rfl));clear hg;go_wp2_with fail
      rw[<-HW.o];refine dE (by assumption) (by kernel_rfl) ?_;repeat(first | go_big_quiet_step ((first | (go_at_call 22;exact NM2.o _) | (go_at_call 125;exact GP2.o _))) | quiet_step ((first | (go_at_call 22;exact NM2.o _) | (go_at_call 125;exact GP2.o _))))
      refine wpQuiet_nil ?_;intro _ hw';obtain⟨pq,hw''⟩:=hw';subst hw'';go_wp2_with fail
      go_roundg (xs.length - 1)
      case measure=>rw[GK.o];omega
      case rel=>exact⟨1,by omega,rfl,by go_num,⟨A2.o,BT xs⟩,ab B5.o pq.h⟩
    | succ j=>
     have j0:(0:Int) < ((j+1:Nat):Int):=by omega
     have s2:∀ p:mq W5,p.W.cell? ⟨b,off+j * 2,none⟩=some (.string ⟨xs[j].name.toArray⟩):=mY (by have:=ah B5.o (PV.o j rfl);simpa only[Nat.add_sub_cancel] using this);obtain⟨RT1,RT2⟩:=RT.o j rfl;simp only[Nat.add_sub_cancel]at RT1 RT2;obtain⟨nj,hnj⟩:∃ nj,xs[j].name=nj:=⟨_,rfl⟩
     rw[hnj]at s2 RT1 RT2;have RTA:=aa RT1;have RTB:=aa RT2;clear hnj RT1 RT2;cases hbl:Op.bytesLess nj nm with
     | false=>
      have R:=aa (RTB.o hbl);go_wp2_with fail
      rw[<-HW.o];refine dE (by assumption) (by kernel_rfl) ?_;repeat(first | go_big_quiet_step ((go_at_call 22;exact NM2.o _)) | quiet_step ((go_at_call 22;exact NM2.o _)))
      refine wpQuiet_nil ?_;intro _ hw';obtain⟨pq,hw''⟩:=hw';subst hw'';go_wp2_with fail
      go_ret;exact⟨by rw[R.o];rfl,ab B5.o pq.h⟩
     | true=>
      cases hg:jj ps with
      | false=>
       have GP2:=aa (GP.o false hg);have R:=aa (BD.o (by rw[OB.o,NA.o,hg];rfl));clear hg;go_wp2_with fail
       rw[<-HW.o];refine dE (by assumption) (by kernel_rfl) ?_;repeat(first | go_big_quiet_step ((first | (go_at_call 22;exact NM2.o _) | (go_at_call 125;exact GP2.o _))) | quiet_step ((first | (go_at_call 22;exact NM2.o _) | (go_at_call 125;exact GP2.o _))))
       refine wpQuiet_nil ?_;intro _ hw';obtain⟨pq,hw''⟩:=hw';subst hw'';go_wp2_with fail
       go_ret;exact⟨by rw[R.o];rfl,ab B5.o pq.h⟩
      | true=>
       have GP2:=aa (GP.o true hg);have A2:=aa (AT.o (by rw[OB.o,NA.o,hg];rfl));have HBL:=aa hbl;clear hg;go_wp2_with fail
       rw[<-HW.o];refine dE (by assumption) (by kernel_rfl) ?_;repeat(first | go_big_quiet_step ((first | (go_at_call 22;exact NM2.o _) | (go_at_call 125;exact GP2.o _))) | quiet_step ((first | (go_at_call 22;exact NM2.o _) | (go_at_call 125;exact GP2.o _))))
       refine wpQuiet_nil ?_;intro _ hw';obtain⟨pq,hw''⟩:=hw';subst hw'';go_wp2_with fail
       go_roundg (xs.length - (j+1+1))
       case measure=>rw[GK.o];omega
       case rel=>exact⟨j+1+1,by omega,rfl,by go_num,⟨A2.o,by rw[RTA.o,AL.o.2,HBL.o];rfl⟩,ab B5.o pq.h⟩
  ·have d1:¬(k:Int) < (xs.length:Int):=by omega
   have Mc:k=xs.length:=by omega
   have R:Ll (bp xs=true):=aa (by have:=AL.o;rw[Mc,List.take_length]at this;exact yH L6.o this.1 this.2);clear Mc;go_wp2_with fail
   go_ret;exact⟨by rw[R.o];rfl,BL.o⟩
end Go.Proofs.YtkjeiljdoljjgaaGreatDoor
