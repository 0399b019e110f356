import Derived.Test.YtbdlfclnkpofaaaGreatDoorG5
set_option maxRecDepth 100000
set_option maxHeartbeats 40000000
set_option linter.unusedSimpArgs false
set_option linter.unusedVariables false
namespace Go.Proofs.YtbdlfclnkpofaaaGreatDoor
open Go.RowKit
open _root_.Go.Proofs.Tryz
section
attribute [local go_sem ↓] Go.wp_at_zero Go.wp_at_succ
theorem yX(w ok d t x v xv key i)(h:bu w ok (d+1) t v)(hx:bu w ok d x xv)(hf:dO t key=some i)(L9:t.l.length<=100000):Calls prog 87 #[v,aR key,xv] w fun e w'=>∃ r,e=.returned r/\bu w' (bQ ok w.heap.size) (d+1) { t with l:=t.l.take i++x :: t.l.drop (i+1) } r/\La w w':=by
 have H:=aa h;have HX:=aa hx;obtain⟨ks,ls,rfl,h1,h2,h3,h4,h5⟩:=h;have K5:=aa h5;have KK:Ll (dW t.kind/\dW t.n/\t.s.length<=maxLen/\ao w ok t.keys ks):=⟨h1,h2,h3,h4⟩
 obtain⟨a1,c1,rfl⟩:=h4.form;have l1:=h4.1;obtain⟨f1,f2,f3,f4⟩:=fW hf;have F:=aa hf;have FP:=aa f1;clear hf f1 f2;obtain⟨_,K5'⟩:=K5.o;rcases K5' with⟨e,_⟩ | ⟨b,off,c,hls',hc1,hc2,Mb⟩
 ·rw[e]at f3;simp at f3
 subst hls';obtain⟨xk,xl,hxv⟩:∃ xk xl,xv=.agg #[.int .i64 x.kind,.int .i64 x.n,aR x.s,xk,xl]:=by
  match d,hx with
  | d+1,hx=>obtain⟨ks,ls,e,_⟩:=hx;exact⟨ks,ls,e⟩
 subst hxv;obtain⟨-,-,-,⟨a7,c7,rfl⟩,⟨a8,c8,rfl⟩⟩:=hx.agg;unfold maxLen at l1 h3 hc2;unfold aR;clear h4 h5 h1 h2 hx Mb;go_enter func87,ntmps87;go_wp2_with fail
 refine Lk (ni _ ok _ t _ (by exact H.o.bel (ab (ab (ae _ _) (ae _ _)) (ae _ _)))) fun w1 hb1=>?_;rw[FP.o];have bx:Ll (ag w1 w.heap.size (.int .i64 t.kind) (.int .i64 t.n) (.string ⟨t.s.toArray⟩) (.slice a1 t.keys.length c1) (.slice (some ⟨b,off,none⟩) t.l.length c)/\ag w1 (w.heap.size+1) (.int .i64 x.kind) (.int .i64 x.n) (.string ⟨x.s.toArray⟩) (.slice a7 x.keys.length c7) (.slice a8 x.l.length c8)/\ag w1 (w.heap.size+2) (.int .i64 0) (.int .i64 0) (.string ⟨#[]⟩) (.slice none 0 0) (.slice none 0 0)):=⟨af hb1 (lI w _ _ _),af hb1 (mE w _ _ _),af hb1 (jI w _ _ _)⟩
 obtain⟨p0,p1,p2,p3,p4,-,-,-,p9,p10⟩:=bx.o.1.c;have B1:Ll (La w w1):=ab (ab (ab (ae _ _) (ae _ _)) (ae _ _)) hb1;clear hb1;go_wp2_with fail
 refine Lk (kJ _ ok _ t _ key (by exact H.o.bel B1.o)) fun w2 hb2=>?_;rw[F.o];have bx2:Ll (ag w2 w.heap.size (.int .i64 t.kind) (.int .i64 t.n) (.string ⟨t.s.toArray⟩) (.slice a1 t.keys.length c1) (.slice (some ⟨b,off,none⟩) t.l.length c)/\ag w2 (w.heap.size+1) (.int .i64 x.kind) (.int .i64 x.n) (.string ⟨x.s.toArray⟩) (.slice a7 x.keys.length c7) (.slice a8 x.l.length c8)/\ag w2 (w.heap.size+2) (.int .i64 0) (.int .i64 0) (.string ⟨#[]⟩) (.slice none 0 0) (.slice none 0 0)):=⟨af hb2 bx.o.1,af hb2 bx.o.2.1,af hb2 bx.o.2.2⟩
 have B2:Ll (La w w2):=ab B1.o hb2;have hsz2:w.heap.size+2 < w2.heap.size:=bx2.o.2.2.lt;clear hb2 bx B1;unfold pS;obtain⟨p0,p1,p2,p3,p4,-,-,-,p9,p10⟩:=bx2.o.1.c;have q0_:=bx2.o.2.1.c;have i0:0<=(i:Int):=by omega
 have i1:(i:Int)<=(c:Int):=by omega
 have i2:(i:Int)+1<=(t.l.length:Int):=by omega
 have i3:(t.l.length:Int)<=(c:Int):=by omega
 obtain⟨cs1,cs2,r1,s1,r2,s2⟩:=km K5.o i (i+1) (by omega) f3 (by omega);obtain⟨a3,hifs⟩:∃ a3,(if c=i+1 then (some ⟨b,off,none⟩:Option Addr) else some ⟨b,off+(i+1) * 5,none⟩)=a3:=⟨_,rfl⟩
 rw[hifs]at s2;have PP:Ll (cA (bu w ok d) (t.l.take i) cs1/\du w 5 (.slice (some ⟨b,off,none⟩) i c) i cs1/\cA (bu w ok d) (t.l.drop (i+1)) cs2/\du w 5 (.slice a3 (t.l.length - (i+1)) (c - (i+1))) (t.l.length - (i+1)) cs2):=⟨r1,s1,r2,s2⟩
 clear r1 s1 r2 s2;go_wp2_with fail
 have hw1:IntKind.i64.wrap ((i:Int)+1)=(i:Int)+1:=by rw[IntKind.wrap_i64];omega
 have i4:(0:Int)<=(i:Int)+1:=by omega
 have hS:Ll (∀ W',La w2 W'->ag W' w.heap.size (.int .i64 t.kind) (.int .i64 t.n) (.string ⟨t.s.toArray⟩) (.slice a1 t.keys.length c1) (.slice (some ⟨b,off,none⟩) t.l.length c)/\ag W' (w.heap.size+1) (.int .i64 x.kind) (.int .i64 x.n) (.string ⟨x.s.toArray⟩) (.slice a7 x.keys.length c7) (.slice a8 x.l.length c8)/\ag W' (w.heap.size+2) (.int .i64 0) (.int .i64 0) (.string ⟨#[]⟩) (.slice none 0 0) (.slice none 0 0)):=
  fun W' hb=>⟨af hb bx2.o.1,af hb bx2.o.2.1,af hb bx2.o.2.2⟩
 have hcon:Ll (∀ W,W.heap=((w2.alloc (.cells #[.int .i64 x.kind,.int .i64 x.n,.string ⟨x.s.toArray⟩,.slice a7 x.keys.length c7,.slice a8 x.l.length c8] 25)).alloc (.cells #[.slice (some ⟨b,off,none⟩) i c,.slice (some ⟨w2.heap.size,0,none⟩) 1 1,.slice a3 (t.l.length - (i+1)) (c - (i+1))] 23)).heap->W.os=w2.os->W.tape=w2.tape->W.output=w2.output ->
  Calls prog 126 #[.slice (some ⟨w2.heap.size+1,0,none⟩) 3 3] W fun e w'=>∃ g cap,e=.returned (.slice (some ⟨g,0,none⟩) t.l.length cap)/\w'.ownsRow w2.heap.size 25 5 (.slice (some ⟨g,0,none⟩) t.l.length cap) t.l.length (cs1++[.int .i64 x.kind,.int .i64 x.n,.string ⟨x.s.toArray⟩,.slice a7 x.keys.length c7,.slice a8 x.l.length c8]++cs2)/\La w2 w'):=by
  intro W e1 e2 e3 e4;have LY:La w2 W:=by
   have:=ab (ae w2 (.cells #[.int .i64 x.kind,.int .i64 x.n,.string ⟨x.s.toArray⟩,.slice a7 x.keys.length c7,.slice a8 x.l.length c8] 25)) (ae _ (.cells #[.slice (some ⟨b,off,none⟩) i c,.slice (some ⟨w2.heap.size,0,none⟩) 1 1,.slice a3 (t.l.length - (i+1)) (c - (i+1))] 23));exact⟨e2,e3,e4,by rw[e1];exact this.size,fun k hk=>by rw[e1];exact this.block k hk⟩
  have ha:=fb w2 (.cells #[.int .i64 x.kind,.int .i64 x.n,.string ⟨x.s.toArray⟩,.slice a7 x.keys.length c7,.slice a8 x.l.length c8] 25) (.cells #[.slice (some ⟨b,off,none⟩) i c,.slice (some ⟨w2.heap.size,0,none⟩) 1 1,.slice a3 (t.l.length - (i+1)) (c - (i+1))] 23);have hb:=et w2 (.cells #[.int .i64 x.kind,.int .i64 x.n,.string ⟨x.s.toArray⟩,.slice a7 x.keys.length c7,.slice a8 x.l.length c8] 25) (.cells #[.slice (some ⟨b,off,none⟩) i c,.slice (some ⟨w2.heap.size,0,none⟩) 1 1,.slice a3 (t.l.length - (i+1)) (c - (i+1))] 23);rw[<-e1]at ha hb;have hbw:La w W:=ab B2.o LY;refine(vB W (w2.heap.size+1) ⟨_,i,cs1⟩ ⟨_,1,_⟩ ⟨_,t.l.length - (i+1),cs2⟩ (by simp[World.cell?,hb]) (by simp[World.cell?,hb]) (by simp[World.cell?,hb]) (PP.o.2.1.bel hbw) (Gj ha (Ji _ _ _ _ _ _ _ _ _)) (PP.o.2.2.2.bel hbw) (by simp only;omega)).mono ?_;rintro e w' ⟨v,rfl,ho,hb9⟩;have en:i+1+(t.l.length - (i+1))=t.l.length:=by omega
  simp only at ho;rw[en]at ho;have ho':w'.ownsRow w2.heap.size 25 5 v t.l.length (cs1++[.int .i64 x.kind,.int .i64 x.n,.string ⟨x.s.toArray⟩,.slice a7 x.keys.length c7,.slice a8 x.l.length c8]++cs2):=TP ho LY.size;rcases ho'.2 with⟨_,h0⟩ | ⟨g,cap,cur,e,rest⟩
  ·omega
  ·subst e;exact⟨g,cap,rfl,ho',ab LY hb9⟩
 have k4:∀ o,(w2.alloc o).cell? ⟨w.heap.size,4,none⟩=some (.slice (some ⟨b,off,none⟩) t.l.length c):=fun o=>(hS.o _ (ae w2 o)).1.c.2.2.2.2.1;have m0:∀ o,(w2.alloc o).cell? ⟨w.heap.size+1,0,none⟩=some (.int .i64 x.kind):=fun o=>(hS.o _ (ae w2 o)).2.1.c.1;have m1:∀ o,(w2.alloc o).cell? ⟨w.heap.size+1,1,none⟩=some (.int .i64 x.n):=fun o=>(hS.o _ (ae w2 o)).2.1.c.2.1;have m2:∀ o,(w2.alloc o).cell? ⟨w.heap.size+1,2,none⟩=some (.string ⟨x.s.toArray⟩):=fun o=>(hS.o _ (ae w2 o)).2.1.c.2.2.1;have m3:∀ o,(w2.alloc o).cell? ⟨w.heap.size+1,3,none⟩=some (.slice a7 x.keys.length c7):=fun o=>(hS.o _ (ae w2 o)).2.1.c.2.2.2.1;have m4:∀ o,(w2.alloc o).cell? ⟨w.heap.size+1,4,none⟩=some (.slice a8 x.l.length c8):=fun o=>(hS.o _ (ae w2 o)).2.1.c.2.2.2.2.1;have fin:Ll (∀ w3 g cap,w3.ownsRow w2.heap.size 25 5 (.slice (some ⟨g,0,none⟩) t.l.length cap) t.l.length (cs1++[.int .i64 x.kind,.int .i64 x.n,.string ⟨x.s.toArray⟩,.slice a7 x.keys.length c7,.slice a8 x.l.length c8]++cs2)->La w2 w3 ->
  bu (ar (w3.setCell ⟨w.heap.size,4,none⟩ (.slice (some ⟨g,0,none⟩) t.l.length cap)) (w.heap.size+2) (.int .i64 t.kind) (.int .i64 t.n) (.string ⟨t.s.toArray⟩) (.slice a1 t.keys.length c1) (.slice (some ⟨g,0,none⟩) t.l.length cap)) (bQ ok w.heap.size) (d+1) { t with l:=t.l.take i++x :: t.l.drop (i+1) } (.agg #[.int .i64 t.kind,.int .i64 t.n,.string ⟨t.s.toArray⟩,.slice a1 t.keys.length c1,.slice (some ⟨g,0,none⟩) t.l.length cap]) /\
  La w (ar (w3.setCell ⟨w.heap.size,4,none⟩ (.slice (some ⟨g,0,none⟩) t.l.length cap)) (w.heap.size+2) (.int .i64 t.kind) (.int .i64 t.n) (.string ⟨t.s.toArray⟩) (.slice a1 t.keys.length c1) (.slice (some ⟨g,0,none⟩) t.l.length cap)) /\
  ag (ar (w3.setCell ⟨w.heap.size,4,none⟩ (.slice (some ⟨g,0,none⟩) t.l.length cap)) (w.heap.size+2) (.int .i64 t.kind) (.int .i64 t.n) (.string ⟨t.s.toArray⟩) (.slice a1 t.keys.length c1) (.slice (some ⟨g,0,none⟩) t.l.length cap)) (w.heap.size+2) (.int .i64 t.kind) (.int .i64 t.n) (.string ⟨t.s.toArray⟩) (.slice a1 t.keys.length c1) (.slice (some ⟨g,0,none⟩) t.l.length cap)):=by
  intro w3 g cap ho hb;have g1:w3.grownBy (w3.setCell ⟨w.heap.size,4,none⟩ (.slice (some ⟨g,0,none⟩) t.l.length cap)) (some w.heap.size):=ap (az _ _) _ _;have g2:=aI (w3.setCell ⟨w.heap.size,4,none⟩ (.slice (some ⟨g,0,none⟩) t.l.length cap)) (w.heap.size+2) (.int .i64 t.kind) (.int .i64 t.n) (.string ⟨t.s.toArray⟩) (.slice a1 t.keys.length c1) (.slice (some ⟨g,0,none⟩) t.l.length cap);have LU:=((hS.o _ hb).2.2.grown g1 (by simp)).set (.int .i64 t.kind) (.int .i64 t.n) (.string ⟨t.s.toArray⟩) (.slice a1 t.keys.length c1) (.slice (some ⟨g,0,none⟩) t.l.length cap);have hbw:La w w3:=ab B2.o hb;have hb9:La w (ar (w3.setCell ⟨w.heap.size,4,none⟩ (.slice (some ⟨g,0,none⟩) t.l.length cap)) (w.heap.size+2) (.int .i64 t.kind) (.int .i64 t.n) (.string ⟨t.s.toArray⟩) (.slice a1 t.keys.length c1) (.slice (some ⟨g,0,none⟩) t.l.length cap)):=
   bS (eD (bi (aq hbw) (MG _) _ _) (by omega) _ _ _ _ _)
  refine⟨⟨_,_,rfl,KK.o.1,KK.o.2.1,KK.o.2.2.1,?_,?_⟩,hb9,LU⟩
  ·exact(KK.o.2.2.2.bel hb9).imp fun a x h1 h2=>⟨.inl h1,h2⟩
  ·have ho9:=aW (aW ho g1 (by omega)) g2 (by omega);have LT:t.l.length=(t.l.take i++x :: t.l.drop (i+1)).length:=by simp;omega
   refine fJ LT ho9 ?_ (fun k hk=>.inr (by omega)) (by rw[<-LT];unfold maxLen;omega);have rx:cA (bu _ (bQ ok w.heap.size) d) [x] [.int .i64 x.kind,.int .i64 x.n,.string ⟨x.s.toArray⟩,.slice a7 x.keys.length c7,.slice a8 x.l.length c8]:=⟨_,_,_,_,_,[],rfl,(HX.o.bel hb9).toN,rfl⟩
   have:=((PP.o.2.2.1.bel (B:=w.heap.size) hb9).append rx).append (PP.o.1.bel (B:=w.heap.size) hb9);rw[List.append_assoc];exact this
 go_region_with ((go_at_call 126;refine(hcon.o _ (by rfl) (by rfl) (by rfl) (by rfl)).mono ?_;rintro e w3 ⟨g,cap,rfl,ho3,hb3⟩;obtain⟨p0,p1,p2,p3,p4,-,-,-,p9,p10⟩:=(hS.o _ hb3).1.c;have x0_:=(hS.o _ hb3).2.2.c;have O3:=aa ho3;have HB3:=aa hb3;clear ho3 hb3))
 all_goals
  go_wp2_with fail
  obtain⟨f1,f2,f3⟩:=fin.o _ g cap O3.o HB3.o;have z0_:=f3.c;refine MM (v:=.agg #[.int .i64 t.kind,.int .i64 t.n,.string ⟨t.s.toArray⟩,.slice a1 t.keys.length c1,.slice (some ⟨g,0,none⟩) t.l.length cap]) ?_ rfl ?_
  ·simp only[ar]at z0_;simp[results,results87,go_sem,z0_]
  ·exact⟨_,rfl,f1,f2⟩
end
variable {w:World}
variable {g:Nat}
def zo (f:Nat):Prop:=∀ (w:LC) (b:Nat) (s:ByteArray) (st:Option Lz),bf w b s st->cn w->4<=b->(st.getD []).length < f ->
 Calls prog 73 #[.pointer (some ⟨b,0,none⟩)] w fun e w'=>∃ (t:V) (st':Option Lz) (a7 a8:Option Addr) (c7 c8:Nat),
  e=.returned (.agg #[.int .i64 t.kind,.int .i64 t.n,.string ⟨t.s.toArray⟩,.slice a7 t.keys.length c7,.slice a8 t.l.length c8]) /\
  bu w' (fun k=>w.heap.size<=k) f t (.agg #[.int .i64 t.kind,.int .i64 t.n,.string ⟨t.s.toArray⟩,.slice a7 t.keys.length c7,.slice a8 t.l.length c8])/\st.bind (cH f)=st'.map (fun l=>(t,l))/\bf w' b s st'/\w.grownBy w' (some b)
theorem EV{c0 c1 c2 c3 c4}(h:ag w g c0 c1 c2 c3 c4)(v):ag (w.setCell ⟨g,4,none⟩ v) g c0 c1 c2 c3 v:=ak h 4 v
theorem mj{ops:Array Oper}{o:Oper}{a}{K:Act->LC->Prop}{Q:Exit->Act->LC->Prop}{E:Prop}(hgd:o.guard=none)(s x:Operand)(ho:o.op=.call { callee:=.builtin .append,args:=#[s,x],argTypes:=#[23,23] })(B v n cs k m ss a7 a8 l7 c7 l8 c8)(hs:a.eval s=v)(hx:a.eval x=.slice (some ⟨w.heap.size,0,none⟩) 1 1)(hown:w.ownsRow B 25 5 v n cs)(hB:B<=w.heap.size)(hl:n<=1000000)(hK:∀ g cap w',w'.ownsRow B 25 5 (.slice (some ⟨g,0,none⟩) (n+1) cap) (n+1) (cs++[.int .i64 k,.int .i64 m,.string ss,.slice a7 l7 c7,.slice a8 l8 c8])->(w.alloc (.cells #[.int .i64 k,.int .i64 m,.string ss,.slice a7 l7 c7,.slice a8 l8 c8] 25)).grownBy w' v.ownBlock->(v.ownBlock=some g\/w.heap.size < g)->K (a.put o.dst (.slice (some ⟨g,0,none⟩) (n+1) cap)) w'):if Region.wanted o (yielded ops a.tmps)=true then Oper.wp prog o a (w.alloc (.cells #[.int .i64 k,.int .i64 m,.string ss,.slice a7 l7 c7,.slice a8 l8 c8] 25)) K Q else E:=by
 obtain⟨i0,hi,hz0,hz1,hz2⟩:=info_parts ye;have hb:ag (w.alloc (.cells #[.int .i64 k,.int .i64 m,.string ss,.slice a7 l7 c7,.slice a8 l8 c8] 25)) w.heap.size (.int .i64 k) (.int .i64 m) (.string ss) (.slice a7 l7 c7) (.slice a8 l8 c8):=MN w _;obtain⟨h1,h2,h3,h4⟩:=Gj hb (Ji _ _ _ _ _ _ _ _ _);refine step_append_lies _ hgd s x 23 ho B 25 i0 _ 5 80 underlying23 hi hz0 hz1 hz2 rfl (by decide) v n cs hs (hown.alloc _) ⟨w.heap.size,0,none⟩ 1 1 [.int .i64 k,.int .i64 m,.string ss,.slice a7 l7 c7,.slice a8 l8 c8] hx rfl ?_ h3 (by decide) (by unfold maxLen;omega) (by omega) (by simp;omega) (w.heap.size+1) (by simp) ?_
 ·rcases h4 with⟨e,_⟩ | ⟨ad,c,e,hc⟩
  ·simp at e
  ·simp only[Value.slice.injEq,Option.some.injEq]at e;obtain⟨rfl,-,-⟩:=e;exact hc
 ·intro g cap w' ho' hg' hor _;exact hK g cap w' ho' hg' (hor.imp id fun e=>by omega)
theorem qp{g:Lz->Option (V × Lz)}{st:Option Lz}:st.bind (jH g)=(st.bind (aA 91)).bind fun l=>match aA 93 l with | some r=>some (⟨4,0,[],[],[]⟩,r) | none=>(g (l.dropWhile cw)).bind fun p=>fH g (p.2.length+1) [p.1] p.2:=by
 cases st <;> rfl
theorem vI{g:Lz->Option (V × Lz)}(hg:kT g)(n):∀ (m:Nat) (acc:List V) (l:Lz),l.length < n->l.length < m->fH g n acc l=fH g m acc l:=by
 induction n with
 | zero=>intro m acc l h;omega
 | succ n ih=>
  intro m acc l h1 h2;cases m with
  | zero=>omega
  | succ m=>
   simp only[fH];split
   ·rename_i r hr;have:=bU hr;cases hgr:g r with
    | none=>rfl
    | some p=>
     have:=hg _ _ hgr;exact ih m _ _ (by omega) (by omega)
   ·rfl
def iK (g:Lz->Option (V × Lz)) (acc:List V) (st:Option Lz):Option (V × Lz):=st.bind fun l=>fH g (l.length+1) acc l
theorem zG{g:Lz->Option (V × Lz)}(hg:kT g){acc}{st1 st3:Option Lz}{t0}(h2:(st1.bind (aA 44)).isSome=true)(h3:(st1.bind (aA 44)).bind g=st3.map (fun l=>(t0,l))):iK g acc st1=iK g (acc++[t0]) st3/\dw st3 < dw st1:=by
 cases st1 with
 | none=>cases h2
 | some l=>
  cases hm:aA 44 l with
  | none=>simp[hm]at h2
  | some r=>
   have hr:=bU hm;simp only[Option.bind_some,hm]at h3;have e:iK g acc (some l)=(g r).bind fun p=>fH g l.length (acc++[p.1]) p.2:=by
    show fH g (l.length+1) acc l=_;simp only[fH,hm]
   rw[e,h3];cases st3 with
   | none=>exact⟨rfl,by simp[dw]⟩
   | some l3=>
    have hl:=hg _ _ h3;simp only at hl;exact⟨vI hg _ _ _ _ (by simp only;omega) (by simp only;omega),by simp only[dw];omega⟩
theorem Cz{g:Lz->Option (V × Lz)}{acc}{st1:Option Lz}(h2:(st1.bind (aA 44)).isSome=false):iK g acc st1=((st1.map (List.dropWhile cw)).bind (aA 93)).map fun r=>(⟨4,0,[],[],acc⟩,r):=by
 cases st1 with
 | none=>rfl
 | some l=>
  cases hm:aA 44 l with
  | some r=>simp[hm]at h2
  | none=>
   show fH g (l.length+1) acc l=_;simp only[fH,hm];rfl
theorem zA{g:Lz->Option (V × Lz)}{st st3:Option Lz}{t0}(h2:((st.bind (aA 91)).bind (aA 93)).isSome=false)(h3:((st.bind (aA 91)).map (List.dropWhile cw)).bind g=st3.map (fun l=>(t0,l))):st.bind (jH g)=iK g [t0] st3:=by
 rw[qp];cases hs:st.bind (aA 91) with
 | none=>
  rw[hs]at h3;cases st3 with
  | none=>rfl
  | some l=>cases h3
 | some l=>
  rw[hs]at h2 h3;simp only[Option.bind_some]at h2 ⊢;have hm:aA 93 l=none:=by cases hm:aA 93 l with
   | none=>rfl
   | some r=>simp[hm]at h2
  rw[hm];have h3':g (l.dropWhile cw)=st3.map (fun l=>(t0,l)):=h3;simp only[h3'];cases st3 <;> rfl
def Gs (f:Nat) (w:LC) (b:Nat) (s:ByteArray) (T:Option (V × Lz)) (k:Nat) (wr:LC):Prop:=
 ∃ (acc:List V) (st1:Option Lz) (g cap:Nat) (cs:List Value),k=dw st1/\iK (cH f) acc st1=T/\acc.length+k<=3000/\(st1.getD []).length < f /\
  ag wr w.heap.size (.int .i64 0) (.int .i64 0) (.string ⟨#[]⟩) (.slice none 0 0) (.slice none 0 0) /\
  ag wr (w.heap.size+1) (.int .i64 4) (.int .i64 0) (.string ⟨#[]⟩) (.slice none 0 0) (.slice (some ⟨g,0,none⟩) acc.length cap) /\
  wr.ownsRow (w.heap.size+2) 25 5 (.slice (some ⟨g,0,none⟩) acc.length cap) acc.length cs/\cA (bu wr (fun k=>w.heap.size+2<=k/\k≠g) f) acc cs/\bf wr b s st1/\cn wr/\w.grownBy wr (some b)
theorem wn{f}{w3 w4:LC}{b s}{T:Option (V × Lz)}{t0}{st3:Option Lz}{acc cs lv a7 a8 c7 c8 cap g0}(hbl:b < w.heap.size)(bxC:ag w3 w.heap.size (.int .i64 0) (.int .i64 0) (.string ⟨#[]⟩) (.slice none 0 0) (.slice none 0 0))(bxA:ag w3 (w.heap.size+1) (.int .i64 4) (.int .i64 0) (.string ⟨#[]⟩) (.slice none 0 0) lv)(hown3:w3.ownsRow (w.heap.size+2) 25 5 lv acc.length cs)(hlv:lv.ownBlock=none\/lv.ownBlock=some g0)(hrow3:cA (bu w3 (fun k=>w.heap.size+2<=k/\k≠g0) f) acc cs)(hv:bu w3 (fun k=>w.heap.size+2<=k/\k≠g0) f t0 (.agg #[.int .i64 t0.kind,.int .i64 t0.n,.string ⟨t0.s.toArray⟩,.slice a7 t0.keys.length c7,.slice a8 t0.l.length c8]))(hT:iK (cH f) (acc++[t0]) st3=T)(hl:(st3.getD []).length < f)(hc:acc.length+1+dw st3<=3000)(hr:bf w3 b s st3)(hG:cn w3)(hb4:4<=b)(hg:w.grownBy w3 (some b))(ho4:w4.ownsRow (w.heap.size+2) 25 5 (.slice (some ⟨g,0,none⟩) (acc.length+1) cap) (acc.length+1) (cs++[.int .i64 t0.kind,.int .i64 t0.n,.string ⟨t0.s.toArray⟩,.slice a7 t0.keys.length c7,.slice a8 t0.l.length c8]))(hg4:(w3.alloc (.cells #[.int .i64 t0.kind,.int .i64 t0.n,.string ⟨t0.s.toArray⟩,.slice a7 t0.keys.length c7,.slice a8 t0.l.length c8] 25)).grownBy w4 lv.ownBlock)(hgg:lv.ownBlock=some g\/w3.heap.size < g):Gs f w b s T (dw st3) (w4.setCell ⟨w.heap.size+1,4,none⟩ (.slice (some ⟨g,0,none⟩) (acc.length+1) cap)):=by
 have hlow:∀ k,lv.ownBlock=some k->w.heap.size+2<=k:=fun k hk=>(hown3.lt k hk).1;have g34:w3.grownBy w4 lv.ownBlock:=am (World.grownBy_alloc w3 _ _) hg4;have g5:w4.grownBy (w4.setCell ⟨w.heap.size+1,4,none⟩ (.slice (some ⟨g,0,none⟩) (acc.length+1) cap)) (some (w.heap.size+1)):=ap (az _ _) _ _;have ne:∀ k,k < w.heap.size+2->some k≠lv.ownBlock:=fun k hk e=>by have:=hlow k e.symm;omega
 have conv:∀ x v,bu w3 (fun k=>w.heap.size+2<=k/\k≠g0) f x v->bu (w4.setCell ⟨w.heap.size+1,4,none⟩ (.slice (some ⟨g,0,none⟩) (acc.length+1) cap)) (fun k=>w.heap.size+2<=k/\k≠g) f x v:=by
  intro x v h;have h1:=(h.below.grown g34 (fun k hk e=>by rcases hlv with h0 | h0 <;> rw[h0]at e <;> simp at e;exact hk.1.2 e)).grown g5 (fun k hk e=>by simp at e;omega);refine h1.weak fun k hk=>⟨hk.1.1,fun e=>?_⟩
  subst e;rcases hgg with h0 | h0
  ·rcases hlv with h2 | h2
   ·rw[h2]at h0;cases h0
   ·rw[h2]at h0;cases h0;exact hk.1.2 rfl
  ·omega
 refine⟨acc++[t0],st3,g,cap,cs++[.int .i64 t0.kind,.int .i64 t0.n,.string ⟨t0.s.toArray⟩,.slice a7 t0.keys.length c7,.slice a8 t0.l.length c8],rfl,hT,by simp only[Mx,My,List.length_nil];omega,hl,?_,?_,?_,?_,?_,?_,?_⟩
 ·exact(bxC.grown g34 (ne _ (by omega))).grown g5 (by simp)
 ·have:=EV (bxA.grown g34 (ne _ (by omega))) (.slice (some ⟨g,0,none⟩) (acc.length+1) cap);simpa using this
 ·have:=aW ho4 g5 (by omega);simpa using this
 ·have rx:cA (bu (w4.setCell ⟨w.heap.size+1,4,none⟩ (.slice (some ⟨g,0,none⟩) (acc.length+1) cap)) (fun k=>w.heap.size+2<=k/\k≠g) f) [t0] [.int .i64 t0.kind,.int .i64 t0.n,.string ⟨t0.s.toArray⟩,.slice a7 t0.keys.length c7,.slice a8 t0.l.length c8]:=⟨_,_,_,_,_,[],rfl,conv _ _ hv,rfl⟩
  exact rx.append (hrow3.imp conv)
 ·exact(hr.grown g34 (ne _ (by omega))).grown g5 (by simp;omega)
 ·exact(hG.grown g34 (fun k hk=>by have:=hlow k hk;have:=hG.size;omega)).grown g5 (fun k hk=>by cases hk;have:=hG.size;omega)
 ·exact bi (dv hg g34 (fun k hk=>by have:=hlow k hk;omega)) (by omega) _ _
theorem Gz(f)(ih:zo f)(w:LC)(b s)(st:Option Lz)(h:bf w b s st)(hG:cn w)(hb4:4<=b)(hf0:0 < f)(LT:(st.getD []).length < f+1):Calls prog 102 #[.pointer (some ⟨b,0,none⟩)] w fun e w'=>∃ (t:V) (st':Option Lz) (a7 a8:Option Addr) (c7 c8:Nat),
 e=.returned (.agg #[.int .i64 t.kind,.int .i64 t.n,.string ⟨t.s.toArray⟩,.slice a7 t.keys.length c7,.slice a8 t.l.length c8]) /\
 bu w' (fun k=>w.heap.size<=k) (f+1) t (.agg #[.int .i64 t.kind,.int .i64 t.n,.string ⟨t.s.toArray⟩,.slice a7 t.keys.length c7,.slice a8 t.l.length c8])/\st.bind (jH (cH f))=st'.map (fun l=>(t,l))/\bf w' b s st'/\w.grownBy w' (some b):=by
 have H:=aa h;have HG:=aa hG;have IH:=aa ih;have hbl:=h.lt;clear h hG ih;go_enter func102,ntmps102;go_wp2_with fail
 refine(kP _ b s st 91 91 rfl (by decide) (by exact H.o.grown (bd (World.grownBy_alloc w _ none) _) (by simp))).mono ?_;rintro e w1 ⟨rfl,h1,hg1⟩;have bx1:Ll (ag w1 w.heap.size (.int .i64 0) (.int .i64 0) (.string ⟨#[]⟩) (.slice none 0 0) (.slice none 0 0)/\ag w1 (w.heap.size+1) (.int .i64 4) (.int .i64 0) (.string ⟨#[]⟩) (.slice none 0 0) (.slice none 0 0)):=
  ⟨ag.grown (fb w _ _) hg1 (by simp;omega),ag.grown (et w _ _) hg1 (by simp;omega)⟩
 have G1:Ll (bf w1 b s (st.bind (aA 91))/\w.grownBy w1 (some b)):=⟨h1,am (bd (bd (az _ _) _) _) hg1⟩
 clear h1 hg1;go_wp2_with fail
 refine(mD _ b s (st.bind (aA 91)) 93 93 rfl (by decide) (by exact G1.o.1)).mono ?_;rintro e w2 ⟨rfl,h2,hg2⟩;have bx2:Ll (ag w2 w.heap.size (.int .i64 0) (.int .i64 0) (.string ⟨#[]⟩) (.slice none 0 0) (.slice none 0 0)/\ag w2 (w.heap.size+1) (.int .i64 4) (.int .i64 0) (.string ⟨#[]⟩) (.slice none 0 0) (.slice none 0 0)):=
  ⟨bx1.o.1.grown hg2 (by simp;omega),bx1.o.2.grown hg2 (by simp;omega)⟩
 have G2:Ll (bf w2 b s (if ((st.bind (aA 91)).bind (aA 93)).isSome then (st.bind (aA 91)).bind (aA 93) else (st.bind (aA 91)).map (List.dropWhile cw))/\w.grownBy w2 (some b)):=⟨h2,am G1.o.2 hg2⟩
 have x0_:=bx2.o.1.c;obtain⟨p0,p1,p2,p3,p4,-,-,-,p9,p10⟩:=bx2.o.2.c;clear h2 hg2 bx1 G1;cases hm:((st.bind (aA 91)).bind (aA 93)).isSome with
 | true=>
  have HM:=aa hm;obtain⟨z0,z1,z2,z3,z4,-⟩:=(bx2.o.1.set (.int .i64 4) (.int .i64 0) (.string ⟨#[]⟩) (.slice none 0 0) (.slice none 0 0)).c;have Z:Ll (_/\_/\_/\_/\_):=⟨z0,z1,z2,z3,z4⟩
  clear hm;go_wp2_with fail
  obtain⟨z0,z1,z2,z3,z4⟩:=Z.o;refine MM (v:=cz 4 0 []) ?_ rfl ?_
  ·simp only[ar,aR]at z0 z1 z2 z3 z4;simp[results,results102,go_sem,z0,z1,z2,z3,z4,cz,aR]
  ·refine⟨bC 4 0 [],(st.bind (aA 91)).bind (aA 93),none,none,0,0,rfl,fd _ _ f _ _ _ (by unfold dW;omega) (by unfold dW;omega) (by simp),?_,?_,?_⟩
   ·rw[qp];cases hs:st.bind (aA 91) with
    | none=>rw[hs]at HM;exact absurd HM.o (by simp)
    | some l=>
     rw[hs]at HM;cases h9:aA 93 l with
     | none=>simp[h9]at HM;exact absurd HM.o (by simp)
     | some r=>simp only[Option.bind_some,h9];rfl
   ·have:=G2.o.1;rw[if_pos HM.o]at this;exact this.of_heap ((aI w2 w.heap.size _ _ _ _ _).block b this.lt (by simp;omega))
   ·exact dv G2.o.2 (aI w2 w.heap.size _ _ _ _ _) (by intro k hk;cases hk;exact MG _)
 | false=>
  have HM:=aa hm;have G3:Ll (bf w2 b s ((st.bind (aA 91)).map (List.dropWhile cw))/\w.grownBy w2 (some b)/\cn w2):=by
   have:=G2.o.1;rw[if_neg (by rw[HM.o];simp)]at this;exact⟨this,G2.o.2,HG.o.grown G2.o.2 (by intro k hk;cases hk;exact hb4)⟩
  clear hm G2;have call5:Ll (∀ W,W.heap=w2.heap->W.os=w2.os->W.tape=w2.tape->W.output=w2.output->Calls prog 73 #[.pointer (some ⟨b,0,none⟩)] W fun e w'=>∃ (t:V) (st':Option Lz) (a7 a8:Option Addr) (c7 c8:Nat),
   e=.returned (.agg #[.int .i64 t.kind,.int .i64 t.n,.string ⟨t.s.toArray⟩,.slice a7 t.keys.length c7,.slice a8 t.l.length c8])/\bu w' (fun k=>w2.heap.size<=k) f t (.agg #[.int .i64 t.kind,.int .i64 t.n,.string ⟨t.s.toArray⟩,.slice a7 t.keys.length c7,.slice a8 t.l.length c8])/\st.bind (jH (cH f))=iK (cH f) [t] st'/\(st'.getD []).length < f/\1+dw st'<=3000/\bf w' b s st'/\w2.grownBy w' (some b)):=by
   intro W e1 e2 e3 e4;have hl2:(((st.bind (aA 91)).map (List.dropWhile cw)).getD []).length < f:=by
    cases hs:st.bind (aA 91) with
    | none=>exact hf0
    | some l=>
     cases st with
     | none=>cases hs
     | some l0=>
      have:=bU (show aA 91 l0=some l from hs);have:=dX l;simp only[Option.getD_some,Option.map_some]at LT ⊢;omega
   have hgW:w2.grownBy W (some b):=⟨e2,e3,e4,by rw[e1];exact MG _,fun k _ _=>by rw[e1]⟩
   refine(IH.o W b s _ (G3.o.1.of_heap (by rw[e1])) (G3.o.2.2.same e1) hb4 hl2).mono ?_;rintro e w' ⟨t,st',a7,a8,c7,c8,rfl,hv,hst,hr,hg⟩;rw[e1]at hv;refine⟨t,st',a7,a8,c7,c8,rfl,hv,zA HM.o hst,?_,?_,hr,am hgW hg⟩
   ·cases st' with
    | none=>exact hf0
    | some l'=>
     cases hs:(st.bind (aA 91)).map (List.dropWhile cw) with
     | none=>rw[hs]at hst;cases hst
     | some l1=>
      rw[hs]at hst hl2;have:=jd f l1 _ hst;simp only[Option.getD_some]at hl2 ⊢;simp only at this;omega
   ·cases st' with
    | none=>simp[dw]
    | some l'=>have:=hr.len;simp only[dw];omega
  go_upto_region 5 with fail
  go_cut [] (fun wc=>∃ k,Gs f w b s (st.bind (jH (cH f))) k wc)
  case first=>
   go_region_law ((first | (refine mj (by rfl) _ _ (by rfl) (w.heap.size+2) (.slice none 0 0) 0 [] t0.kind t0.n ⟨t0.s.toArray⟩ a7 a8 t0.keys.length c7 t0.l.length c8 (by rfl) (by rfl) (World.ownsRow_nil _ _ _ _) hsz3 (by omega) ?_;intro g cap w4 ho4 hg4 hgg4;have x0_:=(bx3.o.1.grown (World.grownBy_alloc _ _ none) (by simp)).grown hg4 (by simp[Value.ownBlock]) |>.c;obtain⟨p0,p1,p2,p3,p4,-,-,-,p9,p10⟩:=(bx3.o.2.grown (World.grownBy_alloc _ _ none) (by simp)).grown hg4 (by simp[Value.ownBlock]) |>.c) | (go_simp;go_at_call 73;refine(call5.o _ (by rfl) (by rfl) (by rfl) (by rfl)).mono ?_;rintro e w3 ⟨t0,st3,a7,a8,c7,c8,rfl,hv3,hT3,hl3,ht3,hr3,hg3⟩;have hsz3:w.heap.size+2<=w3.heap.size:=MH bx2.o.2.lt hg3.size;have bx3:Ll (ag w3 w.heap.size (.int .i64 0) (.int .i64 0) (.string ⟨#[]⟩) (.slice none 0 0) (.slice none 0 0)/\ag w3 (w.heap.size+1) (.int .i64 4) (.int .i64 0) (.string ⟨#[]⟩) (.slice none 0 0) (.slice none 0 0)):=⟨bx2.o.1.grown hg3 (by simp;omega),bx2.o.2.grown hg3 (by simp;omega)⟩;have k4:∀ o,(w3.alloc o).cell? ⟨w.heap.size+1,4,none⟩=some (.slice none 0 0):=fun o=>(bx3.o.2.grown (World.grownBy_alloc w3 o none) (by simp)).c.2.2.2.2.1;have q4:=bx3.o.2.c.2.2.2.2.1;have V3:Ll (_/\_/\_/\_/\_/\_):=⟨hv3,hT3,hl3,ht3,hr3,hg3⟩;clear hv3 hT3 hl3 ht3 hr3 hg3)))
   all_goals
    go_wp2_with fail
    go_meet
    case rel=>
     obtain⟨hv3,hT3,hl3,ht3,hr3,hg3⟩:=V3.o;refine⟨dw st3,wn (acc:=[]) (g0:=w3.heap.size) hbl bx3.o.1 bx3.o.2 (World.ownsRow_nil _ _ _ _) (.inl rfl) rfl ?_ hT3.symm hl3 (by simpa using ht3) hr3 (G3.o.2.2.grown hg3 (by intro k hk;cases hk;exact hb4)) hb4 (am G3.o.2.1 hg3) ho4 hg4 hgg4⟩;exact hv3.below.weak fun k hk=>⟨MH bx2.o.2.lt hk.1,by omega⟩
  case rest=>
   obtain⟨k0,hI0⟩:=hcut;have I0:=aa hI0;clear hI0 call5 bx2 G3;go_wp2_with fail
   go_loopg [] k0 (fun k wr=>Gs f w b s (st.bind (jH (cH f))) k wr)
   case atStart=>exact I0.o
   case round=>
    obtain⟨acc,st1,g0,cap0,cs,hk,hT,hc,hl1,bxC,bxA,ho,hrow,hr,hGr,hg⟩:=hrel;have A:Ll (gk=dw st1/\iK (cH f) acc st1=st.bind (jH (cH f))/\acc.length+gk<=3000/\(st1.getD []).length < f/\ag wr w.heap.size (.int .i64 0) (.int .i64 0) (.string ⟨#[]⟩) (.slice none 0 0) (.slice none 0 0)/\ag wr (w.heap.size+1) (.int .i64 4) (.int .i64 0) (.string ⟨#[]⟩) (.slice none 0 0) (.slice (some ⟨g0,0,none⟩) acc.length cap0)/\wr.ownsRow (w.heap.size+2) 25 5 (.slice (some ⟨g0,0,none⟩) acc.length cap0) acc.length cs/\cA (bu wr (fun k=>w.heap.size+2<=k/\k≠g0) f) acc cs/\bf wr b s st1/\cn wr/\w.grownBy wr (some b)):=⟨hk,hT,hc,hl1,bxC,bxA,ho,hrow,hr,hGr,hg⟩
    have hacc:acc.length<=3000:=by omega
    clear hk hT hc hl1 bxC bxA ho hrow hr hGr hg;go_wp2_with fail
    refine(mD _ b s st1 44 44 rfl (by decide) (by exact A.o.2.2.2.2.2.2.2.2.1)).mono ?_;rintro e w2 ⟨rfl,h2,hg2⟩;have D:Ll (bf w2 b s (if (st1.bind (aA 44)).isSome then st1.bind (aA 44) else st1.map (List.dropWhile cw))/\wr.grownBy w2 (some b)/\ag w2 w.heap.size (.int .i64 0) (.int .i64 0) (.string ⟨#[]⟩) (.slice none 0 0) (.slice none 0 0)/\ag w2 (w.heap.size+1) (.int .i64 4) (.int .i64 0) (.string ⟨#[]⟩) (.slice none 0 0) (.slice (some ⟨g0,0,none⟩) acc.length cap0)/\w2.ownsRow (w.heap.size+2) 25 5 (.slice (some ⟨g0,0,none⟩) acc.length cap0) acc.length cs/\cA (bu w2 (fun k=>w.heap.size+2<=k/\k≠g0) f) acc cs/\cn w2/\w.grownBy w2 (some b)):=by
     obtain⟨hk,hT,hc,hl1,bxC,bxA,ho,hrow,hr,hGr,hg⟩:=A.o;exact⟨h2,hg2,bxC.grown hg2 (by simp;omega),bxA.grown hg2 (by simp;omega),aW ho hg2 (by omega),hrow.imp (fun x v h=>h.grown hg2 (fun k hk e=>by simp at e;omega)),hGr.grown hg2 (by intro k hk;cases hk;exact hb4),am hg hg2⟩
    clear h2 hg2;have x0_:=D.o.2.2.1.c;obtain⟨p0,p1,p2,p3,p4,-,-,-,p9,p10⟩:=D.o.2.2.2.1.c;cases hm:(st1.bind (aA 44)).isSome with
    | true=>
     have HM:=aa hm;have R2:Ll (bf w2 b s (st1.bind (aA 44))):=by have:=D.o.1;rw[if_pos hm]at this;exact this
     clear hm;have call7:Ll (∀ W,W.heap=w2.heap->W.os=w2.os->W.tape=w2.tape->W.output=w2.output->Calls prog 73 #[.pointer (some ⟨b,0,none⟩)] W fun e w'=>∃ (t:V) (st':Option Lz) (a7 a8:Option Addr) (c7 c8:Nat),
      e=.returned (.agg #[.int .i64 t.kind,.int .i64 t.n,.string ⟨t.s.toArray⟩,.slice a7 t.keys.length c7,.slice a8 t.l.length c8])/\bu w' (fun k=>w2.heap.size<=k) f t (.agg #[.int .i64 t.kind,.int .i64 t.n,.string ⟨t.s.toArray⟩,.slice a7 t.keys.length c7,.slice a8 t.l.length c8])/\st.bind (jH (cH f))=iK (cH f) (acc++[t]) st'/\dw st' < gk/\(st'.getD []).length < f/\bf w' b s st'/\w2.grownBy w' (some b)):=by
      intro W e1 e2 e3 e4;obtain⟨hk,hT,hc,hl1,-⟩:=A.o;have hl2:((st1.bind (aA 44)).getD []).length < f:=by
       cases st1 with
       | none=>exact hf0
       | some l0=>
        cases hs:aA 44 l0 with
        | none=>simp only[Option.bind_some,hs];exact hf0
        | some l=>
         have:=bU hs;simp only[Option.bind_some,hs,Option.getD_some]at hl1 ⊢;omega
      have hgW:w2.grownBy W (some b):=⟨e2,e3,e4,by rw[e1];exact MG _,fun k _ _=>by rw[e1]⟩
      refine(IH.o W b s _ (R2.o.of_heap (by rw[e1])) (D.o.2.2.2.2.2.2.1.same e1) hb4 hl2).mono ?_;rintro e w' ⟨t,st',a7,a8,c7,c8,rfl,hv,hst,hr,hg⟩;rw[e1]at hv;obtain⟨i1,i2⟩:=zG (acc:=acc) (jd f) HM.o hst;refine⟨t,st',a7,a8,c7,c8,rfl,hv,by rw[<-hT,i1],by rw[hk];exact i2,?_,hr,am hgW hg⟩;cases st' with
      | none=>exact hf0
      | some l'=>
       cases hs:st1.bind (aA 44) with
       | none=>rw[hs]at hst;cases hst
       | some l1=>
        rw[hs]at hst hl2;have:=jd f l1 _ hst;simp only[Option.getD_some]at hl2 ⊢;simp only at this;omega
     go_wp2_with fail
     go_region_law ((first | (refine mj (by rfl) _ _ (by rfl) (w.heap.size+2) (.slice (some ⟨g0,0,none⟩) acc.length cap0) acc.length cs t0.kind t0.n ⟨t0.s.toArray⟩ a7 a8 t0.keys.length c7 t0.l.length c8 (by rfl) (by rfl) bx3.o.2.2 hsz3 (by omega) ?_;intro g cap w4 ho4 hg4 hgg4;have x0_:=(bx3.o.1.grown (World.grownBy_alloc _ _ none) (by simp)).grown hg4 (hne4.o _ (by omega)) |>.c;obtain⟨p0,p1,p2,p3,p4,-,-,-,p9,p10⟩:=(bx3.o.2.1.grown (World.grownBy_alloc _ _ none) (by simp)).grown hg4 (hne4.o _ (by omega)) |>.c) | (go_simp;go_at_call 73;refine(call7.o _ (by rfl) (by rfl) (by rfl) (by rfl)).mono ?_;rintro e w3 ⟨t0,st3,a7,a8,c7,c8,rfl,hv3,hT3,hl3,ht3,hr3,hg3⟩;have hsz3:w.heap.size+2<=w3.heap.size:=MH D.o.2.2.2.1.lt hg3.size;have bx3:Ll (ag w3 w.heap.size (.int .i64 0) (.int .i64 0) (.string ⟨#[]⟩) (.slice none 0 0) (.slice none 0 0)/\ag w3 (w.heap.size+1) (.int .i64 4) (.int .i64 0) (.string ⟨#[]⟩) (.slice none 0 0) (.slice (some ⟨g0,0,none⟩) acc.length cap0)/\w3.ownsRow (w.heap.size+2) 25 5 (.slice (some ⟨g0,0,none⟩) acc.length cap0) acc.length cs):=⟨D.o.2.2.1.grown hg3 (by simp;omega),D.o.2.2.2.1.grown hg3 (by simp;omega),aW D.o.2.2.2.2.1 hg3 (by omega)⟩;have hne4:Ll (∀ k,k < w.heap.size+2->some k≠(Value.slice (some ⟨g0,0,none⟩) acc.length cap0).ownBlock):=(fun k hk e=>by have:=(bx3.o.2.2.lt k e.symm).1;omega);have k4:∀ o,(w3.alloc o).cell? ⟨w.heap.size+1,4,none⟩=some (.slice (some ⟨g0,0,none⟩) acc.length cap0):=fun o=>(bx3.o.2.1.grown (World.grownBy_alloc w3 o none) (by simp)).c.2.2.2.2.1;have q4:=bx3.o.2.1.c.2.2.2.2.1;have V3:Ll (_/\_/\_/\_/\_/\_):=⟨hv3,hT3,hl3,ht3,hr3,hg3⟩;clear hv3 hT3 hl3 ht3 hr3 hg3)))
     all_goals
      go_wp2_with fail
      obtain⟨hv3,hT3,htg3,hl3,hr3,hg3⟩:=V3.o;go_roundg (dw st3)
      case measure=>exact htg3
      case rel=>
       refine wn (g0:=g0) hbl bx3.o.1 bx3.o.2.1 bx3.o.2.2 (.inr rfl) (D.o.2.2.2.2.2.1.imp fun x v h=>h.grown hg3 (fun k hk e=>by simp at e;omega)) ?_ hT3.symm hl3 (by have:=A.o.2.2.1;omega) hr3 (D.o.2.2.2.2.2.2.1.grown hg3 (by intro k hk;cases hk;exact hb4)) hb4 (am D.o.2.2.2.2.2.2.2 hg3) ho4 hg4 hgg4;exact hv3.weak fun k hk=>⟨MH D.o.2.2.2.1.lt hk,fun e=>by have:=(D.o.2.2.2.2.1.lt g0 rfl).2;omega⟩
    | false=>
     have HM:=aa hm;have R2:Ll (bf w2 b s (st1.map (List.dropWhile cw))):=by have:=D.o.1;rw[if_neg (by rw[hm];simp)]at this;exact this
     clear hm;go_wp2_with fail
     refine(kP _ b s _ 93 93 rfl (by decide) (by exact R2.o)).mono ?_;rintro e w3 ⟨rfl,h3,hg3⟩;have E:Ll (bf w3 b s ((st1.map (List.dropWhile cw)).bind (aA 93))/\w.grownBy w3 (some b)/\ag w3 w.heap.size (.int .i64 0) (.int .i64 0) (.string ⟨#[]⟩) (.slice none 0 0) (.slice none 0 0)/\ag w3 (w.heap.size+1) (.int .i64 4) (.int .i64 0) (.string ⟨#[]⟩) (.slice none 0 0) (.slice (some ⟨g0,0,none⟩) acc.length cap0)/\w3.ownsRow (w.heap.size+2) 25 5 (.slice (some ⟨g0,0,none⟩) acc.length cap0) acc.length cs/\cA (bu w3 (fun k=>w.heap.size+2<=k/\k≠g0) f) acc cs):=by
      obtain⟨d1,d2,bxC,bxA,ho,hrow,hGr,hg⟩:=D.o;exact⟨h3,am hg hg3,bxC.grown hg3 (by simp;omega),bxA.grown hg3 (by simp;omega),aW ho hg3 (by omega),hrow.imp (fun x v h=>h.grown hg3 (fun k hk e=>by simp at e;omega))⟩
     clear h3 hg3;have x0_:=E.o.2.2.1.c;obtain⟨p0,p1,p2,p3,p4,-⟩:=E.o.2.2.2.1.c;obtain⟨z0,z1,z2,z3,z4,-⟩:=(E.o.2.2.1.set (.int .i64 4) (.int .i64 0) (.string ⟨#[]⟩) (.slice none 0 0) (.slice (some ⟨g0,0,none⟩) acc.length cap0)).c;have Z:Ll (_/\_/\_/\_/\_):=⟨z0,z1,z2,z3,z4⟩
     go_wp2_with fail
     obtain⟨z0,z1,z2,z3,z4⟩:=Z.o;refine MM (v:=.agg #[.int .i64 4,.int .i64 0,.string ⟨#[]⟩,.slice none 0 0,.slice (some ⟨g0,0,none⟩) acc.length cap0]) ?_ rfl ?_
     ·simp only[ar]at z0 z1 z2 z3 z4;simp[results,results102,go_sem,z0,z1,z2,z3,z4]
     ·obtain⟨e1,e2,e3,e4,e5,e6⟩:=E.o;have g5:=aI w3 w.heap.size (.int .i64 4) (.int .i64 0) (.string ⟨#[]⟩) (.slice none 0 0) (.slice (some ⟨g0,0,none⟩) acc.length cap0);refine⟨⟨4,0,[],[],acc⟩,(st1.map (List.dropWhile cw)).bind (aA 93),none,some ⟨g0,0,none⟩,0,cap0,rfl,?_,?_,?_,?_⟩
      ·refine⟨_,_,rfl,by unfold dW;simp,by unfold dW;simp,by simp,⟨by simp,.inl ⟨rfl,none,rfl⟩⟩,?_⟩;have e6':cA (bu (ar w3 w.heap.size (.int .i64 4) (.int .i64 0) (.string ⟨#[]⟩) (.slice none 0 0) (.slice (some ⟨g0,0,none⟩) acc.length cap0)) (fun k=>w.heap.size<=k) f) acc cs:=
        e6.imp fun x v h=>(h.grown g5 (fun k hk e=>by simp at e;omega)).weak fun k hk=>by omega
       exact fJ rfl (aW e5 g5 (by omega)) e6' (fun k hk=>by omega) (by unfold maxLen;simp only;omega)
      ·rw[<-A.o.2.1,Cz HM.o]
      ·exact e1.of_heap (g5.block b e1.lt (by simp;omega))
      ·exact dv e2 g5 (by intro k hk;cases hk;exact MG _)
variable {ok:Nat->Prop}
variable {v:Value}
variable {t x:V}
variable {d:Nat}
theorem bu.form(h:bu w ok d t v):∃ (a7 a8:Option Addr) (c7 c8:Nat),v=(.agg #[.int .i64 t.kind,.int .i64 t.n,.string ⟨t.s.toArray⟩,.slice a7 t.keys.length c7,.slice a8 t.l.length c8]):=by
 match d,h with
 | d+1,h=>
  obtain⟨ks,ls,e,h1,h2,h3,h4,h5⟩:=h;obtain⟨a1,c1,rfl⟩:=h4.form;obtain⟨a2,c2,rfl⟩:=h5.form;exact⟨_,_,_,_,e⟩
theorem mw{key}(hp:aK t=true):aK (aG t key x)=true/\(aG t key x).l.length<=t.l.length+1:=by
 have hk:t.kind=5/\t.keys.length=t.l.length:=by simpa [aK] using hp
 unfold aG;rw[if_pos hp];split
 ·rename_i i hi;have:=(iw hi).1;simp only[aK,MJ,decide_eq_true_eq,Mx,My,MC,MB];omega
 ·simp only[aK,MJ,decide_eq_true_eq,Mx,My,MC,MB];omega
theorem Hk{g:Lz->Option (V × Lz)}{key}{st st1 st3:Option Lz}(h1:st.bind iS=st1.map (fun l=>(key,l)))(h3:(st1.bind (aA 58)).bind g=st3.map (fun l=>(x,l))):st.bind (lO g t)=if (aS t key).isSome then none else st3.map (fun l=>(aG t key x,l)):=by
 have e:st.bind (lO g t)=(st.bind iS).bind fun q=>(aA 58 q.2).bind fun l=>(g l).bind fun p=>if (aS t q.1).isSome then none else some (aG t q.1 p.1,p.2):=by
  cases st <;> rfl
 rw[e,h1];cases st1 with
 | none=>
  cases st3 with
  | none=>simp
  | some l=>cases h3
 | some l1=>
  simp only[Option.map_some,Option.bind_some]at h3 ⊢;cases hm:aA 58 l1 with
  | none=>
   rw[hm]at h3;cases st3 with
   | none=>simp
   | some l=>cases h3
  | some l2=>
   rw[hm]at h3;simp only[Option.bind_some]at h3 ⊢;rw[h3];cases st3 <;> simp
theorem rI(hW:vW)(f)(ih:zo f)(w:LC)(b B s)(st:Option Lz)(t a7 a8 c7 c8)(h:bf w b s st)(hG:cn w)(hb4:4<=b)(hf0:0 < f)(LT:(st.getD []).length < f+1)(hbB:b < B)(hBw:B<=w.heap.size)(hv:bu w (fun k=>B<=k) (f+1) t (.agg #[.int .i64 t.kind,.int .i64 t.n,.string ⟨t.s.toArray⟩,.slice a7 t.keys.length c7,.slice a8 t.l.length c8]))(hp:aK t=true)(htl:t.l.length<=10000):Calls prog 141 #[.pointer (some ⟨b,0,none⟩),(.agg #[.int .i64 t.kind,.int .i64 t.n,.string ⟨t.s.toArray⟩,.slice a7 t.keys.length c7,.slice a8 t.l.length c8])] w fun e w'=>∃ (t':V) (st':Option Lz) (a5 a6:Option Addr) (c5 c6:Nat),
 e=.returned (.agg #[.int .i64 t'.kind,.int .i64 t'.n,.string ⟨t'.s.toArray⟩,.slice a5 t'.keys.length c5,.slice a6 t'.l.length c6])/\bu w' (fun k=>B<=k) (f+1) t' (.agg #[.int .i64 t'.kind,.int .i64 t'.n,.string ⟨t'.s.toArray⟩,.slice a5 t'.keys.length c5,.slice a6 t'.l.length c6])/\aK t'=true/\t'.l.length<=t.l.length+1 /\
 st.bind (lO (cH f) t)=st'.map (fun l=>(t',l))/\bf w' b s st'/\w.grownBy w' (some b):=by
 have H:Ll (bf w b s st/\cn w):=⟨h,hG⟩
 have HV:=aa hv;have IH:=aa ih;have HW:=aa hW;have HP:=aa hp;have hbl:=h.lt;clear h hG hv ih hW hp;go_enter func141,ntmps141;go_wp2_with fail
 refine(rY _ b s st (by exact H.o.1.grown (bd (World.grownBy_alloc w _ none) _) (by simp))).mono ?_;rintro e w1 ⟨key,st1,rfl,hq,hkl,h1,hg1⟩;have K1:Ll (st.bind iS=st1.map (fun l=>(key,l))/\bf w1 b s st1/\w.grownBy w1 (some b)/\ag w1 w.heap.size (.int .i64 t.kind) (.int .i64 t.n) (.string ⟨t.s.toArray⟩) (.slice a7 t.keys.length c7) (.slice a8 t.l.length c8)/\ag w1 (w.heap.size+1) (.int .i64 0) (.int .i64 0) (.string ⟨#[]⟩) (.slice none 0 0) (.slice none 0 0)):=
  ⟨hq,h1,am (bd (bd (az _ _) _) _) hg1,ag.grown (fb w _ _) hg1 (by simp;omega),ag.grown (et w _ _) hg1 (by simp;omega)⟩
 clear hq h1 hg1;go_wp2_with fail
 refine(kP _ b s st1 58 58 rfl (by decide) (by exact K1.o.2.1)).mono ?_;rintro e w2 ⟨rfl,h2,hg2⟩;have K2:Ll (bf w2 b s (st1.bind (aA 58))/\w.grownBy w2 (some b)/\ag w2 w.heap.size (.int .i64 t.kind) (.int .i64 t.n) (.string ⟨t.s.toArray⟩) (.slice a7 t.keys.length c7) (.slice a8 t.l.length c8)/\ag w2 (w.heap.size+1) (.int .i64 0) (.int .i64 0) (.string ⟨#[]⟩) (.slice none 0 0) (.slice none 0 0)/\cn w2):=
  ⟨h2,am K1.o.2.2.1 hg2,K1.o.2.2.2.1.grown hg2 (by simp;omega),K1.o.2.2.2.2.grown hg2 (by simp;omega),H.o.2.grown (am K1.o.2.2.1 hg2) (by intro k hk;cases hk;exact hb4)⟩
 have hl2:Ll (((st1.bind (aA 58)).getD []).length < f):=by
  show _ < _;cases st1 with
  | none=>exact hf0
  | some l1=>
   cases hm:aA 58 l1 with
   | none=>simp only[Option.bind_some,hm];exact hf0
   | some l2=>
    cases st with
    | none=>have:=K1.o.1;cases this
    | some l0=>
     have h9:=mL (show iS l0=some (key,l1) from K1.o.1);have:=bU hm;simp only[Option.bind_some,hm,Option.getD_some]at LT ⊢;simp only at h9;omega
 clear h2 hg2;go_wp2_with fail
 refine(IH.o _ b s _ (by exact K2.o.1) (by exact K2.o.2.2.2.2) hb4 hl2.o).mono ?_;rintro e w3 ⟨x,st3,a5,a6,c5,c6,rfl,hx,hst3,h3,hg3⟩;have K3:Ll ((st1.bind (aA 58)).bind (cH f)=st3.map (fun l=>(x,l))/\bf w3 b s st3/\w.grownBy w3 (some b)/\ag w3 w.heap.size (.int .i64 t.kind) (.int .i64 t.n) (.string ⟨t.s.toArray⟩) (.slice a7 t.keys.length c7) (.slice a8 t.l.length c8)/\ag w3 (w.heap.size+1) (.int .i64 0) (.int .i64 0) (.string ⟨#[]⟩) (.slice none 0 0) (.slice none 0 0) /\
  bu w3 (fun k=>B<=k/\k≠w.heap.size+1) f x (.agg #[.int .i64 x.kind,.int .i64 x.n,.string ⟨x.s.toArray⟩,.slice a5 x.keys.length c5,.slice a6 x.l.length c6])/\bu w3 (fun k=>B<=k/\k≠w.heap.size+1) (f+1) t (.agg #[.int .i64 t.kind,.int .i64 t.n,.string ⟨t.s.toArray⟩,.slice a7 t.keys.length c7,.slice a8 t.l.length c8])):=
  ⟨hst3,h3,am K2.o.2.1 hg3,K2.o.2.2.1.grown hg3 (by simp;omega),K2.o.2.2.2.1.grown hg3 (by simp;omega),hx.weak (fun k hk=>⟨MH (MH hBw K2.o.2.1.size) hk,by have:=K2.o.2.2.2.1.lt;omega⟩),(HV.o.below.weak (fun k hk=>⟨hk.1,by omega⟩)).grown (am K2.o.2.1 hg3) (fun k hk e=>by cases e;omega)⟩
 have hsz3:w.heap.size+1 < w3.heap.size:=K3.o.2.2.2.2.1.lt;have p0_:=K3.o.2.2.2.1.c;clear hst3 h3 hg3 hx;have r0:∀ o,(w3.alloc o).cell? ⟨w.heap.size,0,none⟩=some (.int .i64 t.kind):=fun o=>(K3.o.2.2.2.1.grown (World.grownBy_alloc w3 o none) (by simp)).c.1;have r1:∀ o,(w3.alloc o).cell? ⟨w.heap.size,1,none⟩=some (.int .i64 t.n):=fun o=>(K3.o.2.2.2.1.grown (World.grownBy_alloc w3 o none) (by simp)).c.2.1;have r2:∀ o,(w3.alloc o).cell? ⟨w.heap.size,2,none⟩=some (.string ⟨t.s.toArray⟩):=fun o=>(K3.o.2.2.2.1.grown (World.grownBy_alloc w3 o none) (by simp)).c.2.2.1;have r3:∀ o,(w3.alloc o).cell? ⟨w.heap.size,3,none⟩=some (.slice a7 t.keys.length c7):=fun o=>(K3.o.2.2.2.1.grown (World.grownBy_alloc w3 o none) (by simp)).c.2.2.2.1;have r4:∀ o,(w3.alloc o).cell? ⟨w.heap.size,4,none⟩=some (.slice a8 t.l.length c8):=fun o=>(K3.o.2.2.2.1.grown (World.grownBy_alloc w3 o none) (by simp)).c.2.2.2.2.1;go_wp2_with fail
 refine(ny _ (fun k=>B<=k/\k≠w.heap.size+1) (f+1) t _ key (by exact K3.o.2.2.2.2.2.2.bel (ae _ _))).mono ?_;rintro e w4 ⟨xm,bm,rfl,hb4',hmem⟩;have B4:Ll (La w3 w4):=ab (ae _ _) hb4';have bxX:Ll (ag w4 w3.heap.size (.int .i64 x.kind) (.int .i64 x.n) (.string ⟨x.s.toArray⟩) (.slice a5 x.keys.length c5) (.slice a6 x.l.length c6)):=af hb4' (MN w3 _);have hsz4:w3.heap.size < w4.heap.size:=bxX.o.lt;clear hb4' r0 r1 r2 r3 r4;have bxV:Ll (∀ o,ag (w4.alloc o) w.heap.size (.int .i64 t.kind) (.int .i64 t.n) (.string ⟨t.s.toArray⟩) (.slice a7 t.keys.length c7) (.slice a8 t.l.length c8)/\ag (w4.alloc o) w3.heap.size (.int .i64 x.kind) (.int .i64 x.n) (.string ⟨x.s.toArray⟩) (.slice a5 x.keys.length c5) (.slice a6 x.l.length c6)/\ag (w4.alloc o) (w.heap.size+1) (.int .i64 0) (.int .i64 0) (.string ⟨#[]⟩) (.slice none 0 0) (.slice none 0 0)):=
  fun o=>⟨af (ab B4.o (ae w4 o)) K3.o.2.2.2.1,af (ae w4 o) bxX.o,af (ab B4.o (ae w4 o)) K3.o.2.2.2.2.1⟩
 have s0:∀ o,(w4.alloc o).cell? ⟨w.heap.size,0,none⟩=some (.int .i64 t.kind):=fun o=>(bxV.o o).1.c.1;have s1:∀ o,(w4.alloc o).cell? ⟨w.heap.size,1,none⟩=some (.int .i64 t.n):=fun o=>(bxV.o o).1.c.2.1;have s2:∀ o,(w4.alloc o).cell? ⟨w.heap.size,2,none⟩=some (.string ⟨t.s.toArray⟩):=fun o=>(bxV.o o).1.c.2.2.1;have s3:∀ o,(w4.alloc o).cell? ⟨w.heap.size,3,none⟩=some (.slice a7 t.keys.length c7):=fun o=>(bxV.o o).1.c.2.2.2.1;have s4:∀ o,(w4.alloc o).cell? ⟨w.heap.size,4,none⟩=some (.slice a8 t.l.length c8):=fun o=>(bxV.o o).1.c.2.2.2.2.1;have v0:∀ o,(w4.alloc o).cell? ⟨w3.heap.size,0,none⟩=some (.int .i64 x.kind):=fun o=>(bxV.o o).2.1.c.1;have v1:∀ o,(w4.alloc o).cell? ⟨w3.heap.size,1,none⟩=some (.int .i64 x.n):=fun o=>(bxV.o o).2.1.c.2.1;have v2:∀ o,(w4.alloc o).cell? ⟨w3.heap.size,2,none⟩=some (.string ⟨x.s.toArray⟩):=fun o=>(bxV.o o).2.1.c.2.2.1;have v3:∀ o,(w4.alloc o).cell? ⟨w3.heap.size,3,none⟩=some (.slice a5 x.keys.length c5):=fun o=>(bxV.o o).2.1.c.2.2.2.1;have v4:∀ o,(w4.alloc o).cell? ⟨w3.heap.size,4,none⟩=some (.slice a6 x.l.length c6):=fun o=>(bxV.o o).2.1.c.2.2.2.2.1;have hws:Ll (st.bind (lO (cH f) t)=if (aS t key).isSome then none else st3.map (fun l=>(aG t key x,l))):=Hk K1.o.1 K3.o.1;have hklm:key.length<=maxLen:=by unfold maxLen;omega
 cases hmv:aS t key with
 | none=>
  rw[hmv]at hmem hws;obtain⟨rfl,rfl⟩:=hmem;unfold cz aR;go_wp2_with fail
  refine(HW.o _ (fun k=>B<=k/\k≠w.heap.size+1) f t x _ _ key (by exact K3.o.2.2.2.2.2.2.bel (ab B4.o (ae _ _))) (by exact K3.o.2.2.2.2.2.1.bel (ab B4.o (ae _ _))) HP.o (by omega) hklm).mono ?_;rintro e w5 ⟨r,rfl,hr5,hb5⟩;obtain⟨e5,e6,d5,d6,rfl⟩:=hr5.form;have G5:Ll (bu w5 (fun k=>B<=k/\k≠w.heap.size+1) (f+1) (aG t key x) (.agg #[.int .i64 (aG t key x).kind,.int .i64 (aG t key x).n,.string ⟨(aG t key x).s.toArray⟩,.slice e5 (aG t key x).keys.length d5,.slice e6 (aG t key x).l.length d6])/\w.grownBy w5 (some b)/\bf w5 b s st3/\ag w5 (w.heap.size+1) (.int .i64 0) (.int .i64 0) (.string ⟨#[]⟩) (.slice none 0 0) (.slice none 0 0)):=by
   refine⟨hr5.weak fun k hk=>?_,?_,?_,?_⟩
   ·rcases hk with hk | hk
    ·exact hk
    ·have:=K3.o.2.2.1.size;simp at hk;exact⟨by omega,by omega⟩
   ·exact dv (dv (dv K3.o.2.2.1 (aq (r:=none) B4.o) (by simp)) (World.grownBy_alloc w4 _ none) (by simp)) (aq (r:=none) hb5) (by simp)
   ·exact K3.o.2.1.of_heap (((am (am (aq (r:=none) B4.o) (World.grownBy_alloc w4 _ none)) (aq hb5)).block b K3.o.2.1.lt (by simp)))
   ·exact af hb5 (bxV.o _).2.2
  clear hr5 hb5;have x0_:=G5.o.2.2.2.c;obtain⟨z0,z1,z2,z3,z4,-⟩:=(G5.o.2.2.2.set (.int .i64 (aG t key x).kind) (.int .i64 (aG t key x).n) (.string ⟨(aG t key x).s.toArray⟩) (.slice e5 (aG t key x).keys.length d5) (.slice e6 (aG t key x).l.length d6)).c;have Z:Ll (_/\_/\_/\_/\_):=⟨z0,z1,z2,z3,z4⟩
  go_wp2_with fail
  obtain⟨z0,z1,z2,z3,z4⟩:=Z.o;refine MM (v:=(.agg #[.int .i64 (aG t key x).kind,.int .i64 (aG t key x).n,.string ⟨(aG t key x).s.toArray⟩,.slice e5 (aG t key x).keys.length d5,.slice e6 (aG t key x).l.length d6])) ?_ rfl ?_
  ·simp only[ar]at z0 z1 z2 z3 z4;simp[results,results141,go_sem,z0,z1,z2,z3,z4]
  ·obtain⟨g1,g2,g3,g4⟩:=G5.o;have g5:=aI w5 (w.heap.size+1) (.int .i64 (aG t key x).kind) (.int .i64 (aG t key x).n) (.string ⟨(aG t key x).s.toArray⟩) (.slice e5 (aG t key x).keys.length d5) (.slice e6 (aG t key x).l.length d6);have hwp:=mw (key:=key) (x:=x) HP.o;refine⟨aG t key x,st3,e5,e6,d5,d6,rfl,?_,hwp.1,hwp.2,?_,g3.of_heap (g5.block b g3.lt (by simp;omega)),dv g2 g5 (by intro k hk;cases hk;omega)⟩
   ·exact(g1.grown g5 (fun k hk e=>by simp at e;exact hk.2 e)).weak fun k hk=>hk.1
   ·rw[hws.o];rfl
 | some y=>
  rw[hmv]at hmem hws;obtain⟨rfl,hy⟩:=hmem;obtain⟨i5,i6,j5,j6,rfl⟩:=hy.form;clear hy;go_wp2_with fail
  refine(fs _ b s st3 (by exact K3.o.2.1.of_heap (((am (aq (r:=none) B4.o) (World.grownBy_alloc w4 _ none))).block b K3.o.2.1.lt (by simp)))).mono ?_;rintro e w6 ⟨rfl,h6,hg6⟩;have G6:Ll (bf w6 b s none/\w.grownBy w6 (some b)/\bu w6 (fun k=>B<=k/\k≠w.heap.size+1) (f+1) t (.agg #[.int .i64 t.kind,.int .i64 t.n,.string ⟨t.s.toArray⟩,.slice a7 t.keys.length c7,.slice a8 t.l.length c8])/\bu w6 (fun k=>B<=k/\k≠w.heap.size+1) f x (.agg #[.int .i64 x.kind,.int .i64 x.n,.string ⟨x.s.toArray⟩,.slice a5 x.keys.length c5,.slice a6 x.l.length c6])/\ag w6 (w.heap.size+1) (.int .i64 0) (.int .i64 0) (.string ⟨#[]⟩) (.slice none 0 0) (.slice none 0 0)/\w.heap.size<=w6.heap.size):=by
   have ga:w3.grownBy w6 (some b):=am (am (aq B4.o) (World.grownBy_alloc w4 _ _)) hg6;exact⟨h6,am K3.o.2.2.1 ga,K3.o.2.2.2.2.2.2.grown ga (fun k hk e=>by cases e;omega),K3.o.2.2.2.2.2.1.grown ga (fun k hk e=>by cases e;omega),K3.o.2.2.2.2.1.grown ga (by simp;omega),MH K3.o.2.2.1.size ga.size⟩
  have t0:=(bxV.o (.cells #[.int .i64 y.kind,.int .i64 y.n,.string ⟨y.s.toArray⟩,.slice i5 y.keys.length j5,.slice i6 y.l.length j6] 25))
  obtain⟨s0',s1',s2',s3',s4',-⟩:=(t0.1.grown hg6 (by simp;omega)).c;obtain⟨v0',v1',v2',v3',v4',-⟩:=(t0.2.1.grown hg6 (by simp;have:=K3.o.2.2.1.size;omega)).c;have hsz6:=hg6.size;clear h6 hg6 t0;go_wp2_with fail
  refine(HW.o _ (fun k=>B<=k/\k≠w.heap.size+1) f t x _ _ key (by exact G6.o.2.2.1) (by exact G6.o.2.2.2.1) HP.o (by omega) hklm).mono ?_;rintro e w5 ⟨r,rfl,hr5,hb5⟩;obtain⟨e5,e6,d5,d6,rfl⟩:=hr5.form;have G5:Ll (bu w5 (fun k=>B<=k/\k≠w.heap.size+1) (f+1) (aG t key x) (.agg #[.int .i64 (aG t key x).kind,.int .i64 (aG t key x).n,.string ⟨(aG t key x).s.toArray⟩,.slice e5 (aG t key x).keys.length d5,.slice e6 (aG t key x).l.length d6])/\w.grownBy w5 (some b)/\bf w5 b s (none:Option Lz)/\ag w5 (w.heap.size+1) (.int .i64 0) (.int .i64 0) (.string ⟨#[]⟩) (.slice none 0 0) (.slice none 0 0)):=by
   refine⟨hr5.weak fun k hk=>?_,?_,?_,?_⟩
   ·rcases hk with hk | hk
    ·exact hk
    ·have:=G6.o.2.2.2.2.2;exact⟨by omega,by have:=G6.o.2.2.2.2.1.lt;omega⟩
   ·exact dv (am G6.o.2.1 (az _ _)) (aq (r:=none) hb5) (by simp)
   ·exact G6.o.1.of_heap ((aq (r:=none) hb5).block b G6.o.1.lt (by simp))
   ·exact af hb5 G6.o.2.2.2.2.1
  clear hr5 hb5;have x0_:=G5.o.2.2.2.c;obtain⟨z0,z1,z2,z3,z4,-⟩:=(G5.o.2.2.2.set (.int .i64 (aG t key x).kind) (.int .i64 (aG t key x).n) (.string ⟨(aG t key x).s.toArray⟩) (.slice e5 (aG t key x).keys.length d5) (.slice e6 (aG t key x).l.length d6)).c;have Z:Ll (_/\_/\_/\_/\_):=⟨z0,z1,z2,z3,z4⟩
  go_wp2_with fail
  obtain⟨z0,z1,z2,z3,z4⟩:=Z.o;refine MM (v:=(.agg #[.int .i64 (aG t key x).kind,.int .i64 (aG t key x).n,.string ⟨(aG t key x).s.toArray⟩,.slice e5 (aG t key x).keys.length d5,.slice e6 (aG t key x).l.length d6])) ?_ rfl ?_
  ·simp only[ar]at z0 z1 z2 z3 z4;simp[results,results141,go_sem,z0,z1,z2,z3,z4]
  ·obtain⟨g1,g2,g3,g4⟩:=G5.o;have g5:=aI w5 (w.heap.size+1) (.int .i64 (aG t key x).kind) (.int .i64 (aG t key x).n) (.string ⟨(aG t key x).s.toArray⟩) (.slice e5 (aG t key x).keys.length d5) (.slice e6 (aG t key x).l.length d6);have hwp:=mw (key:=key) (x:=x) HP.o;refine⟨aG t key x,(none:Option Lz),e5,e6,d5,d6,rfl,?_,hwp.1,hwp.2,?_,g3.of_heap (g5.block b g3.lt (by simp;omega)),dv g2 g5 (by intro k hk;cases hk;omega)⟩
   ·exact(g1.grown g5 (fun k hk e=>by simp at e;exact hk.2 e)).weak fun k hk=>hk.1
   ·rw[hws.o];rfl
theorem xj{g:Lz->Option (V × Lz)}(hg:kT g)(n):∀ (m:Nat) (v:V) (l:Lz),l.length < n->l.length < m->fC g n v l=fC g m v l:=by
 induction n with
 | zero=>intro m v l h;omega
 | succ n ih=>
  intro m v l h1 h2;cases m with
  | zero=>omega
  | succ m=>
   simp only[fC];split
   ·rename_i r hr;have:=bU hr;cases hgr:lO g v r with
    | none=>rfl
    | some p=>
     have:=iM hg _ _ _ hgr;exact ih m _ _ (by omega) (by omega)
   ·rfl
def jp (g:Lz->Option (V × Lz)) (v:V) (st:Option Lz):Option (V × Lz):=st.bind fun l=>fC g (l.length+1) v l
theorem yk{g:Lz->Option (V × Lz)}(hg:kT g){v t0}{st1 st3:Option Lz}(h2:(st1.bind (aA 44)).isSome=true)(h3:(st1.bind (aA 44)).bind (lO g v)=st3.map (fun l=>(t0,l))):jp g v st1=jp g t0 st3/\dw st3 < dw st1:=by
 cases st1 with
 | none=>cases h2
 | some l=>
  cases hm:aA 44 l with
  | none=>simp[hm]at h2
  | some r=>
   have hr:=bU hm;simp only[Option.bind_some,hm]at h3;have e:jp g v (some l)=(lO g v r).bind fun p=>fC g l.length p.1 p.2:=by
    show fC g (l.length+1) v l=_;simp only[fC,hm]
   rw[e,h3];cases st3 with
   | none=>exact⟨rfl,by simp[dw]⟩
   | some l3=>
    have hl:=iM hg _ _ _ h3;simp only at hl;exact⟨xj hg _ _ _ _ (by simp only;omega) (by simp only;omega),by simp only[dw];omega⟩
theorem Bn{g:Lz->Option (V × Lz)}{v}{st1:Option Lz}(h2:(st1.bind (aA 44)).isSome=false):jp g v st1=((st1.map (List.dropWhile cw)).bind (aA 125)).map fun r=>(v,r):=by
 cases st1 with
 | none=>rfl
 | some l=>
  cases hm:aA 44 l with
  | some r=>simp[hm]at h2
  | none=>
   show fC g (l.length+1) v l=_;simp only[fC,hm];rfl
theorem rM{g:Lz->Option (V × Lz)}{st:Option Lz}:st.bind (oq g)=(st.bind (aA 123)).bind fun l=>match aA 125 l with | some r=>some (⟨5,0,[],[],[]⟩,r) | none=>(lO g ⟨5,0,[],[],[]⟩ (l.dropWhile cw)).bind fun p=>fC g (p.2.length+1) p.1 p.2:=by
 cases st <;> rfl
theorem Cq{g:Lz->Option (V × Lz)}{st st3:Option Lz}{t0}(h2:((st.bind (aA 123)).bind (aA 125)).isSome=false)(h3:((st.bind (aA 123)).map (List.dropWhile cw)).bind (lO g ⟨5,0,[],[],[]⟩)=st3.map (fun l=>(t0,l))):st.bind (oq g)=jp g t0 st3:=by
 rw[rM];cases hs:st.bind (aA 123) with
 | none=>
  rw[hs]at h3;cases st3 with
  | none=>rfl
  | some l=>cases h3
 | some l=>
  rw[hs]at h2 h3;simp only[Option.bind_some]at h2 ⊢;have hm:aA 125 l=none:=by cases hm:aA 125 l with
   | none=>rfl
   | some r=>simp[hm]at h2
  rw[hm];have h3':lO g ⟨5,0,[],[],[]⟩ (l.dropWhile cw)=st3.map (fun l=>(t0,l)):=h3;simp only[h3'];cases st3 <;> rfl
def GU (f:Nat) (w:LC) (b:Nat) (s:ByteArray) (T:Option (V × Lz)) (k:Nat) (wr:LC):Prop:=
 ∃ (t:V) (st1:Option Lz) (a7 a8:Option Addr) (c7 c8:Nat),k=dw st1/\jp (cH f) t st1=T/\t.l.length+k<=3000/\(st1.getD []).length < f+1/\ag wr w.heap.size (.int .i64 0) (.int .i64 0) (.string ⟨#[]⟩) (.slice none 0 0) (.slice none 0 0)/\ag wr (w.heap.size+1) (.int .i64 t.kind) (.int .i64 t.n) (.string ⟨t.s.toArray⟩) (.slice a7 t.keys.length c7) (.slice a8 t.l.length c8) /\
  bu wr (fun k=>w.heap.size+2<=k) (f+1) t (.agg #[.int .i64 t.kind,.int .i64 t.n,.string ⟨t.s.toArray⟩,.slice a7 t.keys.length c7,.slice a8 t.l.length c8])/\aK t=true/\bf wr b s st1/\cn wr/\w.grownBy wr (some b)
theorem zU{f}{w3:LC}{b s}{T:Option (V × Lz)}{st3:Option Lz}{a7 a8 c7 c8 d0 d1 d2 d3 d4}(hb4:4<=b)(hbl:b < w.heap.size)(bxC:ag w3 w.heap.size (.int .i64 0) (.int .i64 0) (.string ⟨#[]⟩) (.slice none 0 0) (.slice none 0 0))(bxA:ag w3 (w.heap.size+1) d0 d1 d2 d3 d4)(hv:bu w3 (fun k=>w.heap.size+2<=k) (f+1) t (.agg #[.int .i64 t.kind,.int .i64 t.n,.string ⟨t.s.toArray⟩,.slice a7 t.keys.length c7,.slice a8 t.l.length c8]))(hp:aK t=true)(hT:jp (cH f) t st3=T)(hl:(st3.getD []).length < f+1)(hc:t.l.length+dw st3<=3000)(hr:bf w3 b s st3)(hG:cn w3)(hg:w.grownBy w3 (some b)):GU f w b s T (dw st3) (ar w3 (w.heap.size+1) (.int .i64 t.kind) (.int .i64 t.n) (.string ⟨t.s.toArray⟩) (.slice a7 t.keys.length c7) (.slice a8 t.l.length c8)):=by
 have g5:=aI w3 (w.heap.size+1) (.int .i64 t.kind) (.int .i64 t.n) (.string ⟨t.s.toArray⟩) (.slice a7 t.keys.length c7) (.slice a8 t.l.length c8);exact⟨t,st3,a7,a8,c7,c8,rfl,hT,hc,hl,bxC.grown g5 (by simp),bxA.set _ _ _ _ _,hv.grown g5 (fun k hk e=>by simp at e;omega),hp,hr.of_heap (g5.block b hr.lt (by simp;omega)),
  hG.grown g5 (fun k hk=>by cases hk;omega),dv hg g5 (by intro k hk;cases hk;omega)⟩
theorem Dv(hW:vW)(f)(ih:zo f)(w:LC)(b s)(st:Option Lz)(h:bf w b s st)(hG:cn w)(hb4:4<=b)(hf0:0 < f)(LT:(st.getD []).length < f+1):Calls prog 103 #[.pointer (some ⟨b,0,none⟩)] w fun e w'=>∃ (t:V) (st':Option Lz) (a7 a8:Option Addr) (c7 c8:Nat),
 e=.returned (.agg #[.int .i64 t.kind,.int .i64 t.n,.string ⟨t.s.toArray⟩,.slice a7 t.keys.length c7,.slice a8 t.l.length c8])/\bu w' (fun k=>w.heap.size<=k) (f+1) t (.agg #[.int .i64 t.kind,.int .i64 t.n,.string ⟨t.s.toArray⟩,.slice a7 t.keys.length c7,.slice a8 t.l.length c8])/\st.bind (oq (cH f))=st'.map (fun l=>(t,l))/\bf w' b s st'/\w.grownBy w' (some b):=by
 have H:=aa h;have HG:=aa hG;have IH:=aa ih;have HW:=aa hW;have hbl:=h.lt;clear h hG ih hW;go_enter func103,ntmps103;go_wp2_with fail
 refine(kP _ b s st 123 123 rfl (by decide) (by exact H.o.grown (bd (World.grownBy_alloc w _ none) _) (by simp))).mono ?_;rintro e w1 ⟨rfl,h1,hg1⟩;have bx1:Ll (ag w1 w.heap.size (.int .i64 0) (.int .i64 0) (.string ⟨#[]⟩) (.slice none 0 0) (.slice none 0 0)/\ag w1 (w.heap.size+1) (.int .i64 5) (.int .i64 0) (.string ⟨#[]⟩) (.slice none 0 0) (.slice none 0 0)):=
  ⟨ag.grown (fb w _ _) hg1 (by simp;omega),ag.grown (et w _ _) hg1 (by simp;omega)⟩
 have G1:Ll (bf w1 b s (st.bind (aA 123))/\w.grownBy w1 (some b)):=⟨h1,am (bd (bd (az _ _) _) _) hg1⟩
 clear h1 hg1;go_wp2_with fail
 refine(mD _ b s (st.bind (aA 123)) 125 125 rfl (by decide) (by exact G1.o.1)).mono ?_;rintro e w2 ⟨rfl,h2,hg2⟩;have bx2:Ll (ag w2 w.heap.size (.int .i64 0) (.int .i64 0) (.string ⟨#[]⟩) (.slice none 0 0) (.slice none 0 0)/\ag w2 (w.heap.size+1) (.int .i64 5) (.int .i64 0) (.string ⟨#[]⟩) (.slice none 0 0) (.slice none 0 0)):=⟨bx1.o.1.grown hg2 (by simp;omega),bx1.o.2.grown hg2 (by simp;omega)⟩
 have G2:Ll (bf w2 b s (if ((st.bind (aA 123)).bind (aA 125)).isSome then (st.bind (aA 123)).bind (aA 125) else (st.bind (aA 123)).map (List.dropWhile cw))/\w.grownBy w2 (some b)):=⟨h2,am G1.o.2 hg2⟩
 have x0_:=bx2.o.1.c;obtain⟨p0,p1,p2,p3,p4,q0,q1,q2,q3,q4⟩:=bx2.o.2.c;clear h2 hg2 bx1 G1;cases hm:((st.bind (aA 123)).bind (aA 125)).isSome with
 | true=>
  have HM:=aa hm;obtain⟨z0,z1,z2,z3,z4,-⟩:=(bx2.o.1.set (.int .i64 5) (.int .i64 0) (.string ⟨#[]⟩) (.slice none 0 0) (.slice none 0 0)).c;have Z:Ll (_/\_/\_/\_/\_):=⟨z0,z1,z2,z3,z4⟩
  clear hm;go_wp2_with fail
  obtain⟨z0,z1,z2,z3,z4⟩:=Z.o;refine MM (v:=cz 5 0 []) ?_ rfl ?_
  ·simp only[ar,aR]at z0 z1 z2 z3 z4;simp[results,results103,go_sem,z0,z1,z2,z3,z4,cz,aR]
  ·refine⟨bC 5 0 [],(st.bind (aA 123)).bind (aA 125),none,none,0,0,rfl,fd _ _ f _ _ _ (by unfold dW;omega) (by unfold dW;omega) (by simp),?_,?_,?_⟩
   ·rw[rM];cases hs:st.bind (aA 123) with
    | none=>rw[hs]at HM;exact absurd HM.o (by simp)
    | some l=>
     rw[hs]at HM;cases h9:aA 125 l with
     | none=>simp[h9]at HM;exact absurd HM.o (by simp)
     | some r=>simp only[Option.bind_some,h9];rfl
   ·have:=G2.o.1;rw[if_pos HM.o]at this;exact this.of_heap ((aI w2 w.heap.size _ _ _ _ _).block b this.lt (by simp;omega))
   ·exact dv G2.o.2 (aI w2 w.heap.size _ _ _ _ _) (by intro k hk;cases hk;exact MG _)
 | false=>
  have HM:=aa hm;have G3:Ll (bf w2 b s ((st.bind (aA 123)).map (List.dropWhile cw))/\w.grownBy w2 (some b)/\cn w2):=by
   have:=G2.o.1;rw[if_neg (by rw[HM.o];simp)]at this;exact⟨this,G2.o.2,HG.o.grown G2.o.2 (by intro k hk;cases hk;exact hb4)⟩
  clear hm G2;have call5:Ll (Calls prog 141 #[.pointer (some ⟨b,0,none⟩),.agg #[.int .i64 5,.int .i64 0,.string ⟨#[]⟩,.slice none 0 0,.slice none 0 0]] w2 fun e w'=>∃ (t:V) (st':Option Lz) (a7 a8:Option Addr) (c7 c8:Nat),
   e=.returned (.agg #[.int .i64 t.kind,.int .i64 t.n,.string ⟨t.s.toArray⟩,.slice a7 t.keys.length c7,.slice a8 t.l.length c8])/\bu w' (fun k=>w.heap.size+2<=k) (f+1) t (.agg #[.int .i64 t.kind,.int .i64 t.n,.string ⟨t.s.toArray⟩,.slice a7 t.keys.length c7,.slice a8 t.l.length c8])/\aK t=true/\st.bind (oq (cH f))=jp (cH f) t st'/\(st'.getD []).length < f+1/\t.l.length+dw st'<=3000/\bf w' b s st'/\w2.grownBy w' (some b)):=by
   have hl2:(((st.bind (aA 123)).map (List.dropWhile cw)).getD []).length < f:=by
    cases hs:st.bind (aA 123) with
    | none=>exact hf0
    | some l=>
     cases st with
     | none=>cases hs
     | some l0=>
      have:=bU (show aA 123 l0=some l from hs);have:=dX l;simp only[Option.getD_some,Option.map_some]at LT ⊢;omega
   refine(rI HW.o f IH.o w2 b (w.heap.size+2) s _ ⟨5,0,[],[],[]⟩ none none 0 0 G3.o.1 G3.o.2.2 hb4 hf0 (by omega) (by omega) bx2.o.2.lt (fd w2 _ f 5 0 [] (by unfold dW;omega) (by unfold dW;omega) (by simp)) rfl (by simp)).mono ?_;rintro e w' ⟨t,st',a7,a8,c7,c8,rfl,hv,hp,htl,hst,hr,hg⟩;refine⟨t,st',a7,a8,c7,c8,rfl,hv,hp,Cq HM.o hst,?_,?_,hr,hg⟩
   ·cases st' with
    | none=>simp
    | some l'=>
     cases hs:(st.bind (aA 123)).map (List.dropWhile cw) with
     | none=>rw[hs]at hst;cases hst
     | some l1=>
      rw[hs]at hst hl2;have:=iM (jd f) _ l1 _ hst;simp only[Option.getD_some]at hl2 ⊢;simp only at this;omega
   ·simp only[List.length_nil]at htl;cases st' with
    | none=>simp only[dw];omega
    | some l'=>have:=hr.len;simp only[dw];omega
  go_wp2_with fail
  refine(call5.o).mono ?_;rintro e w3 ⟨t,st3,a7,a8,c7,c8,rfl,hv3,hp3,hT3,hl3,hc3,hr3,hg3⟩;have I0:Ll (GU f w b s (st.bind (oq (cH f))) (dw st3) (ar w3 (w.heap.size+1) (.int .i64 t.kind) (.int .i64 t.n) (.string ⟨t.s.toArray⟩) (.slice a7 t.keys.length c7) (.slice a8 t.l.length c8))):=
   zU hb4 hbl (bx2.o.1.grown hg3 (by simp;omega)) (bx2.o.2.grown hg3 (by simp;omega)) hv3 hp3 hT3.symm hl3 hc3 hr3 (G3.o.2.2.grown hg3 (by intro k hk;cases hk;exact hb4)) (am G3.o.2.1 hg3)
  obtain⟨p0,p1,p2,p3,p4,q0,q1,q2,q3,q4⟩:=(bx2.o.2.grown hg3 (by simp;omega)).c;clear hv3 hp3 hT3 hl3 hc3 hr3 hg3;go_wp2_with fail
  go_loopg [] (dw st3) (fun k wr=>GU f w b s (st.bind (oq (cH f))) k wr)
  case atStart=>exact I0.o
  case round=>
   clear I0 call5 bx2 G3;obtain⟨t,st1,a7,a8,c7,c8,hk,hT,hc,hl1,bxC,bxA,hv,hp,hr,hGr,hg⟩:=hrel;have A:Ll (gk=dw st1/\jp (cH f) t st1=st.bind (oq (cH f))/\t.l.length+gk<=3000/\(st1.getD []).length < f+1/\ag wr w.heap.size (.int .i64 0) (.int .i64 0) (.string ⟨#[]⟩) (.slice none 0 0) (.slice none 0 0)/\ag wr (w.heap.size+1) (.int .i64 t.kind) (.int .i64 t.n) (.string ⟨t.s.toArray⟩) (.slice a7 t.keys.length c7) (.slice a8 t.l.length c8)/\bu wr (fun k=>w.heap.size+2<=k) (f+1) t (.agg #[.int .i64 t.kind,.int .i64 t.n,.string ⟨t.s.toArray⟩,.slice a7 t.keys.length c7,.slice a8 t.l.length c8])/\aK t=true/\bf wr b s st1/\cn wr/\w.grownBy wr (some b)):=⟨hk,hT,hc,hl1,bxC,bxA,hv,hp,hr,hGr,hg⟩
   have htl:t.l.length<=3000:=by omega
   clear hk hT hc hl1 bxC bxA hv hp hr hGr hg;go_wp2_with fail
   refine(mD _ b s st1 44 44 rfl (by decide) (by exact A.o.2.2.2.2.2.2.2.2.1)).mono ?_;rintro e w2 ⟨rfl,h2,hg2⟩;have D:Ll (bf w2 b s (if (st1.bind (aA 44)).isSome then st1.bind (aA 44) else st1.map (List.dropWhile cw))/\ag w2 w.heap.size (.int .i64 0) (.int .i64 0) (.string ⟨#[]⟩) (.slice none 0 0) (.slice none 0 0)/\ag w2 (w.heap.size+1) (.int .i64 t.kind) (.int .i64 t.n) (.string ⟨t.s.toArray⟩) (.slice a7 t.keys.length c7) (.slice a8 t.l.length c8)/\bu w2 (fun k=>w.heap.size+2<=k) (f+1) t (.agg #[.int .i64 t.kind,.int .i64 t.n,.string ⟨t.s.toArray⟩,.slice a7 t.keys.length c7,.slice a8 t.l.length c8])/\cn w2/\w.grownBy w2 (some b)):=by
    obtain⟨hk,hT,hc,hl1,bxC,bxA,hv,hp,hr,hGr,hg⟩:=A.o;exact⟨h2,bxC.grown hg2 (by simp;omega),bxA.grown hg2 (by simp;omega),hv.grown hg2 (fun k hk e=>by simp at e;omega),hGr.grown hg2 (by intro k hk;cases hk;exact hb4),am hg hg2⟩
   clear h2 hg2;obtain⟨p0,p1,p2,p3,p4,q0,q1,q2,q3,q4⟩:=D.o.2.2.1.c;cases hm:(st1.bind (aA 44)).isSome with
   | true=>
    have HM:=aa hm;have R2:Ll (bf w2 b s (st1.bind (aA 44))):=by have:=D.o.1;rw[if_pos hm]at this;exact this
    clear hm;go_wp2_with fail
    have hl2:Ll (((st1.bind (aA 44)).getD []).length < f+1):=by
     show _ < _;have hl1:=A.o.2.2.2.1;cases st1 with
     | none=>simp
     | some l0=>
      cases hs:aA 44 l0 with
      | none=>simp only[Option.bind_some,hs];simp
      | some l=>
       have:=bU hs;simp only[Option.bind_some,hs,Option.getD_some]at hl1 ⊢;omega
    refine(rI HW.o f IH.o _ b (w.heap.size+2) s _ t a7 a8 c7 c8 (by exact R2.o) (by exact D.o.2.2.2.2.1) hb4 hf0 hl2.o (by omega) (by exact D.o.2.2.1.lt) (by exact D.o.2.2.2.1) A.o.2.2.2.2.2.2.2.1 (by omega)).mono ?_;rintro e w3 ⟨t',st3,a5,a6,c5,c6,rfl,hv3,hp3,htl3,hst3,hr3,hg3⟩;have V3:Ll (GU f w b s (st.bind (oq (cH f))) (dw st3) (ar w3 (w.heap.size+1) (.int .i64 t'.kind) (.int .i64 t'.n) (.string ⟨t'.s.toArray⟩) (.slice a5 t'.keys.length c5) (.slice a6 t'.l.length c6))/\dw st3 < gk):=by
     obtain⟨hk,hT,hc,hl1,-⟩:=A.o;obtain⟨i1,i2⟩:=yk (jd f) HM.o hst3;refine⟨zU hb4 hbl (D.o.2.1.grown hg3 (by simp;omega)) (D.o.2.2.1.grown hg3 (by simp;omega)) hv3 hp3 (by rw[<-hT,i1]) ?_ (by omega) hr3 (D.o.2.2.2.2.1.grown hg3 (by intro k hk;cases hk;exact hb4)) (am D.o.2.2.2.2.2 hg3),by rw[hk];exact i2⟩;cases st3 with
     | none=>simp
     | some l'=>
      cases hs:st1.bind (aA 44) with
      | none=>rw[hs]at hst3;cases hst3
      | some l1=>
       rw[hs]at hst3;have:=iM (jd f) _ l1 _ hst3;have h8:=hl2.o;rw[hs]at h8;simp only[Option.getD_some]at h8 ⊢;simp only at this;omega
    obtain⟨p0,p1,p2,p3,p4,q0,q1,q2,q3,q4⟩:=(D.o.2.2.1.grown hg3 (by simp;omega)).c;clear hv3 hp3 htl3 hst3 hr3 hg3;go_wp2_with fail
    go_roundg (dw st3)
    case measure=>exact V3.o.2
    case rel=>exact V3.o.1
   | false=>
    have HM:=aa hm;have R2:Ll (bf w2 b s (st1.map (List.dropWhile cw))):=by have:=D.o.1;rw[if_neg (by rw[hm];simp)]at this;exact this
    clear hm;go_wp2_with fail
    refine(kP _ b s _ 125 125 rfl (by decide) (by exact R2.o)).mono ?_;rintro e w3 ⟨rfl,h3,hg3⟩;have E:Ll (bf w3 b s ((st1.map (List.dropWhile cw)).bind (aA 125))/\w.grownBy w3 (some b)/\ag w3 w.heap.size (.int .i64 0) (.int .i64 0) (.string ⟨#[]⟩) (.slice none 0 0) (.slice none 0 0)/\ag w3 (w.heap.size+1) (.int .i64 t.kind) (.int .i64 t.n) (.string ⟨t.s.toArray⟩) (.slice a7 t.keys.length c7) (.slice a8 t.l.length c8)/\bu w3 (fun k=>w.heap.size+2<=k) (f+1) t (.agg #[.int .i64 t.kind,.int .i64 t.n,.string ⟨t.s.toArray⟩,.slice a7 t.keys.length c7,.slice a8 t.l.length c8])):=
     ⟨h3,am D.o.2.2.2.2.2 hg3,D.o.2.1.grown hg3 (by simp;omega),D.o.2.2.1.grown hg3 (by simp;omega),D.o.2.2.2.1.grown hg3 (fun k hk e=>by simp at e;omega)⟩
    clear h3 hg3;have x0_:=E.o.2.2.1.c;obtain⟨p0,p1,p2,p3,p4,-⟩:=E.o.2.2.2.1.c;obtain⟨z0,z1,z2,z3,z4,-⟩:=(E.o.2.2.1.set (.int .i64 t.kind) (.int .i64 t.n) (.string ⟨t.s.toArray⟩) (.slice a7 t.keys.length c7) (.slice a8 t.l.length c8)).c;have Z:Ll (_/\_/\_/\_/\_):=⟨z0,z1,z2,z3,z4⟩
    go_wp2_with fail
    obtain⟨z0,z1,z2,z3,z4⟩:=Z.o;refine MM (v:=(.agg #[.int .i64 t.kind,.int .i64 t.n,.string ⟨t.s.toArray⟩,.slice a7 t.keys.length c7,.slice a8 t.l.length c8])) ?_ rfl ?_
    ·simp only[ar]at z0 z1 z2 z3 z4;simp[results,results103,go_sem,z0,z1,z2,z3,z4]
    ·obtain⟨e1,e2,e3,e4,e5⟩:=E.o;have g5:=aI w3 w.heap.size (.int .i64 t.kind) (.int .i64 t.n) (.string ⟨t.s.toArray⟩) (.slice a7 t.keys.length c7) (.slice a8 t.l.length c8);refine⟨t,(st1.map (List.dropWhile cw)).bind (aA 125),a7,a8,c7,c8,rfl,(e5.grown g5 (fun k hk e=>by simp at e;omega)).weak (fun k hk=>by omega),?_,e1.of_heap (g5.block b e1.lt (by simp;omega)),dv e2 g5 (by intro k hk;cases hk;exact MG _)⟩;rw[<-A.o.2.1,Bn HM.o]
theorem rV(w b s)(st:Option Lz)(h:bf w b s st):Calls prog 74 #[.pointer (some ⟨b,0,none⟩)] w fun e w'=>e=.returned (.tuple #[])/\bf w' b s (st.map (List.dropWhile cw))/\w.grownBy w' (some b):=by
 refine(sB w b s _ _ h).mono ?_;rintro e w' ⟨he,hr,hg⟩;refine⟨he,?_,hg⟩;cases st with
 | none=>exact hr
 | some l=>exact hr
theorem Cp(f)(st:Option Lz):st.bind (cH (f+1))=(st.map (List.dropWhile cw)).bind (gy (cH f)):=by cases st <;> rfl
theorem rT{l c m}(hm:m=(c.toNat:Int))(h:cr l≠c):(((cr l).toNat:Int) == m)=false:=wE hm h
theorem rA{l c m}(hm:m=(c.toNat:Int))(h:cr l=c):(((cr l).toNat:Int) == m)=true:=by rw[h,hm];simp
theorem jq{f:Nat}{w3:LC}{b:Nat}{s}{st st':Option Lz}{a7 a8}{c7 c8:Nat}(hbl:b < w.heap.size)(hv:bu w3 (fun k=>w.heap.size+1<=k) (f+1) t (.agg #[.int .i64 t.kind,.int .i64 t.n,.string ⟨t.s.toArray⟩,.slice a7 t.keys.length c7,.slice a8 t.l.length c8]))(hst:st.bind (cH (f+1))=st'.map (fun l=>(t,l)))(hr:bf w3 b s st')(hg:w.grownBy w3 (some b))(LU:ag w3 w.heap.size (.int .i64 0) (.int .i64 0) (.string ⟨#[]⟩) (.slice none 0 0) (.slice none 0 0)):ag (ar w3 w.heap.size (.int .i64 t.kind) (.int .i64 t.n) (.string ⟨t.s.toArray⟩) (.slice a7 t.keys.length c7) (.slice a8 t.l.length c8)) w.heap.size (.int .i64 t.kind) (.int .i64 t.n) (.string ⟨t.s.toArray⟩) (.slice a7 t.keys.length c7) (.slice a8 t.l.length c8)/\bu (ar w3 w.heap.size (.int .i64 t.kind) (.int .i64 t.n) (.string ⟨t.s.toArray⟩) (.slice a7 t.keys.length c7) (.slice a8 t.l.length c8)) (fun k=>w.heap.size<=k) (f+1) t (.agg #[.int .i64 t.kind,.int .i64 t.n,.string ⟨t.s.toArray⟩,.slice a7 t.keys.length c7,.slice a8 t.l.length c8])/\bf (ar w3 w.heap.size (.int .i64 t.kind) (.int .i64 t.n) (.string ⟨t.s.toArray⟩) (.slice a7 t.keys.length c7) (.slice a8 t.l.length c8)) b s st'/\w.grownBy (ar w3 w.heap.size (.int .i64 t.kind) (.int .i64 t.n) (.string ⟨t.s.toArray⟩) (.slice a7 t.keys.length c7) (.slice a8 t.l.length c8)) (some b):=by
 have g5:=aI w3 w.heap.size (.int .i64 t.kind) (.int .i64 t.n) (.string ⟨t.s.toArray⟩) (.slice a7 t.keys.length c7) (.slice a8 t.l.length c8);exact⟨LU.set _ _ _ _ _,(hv.grown g5 (fun k hk e=>by simp at e;omega)).weak (fun k hk=>by omega),hr.of_heap (g5.block b hr.lt (by simp;omega)),dv hg g5 (by intro k hk;cases hk;exact MG _)⟩
theorem xK(hW:vW)(f)(ih:zo f):zo (f+1):=by
 intro w b s st h hG hb4 LT;have H:=aa h;have HG:=aa hG;have IH:=aa ih;have HW:=aa hW;have hbl:=h.lt;clear h hG ih hW;go_enter func73,ntmps73;go_wp2_with fail
 refine(rV _ b s st (by exact H.o.grown (World.grownBy_alloc w _ none) (by simp))).mono ?_;rintro e w1 ⟨rfl,h1,hg1⟩;have K1:Ll (bf w1 b s (st.map (List.dropWhile cw))/\w.grownBy w1 (some b)/\ag w1 w.heap.size (.int .i64 0) (.int .i64 0) (.string ⟨#[]⟩) (.slice none 0 0) (.slice none 0 0)/\cn w1):=by
  have g:=am (bd (az w (some b)) _) hg1;exact⟨h1,g,ag.grown (MN w _) hg1 (by simp;omega),HG.o.grown g (by intro k hk;cases hk;exact hb4)⟩
 clear h1 hg1;go_wp2_with fail
 refine(k9 _ b s ((st.map (List.dropWhile cw)).getD []) (st.map (List.dropWhile cw)).isNone (by exact K1.o.1)).mono ?_;rintro e w2 ⟨rfl,n2,hw2⟩;have K2:Ll (bf w2 b s (st.map (List.dropWhile cw))/\w.grownBy w2 (some b)/\ag w2 w.heap.size (.int .i64 0) (.int .i64 0) (.string ⟨#[]⟩) (.slice none 0 0) (.slice none 0 0)/\cn w2):=by
  rw[hw2];exact⟨K1.o.1.of_heap rfl,cJ K1.o.2.1 _,K1.o.2.2.1,K1.o.2.2.2.same rfl⟩
 have hsz2:w.heap.size+1<=w2.heap.size:=K2.o.2.2.1.lt;clear hw2 K1;have N:Ll (st.bind (cH (f+1))=(st.map (List.dropWhile cw)).bind (gy (cH f))):=Cp f st;have hlen2:Ll ((((st.map (List.dropWhile cw)).getD []).length < f+1)):=by
  show _ < _;cases st with
  | none=>simp
  | some l=>have:=dX l;simp only[Option.getD_some,Option.map_some]at LT ⊢;omega
 obtain⟨st1,hst1⟩:∃ st1,st1=st.map (List.dropWhile cw):=⟨_,rfl⟩
 rw[<-hst1]at K2 N hlen2 ⊢;have HST:=aa hst1;clear hst1;by_cases q110:cr (st1.getD [])=110
 ·have d:=rA (m:=110) rfl q110;have E:Ll (st1.bind (gy (cH f))=(st1.bind (iW [110,117,108,108])).map fun r=>(bC 0 0 [],r)):=by
   cases st1 with
   | none=>rfl
   | some l=>
    have q:cr l=110:=q110;show gy (cH f) l=_;simp only[gy,q];rfl
  go_wp2_with fail
  refine(tW _ b s st1 ⟨#[110,117,108,108]⟩ 0 0 (by unfold dW;omega) (by unfold dW;omega) (by decide) (by decide) (by exact K2.o.1)).mono ?_;rintro e w3 ⟨t,v,st3,rfl,⟨kk,nn,rfl,rfl,hkk,hnn⟩,hst3,hr3,hg3⟩;have HSTF:Ll (st.bind (cH (f+1))=st3.map (fun l=>(bC kk nn [],l))):=by show _=_;rw[N.o,E.o];exact hst3
  have HBX:ag w3 w.heap.size (.int .i64 0) (.int .i64 0) (.string ⟨#[]⟩) (.slice none 0 0) (.slice none 0 0):=K2.o.2.2.1.grown hg3 (by simp;omega);have HVV:bu w3 (fun k=>w.heap.size+1<=k) (f+1) (bC kk nn []) (cz kk nn []):=fd _ _ f _ _ _ hkk hnn (by simp);have HGG:=am K2.o.2.1 hg3;have HRR:=hr3;have HST2:=HSTF.o;clear hst3 hr3 hg3;unfold cz aR;have FIN:=aa (jq (f:=f) (a7:=none) (a8:=none) (c7:=0) (c8:=0) hbl HVV HST2 HRR HGG HBX);have x0_:=HBX.c;obtain⟨z0,z1,z2,z3,z4,-⟩:=(HBX.set (.int .i64 kk) (.int .i64 nn) (.string ⟨#[]⟩) (.slice none 0 0) (.slice none 0 0)).c;clear HVV HST2 HRR HGG HBX;have Z:Ll (_/\_/\_/\_/\_):=⟨z0,z1,z2,z3,z4⟩
  go_wp2_with fail
  obtain⟨z0,z1,z2,z3,z4⟩:=Z.o;refine MM (v:=cz kk nn []) ?_ rfl ?_
  ·simp only[ar]at z0 z1 z2 z3 z4;simp[results,results73,go_sem,z0,z1,z2,z3,z4,cz,bC,aR]
  ·exact⟨bC kk nn [],st3,none,none,0,0,rfl,FIN.o.2.1,HSTF.o,FIN.o.2.2.1,FIN.o.2.2.2⟩
 have n110:=rT (m:=110) rfl q110;by_cases q102:cr (st1.getD [])=102
 ·have d:=rA (m:=102) rfl q102;have E:Ll (st1.bind (gy (cH f))=(st1.bind (iW [102,97,108,115,101])).map fun r=>(bC 1 0 [],r)):=by
   cases st1 with
   | none=>rfl
   | some l=>
    have q:cr l=102:=q102;show gy (cH f) l=_;simp only[gy,q];rfl
  go_wp2_with fail
  refine(tW _ b s st1 ⟨#[102,97,108,115,101]⟩ 1 0 (by unfold dW;omega) (by unfold dW;omega) (by decide) (by decide) (by exact K2.o.1)).mono ?_;rintro e w3 ⟨t,v,st3,rfl,⟨kk,nn,rfl,rfl,hkk,hnn⟩,hst3,hr3,hg3⟩;have HSTF:Ll (st.bind (cH (f+1))=st3.map (fun l=>(bC kk nn [],l))):=by show _=_;rw[N.o,E.o];exact hst3
  have HBX:ag w3 w.heap.size (.int .i64 0) (.int .i64 0) (.string ⟨#[]⟩) (.slice none 0 0) (.slice none 0 0):=K2.o.2.2.1.grown hg3 (by simp;omega);have HVV:bu w3 (fun k=>w.heap.size+1<=k) (f+1) (bC kk nn []) (cz kk nn []):=fd _ _ f _ _ _ hkk hnn (by simp);have HGG:=am K2.o.2.1 hg3;have HRR:=hr3;have HST2:=HSTF.o;clear hst3 hr3 hg3;unfold cz aR;have FIN:=aa (jq (f:=f) (a7:=none) (a8:=none) (c7:=0) (c8:=0) hbl HVV HST2 HRR HGG HBX);have x0_:=HBX.c;obtain⟨z0,z1,z2,z3,z4,-⟩:=(HBX.set (.int .i64 kk) (.int .i64 nn) (.string ⟨#[]⟩) (.slice none 0 0) (.slice none 0 0)).c;clear HVV HST2 HRR HGG HBX;have Z:Ll (_/\_/\_/\_/\_):=⟨z0,z1,z2,z3,z4⟩
  go_wp2_with fail
  obtain⟨z0,z1,z2,z3,z4⟩:=Z.o;refine MM (v:=cz kk nn []) ?_ rfl ?_
  ·simp only[ar]at z0 z1 z2 z3 z4;simp[results,results73,go_sem,z0,z1,z2,z3,z4,cz,bC,aR]
  ·exact⟨bC kk nn [],st3,none,none,0,0,rfl,FIN.o.2.1,HSTF.o,FIN.o.2.2.1,FIN.o.2.2.2⟩
 have n102:=rT (m:=102) rfl q102;by_cases q116:cr (st1.getD [])=116
 ·have d:=rA (m:=116) rfl q116;have E:Ll (st1.bind (gy (cH f))=(st1.bind (iW [116,114,117,101])).map fun r=>(bC 1 1 [],r)):=by
   cases st1 with
   | none=>rfl
   | some l=>
    have q:cr l=116:=q116;show gy (cH f) l=_;simp only[gy,q];rfl
  go_wp2_with fail
  refine(tW _ b s st1 ⟨#[116,114,117,101]⟩ 1 1 (by unfold dW;omega) (by unfold dW;omega) (by decide) (by decide) (by exact K2.o.1)).mono ?_;rintro e w3 ⟨t,v,st3,rfl,⟨kk,nn,rfl,rfl,hkk,hnn⟩,hst3,hr3,hg3⟩;have HSTF:Ll (st.bind (cH (f+1))=st3.map (fun l=>(bC kk nn [],l))):=by show _=_;rw[N.o,E.o];exact hst3
  have HBX:ag w3 w.heap.size (.int .i64 0) (.int .i64 0) (.string ⟨#[]⟩) (.slice none 0 0) (.slice none 0 0):=K2.o.2.2.1.grown hg3 (by simp;omega);have HVV:bu w3 (fun k=>w.heap.size+1<=k) (f+1) (bC kk nn []) (cz kk nn []):=fd _ _ f _ _ _ hkk hnn (by simp);have HGG:=am K2.o.2.1 hg3;have HRR:=hr3;have HST2:=HSTF.o;clear hst3 hr3 hg3;unfold cz aR;have FIN:=aa (jq (f:=f) (a7:=none) (a8:=none) (c7:=0) (c8:=0) hbl HVV HST2 HRR HGG HBX);have x0_:=HBX.c;obtain⟨z0,z1,z2,z3,z4,-⟩:=(HBX.set (.int .i64 kk) (.int .i64 nn) (.string ⟨#[]⟩) (.slice none 0 0) (.slice none 0 0)).c;clear HVV HST2 HRR HGG HBX;have Z:Ll (_/\_/\_/\_/\_):=⟨z0,z1,z2,z3,z4⟩
  go_wp2_with fail
  obtain⟨z0,z1,z2,z3,z4⟩:=Z.o;refine MM (v:=cz kk nn []) ?_ rfl ?_
  ·simp only[ar]at z0 z1 z2 z3 z4;simp[results,results73,go_sem,z0,z1,z2,z3,z4,cz,bC,aR]
  ·exact⟨bC kk nn [],st3,none,none,0,0,rfl,FIN.o.2.1,HSTF.o,FIN.o.2.2.1,FIN.o.2.2.2⟩
 have n116:=rT (m:=116) rfl q116;by_cases q34:cr (st1.getD [])=34
 ·have d:=rA (m:=34) rfl q34;have E:Ll (st1.bind (gy (cH f))=(st1.bind iS).map fun p=>(bC 3 0 p.1,p.2)):=by
   cases st1 with
   | none=>rfl
   | some l=>
    show gy (cH f) l=_;simp only[gy,if_neg (show ¬cr l=110 from q110),if_neg (show ¬cr l=102 from q102),if_neg (show ¬cr l=116 from q116),if_pos (show cr l=34 from q34)];rfl
  go_wp2_with fail
  refine(rY _ b s st1 (by exact K2.o.1)).mono ?_;rintro e w3 ⟨t,st3,rfl,hst3,hkl,hr3,hg3⟩;have HSTF:Ll (st.bind (cH (f+1))=st3.map (fun l=>(bC 3 0 t,l))):=by
   show _=_;rw[N.o,E.o,hst3];cases st3 <;> rfl
  have HBX:ag w3 w.heap.size (.int .i64 0) (.int .i64 0) (.string ⟨#[]⟩) (.slice none 0 0) (.slice none 0 0):=K2.o.2.2.1.grown hg3 (by simp;omega);have HVV:bu w3 (fun k=>w.heap.size+1<=k) (f+1) (bC 3 0 t) (cz 3 0 t):=fd _ _ f _ _ _ (by unfold dW;omega) (by unfold dW;omega) (by unfold maxLen;omega);have HGG:=am K2.o.2.1 hg3;have HRR:=hr3;have HST2:=HSTF.o;clear hst3 hr3 hg3;have FIN:=aa (jq (f:=f) (a7:=none) (a8:=none) (c7:=0) (c8:=0) hbl HVV HST2 HRR HGG HBX);have x0_:=HBX.c;obtain⟨z0,z1,z2,z3,z4,-⟩:=(HBX.set (.int .i64 3) (.int .i64 0) (.string ⟨t.toArray⟩) (.slice none 0 0) (.slice none 0 0)).c;clear HVV HST2 HRR HGG HBX;have Z:Ll (_/\_/\_/\_/\_):=⟨z0,z1,z2,z3,z4⟩
  go_wp2_with fail
  obtain⟨z0,z1,z2,z3,z4⟩:=Z.o;refine MM (v:=cz 3 0 t) ?_ rfl ?_
  ·simp only[ar]at z0 z1 z2 z3 z4;simp[results,results73,go_sem,z0,z1,z2,z3,z4,cz,aR]
  ·exact⟨bC 3 0 t,st3,none,none,0,0,rfl,FIN.o.2.1,HSTF.o,FIN.o.2.2.1,FIN.o.2.2.2⟩
 have n34:=rT (m:=34) rfl q34;by_cases q91:cr (st1.getD [])=91
 ·have d:=rA (m:=91) rfl q91;have E:Ll (st1.bind (gy (cH f))=st1.bind (jH (cH f))):=by
   cases st1 with
   | none=>rfl
   | some l=>
    show gy (cH f) l=_;simp only[gy,if_neg (show ¬cr l=110 from q110),if_neg (show ¬cr l=102 from q102),if_neg (show ¬cr l=116 from q116),if_neg (show ¬cr l=34 from q34),if_pos (show cr l=91 from q91)];rfl
  have hf0:0 < f:=by
   have:=hlen2.o;cases hs:st1.getD [] with
   | nil=>rw[hs]at q91;simp[cr]at q91
   | cons c r=>rw[hs]at this;simp only[My]at this;omega
  go_wp2_with fail
  refine(Gz f IH.o _ b s st1 (by exact K2.o.1) (by exact K2.o.2.2.2) hb4 hf0 hlen2.o).mono ?_;rintro e w3 ⟨t,st3,a7,a8,c7,c8,rfl,hv3,hst3,hr3,hg3⟩;have HSTF:Ll (st.bind (cH (f+1))=st3.map (fun l=>(t,l))):=by
   show _=_;rw[N.o,E.o,hst3]
  have HBX:ag w3 w.heap.size (.int .i64 0) (.int .i64 0) (.string ⟨#[]⟩) (.slice none 0 0) (.slice none 0 0):=K2.o.2.2.1.grown hg3 (by simp;omega);have HVV:bu w3 (fun k=>w.heap.size+1<=k) (f+1) t (.agg #[.int .i64 t.kind,.int .i64 t.n,.string ⟨t.s.toArray⟩,.slice a7 t.keys.length c7,.slice a8 t.l.length c8]):=hv3.weak (fun k hk=>by omega);have HGG:=am K2.o.2.1 hg3;have HRR:=hr3;have HST2:=HSTF.o;clear hst3 hr3 hg3 hv3;have FIN:=aa (jq (f:=f) hbl HVV HST2 HRR HGG HBX);have x0_:=HBX.c;obtain⟨z0,z1,z2,z3,z4,-⟩:=FIN.o.1.c;clear HVV HST2 HRR HGG HBX;have Z:Ll (_/\_/\_/\_/\_):=⟨z0,z1,z2,z3,z4⟩
  go_wp2_with fail
  obtain⟨z0,z1,z2,z3,z4⟩:=Z.o;refine MM (v:=(.agg #[.int .i64 t.kind,.int .i64 t.n,.string ⟨t.s.toArray⟩,.slice a7 t.keys.length c7,.slice a8 t.l.length c8])) ?_ rfl ?_
  ·simp only[ar]at z0 z1 z2 z3 z4;simp[results,results73,go_sem,z0,z1,z2,z3,z4]
  ·exact⟨t,st3,a7,a8,c7,c8,rfl,FIN.o.2.1,HSTF.o,FIN.o.2.2.1,FIN.o.2.2.2⟩
 have n91:=rT (m:=91) rfl q91;by_cases q123:cr (st1.getD [])=123
 ·have d:=rA (m:=123) rfl q123;have E:Ll (st1.bind (gy (cH f))=st1.bind (oq (cH f))):=by
   cases st1 with
   | none=>rfl
   | some l=>
    show gy (cH f) l=_;simp only[gy,if_neg (show ¬cr l=110 from q110),if_neg (show ¬cr l=102 from q102),if_neg (show ¬cr l=116 from q116),if_neg (show ¬cr l=34 from q34),if_neg (show ¬cr l=91 from q91),if_pos (show cr l=123 from q123)];rfl
  have hf0:0 < f:=by
   have:=hlen2.o;cases hs:st1.getD [] with
   | nil=>rw[hs]at q123;simp[cr]at q123
   | cons c r=>rw[hs]at this;simp only[My]at this;omega
  go_wp2_with fail
  refine(Dv HW.o f IH.o _ b s st1 (by exact K2.o.1) (by exact K2.o.2.2.2) hb4 hf0 hlen2.o).mono ?_;rintro e w3 ⟨t,st3,a7,a8,c7,c8,rfl,hv3,hst3,hr3,hg3⟩;have HSTF:Ll (st.bind (cH (f+1))=st3.map (fun l=>(t,l))):=by
   show _=_;rw[N.o,E.o,hst3]
  have HBX:ag w3 w.heap.size (.int .i64 0) (.int .i64 0) (.string ⟨#[]⟩) (.slice none 0 0) (.slice none 0 0):=K2.o.2.2.1.grown hg3 (by simp;omega);have HVV:bu w3 (fun k=>w.heap.size+1<=k) (f+1) t (.agg #[.int .i64 t.kind,.int .i64 t.n,.string ⟨t.s.toArray⟩,.slice a7 t.keys.length c7,.slice a8 t.l.length c8]):=hv3.weak (fun k hk=>by omega);have HGG:=am K2.o.2.1 hg3;have HRR:=hr3;have HST2:=HSTF.o;clear hst3 hr3 hg3 hv3;have FIN:=aa (jq (f:=f) hbl HVV HST2 HRR HGG HBX);have x0_:=HBX.c;obtain⟨z0,z1,z2,z3,z4,-⟩:=FIN.o.1.c;clear HVV HST2 HRR HGG HBX;have Z:Ll (_/\_/\_/\_/\_):=⟨z0,z1,z2,z3,z4⟩
  go_wp2_with fail
  obtain⟨z0,z1,z2,z3,z4⟩:=Z.o;refine MM (v:=(.agg #[.int .i64 t.kind,.int .i64 t.n,.string ⟨t.s.toArray⟩,.slice a7 t.keys.length c7,.slice a8 t.l.length c8])) ?_ rfl ?_
  ·simp only[ar]at z0 z1 z2 z3 z4;simp[results,results73,go_sem,z0,z1,z2,z3,z4]
  ·exact⟨t,st3,a7,a8,c7,c8,rfl,FIN.o.2.1,HSTF.o,FIN.o.2.2.1,FIN.o.2.2.2⟩
 have n123:=rT (m:=123) rfl q123;have E:Ll (st1.bind (gy (cH f))=(st1.bind pO).map fun p=>(bC 2 p.1 [],p.2)):=by
  cases st1 with
  | none=>rfl
  | some l=>
   show gy (cH f) l=_;simp only[gy,if_neg (show ¬cr l=110 from q110),if_neg (show ¬cr l=102 from q102),if_neg (show ¬cr l=116 from q116),if_neg (show ¬cr l=34 from q34),if_neg (show ¬cr l=91 from q91),if_neg (show ¬cr l=123 from q123)];rfl
 go_wp2_with fail
 refine(CJ _ b s st1 (by exact K2.o.1) (by exact K2.o.2.2.2) hb4).mono ?_;rintro e w3 ⟨t,v,st3,rfl,⟨kk,nn,rfl,rfl,hkk,hnn⟩,hst3,hr3,hg3⟩;have HSTF:Ll (st.bind (cH (f+1))=st3.map (fun l=>(bC kk nn [],l))):=by show _=_;rw[N.o,E.o];exact hst3
 have HBX:ag w3 w.heap.size (.int .i64 0) (.int .i64 0) (.string ⟨#[]⟩) (.slice none 0 0) (.slice none 0 0):=K2.o.2.2.1.grown hg3 (by simp;omega);have HVV:bu w3 (fun k=>w.heap.size+1<=k) (f+1) (bC kk nn []) (cz kk nn []):=fd _ _ f _ _ _ hkk hnn (by simp);have HGG:=am K2.o.2.1 hg3;have HRR:=hr3;have HST2:=HSTF.o;clear hst3 hr3 hg3;unfold cz aR;have FIN:=aa (jq (f:=f) (a7:=none) (a8:=none) (c7:=0) (c8:=0) hbl HVV HST2 HRR HGG HBX);have x0_:=HBX.c;obtain⟨z0,z1,z2,z3,z4,-⟩:=(HBX.set (.int .i64 kk) (.int .i64 nn) (.string ⟨#[]⟩) (.slice none 0 0) (.slice none 0 0)).c;clear HVV HST2 HRR HGG HBX;have Z:Ll (_/\_/\_/\_/\_):=⟨z0,z1,z2,z3,z4⟩
 go_wp2_with fail
 obtain⟨z0,z1,z2,z3,z4⟩:=Z.o;refine MM (v:=cz kk nn []) ?_ rfl ?_
 ·simp only[ar]at z0 z1 z2 z3 z4;simp[results,results73,go_sem,z0,z1,z2,z3,z4,cz,aR]
 ·exact⟨bC kk nn [],st3,none,none,0,0,rfl,FIN.o.2.1,HSTF.o,FIN.o.2.2.1,FIN.o.2.2.2⟩
theorem DC(hW:vW)(f):zo f:=by
 induction f with
 | zero=>intro w b s st h hG hb4 LT;omega
 | succ f ih=>exact xK hW f ih
end Go.Proofs.YtbdlfclnkpofaaaGreatDoor
