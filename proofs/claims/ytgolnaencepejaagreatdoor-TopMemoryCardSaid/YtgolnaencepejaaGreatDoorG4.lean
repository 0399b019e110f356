import Derived.Test.YtgolnaencepejaaGreatDoorG1
import Derived.Lib.ItoaLen
import Derived.Deep.DeepCutAuto
set_option maxRecDepth 100000
set_option maxHeartbeats 40000000
set_option linter.unusedSimpArgs false
set_option linter.unusedVariables false
namespace Go.Proofs.YtgolnaencepejaaGreatDoor
open Go.RowKit
open _root_.Go.Proofs.Tryz
section
attribute [local go_sem ↓] Go.wp_at_zero Go.wp_at_succ
theorem yX(w ok d t x v xv key i)(h:bu w ok (d+1) t v)(hx:bu w ok d x xv)(hf:dO t key=some i)(L9:t.l.length<=100000):Calls prog 158 #[v,aR key,xv] w fun e w'=>∃ r,e=.returned r/\bu w' (bQ ok w.heap.size) (d+1) { t with l:=t.l.take i++x :: t.l.drop (i+1) } r/\La w w':=by
 have H:=aa h;have HX:=aa hx;obtain⟨ks,ls,rfl,h1,h2,h3,h4,h5⟩:=h;have K5:=aa h5;have KK:Ll (dW t.kind/\dW t.n/\t.s.length<=maxLen/\ao w ok t.keys ks):=⟨h1,h2,h3,h4⟩
 obtain⟨a1,c1,rfl⟩:=h4.form;have l1:=h4.1;obtain⟨f1,f2,f3,f4⟩:=fW hf;have F:=aa hf;have FP:=aa f1;clear hf f1 f2;obtain⟨_,K5'⟩:=K5.o;rcases K5' with⟨e,_⟩ | ⟨b,off,c,hls',hc1,hc2,Mb⟩
 ·rw[e]at f3;simp at f3
 subst hls';obtain⟨xk,xl,hxv⟩:∃ xk xl,xv=.agg #[.int .i64 x.kind,.int .i64 x.n,aR x.s,xk,xl]:=by
  match d,hx with
  | d+1,hx=>obtain⟨ks,ls,e,_⟩:=hx;exact⟨ks,ls,e⟩
 subst hxv;obtain⟨-,-,-,⟨a7,c7,rfl⟩,⟨a8,c8,rfl⟩⟩:=hx.agg;unfold maxLen at l1 h3 hc2;unfold aR;clear h4 h5 h1 h2 hx Mb;go_enter func158,ntmps158;go_wp2_with fail
 refine Lk (ni _ ok _ t _ (by exact H.o.bel (ab (ab (ae _ _) (ae _ _)) (ae _ _)))) fun w1 hb1=>?_;rw[FP.o];have bx:Ll (ag w1 w.heap.size (.int .i64 t.kind) (.int .i64 t.n) (.string ⟨t.s.toArray⟩) (.slice a1 t.keys.length c1) (.slice (some ⟨b,off,none⟩) t.l.length c)/\KY w1 (w.heap.size+1) x a7 c7 a8 c8/\Lc w1 (w.heap.size+2)):=⟨af hb1 (lI w _ _ _),af hb1 (mE w _ _ _),af hb1 (jI w _ _ _)⟩
 obtain⟨p0,p1,p2,p3,p4,-,-,-,p9,p10⟩:=bx.o.1.c;have B1:Ll (La w w1):=ab (ab (ab (ae _ _) (ae _ _)) (ae _ _)) hb1;clear hb1;go_wp2_with fail
 refine Lk (kJ _ ok _ t _ key (by exact H.o.bel B1.o)) fun w2 hb2=>?_;rw[F.o];have bx2:Ll (ag w2 w.heap.size (.int .i64 t.kind) (.int .i64 t.n) (.string ⟨t.s.toArray⟩) (.slice a1 t.keys.length c1) (.slice (some ⟨b,off,none⟩) t.l.length c)/\KY w2 (w.heap.size+1) x a7 c7 a8 c8/\Lc w2 (w.heap.size+2)):=⟨af hb2 bx.o.1,af hb2 bx.o.2.1,af hb2 bx.o.2.2⟩
 have B2:Ll (La w w2):=ab B1.o hb2;have hsz2:w.heap.size+2 < w2.heap.size:=bx2.o.2.2.lt;clear hb2 bx B1;unfold pS;obtain⟨p0,p1,p2,p3,p4,-,-,-,p9,p10⟩:=bx2.o.1.c;have q0_:=bx2.o.2.1.c;have i0:0<=(i:Int):=by omega
 have i1:(i:Int)<=(c:Int):=by omega
 have i2:(i:Int)+1<=(t.l.length:Int):=by omega
 have i3:(t.l.length:Int)<=(c:Int):=by omega
 obtain⟨cs1,cs2,r1,s1,r2,s2⟩:=km K5.o i (i+1) (by omega) f3 (by omega);obtain⟨a3,hifs⟩:∃ a3,(if c=i+1 then (some ⟨b,off,none⟩:Option Addr) else some ⟨b,off+(i+1) * 5,none⟩)=a3:=⟨_,rfl⟩
 rw[hifs]at s2;have PP:Ll (cA (bu w ok d) (t.l.take i) cs1/\du w 5 (.slice (some ⟨b,off,none⟩) i c) i cs1/\cA (bu w ok d) (t.l.drop (i+1)) cs2/\du w 5 (.slice a3 (t.l.length - (i+1)) (c - (i+1))) (t.l.length - (i+1)) cs2):=⟨r1,s1,r2,s2⟩
 clear r1 s1 r2 s2;go_wp2_with fail
 have hw1:IntKind.i64.wrap ((i:Int)+1)=(i:Int)+1:=by rw[IntKind.wrap_i64];omega
 have i4:(0:Int)<=(i:Int)+1:=by omega
 have hS:Ll (∀ W',La w2 W'->ag W' w.heap.size (.int .i64 t.kind) (.int .i64 t.n) (.string ⟨t.s.toArray⟩) (.slice a1 t.keys.length c1) (.slice (some ⟨b,off,none⟩) t.l.length c)/\KY W' (w.heap.size+1) x a7 c7 a8 c8/\Lc W' (w.heap.size+2)):=
  fun W' hb=>⟨af hb bx2.o.1,af hb bx2.o.2.1,af hb bx2.o.2.2⟩
 have hcon:Ll (∀ W,W.heap=((w2.alloc (.cells (KV x a7 c7 a8 c8) 39)).alloc (.cells #[.slice (some ⟨b,off,none⟩) i c,.slice (some ⟨w2.heap.size,0,none⟩) 1 1,.slice a3 (t.l.length - (i+1)) (c - (i+1))] 37)).heap->W.os=w2.os->W.tape=w2.tape->W.output=w2.output ->
  Calls prog 191 #[.slice (some ⟨w2.heap.size+1,0,none⟩) 3 3] W fun e w'=>∃ g cap,e=.returned (.slice (some ⟨g,0,none⟩) t.l.length cap)/\w'.ownsRow w2.heap.size 39 5 (.slice (some ⟨g,0,none⟩) t.l.length cap) t.l.length (cs1++[.int .i64 x.kind,.int .i64 x.n,.string ⟨x.s.toArray⟩,.slice a7 x.keys.length c7,.slice a8 x.l.length c8]++cs2)/\La w2 w'):=by
  intro W e1 e2 e3 e4;have LY:La w2 W:=by
   have:=ab (ae w2 (.cells (KV x a7 c7 a8 c8) 39)) (ae _ (.cells #[.slice (some ⟨b,off,none⟩) i c,.slice (some ⟨w2.heap.size,0,none⟩) 1 1,.slice a3 (t.l.length - (i+1)) (c - (i+1))] 37));exact⟨e2,e3,e4,by rw[e1];exact this.size,fun k hk=>by rw[e1];exact this.block k hk⟩
  have ha:=fb w2 (.cells (KV x a7 c7 a8 c8) 39) (.cells #[.slice (some ⟨b,off,none⟩) i c,.slice (some ⟨w2.heap.size,0,none⟩) 1 1,.slice a3 (t.l.length - (i+1)) (c - (i+1))] 37);have hb:=et w2 (.cells (KV x a7 c7 a8 c8) 39) (.cells #[.slice (some ⟨b,off,none⟩) i c,.slice (some ⟨w2.heap.size,0,none⟩) 1 1,.slice a3 (t.l.length - (i+1)) (c - (i+1))] 37);rw[<-e1]at ha hb;have hbw:La w W:=ab B2.o LY;refine(vB W (w2.heap.size+1) ⟨_,i,cs1⟩ ⟨_,1,_⟩ ⟨_,t.l.length - (i+1),cs2⟩ (by simp[World.cell?,hb]) (by simp[World.cell?,hb]) (by simp[World.cell?,hb]) (PP.o.2.1.bel hbw) (Gj ha (Ji _ _ _ _ _ _ _ _ _)) (PP.o.2.2.2.bel hbw) (by simp only;omega)).mono ?_;rintro e w' ⟨v,rfl,ho,hb9⟩;have en:i+1+(t.l.length - (i+1))=t.l.length:=by omega
  simp only at ho;rw[en]at ho;have ho':w'.ownsRow w2.heap.size 39 5 v t.l.length (cs1++[.int .i64 x.kind,.int .i64 x.n,.string ⟨x.s.toArray⟩,.slice a7 x.keys.length c7,.slice a8 x.l.length c8]++cs2):=cV ho LY.size;rcases ho'.2 with⟨_,h0⟩ | ⟨g,cap,cur,e,rest⟩
  ·omega
  ·subst e;exact⟨g,cap,rfl,ho',ab LY hb9⟩
 have k4:∀ o,(w2.alloc o).cell? ⟨w.heap.size,4,none⟩=some (.slice (some ⟨b,off,none⟩) t.l.length c):=fun o=>(hS.o _ (ae w2 o)).1.c.2.2.2.2.1;have m0:∀ o,(w2.alloc o).cell? ⟨w.heap.size+1,0,none⟩=some (.int .i64 x.kind):=fun o=>(hS.o _ (ae w2 o)).2.1.c.1;have m1:∀ o,(w2.alloc o).cell? ⟨w.heap.size+1,1,none⟩=some (.int .i64 x.n):=fun o=>(hS.o _ (ae w2 o)).2.1.c.2.1;have m2:∀ o,(w2.alloc o).cell? ⟨w.heap.size+1,2,none⟩=some (.string ⟨x.s.toArray⟩):=fun o=>(hS.o _ (ae w2 o)).2.1.c.2.2.1;have m3:∀ o,(w2.alloc o).cell? ⟨w.heap.size+1,3,none⟩=some (.slice a7 x.keys.length c7):=fun o=>(hS.o _ (ae w2 o)).2.1.c.2.2.2.1;have m4:∀ o,(w2.alloc o).cell? ⟨w.heap.size+1,4,none⟩=some (.slice a8 x.l.length c8):=fun o=>(hS.o _ (ae w2 o)).2.1.c.2.2.2.2.1;have fin:Ll (∀ w3 g cap,w3.ownsRow w2.heap.size 39 5 (.slice (some ⟨g,0,none⟩) t.l.length cap) t.l.length (cs1++[.int .i64 x.kind,.int .i64 x.n,.string ⟨x.s.toArray⟩,.slice a7 x.keys.length c7,.slice a8 x.l.length c8]++cs2)->La w2 w3 ->
  bu (ar (w3.setCell ⟨w.heap.size,4,none⟩ (.slice (some ⟨g,0,none⟩) t.l.length cap)) (w.heap.size+2) (.int .i64 t.kind) (.int .i64 t.n) (.string ⟨t.s.toArray⟩) (.slice a1 t.keys.length c1) (.slice (some ⟨g,0,none⟩) t.l.length cap)) (bQ ok w.heap.size) (d+1) { t with l:=t.l.take i++x :: t.l.drop (i+1) } (.agg #[.int .i64 t.kind,.int .i64 t.n,.string ⟨t.s.toArray⟩,.slice a1 t.keys.length c1,.slice (some ⟨g,0,none⟩) t.l.length cap]) /\
  La w (ar (w3.setCell ⟨w.heap.size,4,none⟩ (.slice (some ⟨g,0,none⟩) t.l.length cap)) (w.heap.size+2) (.int .i64 t.kind) (.int .i64 t.n) (.string ⟨t.s.toArray⟩) (.slice a1 t.keys.length c1) (.slice (some ⟨g,0,none⟩) t.l.length cap)) /\
  ag (ar (w3.setCell ⟨w.heap.size,4,none⟩ (.slice (some ⟨g,0,none⟩) t.l.length cap)) (w.heap.size+2) (.int .i64 t.kind) (.int .i64 t.n) (.string ⟨t.s.toArray⟩) (.slice a1 t.keys.length c1) (.slice (some ⟨g,0,none⟩) t.l.length cap)) (w.heap.size+2) (.int .i64 t.kind) (.int .i64 t.n) (.string ⟨t.s.toArray⟩) (.slice a1 t.keys.length c1) (.slice (some ⟨g,0,none⟩) t.l.length cap)):=by
  intro w3 g cap ho hb;have g1:w3.grownBy (w3.setCell ⟨w.heap.size,4,none⟩ (.slice (some ⟨g,0,none⟩) t.l.length cap)) (some w.heap.size):=ap (az _ _) _ _;have g2:=aI (w3.setCell ⟨w.heap.size,4,none⟩ (.slice (some ⟨g,0,none⟩) t.l.length cap)) (w.heap.size+2) (.int .i64 t.kind) (.int .i64 t.n) (.string ⟨t.s.toArray⟩) (.slice a1 t.keys.length c1) (.slice (some ⟨g,0,none⟩) t.l.length cap);have LU:=((hS.o _ hb).2.2.grown g1 (by simp)).set (.int .i64 t.kind) (.int .i64 t.n) (.string ⟨t.s.toArray⟩) (.slice a1 t.keys.length c1) (.slice (some ⟨g,0,none⟩) t.l.length cap);have hbw:La w w3:=ab B2.o hb;have hb9:La w (ar (w3.setCell ⟨w.heap.size,4,none⟩ (.slice (some ⟨g,0,none⟩) t.l.length cap)) (w.heap.size+2) (.int .i64 t.kind) (.int .i64 t.n) (.string ⟨t.s.toArray⟩) (.slice a1 t.keys.length c1) (.slice (some ⟨g,0,none⟩) t.l.length cap)):=
   bS (eD (bi (aq hbw) (MG _) _ _) (by omega) _ _ _ _ _)
  refine⟨⟨_,_,rfl,KK.o.1,KK.o.2.1,KK.o.2.2.1,?_,?_⟩,hb9,LU⟩
  ·exact(KK.o.2.2.2.bel hb9).imp fun a x h1 h2=>⟨.inl h1,h2⟩
  ·have ho9:=aW (aW ho g1 (by omega)) g2 (by omega);have LT:t.l.length=(t.l.take i++x :: t.l.drop (i+1)).length:=by simp;omega
   refine fJ LT ho9 ?_ (fun k hk=>.inr (by omega)) (by rw[<-LT];unfold maxLen;omega);have rx:cA (bu _ (bQ ok w.heap.size) d) [x] [.int .i64 x.kind,.int .i64 x.n,.string ⟨x.s.toArray⟩,.slice a7 x.keys.length c7,.slice a8 x.l.length c8]:=⟨_,_,_,_,_,[],rfl,(HX.o.bel hb9).toN,rfl⟩
   have:=((PP.o.2.2.1.bel (B:=w.heap.size) hb9).append rx).append (PP.o.1.bel (B:=w.heap.size) hb9);rw[List.append_assoc];exact this
 go_region_with ((go_at_call 191;refine(hcon.o _ (by rfl) (by rfl) (by rfl) (by rfl)).mono ?_;rintro e w3 ⟨g,cap,rfl,ho3,hb3⟩;obtain⟨p0,p1,p2,p3,p4,-,-,-,p9,p10⟩:=(hS.o _ hb3).1.c;have x0_:=(hS.o _ hb3).2.2.c;have O3:=aa ho3;have HB3:=aa hb3;clear ho3 hb3))
 all_goals
  go_wp2_with fail
  obtain⟨f1,f2,f3⟩:=fin.o _ g cap O3.o HB3.o;have z0_:=f3.c;refine MM (v:=.agg #[.int .i64 t.kind,.int .i64 t.n,.string ⟨t.s.toArray⟩,.slice a1 t.keys.length c1,.slice (some ⟨g,0,none⟩) t.l.length cap]) ?_ rfl ?_
  ·simp only[ar]at z0_;simp[results,results158,go_sem,z0_]
  ·exact⟨_,rfl,f1,f2⟩
end
variable {w w':World}
section
open Go.RowKit Go.Shelf
def cn (w:LC):Prop:=
 (∃ tp p t f,w.heap[5]?=some (.cells #[.iface tp p] t f))/\(∃ tp p t f,w.heap[6]?=some (.cells #[.iface tp p] t f)) /\
 ∃ t f,w.heap[1]?=some (.cells (Lib.pow10Tab.map fun z=>Value.int .u64 z).toArray t f)
theorem cn.grown{r}(h:cn w)(hg:w.grownBy w' r)(hr:∀ k,r=some k->7<=k):cn w':=by
 obtain⟨⟨tp,p,t,f,h1⟩,⟨tq,q,t2,f2,h2⟩,⟨t3,f3,h3⟩⟩:=h;have lt:∀ k o,w.heap[k]?=some o->k < w.heap.size:=fun k o e=>(MF.1 e).1;refine⟨⟨tp,p,t,f,(hg.block _ (lt _ _ h1) ?_).trans h1⟩,⟨tq,q,t2,f2,(hg.block _ (lt _ _ h2) ?_).trans h2⟩,⟨t3,f3,(hg.block _ (lt _ _ h3) ?_).trans h3⟩⟩ <;>
 ·intro e;have:=hr _ e.symm;omega
theorem cn.size(h:cn w):7<=w.heap.size:=by
 obtain⟨⟨tp,p,t,f,h1⟩,⟨tq,q,t2,f2,h2⟩,⟨t3,f3,h3⟩⟩:=h;have lt:∀ k o,w.heap[k]?=some o->k < w.heap.size:=fun k o e=>(MF.1 e).1;have:=lt _ _ h1;have:=lt _ _ h2;have:=lt _ _ h3;omega
theorem cn.same(h:cn w)(e:w'.heap=w.heap):cn w':=by
 unfold cn at h ⊢;rw[e];exact h
theorem Id(s:ByteArray)(hs:s.size<=2000)(v:Int)(h:Lib.atoiAll s.data.toList=.ok v)(w:LC):Calls prog 150 #[.string s] w fun e w'=>e=.returned (.tuple #[.int .i64 v,.nilIface])/\La w w':=by
 refine(Any.strconv_Atoi_ok Tryz.laysC172 s (by omega) v h w).mono ?_;rintro e w' ⟨rfl,rfl | ⟨t,rfl⟩⟩
 ·exact⟨rfl,MK _ _⟩
 ·exact⟨rfl,Lib.bytesWorld_below w _ t⟩
theorem GH(s:ByteArray)(hs:s.size<=2000)(h:∀ v,Lib.atoiAll s.data.toList≠.ok v)(w:LC)(hG:cn w):Calls prog 150 #[.string s] w fun e w'=>∃ v N T,e=.returned (.tuple #[.int .i64 v,.iface T (.pointer (some ⟨N,0,none⟩))])/\La w w':=by
 obtain⟨⟨tp,p,t,f,h1⟩,⟨tq,q,t2,f2,h2⟩,_⟩:=hG;rcases h9:Lib.atoiAll s.data.toList with v | _ | _
 ·exact absurd h9 (h v)
 ·refine(Any.strconv_Atoi_syntax_var Tryz.laysC172 s (by omega) h9 tp p w ?_).mono ?_
  ·unfold World.var?;rw[show Program.globalNamed prog _=some 5 from by kernel_rfl];simp[h1]
  ·rintro e w' ⟨N,rfl,-,-,hb⟩;exact⟨0,N,_,rfl,hb⟩
 ·refine(Any.strconv_Atoi_range_var Tryz.laysC172 s (by omega) h9 tq q w ?_).mono ?_
  ·unfold World.var?;rw[show Program.globalNamed prog _=some 6 from by kernel_rfl];simp[h2]
  ·rintro e w' ⟨N,rfl,-,-,hb⟩;exact⟨_,N,_,rfl,hb⟩
theorem zF(w)(os:Array Obj):La w (Sort.grow w os):=
 ⟨rfl,rfl,rfl,by simp[Sort.grow],fun k hk=>by simp[Sort.grow,Array.getElem?_append,hk]⟩
theorem H7(n:Int)(h0:dW n)(w:LC)(hG:cn w):Calls prog 151 #[.int .i64 n] w fun e w'=>e=.returned (.string ⟨(Lib.itoa n).toArray⟩)/\La w w':=by
 obtain⟨_,_,t3,f3,h3⟩:=hG;refine(Any.strconv_Itoa Tryz.laysM171 n h0.1 h0.2 w ?_).mono ?_
 ·unfold Lib.TabIs World.var?;rw[show Program.globalNamed prog _=some 1 from by kernel_rfl];simp[h3]
 ·rintro e w' ⟨rfl,k,os,rfl⟩;have h:La w (w.drewN k):=⟨rfl,rfl,rfl,MG _,fun _ _=>rfl⟩
  exact⟨rfl,h.trans (zF (w.drewN k) os)⟩
def cB (c:UInt8):Bool:=c == 45 || (decide (48<=c.toNat)&&decide (c.toNat<=57))
def pO (l:Lz):Option (Int × Lz):=
 match Lib.atoiAll (l.takeWhile cB) with
 | .ok v=>if Lib.itoa v=l.takeWhile cB then some (v,l.dropWhile cB) else none
 | _=>none
def bC (k n:Int) (s:Lz):V:=⟨k,n,s,[],[]⟩
theorem fd(w:LC)(ok d k n s)(hk:dW k)(hn:dW n)(hs:s.length<=maxLen):bu w ok (d+1) (bC k n s) (cz k n s):=
 ⟨_,_,rfl,hk,hn,hs,⟨by simp[bC],.inl ⟨rfl,none,rfl⟩⟩,⟨by simp[bC],.inl ⟨rfl,none,rfl⟩⟩⟩
theorem If{l:Lz}{v:Int}(h:Lib.atoiAll (l.takeWhile cB)=.ok v)(h2:Lib.itoa v=l.takeWhile cB):pO l=some (v,l.dropWhile cB):=by
 simp[pO,h,h2]
theorem Hb{l:Lz}{v:Int}(h:Lib.atoiAll (l.takeWhile cB)=.ok v)(h2:Lib.itoa v≠l.takeWhile cB):pO l=none:=by
 simp[pO,h,h2]
theorem Hq{l:Lz}(h:∀ v,Lib.atoiAll (l.takeWhile cB)≠.ok v):pO l=none:=by
 unfold pO;split
 ·rename_i v e;exact absurd e (h v)
 ·rfl
theorem xn(v:Int):Lib.atoiAll []≠.ok v:=by intro h;cases h
theorem Gh{l}(h:cB (es l)=false):l.dropWhile cB=l:=by
 cases l with
 | nil=>rfl
 | cons c l=>rw[List.dropWhile_cons,if_neg (by simpa [es] using h)]
theorem Du{l}(h:cB (es l)=true):∃ c r,l=c :: r/\cB c=true:=by
 cases l with
 | nil=>simp[es,cB]at h
 | cons c l=>exact⟨c,l,rfl,by simpa [es] using h⟩
def FA (t:V) (v:Value):Prop:=∃ k n,t=bC k n []/\v=cz k n []/\dW k/\dW n
def fi:Obj:=.cells Lb 39
def J8 (w:LC) (b:Nat) (s:ByteArray) (l:Lz) (bad:Bool) (i0:Nat) (k:Nat) (c:Value) (wr:LC) (j:Nat):Prop:=
 ∃ l1,c=.int .u8 (es l1).toNat/\k=l1.length/\qP wr b s (i0+j) bad/\s.data.toList.drop (i0+j)=l1/\l.takeWhile cB=l.take j++l1.takeWhile cB/\l1.dropWhile cB=l.dropWhile cB/\(w.alloc fi).grownBy wr (some b)
theorem CJ(w:LC)(b s)(st:Option Lz)(h:bf w b s st)(hG:cn w)(hb4:7<=b):Calls prog 118 #[.pointer (some ⟨b,0,none⟩)] w fun e w'=>∃ (t:V) (v:Value) (st':Option Lz),e=.returned v/\FA t v /\
 (st.bind pO).map (fun p=>(bC 2 p.1 [],p.2))=st'.map (fun l=>(t,l))/\bf w' b s st'/\w.grownBy w' (some b):=by
 have H:=aa h;have hbl:=h.lt;obtain⟨i0,h1,e1⟩:=h;have c0_:=h1.c;have E1:=aa e1;have hi0:=h1.2.1;have hs0:=h1.2.2;have R0:=aa h1;have HG:=aa hG;clear h1 e1 hG;have hne:b≠w.heap.size:=by omega
 go_enter func118,ntmps118;go_wp2_with fail
 refine(kd _ b s (st.getD []) st.isNone (by exact H.o.grown (World.grownBy_alloc w _ none) (by simp))).mono ?_;rintro e w1 ⟨rfl,n1,rfl⟩;go_wp2_with fail
 go_loopg [4] (st.getD []).length (fun k c wr=>∃ j,J8 w b s (st.getD []) st.isNone i0 k c wr j)
 case atStart=>
  refine⟨0,st.getD [],rfl,rfl,?_,E1.o,rfl,rfl,cJ (az _ _) _⟩;exact⟨(World.grownBy_alloc w _ none).block b hbl (by simp) |>.trans (by exact R0.o.1),R0.o.2⟩
 case round=>
  obtain⟨j,l1,rfl,hk,h2,e2,ht,hd,hg⟩:=hrel;have A:Ll (gk=l1.length/\qP wr b s (i0+j) st.isNone/\s.data.toList.drop (i0+j)=l1/\(st.getD []).takeWhile cB=(st.getD []).take j++l1.takeWhile cB/\l1.dropWhile cB=(st.getD []).dropWhile cB/\(w.alloc fi).grownBy wr (some b)):=⟨hk,h2,e2,ht,hd,hg⟩
  have c0_:=h2.c;have hj:=h2.2.1;clear hk h2 e2 ht hd hg;cases hn:cB (es l1) with
  | true=>
   obtain⟨c,r,rfl,hc⟩:=Du hn;clear hn;have hc':c.toNat=45\/48<=c.toNat/\c.toNat<=57:=by
    simp only[cB,Bool.or_eq_true,beq_iff_eq,MJ,decide_eq_true_eq]at hc;rcases hc with rfl | h
    ·left;rfl
    ·right;exact h
   have hlt:i0+j < s.size:=by
    have:=congrArg List.length A.o.2.2.1;rw[MB,Array.length_toList]at this;have e:s.data.size=s.size:=rfl;simp only[My]at this;omega
   have step:Ll (∀ wr' nn,wr'=(wr.setCell ⟨b,1,none⟩ (.int .i64 ((i0:Int)+j+1)))->J8 w b s (st.getD []) st.isNone i0 r.length (.int .u8 (es r).toNat) (wr'.drewN nn) (j+1)):=by
    rintro wr' nn rfl;obtain⟨hk,h2,e2,ht,hd,hg⟩:=A.o;have e3:s.data.toList.drop (i0+j+1)=r:=by
     have:=congrArg List.tail e2;simpa using this
    refine⟨r,rfl,rfl,⟨?_,by omega,h2.2.2⟩,e3,?_,?_,cJ (ap hg _ _) _⟩
    ·have e9:((i0:Int)+j+1)=((i0+(j+1):Nat):Int):=by omega
     rw[e9];exact ak h2.1 1 _
    ·rw[ht,List.takeWhile_cons,if_pos hc];have e8:(st.getD []).drop j=c :: r:=by rw[<-E1.o,List.drop_drop];exact e2
     rw[List.take_add_one,List.append_assoc];congr 1
     have e7:(st.getD [])[j]?=some c:=by
      have:=congrArg (fun l=>l[0]?) e8;simpa using this
     rw[e7];rfl
    ·rw[<-hd,List.dropWhile_cons,if_pos hc]
   have nxt:Ll (eA (wr.setCell ⟨b,1,none⟩ (.int .i64 ((i0:Int)+j+1))) b s r st.isNone):=by
    obtain⟨r',e5,e6,h3,h4,-⟩:=step.o _ 0 rfl;have e7:s.data.toList.drop (i0+j+1)=r:=by
     have:=congrArg List.tail A.o.2.2.1;simpa using this
    exact⟨i0+(j+1),⟨h3.1,h3.2⟩,e7⟩
   rcases hc' with hq | ⟨hq1,hq2⟩
   ·have q1:(((es (c :: r)).toNat:Int) == 45)=true:=by simp[es,hq]
    go_wp2_with fail
    refine(kd _ b s r st.isNone (by exact nxt.o)).mono ?_;rintro e w1 ⟨rfl,n1,rfl⟩;go_wp2_with fail
    go_roundg r.length
    case measure=>rw[A.o.1];simp
    case rel=>exact⟨j+1,step.o _ n1 rfl⟩
   ·have q1:(((es (c :: r)).toNat:Int) == 45)=false:=by rw[MO];simp only[es,List.headD_cons];omega
    have q2:48<=((es (c :: r)).toNat:Int):=by simp only[es,List.headD_cons];omega
    have q3:((es (c :: r)).toNat:Int)<=57:=by simp only[es,List.headD_cons];omega
    go_wp2_with fail
    refine(kd _ b s r st.isNone (by exact nxt.o)).mono ?_;rintro e w1 ⟨rfl,n1,rfl⟩;go_wp2_with fail
    go_roundg r.length
    case measure=>rw[A.o.1];simp
    case rel=>exact⟨j+1,step.o _ n1 rfl⟩
  | false=>
   have hn':¬(((es l1).toNat:Int)=45):=by
    intro e;have:es l1=45:=UInt8.toNat_inj.1 (by simpa using Int.ofNat.inj e);rw[this]at hn;exact absurd hn (by decide)
   have hn1:(((es l1).toNat:Int) == 45)=false:=by rw[MO];exact hn'
   have hsplit:(48<=((es l1).toNat:Int))/\¬(((es l1).toNat:Int)<=57)\/¬(48<=((es l1).toNat:Int)):=by
    by_cases g1:48<=((es l1).toNat:Int)
    ·left;refine⟨g1,fun g2=>?_⟩;have:cB (es l1)=true:=by
      simp only[cB,Bool.or_eq_true,beq_iff_eq,MJ,decide_eq_true_eq];right;omega
     rw[this]at hn;cases hn
    ·right;exact g1
   have b1:(i0:Int)<=((i0+j:Nat):Int):=by omega
   have b2:((i0+j:Nat):Int)<=(s.size:Int):=by omega
   have hx:Ll ((s.extract i0 (i0+j)).data.toList=(st.getD []).takeWhile cB):=by
    obtain⟨hk,h2,e2,ht,hd,hg⟩:=A.o;have hz:l1.takeWhile cB=[]:=by
     cases l1 with
     | nil=>rfl
     | cons x r=>rw[List.takeWhile_cons,if_neg (by simpa [es] using hn)]
    rw[ht,hz,List.append_nil,<-E1.o];have:=ByteArray.extract_mk s.data.toList i0 (i0+j);have e9:(ByteArray.mk s.data.toList.toArray)=s:=by cases s;simp
    rw[e9]at this;rw[this,Nat.add_sub_cancel_left];exact List.toList_toArray
   have hxl:(s.extract i0 (i0+j)).size<=2000:=by rw[ByteArray.size_extract];omega
   have hend:Ll (eA wr b s ((st.getD []).dropWhile cB) st.isNone):=by
    obtain⟨hk,h2,e2,ht,hd,hg⟩:=A.o;exact⟨i0+j,h2,by rw[e2,<-hd,Gh hn]⟩
   have HN:=aa hn;clear hn hn';generalize hX:s.extract i0 (i0+j)=X at hx hxl;have HX:=aa hX;have hgw:Ll ((w.alloc fi).grownBy wr (some b)):=A.o.2.2.2.2.2;have LU:Ll (Lc wr w.heap.size):=ag.grown (w:=w.alloc fi) (MN w _) hgw.o (by simp;omega);have hG1:Ll (cn wr):=(HG.o.grown (World.grownBy_alloc w fi none) (by simp)).grown hgw.o (by intro k hk;cases hk;exact hb4);rcases hv:Lib.atoiAll X.data.toList with v | _ | _
   ·have hvb:dW v:=Lib.atoiAll_bounds hv;have HV:=aa hv;clear hv;rcases hsplit with⟨d1,d2⟩ | d1
    all_goals
     go_wp2_with fail
     go_quiet (fail)
     rw[hX];go_wp2_with fail
     refine Lk (Id X hxl v HV.o _) fun w2 hb2=>?_;have B2:=aa hb2;clear hb2;go_wp2_with fail
     refine Lk (H7 v hvb _ (by exact(hG1.o.same (w':=wr.drewN _) rfl).grown (aq (r:=none) B2.o) (by simp))) fun w3 hb3=>?_;have B3:=aa hb3;clear hb3;have hg3:Ll (wr.grownBy w3 none):=am (am (cJ (az wr none) _) (aq B2.o)) (aq B3.o);have hbx3:Ll (Lc w3 w.heap.size):=LU.o.grown hg3.o (by simp);have x0_:=hbx3.o.c;by_cases heq:Lib.itoa v=X.data.toList
     ·have hq:(Lib.itoa v == X.toList)=true:=by rw[ByteArray.toList_eq,beq_iff_eq];exact heq
      have hB:=hbx3.o.set (.int .i64 2) (.int .i64 v) (aR []) (.slice none 0 0) (.slice none 0 0);obtain⟨z0,z1,z2,z3,z4,-⟩:=hB.c;have Z:Ll (_/\_/\_/\_/\_):=⟨z0,z1,z2,z3,z4⟩
      clear hB;go_wp2_with fail
      obtain⟨z0,z1,z2,z3,z4⟩:=Z.o;refine MM (v:=cz 2 v []) ?_ rfl ?_
      ·simp only[ar,aR]at z0 z1 z2 z3 z4;simp[results,results118,go_sem,z0,z1,z2,z3,z4,cz,aR]
      ·refine⟨bC 2 v [],cz 2 v [],st.map (List.dropWhile cB),rfl,⟨_,_,rfl,rfl,(by unfold dW;omega),hvb⟩,?_,?_,?_⟩
       ·match st,hx,hend with
        | none,hx,_=>rw[hx.o]at HV;exact absurd HV.o (xn v)
        | some l,hx,_=>
         have hx':X.data.toList=l.takeWhile cB:=hx.o;exact congrArg _ (If (by rw[<-hx'];exact HV.o) (by rw[<-hx'];exact heq))
       ·have e1:(st.map (List.dropWhile cB)).getD []=(st.getD []).dropWhile cB:=by cases st <;> rfl
        have e2:(st.map (List.dropWhile cB)).isNone=st.isNone:=by cases st <;> rfl
        unfold bf;rw[e1,e2];refine hend.o.of_heap (((aI w3 w.heap.size _ _ _ _ _).block b ?_ (by simp;omega)).trans (hg3.o.block b hend.o.lt (by simp)));exact MI hend.o.lt hg3.o.size
       ·exact dv (am (am (World.grownBy_alloc w fi _) hgw.o) (dv (az _ _) hg3.o (by simp))) (aI w3 w.heap.size _ _ _ _ _) (by intro k hk;cases hk;exact MG _)
     ·have hq:(Lib.itoa v == X.toList)=false:=by rw[ByteArray.toList_eq,MO];exact heq
      go_wp2_with fail
      refine(mv _ b s _ _ (by exact hend.o.of_heap (hg3.o.block b hend.o.lt (by simp)))).mono ?_;rintro e w4 ⟨rfl,h4,hg4⟩;have R4:Ll (eA w4 b s [] true/\w3.grownBy w4 (some b)):=⟨h4,hg4⟩
      clear h4 hg4;have hb4':=hbx3.o.grown R4.o.2 (by simp;omega);have x0_:=hb4'.c;have hB:=hb4'.set (.int .i64 0) (.int .i64 0) (aR []) (.slice none 0 0) (.slice none 0 0);obtain⟨z0,z1,z2,z3,z4,-⟩:=hB.c;have Z:Ll (_/\_/\_/\_/\_):=⟨z0,z1,z2,z3,z4⟩
      clear hB hb4';go_wp2_with fail
      obtain⟨z0,z1,z2,z3,z4⟩:=Z.o;refine MM (v:=cz 0 0 []) ?_ rfl ?_
      ·simp only[ar,aR]at z0 z1 z2 z3 z4;simp[results,results118,go_sem,z0,z1,z2,z3,z4,cz,aR]
      ·refine⟨bC 0 0 [],cz 0 0 [],none,rfl,⟨_,_,rfl,rfl,(by unfold dW;omega),(by unfold dW;omega)⟩,?_,?_,?_⟩
       ·cases st with
        | none=>rfl
        | some l=>
         have hx':X.data.toList=l.takeWhile cB:=hx.o;exact congrArg _ (Hb (v:=v) (by rw[<-hx'];exact HV.o) (by rw[<-hx'];exact heq))
       ·exact R4.o.1.of_heap ((aI w4 w.heap.size _ _ _ _ _).block b R4.o.1.lt (by simp;omega))
       ·exact dv (am (am (am (World.grownBy_alloc w fi _) hgw.o) (dv (az _ _) hg3.o (by simp))) R4.o.2) (aI w4 w.heap.size _ _ _ _ _) (by intro k hk;cases hk;exact MG _)
   all_goals
    have hno:∀ v,Lib.atoiAll X.data.toList≠.ok v:=by intro v e;rw[hv]at e;cases e
    have HV:=aa hno;clear hv hno;rcases hsplit with⟨d1,d2⟩ | d1
    all_goals
     go_wp2_with fail
     go_quiet (fail)
     rw[hX];go_wp2_with fail
     refine(GH X hxl HV.o _ (by exact(hG1.o.same (w':=wr.drewN _) rfl))).mono ?_;rintro e w3 ⟨v,N,T,rfl,hb2⟩;have hg3:Ll (wr.grownBy w3 none):=am (cJ (az wr none) _) (aq hb2);clear hb2;have hbx3:Ll (Lc w3 w.heap.size):=LU.o.grown hg3.o (by simp);go_wp2_with fail
     refine(mv _ b s _ _ (by exact hend.o.of_heap (hg3.o.block b hend.o.lt (by simp)))).mono ?_;rintro e w4 ⟨rfl,h4,hg4⟩;have R4:Ll (eA w4 b s [] true/\w3.grownBy w4 (some b)):=⟨h4,hg4⟩
     clear h4 hg4;have hb4':=hbx3.o.grown R4.o.2 (by simp;omega);have x0_:=hb4'.c;have hB:=hb4'.set (.int .i64 0) (.int .i64 0) (aR []) (.slice none 0 0) (.slice none 0 0);obtain⟨z0,z1,z2,z3,z4,-⟩:=hB.c;have Z:Ll (_/\_/\_/\_/\_):=⟨z0,z1,z2,z3,z4⟩
     clear hB hb4';go_wp2_with fail
     obtain⟨z0,z1,z2,z3,z4⟩:=Z.o;refine MM (v:=cz 0 0 []) ?_ rfl ?_
     ·simp only[ar,aR]at z0 z1 z2 z3 z4;simp[results,results118,go_sem,z0,z1,z2,z3,z4,cz,aR]
     ·refine⟨bC 0 0 [],cz 0 0 [],none,rfl,⟨_,_,rfl,rfl,(by unfold dW;omega),(by unfold dW;omega)⟩,?_,?_,?_⟩
      ·cases st with
       | none=>rfl
       | some l=>
        have hx':X.data.toList=l.takeWhile cB:=hx.o;exact congrArg _ (Hq (by intro v;rw[<-hx'];exact HV.o v))
      ·exact R4.o.1.of_heap ((aI w4 w.heap.size _ _ _ _ _).block b R4.o.1.lt (by simp;omega))
      ·exact dv (am (am (am (World.grownBy_alloc w fi _) hgw.o) (dv (az _ _) hg3.o (by simp))) R4.o.2) (aI w4 w.heap.size _ _ _ _ _) (by intro k hk;cases hk;exact MG _)
end
def iW (wd l:Lz):Option Lz:=if wd.isPrefixOf l then some (l.drop wd.length) else none
theorem tW(w:LC)(b s)(st:Option Lz)(wd k n)(hk:dW k)(hn:dW n)(hwd:0 < wd.size)(hwd2:wd.size<=100)(h:bf w b s st):Calls prog 114 #[.pointer (some ⟨b,0,none⟩),.string wd,.agg #[.int .i64 k,.int .i64 n,.string ⟨#[]⟩,.slice none 0 0,.slice none 0 0]] w fun e w'=>∃ (t:V) (v:Value) (st':Option Lz),e=.returned v/\FA t v /\
 (st.bind (iW wd.data.toList)).map (fun l=>(bC k n [],l))=st'.map (fun l=>(t,l))/\bf w' b s st'/\w.grownBy w' (some b):=by
 have H:=aa h;have hbl:=h.lt;obtain⟨i,h1,e1⟩:=h;have E1:=aa e1;have hi:=h1.2.1;have hs0:=h1.2.2;have R0:=aa h1;clear e1 h1;have hr1:Ll (qP ((w.alloc (.cells #[.int .i64 k,.int .i64 n,.string ⟨#[]⟩,.slice none 0 0,.slice none 0 0] 39)).alloc fi) b s i st.isNone):=
  ⟨by rw[(World.grownBy_alloc _ fi none).block b (by simp;omega) (by simp),(World.grownBy_alloc w _ none).block b hbl (by simp)];exact R0.o.1,R0.o.2⟩
 have i0:(0:Int)<=(i:Int):=by omega
 have i1:(i:Int)<=(s.size:Int):=by omega
 obtain⟨c0,c1,c2,f1,f2⟩:=hr1.o.c;unfold fi at c0 c1 c2 f1 f2;have hdr:Ll ((s.data.toList.drop i).take (s.size - i)=st.getD []):=by
  show _=_;rw[<-E1.o];exact MD (by simp only[MB,Array.length_toList];exact MG _)
 cases hpx:wd.data.toList.isPrefixOf (st.getD []) with
 | true=>
  have hp:Lib.hasPrefix ((s.data.toList.drop i).take (s.size - i)) wd.data.toList=true:=by rw[hdr.o];exact hpx
  have HP:=aa hpx;have LT:i+wd.size<=s.size:=by
   have:=List.IsPrefix.length_le (List.isPrefixOf_iff_prefix.1 hpx);rw[<-E1.o,MB,Array.length_toList,Array.length_toList]at this;have e:s.data.size=s.size:=rfl;have e':wd.data.size=wd.size:=rfl;omega
  clear hpx;go_enter func114,ntmps114;go_wp2_with fail
  go_quiet ((go_at_call 143;exact Calls.quiet_of_same (Tryz.strings_HasPrefix _ _ _)))
  go_wp2_with fail
  refine MM (v:=cz k n []) (by simp[results,results114,go_sem,cz,aR]) rfl ?_;refine⟨bC k n [],cz k n [],st.map (List.drop wd.data.toList.length),rfl,⟨_,_,rfl,rfl,hk,hn⟩,?_,?_,?_⟩
  ·cases st with
   | none=>exact absurd HP.o (by
    cases hw:wd.data.toList with
    | nil=>
     have e:wd.data.toList.length=wd.size:=by rw[Array.length_toList];rfl
     rw[hw]at e;simp at e;omega
    | cons c r=>simp)
   | some l=>exact congrArg _ (show iW wd.data.toList l=some _ by unfold iW;exact if_pos HP.o)
  ·have e9:((i:Int)+(wd.size:Int))=((i+wd.size:Nat):Int):=by omega
   refine⟨i+wd.size,⟨?_,LT,hs0⟩,?_⟩
   ·rw[e9];refine((aI _ (w.heap.size+1) _ _ _ _ _).block b ?_ (by simp;omega)).trans ?_
    ·simp[World.setCell];omega
    ·have:(st.map (List.drop wd.data.toList.length)).isNone=st.isNone:=by cases st <;> rfl
     rw[this];exact ak hr1.o.1 1 _
   ·have e8:wd.data.toList.length=wd.size:=by rw[Array.length_toList];rfl
    rw[<-List.drop_drop,E1.o,e8];cases st with
    | none=>simp
    | some l=>rfl
  ·exact dv (ap (cJ (bd (bd (az _ _) _) _) _) _ _) (aI _ (w.heap.size+1) _ _ _ _ _) (by intro k hk;cases hk;omega)
 | false=>
  have hp:Lib.hasPrefix ((s.data.toList.drop i).take (s.size - i)) wd.data.toList=false:=by rw[hdr.o];exact hpx
  have HP:=aa hpx;clear hpx;go_enter func114,ntmps114;go_wp2_with fail
  go_quiet ((go_at_call 143;exact Calls.quiet_of_same (Tryz.strings_HasPrefix _ _ _)))
  go_wp2_with fail
  refine(mv _ b s (st.getD []) st.isNone (by exact⟨i,⟨hr1.o.1,hr1.o.2⟩,E1.o⟩)).mono ?_;rintro e w4 ⟨rfl,h4,hg4⟩;have hg5:=am (cJ (az ((w.alloc (.cells #[.int .i64 k,.int .i64 n,.string ⟨#[]⟩,.slice none 0 0,.slice none 0 0] 39)).alloc fi) (some b)) nq) hg4;have LU:Lc w4 (w.heap.size+1):=ag.grown (et w _ fi) hg5 (by simp;omega);have R4:Ll (eA w4 b s [] true/\w.grownBy w4 (some b)):=⟨h4,am (bd (bd (az _ _) _) _) hg5⟩
  have x0_:=LU.c;obtain⟨z0,z1,z2,z3,z4,-⟩:=(LU.set (.int .i64 0) (.int .i64 0) (aR []) (.slice none 0 0) (.slice none 0 0)).c;have Z:Ll (_/\_/\_/\_/\_):=⟨z0,z1,z2,z3,z4⟩
  clear LU h4 hg4 hg5;go_wp2_with fail
  obtain⟨z0,z1,z2,z3,z4⟩:=Z.o;refine MM (v:=cz 0 0 []) ?_ rfl ?_
  ·simp only[ar,aR]at z0 z1 z2 z3 z4;simp[results,results114,go_sem,z0,z1,z2,z3,z4,cz,aR]
  ·refine⟨bC 0 0 [],cz 0 0 [],none,rfl,⟨_,_,rfl,rfl,(by unfold dW;omega),(by unfold dW;omega)⟩,?_,?_,?_⟩
   ·cases st with
    | none=>rfl
    | some l=>exact congrArg _ (show iW wd.data.toList l=none by unfold iW;rw[if_neg (by rw[show wd.data.toList.isPrefixOf l=false from HP.o];simp)])
   ·exact R4.o.1.of_heap ((aI w4 (w.heap.size+1) _ _ _ _ _).block b R4.o.1.lt (by simp;omega))
   ·exact dv R4.o.2 (aI w4 (w.heap.size+1) _ _ _ _ _) (by intro k hk;cases hk;omega)
def fH (g:Lz->Option (V × Lz)):Nat->List V->Lz->Option (V × Lz)
 | 0,_,_=>none
 | k+1,acc,l=>
  match aA 44 l with
  | some r=>(g r).bind fun p=>fH g k (acc++[p.1]) p.2
  | none=>(aA 93 (l.dropWhile cw)).map fun r=>(⟨4,0,[],[],acc⟩,r)
def jH (g:Lz->Option (V × Lz)) (l:Lz):Option (V × Lz):=
 (aA 91 l).bind fun l=>
  match aA 93 l with
  | some r=>some (⟨4,0,[],[],[]⟩,r)
  | none=>(g (l.dropWhile cw)).bind fun p=>fH g (p.2.length+1) [p.1] p.2
def lO (g:Lz->Option (V × Lz)) (v:V) (l:Lz):Option (V × Lz):=
 (iS l).bind fun q=>(aA 58 q.2).bind fun l=>(g l).bind fun p=>if (aS v q.1).isSome then none else some (aG v q.1 p.1,p.2)
def fC (g:Lz->Option (V × Lz)):Nat->V->Lz->Option (V × Lz)
 | 0,_,_=>none
 | k+1,v,l=>
  match aA 44 l with
  | some r=>(lO g v r).bind fun p=>fC g k p.1 p.2
  | none=>(aA 125 (l.dropWhile cw)).map fun r=>(v,r)
def oq (g:Lz->Option (V × Lz)) (l:Lz):Option (V × Lz):=
 (aA 123 l).bind fun l=>
  match aA 125 l with
  | some r=>some (⟨5,0,[],[],[]⟩,r)
  | none=>(lO g ⟨5,0,[],[],[]⟩ (l.dropWhile cw)).bind fun p=>fC g (p.2.length+1) p.1 p.2
def gy (g:Lz->Option (V × Lz)) (l:Lz):Option (V × Lz):=
 if es l=110 then (iW [110,117,108,108] l).map fun r=>(bC 0 0 [],r)
 else if es l=102 then (iW [102,97,108,115,101] l).map fun r=>(bC 1 0 [],r)
 else if es l=116 then (iW [116,114,117,101] l).map fun r=>(bC 1 1 [],r)
 else if es l=34 then (iS l).map fun p=>(bC 3 0 p.1,p.2)
 else if es l=91 then jH g l
 else if es l=123 then oq g l
 else (pO l).map fun p=>(bC 2 p.1 [],p.2)
def cH:Nat->Lz->Option (V × Lz)
 | 0,_=>none
 | f+1,l=>gy (cH f) (l.dropWhile cw)
def kT (g:Lz->Option (V × Lz)):Prop:=∀ l p,g l=some p->p.2.length < l.length
theorem xT{g:Lz->Option (V × Lz)}(hg:kT g)(k):∀ (acc:List V) (l:Lz) (p:V × Lz),fH g k acc l=some p->p.2.length < l.length:=by
 induction k with
 | zero=>intro acc l p h;cases h
 | succ k ih=>
  intro acc l p h;simp only[fH]at h;split at h
  ·rename_i r hr;simp only[Option.bind_eq_some_iff]at h;obtain⟨q,h1,h2⟩:=h;have:=hg _ _ h1;have:=ih _ _ _ h2;have:=bU hr;omega
  ·simp only[Option.map_eq_some_iff]at h;obtain⟨r,h1,rfl⟩:=h;have:=bU h1;have:=dX l;simp only;omega
theorem DM{g:Lz->Option (V × Lz)}(hg:kT g):kT (jH g):=by
 intro l p h;simp only[jH,Option.bind_eq_some_iff]at h;obtain⟨r,h1,h2⟩:=h;have:=bU h1;split at h2
 ·rename_i r2 hr2;cases h2;have:=bU hr2;simp only;omega
 ·simp only[Option.bind_eq_some_iff]at h2;obtain⟨q,h3,h4⟩:=h2;have:=hg _ _ h3;have:=xT hg _ _ _ _ h4;have:=dX r;omega
theorem iM{g:Lz->Option (V × Lz)}(hg:kT g)(v):kT (lO g v):=by
 intro l p h;simp only[lO,Option.bind_eq_some_iff]at h;obtain⟨q,h1,r,h2,y,h3,h4⟩:=h;split at h4
 ·cases h4
 ·cases h4;have:=mL h1;have:=bU h2;have:=hg _ _ h3;simp only;omega
theorem yt{g:Lz->Option (V × Lz)}(hg:kT g)(k):∀ (v:V) (l:Lz) (p:V × Lz),fC g k v l=some p->p.2.length < l.length:=by
 induction k with
 | zero=>intro acc l p h;cases h
 | succ k ih=>
  intro acc l p h;simp only[fC]at h;split at h
  ·rename_i r hr;simp only[Option.bind_eq_some_iff]at h;obtain⟨q,h1,h2⟩:=h;have:=iM hg _ _ _ h1;have:=ih _ _ _ h2;have:=bU hr;omega
  ·simp only[Option.map_eq_some_iff]at h;obtain⟨r,h1,rfl⟩:=h;have:=bU h1;have:=dX l;simp only;omega
theorem Fh{g:Lz->Option (V × Lz)}(hg:kT g):kT (oq g):=by
 intro l p h;simp only[oq,Option.bind_eq_some_iff]at h;obtain⟨r,h1,h2⟩:=h;have:=bU h1;split at h2
 ·rename_i r2 hr2;cases h2;have:=bU hr2;simp only;omega
 ·simp only[Option.bind_eq_some_iff]at h2;obtain⟨q,h3,h4⟩:=h2;have:=iM hg _ _ _ h3;have:=yt hg _ _ _ _ h4;have:=dX r;omega
theorem mP{wd l r}(hw:0 < wd.length)(h:iW wd l=some r):r.length < l.length:=by
 unfold iW at h;split at h
 ·rename_i hp;cases h;have:=List.IsPrefix.length_le (List.isPrefixOf_iff_prefix.1 hp);rw[MB];omega
 ·cases h
theorem DT{l}{p:Int × Lz}(h:pO l=some p):p.2.length < l.length:=by
 unfold pO at h;split at h
 ·rename_i v hv;split at h
  ·rename_i he;cases h;have e:l=l.takeWhile cB++l.dropWhile cB:=(List.takeWhile_append_dropWhile).symm;have e2:=congrArg List.length e;rw[Mx]at e2;have:0 < (l.takeWhile cB).length:=by
    cases ht:l.takeWhile cB with
    | nil=>rw[ht]at hv;exact absurd hv (xn v)
    | cons c r=>simp
   simp only;omega
  ·cases h
 ·cases h
theorem Fq{g:Lz->Option (V × Lz)}(hg:kT g):kT (gy g):=by
 intro l p h;unfold gy at h;split at h
 ·simp only[Option.map_eq_some_iff]at h;obtain⟨r,h1,rfl⟩:=h;exact mP (by simp) h1
 split at h
 ·simp only[Option.map_eq_some_iff]at h;obtain⟨r,h1,rfl⟩:=h;exact mP (by simp) h1
 split at h
 ·simp only[Option.map_eq_some_iff]at h;obtain⟨r,h1,rfl⟩:=h;exact mP (by simp) h1
 split at h
 ·simp only[Option.map_eq_some_iff]at h;obtain⟨r,h1,rfl⟩:=h;exact mL h1
 split at h
 ·exact DM hg _ _ h
 split at h
 ·exact Fh hg _ _ h
 ·simp only[Option.map_eq_some_iff]at h;obtain⟨r,h1,rfl⟩:=h;exact DT h1
theorem jd(f):kT (cH f):=by
 induction f with
 | zero=>intro l p h;cases h
 | succ f ih=>
  intro l p h;have:=Fq ih _ _ h;have:=dX l;omega
variable {g:Nat}
def zo (f:Nat):Prop:=∀ (w:LC) (b:Nat) (s:ByteArray) (st:Option Lz),bf w b s st->cn w->7<=b->(st.getD []).length < f ->
 Calls prog 89 #[.pointer (some ⟨b,0,none⟩)] w fun e w'=>∃ (t:V) (st':Option Lz) (a7 a8:Option Addr) (c7 c8:Nat),
  e=.returned (.agg (KV t a7 c7 a8 c8)) /\
  bu w' (fun k=>w.heap.size<=k) f t (.agg (KV t a7 c7 a8 c8))/\st.bind (cH f)=st'.map (fun l=>(t,l))/\bf w' b s st'/\w.grownBy w' (some b)
theorem EV{c0 c1 c2 c3 c4}(h:ag w g c0 c1 c2 c3 c4)(v):ag (w.setCell ⟨g,4,none⟩ v) g c0 c1 c2 c3 v:=ak h 4 v
theorem mj{ops:Array Oper}{o:Oper}{a}{K:Act->LC->Prop}{Q:Exit->Act->LC->Prop}{E:Prop}(hgd:o.guard=none)(s x:Operand)(ho:o.op=.call { callee:=.builtin .append,args:=#[s,x],argTypes:=#[37,37] })(B v n cs k m ss a7 a8 l7 c7 l8 c8)(hs:a.eval s=v)(hx:a.eval x=.slice (some ⟨w.heap.size,0,none⟩) 1 1)(hown:w.ownsRow B 39 5 v n cs)(hB:B<=w.heap.size)(hl:n<=1000000)(hK:∀ g cap w',w'.ownsRow B 39 5 (.slice (some ⟨g,0,none⟩) (n+1) cap) (n+1) (cs++[.int .i64 k,.int .i64 m,.string ss,.slice a7 l7 c7,.slice a8 l8 c8])->(w.alloc (.cells #[.int .i64 k,.int .i64 m,.string ss,.slice a7 l7 c7,.slice a8 l8 c8] 39)).grownBy w' v.ownBlock->(v.ownBlock=some g\/w.heap.size < g)->K (a.put o.dst (.slice (some ⟨g,0,none⟩) (n+1) cap)) w'):if Region.wanted o (yielded ops a.tmps)=true then Oper.wp prog o a (w.alloc (.cells #[.int .i64 k,.int .i64 m,.string ss,.slice a7 l7 c7,.slice a8 l8 c8] 39)) K Q else E:=by
 obtain⟨i0,hi,hz0,hz1,hz2⟩:=info_parts Sp;have hb:ag (w.alloc (.cells #[.int .i64 k,.int .i64 m,.string ss,.slice a7 l7 c7,.slice a8 l8 c8] 39)) w.heap.size (.int .i64 k) (.int .i64 m) (.string ss) (.slice a7 l7 c7) (.slice a8 l8 c8):=MN w _;obtain⟨h1,h2,h3,h4⟩:=Gj hb (Ji _ _ _ _ _ _ _ _ _);refine step_append_lies _ hgd s x 37 ho B 39 i0 _ 5 80 underlying37 hi hz0 hz1 hz2 rfl (by decide) v n cs hs (hown.alloc _) ⟨w.heap.size,0,none⟩ 1 1 [.int .i64 k,.int .i64 m,.string ss,.slice a7 l7 c7,.slice a8 l8 c8] hx rfl ?_ h3 (by decide) (by unfold maxLen;omega) (by omega) (by simp;omega) (w.heap.size+1) (by simp) ?_
 ·rcases h4 with⟨e,_⟩ | ⟨ad,c,e,hc⟩
  ·simp at e
  ·simp only[Value.slice.injEq,Option.some.injEq]at e;obtain⟨rfl,-,-⟩:=e;exact hc
 ·intro g cap w' ho' hg' hor _;exact hK g cap w' ho' hg' (hor.imp id fun e=>by omega)
theorem qp{g:Lz->Option (V × Lz)}{st:Option Lz}:st.bind (jH g)=(st.bind (aA 91)).bind fun l=>match aA 93 l with | some r=>some (⟨4,0,[],[],[]⟩,r) | none=>(g (l.dropWhile cw)).bind fun p=>fH g (p.2.length+1) [p.1] p.2:=by
 cases st <;> rfl
theorem vI{g:Lz->Option (V × Lz)}(hg:kT g)(n):∀ (m:Nat) (acc:List V) (l:Lz),l.length < n->l.length < m->fH g n acc l=fH g m acc l:=by
 induction n with
 | zero=>intro m acc l h;omega
 | succ n ih=>
  intro m acc l h1 h2;cases m with
  | zero=>omega
  | succ m=>
   simp only[fH];split
   ·rename_i r hr;have:=bU hr;cases hgr:g r with
    | none=>rfl
    | some p=>
     have:=hg _ _ hgr;exact ih m _ _ (by omega) (by omega)
   ·rfl
def iK (g:Lz->Option (V × Lz)) (acc:List V) (st:Option Lz):Option (V × Lz):=st.bind fun l=>fH g (l.length+1) acc l
theorem zG{g:Lz->Option (V × Lz)}(hg:kT g){acc}{st1 st3:Option Lz}{t0}(h2:(st1.bind (aA 44)).isSome=true)(h3:(st1.bind (aA 44)).bind g=st3.map (fun l=>(t0,l))):iK g acc st1=iK g (acc++[t0]) st3/\dw st3 < dw st1:=by
 cases st1 with
 | none=>cases h2
 | some l=>
  cases hm:aA 44 l with
  | none=>simp[hm]at h2
  | some r=>
   have hr:=bU hm;simp only[Option.bind_some,hm]at h3;have e:iK g acc (some l)=(g r).bind fun p=>fH g l.length (acc++[p.1]) p.2:=by
    show fH g (l.length+1) acc l=_;simp only[fH,hm]
   rw[e,h3];cases st3 with
   | none=>exact⟨rfl,by simp[dw]⟩
   | some l3=>
    have hl:=hg _ _ h3;simp only at hl;exact⟨vI hg _ _ _ _ (by simp only;omega) (by simp only;omega),by simp only[dw];omega⟩
theorem Cz{g:Lz->Option (V × Lz)}{acc}{st1:Option Lz}(h2:(st1.bind (aA 44)).isSome=false):iK g acc st1=((st1.map (List.dropWhile cw)).bind (aA 93)).map fun r=>(⟨4,0,[],[],acc⟩,r):=by
 cases st1 with
 | none=>rfl
 | some l=>
  cases hm:aA 44 l with
  | some r=>simp[hm]at h2
  | none=>
   show fH g (l.length+1) acc l=_;simp only[fH,hm];rfl
theorem zA{g:Lz->Option (V × Lz)}{st st3:Option Lz}{t0}(h2:((st.bind (aA 91)).bind (aA 93)).isSome=false)(h3:((st.bind (aA 91)).map (List.dropWhile cw)).bind g=st3.map (fun l=>(t0,l))):st.bind (jH g)=iK g [t0] st3:=by
 rw[qp];cases hs:st.bind (aA 91) with
 | none=>
  rw[hs]at h3;cases st3 with
  | none=>rfl
  | some l=>cases h3
 | some l=>
  rw[hs]at h2 h3;simp only[Option.bind_some]at h2 ⊢;have hm:aA 93 l=none:=by cases hm:aA 93 l with
   | none=>rfl
   | some r=>simp[hm]at h2
  rw[hm];have h3':g (l.dropWhile cw)=st3.map (fun l=>(t0,l)):=h3;simp only[h3'];cases st3 <;> rfl
def Gs (f:Nat) (w:LC) (b:Nat) (s:ByteArray) (T:Option (V × Lz)) (k:Nat) (wr:LC):Prop:=
 ∃ (acc:List V) (st1:Option Lz) (g cap:Nat) (cs:List Value),k=dw st1/\iK (cH f) acc st1=T/\acc.length+k<=3000/\(st1.getD []).length < f /\
  Lc wr w.heap.size /\
  ag wr (w.heap.size+1) (.int .i64 4) (.int .i64 0) (.string ⟨#[]⟩) (.slice none 0 0) (.slice (some ⟨g,0,none⟩) acc.length cap) /\
  wr.ownsRow (w.heap.size+2) 39 5 (.slice (some ⟨g,0,none⟩) acc.length cap) acc.length cs/\cA (bu wr (fun k=>w.heap.size+2<=k/\k≠g) f) acc cs/\bf wr b s st1/\cn wr/\w.grownBy wr (some b)
theorem wn{f}{w3 w4:LC}{b s}{T:Option (V × Lz)}{t0}{st3:Option Lz}{acc cs lv a7 a8 c7 c8 cap g0}(hbl:b < w.heap.size)(bxC:Lc w3 w.heap.size)(bxA:ag w3 (w.heap.size+1) (.int .i64 4) (.int .i64 0) (.string ⟨#[]⟩) (.slice none 0 0) lv)(hown3:w3.ownsRow (w.heap.size+2) 39 5 lv acc.length cs)(hlv:lv.ownBlock=none\/lv.ownBlock=some g0)(hrow3:cA (bu w3 (fun k=>w.heap.size+2<=k/\k≠g0) f) acc cs)(hv:bu w3 (fun k=>w.heap.size+2<=k/\k≠g0) f t0 (.agg (KV t0 a7 c7 a8 c8)))(hT:iK (cH f) (acc++[t0]) st3=T)(hl:(st3.getD []).length < f)(hc:acc.length+1+dw st3<=3000)(hr:bf w3 b s st3)(hG:cn w3)(hb4:7<=b)(hg:w.grownBy w3 (some b))(ho4:w4.ownsRow (w.heap.size+2) 39 5 (.slice (some ⟨g,0,none⟩) (acc.length+1) cap) (acc.length+1) (cs++[.int .i64 t0.kind,.int .i64 t0.n,.string ⟨t0.s.toArray⟩,.slice a7 t0.keys.length c7,.slice a8 t0.l.length c8]))(hg4:(w3.alloc (.cells (KV t0 a7 c7 a8 c8) 39)).grownBy w4 lv.ownBlock)(hgg:lv.ownBlock=some g\/w3.heap.size < g):Gs f w b s T (dw st3) (w4.setCell ⟨w.heap.size+1,4,none⟩ (.slice (some ⟨g,0,none⟩) (acc.length+1) cap)):=by
 have hlow:∀ k,lv.ownBlock=some k->w.heap.size+2<=k:=fun k hk=>(hown3.lt k hk).1;have g34:w3.grownBy w4 lv.ownBlock:=am (World.grownBy_alloc w3 _ _) hg4;have g5:w4.grownBy (w4.setCell ⟨w.heap.size+1,4,none⟩ (.slice (some ⟨g,0,none⟩) (acc.length+1) cap)) (some (w.heap.size+1)):=ap (az _ _) _ _;have ne:∀ k,k < w.heap.size+2->some k≠lv.ownBlock:=fun k hk e=>by have:=hlow k e.symm;omega
 have conv:∀ x v,bu w3 (fun k=>w.heap.size+2<=k/\k≠g0) f x v->bu (w4.setCell ⟨w.heap.size+1,4,none⟩ (.slice (some ⟨g,0,none⟩) (acc.length+1) cap)) (fun k=>w.heap.size+2<=k/\k≠g) f x v:=by
  intro x v h;have h1:=(h.below.grown g34 (fun k hk e=>by rcases hlv with h0 | h0 <;> rw[h0]at e <;> simp at e;exact hk.1.2 e)).grown g5 (fun k hk e=>by simp at e;omega);refine h1.weak fun k hk=>⟨hk.1.1,fun e=>?_⟩
  subst e;rcases hgg with h0 | h0
  ·rcases hlv with h2 | h2
   ·rw[h2]at h0;cases h0
   ·rw[h2]at h0;cases h0;exact hk.1.2 rfl
  ·omega
 refine⟨acc++[t0],st3,g,cap,cs++[.int .i64 t0.kind,.int .i64 t0.n,.string ⟨t0.s.toArray⟩,.slice a7 t0.keys.length c7,.slice a8 t0.l.length c8],rfl,hT,by simp only[Mx,My,List.length_nil];omega,hl,?_,?_,?_,?_,?_,?_,?_⟩
 ·exact(bxC.grown g34 (ne _ (by omega))).grown g5 (by simp)
 ·have:=EV (bxA.grown g34 (ne _ (by omega))) (.slice (some ⟨g,0,none⟩) (acc.length+1) cap);simpa using this
 ·have:=aW ho4 g5 (by omega);simpa using this
 ·have rx:cA (bu (w4.setCell ⟨w.heap.size+1,4,none⟩ (.slice (some ⟨g,0,none⟩) (acc.length+1) cap)) (fun k=>w.heap.size+2<=k/\k≠g) f) [t0] [.int .i64 t0.kind,.int .i64 t0.n,.string ⟨t0.s.toArray⟩,.slice a7 t0.keys.length c7,.slice a8 t0.l.length c8]:=⟨_,_,_,_,_,[],rfl,conv _ _ hv,rfl⟩
  exact rx.append (hrow3.imp conv)
 ·exact(hr.grown g34 (ne _ (by omega))).grown g5 (by simp;omega)
 ·exact(hG.grown g34 (fun k hk=>by have:=hlow k hk;have:=hG.size;omega)).grown g5 (fun k hk=>by cases hk;have:=hG.size;omega)
 ·exact bi (dv hg g34 (fun k hk=>by have:=hlow k hk;omega)) (by omega) _ _
theorem Gz(f)(ih:zo f)(w:LC)(b s)(st:Option Lz)(h:bf w b s st)(hG:cn w)(hb4:7<=b)(hf0:0 < f)(LT:(st.getD []).length < f+1):Calls prog 116 #[.pointer (some ⟨b,0,none⟩)] w fun e w'=>∃ (t:V) (st':Option Lz) (a7 a8:Option Addr) (c7 c8:Nat),
 e=.returned (.agg (KV t a7 c7 a8 c8)) /\
 bu w' (fun k=>w.heap.size<=k) (f+1) t (.agg (KV t a7 c7 a8 c8))/\st.bind (jH (cH f))=st'.map (fun l=>(t,l))/\bf w' b s st'/\w.grownBy w' (some b):=by
 have H:=aa h;have HG:=aa hG;have IH:=aa ih;have hbl:=h.lt;clear h hG ih;go_enter func116,ntmps116;go_wp2_with fail
 refine(kP _ b s st 91 91 rfl (by decide) (by exact H.o.grown (bd (World.grownBy_alloc w _ none) _) (by simp))).mono ?_;rintro e w1 ⟨rfl,h1,hg1⟩;have bx1:Ll (Lc w1 w.heap.size/\ag w1 (w.heap.size+1) (.int .i64 4) (.int .i64 0) (.string ⟨#[]⟩) (.slice none 0 0) (.slice none 0 0)):=
  ⟨ag.grown (fb w _ _) hg1 (by simp;omega),ag.grown (et w _ _) hg1 (by simp;omega)⟩
 have G1:Ll (bf w1 b s (st.bind (aA 91))/\w.grownBy w1 (some b)):=⟨h1,am (bd (bd (az _ _) _) _) hg1⟩
 clear h1 hg1;go_wp2_with fail
 refine(mD _ b s (st.bind (aA 91)) 93 93 rfl (by decide) (by exact G1.o.1)).mono ?_;rintro e w2 ⟨rfl,h2,hg2⟩;have bx2:Ll (Lc w2 w.heap.size/\ag w2 (w.heap.size+1) (.int .i64 4) (.int .i64 0) (.string ⟨#[]⟩) (.slice none 0 0) (.slice none 0 0)):=
  ⟨bx1.o.1.grown hg2 (by simp;omega),bx1.o.2.grown hg2 (by simp;omega)⟩
 have G2:Ll (bf w2 b s (if ((st.bind (aA 91)).bind (aA 93)).isSome then (st.bind (aA 91)).bind (aA 93) else (st.bind (aA 91)).map (List.dropWhile cw))/\w.grownBy w2 (some b)):=⟨h2,am G1.o.2 hg2⟩
 have x0_:=bx2.o.1.c;obtain⟨p0,p1,p2,p3,p4,-,-,-,p9,p10⟩:=bx2.o.2.c;clear h2 hg2 bx1 G1;cases hm:((st.bind (aA 91)).bind (aA 93)).isSome with
 | true=>
  have HM:=aa hm;obtain⟨z0,z1,z2,z3,z4,-⟩:=(bx2.o.1.set (.int .i64 4) (.int .i64 0) (.string ⟨#[]⟩) (.slice none 0 0) (.slice none 0 0)).c;have Z:Ll (_/\_/\_/\_/\_):=⟨z0,z1,z2,z3,z4⟩
  clear hm;go_wp2_with fail
  obtain⟨z0,z1,z2,z3,z4⟩:=Z.o;refine MM (v:=cz 4 0 []) ?_ rfl ?_
  ·simp only[ar,aR]at z0 z1 z2 z3 z4;simp[results,results116,go_sem,z0,z1,z2,z3,z4,cz,aR]
  ·refine⟨bC 4 0 [],(st.bind (aA 91)).bind (aA 93),none,none,0,0,rfl,fd _ _ f _ _ _ (by unfold dW;omega) (by unfold dW;omega) (by simp),?_,?_,?_⟩
   ·rw[qp];cases hs:st.bind (aA 91) with
    | none=>rw[hs]at HM;exact absurd HM.o (by simp)
    | some l=>
     rw[hs]at HM;cases h9:aA 93 l with
     | none=>simp[h9]at HM;exact absurd HM.o (by simp)
     | some r=>simp only[Option.bind_some,h9];rfl
   ·have:=G2.o.1;rw[if_pos HM.o]at this;exact this.of_heap ((aI w2 w.heap.size _ _ _ _ _).block b this.lt (by simp;omega))
   ·exact dv G2.o.2 (aI w2 w.heap.size _ _ _ _ _) (by intro k hk;cases hk;exact MG _)
 | false=>
  have HM:=aa hm;have G3:Ll (bf w2 b s ((st.bind (aA 91)).map (List.dropWhile cw))/\w.grownBy w2 (some b)/\cn w2):=by
   have:=G2.o.1;rw[if_neg (by rw[HM.o];simp)]at this;exact⟨this,G2.o.2,HG.o.grown G2.o.2 (by intro k hk;cases hk;exact hb4)⟩
  clear hm G2;have call5:Ll (∀ W,W.heap=w2.heap->W.os=w2.os->W.tape=w2.tape->W.output=w2.output->Calls prog 89 #[.pointer (some ⟨b,0,none⟩)] W fun e w'=>∃ (t:V) (st':Option Lz) (a7 a8:Option Addr) (c7 c8:Nat),
   e=.returned (.agg (KV t a7 c7 a8 c8))/\bu w' (fun k=>w2.heap.size<=k) f t (.agg (KV t a7 c7 a8 c8))/\st.bind (jH (cH f))=iK (cH f) [t] st'/\(st'.getD []).length < f/\1+dw st'<=3000/\bf w' b s st'/\w2.grownBy w' (some b)):=by
   intro W e1 e2 e3 e4;have hl2:(((st.bind (aA 91)).map (List.dropWhile cw)).getD []).length < f:=by
    cases hs:st.bind (aA 91) with
    | none=>exact hf0
    | some l=>
     cases st with
     | none=>cases hs
     | some l0=>
      have:=bU (show aA 91 l0=some l from hs);have:=dX l;simp only[Option.getD_some,Option.map_some]at LT ⊢;omega
   have hgW:w2.grownBy W (some b):=⟨e2,e3,e4,by rw[e1];exact MG _,fun k _ _=>by rw[e1]⟩
   refine(IH.o W b s _ (G3.o.1.of_heap (by rw[e1])) (G3.o.2.2.same e1) hb4 hl2).mono ?_;rintro e w' ⟨t,st',a7,a8,c7,c8,rfl,hv,hst,hr,hg⟩;rw[e1]at hv;refine⟨t,st',a7,a8,c7,c8,rfl,hv,zA HM.o hst,?_,?_,hr,am hgW hg⟩
   ·cases st' with
    | none=>exact hf0
    | some l'=>
     cases hs:(st.bind (aA 91)).map (List.dropWhile cw) with
     | none=>rw[hs]at hst;cases hst
     | some l1=>
      rw[hs]at hst hl2;have:=jd f l1 _ hst;simp only[Option.getD_some]at hl2 ⊢;simp only at this;omega
   ·cases st' with
    | none=>simp[dw]
    | some l'=>have:=hr.len;simp only[dw];omega
  go_upto_region 5 with fail
  go_cut [] (fun wc=>∃ k,Gs f w b s (st.bind (jH (cH f))) k wc)
  case first=>
   go_region_law ((first | (refine mj (by rfl) _ _ (by rfl) (w.heap.size+2) (.slice none 0 0) 0 [] t0.kind t0.n ⟨t0.s.toArray⟩ a7 a8 t0.keys.length c7 t0.l.length c8 (by rfl) (by rfl) (World.ownsRow_nil _ _ _ _) hsz3 (by omega) ?_;intro g cap w4 ho4 hg4 hgg4;have x0_:=(bx3.o.1.grown (World.grownBy_alloc _ _ none) (by simp)).grown hg4 (by simp[Value.ownBlock]) |>.c;obtain⟨p0,p1,p2,p3,p4,-,-,-,p9,p10⟩:=(bx3.o.2.grown (World.grownBy_alloc _ _ none) (by simp)).grown hg4 (by simp[Value.ownBlock]) |>.c) | (go_simp;go_at_call 89;refine(call5.o _ (by rfl) (by rfl) (by rfl) (by rfl)).mono ?_;rintro e w3 ⟨t0,st3,a7,a8,c7,c8,rfl,hv3,hT3,hl3,ht3,hr3,hg3⟩;have hsz3:w.heap.size+2<=w3.heap.size:=MH bx2.o.2.lt hg3.size;have bx3:Ll (Lc w3 w.heap.size/\ag w3 (w.heap.size+1) (.int .i64 4) (.int .i64 0) (.string ⟨#[]⟩) (.slice none 0 0) (.slice none 0 0)):=⟨bx2.o.1.grown hg3 (by simp;omega),bx2.o.2.grown hg3 (by simp;omega)⟩;have k4:∀ o,(w3.alloc o).cell? ⟨w.heap.size+1,4,none⟩=some (.slice none 0 0):=fun o=>(bx3.o.2.grown (World.grownBy_alloc w3 o none) (by simp)).c.2.2.2.2.1;have q4:=bx3.o.2.c.2.2.2.2.1;have V3:Ll (_/\_/\_/\_/\_/\_):=⟨hv3,hT3,hl3,ht3,hr3,hg3⟩;clear hv3 hT3 hl3 ht3 hr3 hg3)))
   all_goals
    go_wp2_with fail
    go_meet
    case rel=>
     obtain⟨hv3,hT3,hl3,ht3,hr3,hg3⟩:=V3.o;refine⟨dw st3,wn (acc:=[]) (g0:=w3.heap.size) hbl bx3.o.1 bx3.o.2 (World.ownsRow_nil _ _ _ _) (.inl rfl) rfl ?_ hT3.symm hl3 (by simpa using ht3) hr3 (G3.o.2.2.grown hg3 (by intro k hk;cases hk;exact hb4)) hb4 (am G3.o.2.1 hg3) ho4 hg4 hgg4⟩;exact hv3.below.weak fun k hk=>⟨MH bx2.o.2.lt hk.1,by omega⟩
  case rest=>
   obtain⟨k0,hI0⟩:=hcut;have I0:=aa hI0;clear hI0 call5 bx2 G3;go_wp2_with fail
   go_loopg [] k0 (fun k wr=>Gs f w b s (st.bind (jH (cH f))) k wr)
   case atStart=>exact I0.o
   case round=>
    obtain⟨acc,st1,g0,cap0,cs,hk,hT,hc,hl1,bxC,bxA,ho,hrow,hr,hGr,hg⟩:=hrel;have A:Ll (gk=dw st1/\iK (cH f) acc st1=st.bind (jH (cH f))/\acc.length+gk<=3000/\(st1.getD []).length < f/\Lc wr w.heap.size/\ag wr (w.heap.size+1) (.int .i64 4) (.int .i64 0) (.string ⟨#[]⟩) (.slice none 0 0) (.slice (some ⟨g0,0,none⟩) acc.length cap0)/\wr.ownsRow (w.heap.size+2) 39 5 (.slice (some ⟨g0,0,none⟩) acc.length cap0) acc.length cs/\cA (bu wr (fun k=>w.heap.size+2<=k/\k≠g0) f) acc cs/\bf wr b s st1/\cn wr/\w.grownBy wr (some b)):=⟨hk,hT,hc,hl1,bxC,bxA,ho,hrow,hr,hGr,hg⟩
    have hacc:acc.length<=3000:=by omega
    clear hk hT hc hl1 bxC bxA ho hrow hr hGr hg;go_wp2_with fail
    refine(mD _ b s st1 44 44 rfl (by decide) (by exact A.o.2.2.2.2.2.2.2.2.1)).mono ?_;rintro e w2 ⟨rfl,h2,hg2⟩;have D:Ll (bf w2 b s (if (st1.bind (aA 44)).isSome then st1.bind (aA 44) else st1.map (List.dropWhile cw))/\wr.grownBy w2 (some b)/\Lc w2 w.heap.size/\ag w2 (w.heap.size+1) (.int .i64 4) (.int .i64 0) (.string ⟨#[]⟩) (.slice none 0 0) (.slice (some ⟨g0,0,none⟩) acc.length cap0)/\w2.ownsRow (w.heap.size+2) 39 5 (.slice (some ⟨g0,0,none⟩) acc.length cap0) acc.length cs/\cA (bu w2 (fun k=>w.heap.size+2<=k/\k≠g0) f) acc cs/\cn w2/\w.grownBy w2 (some b)):=by
     obtain⟨hk,hT,hc,hl1,bxC,bxA,ho,hrow,hr,hGr,hg⟩:=A.o;exact⟨h2,hg2,bxC.grown hg2 (by simp;omega),bxA.grown hg2 (by simp;omega),aW ho hg2 (by omega),hrow.imp (fun x v h=>h.grown hg2 (fun k hk e=>by simp at e;omega)),hGr.grown hg2 (by intro k hk;cases hk;exact hb4),am hg hg2⟩
    clear h2 hg2;have x0_:=D.o.2.2.1.c;obtain⟨p0,p1,p2,p3,p4,-,-,-,p9,p10⟩:=D.o.2.2.2.1.c;cases hm:(st1.bind (aA 44)).isSome with
    | true=>
     have HM:=aa hm;have R2:Ll (bf w2 b s (st1.bind (aA 44))):=by have:=D.o.1;rw[if_pos hm]at this;exact this
     clear hm;have call7:Ll (∀ W,W.heap=w2.heap->W.os=w2.os->W.tape=w2.tape->W.output=w2.output->Calls prog 89 #[.pointer (some ⟨b,0,none⟩)] W fun e w'=>∃ (t:V) (st':Option Lz) (a7 a8:Option Addr) (c7 c8:Nat),
      e=.returned (.agg (KV t a7 c7 a8 c8))/\bu w' (fun k=>w2.heap.size<=k) f t (.agg (KV t a7 c7 a8 c8))/\st.bind (jH (cH f))=iK (cH f) (acc++[t]) st'/\dw st' < gk/\(st'.getD []).length < f/\bf w' b s st'/\w2.grownBy w' (some b)):=by
      intro W e1 e2 e3 e4;obtain⟨hk,hT,hc,hl1,-⟩:=A.o;have hl2:((st1.bind (aA 44)).getD []).length < f:=by
       cases st1 with
       | none=>exact hf0
       | some l0=>
        cases hs:aA 44 l0 with
        | none=>simp only[Option.bind_some,hs];exact hf0
        | some l=>
         have:=bU hs;simp only[Option.bind_some,hs,Option.getD_some]at hl1 ⊢;omega
      have hgW:w2.grownBy W (some b):=⟨e2,e3,e4,by rw[e1];exact MG _,fun k _ _=>by rw[e1]⟩
      refine(IH.o W b s _ (R2.o.of_heap (by rw[e1])) (D.o.2.2.2.2.2.2.1.same e1) hb4 hl2).mono ?_;rintro e w' ⟨t,st',a7,a8,c7,c8,rfl,hv,hst,hr,hg⟩;rw[e1]at hv;obtain⟨i1,i2⟩:=zG (acc:=acc) (jd f) HM.o hst;refine⟨t,st',a7,a8,c7,c8,rfl,hv,by rw[<-hT,i1],by rw[hk];exact i2,?_,hr,am hgW hg⟩;cases st' with
      | none=>exact hf0
      | some l'=>
       cases hs:st1.bind (aA 44) with
       | none=>rw[hs]at hst;cases hst
       | some l1=>
        rw[hs]at hst hl2;have:=jd f l1 _ hst;simp only[Option.getD_some]at hl2 ⊢;simp only at this;omega
     go_wp2_with fail
     go_region_law ((first | (refine mj (by rfl) _ _ (by rfl) (w.heap.size+2) (.slice (some ⟨g0,0,none⟩) acc.length cap0) acc.length cs t0.kind t0.n ⟨t0.s.toArray⟩ a7 a8 t0.keys.length c7 t0.l.length c8 (by rfl) (by rfl) bx3.o.2.2 hsz3 (by omega) ?_;intro g cap w4 ho4 hg4 hgg4;have x0_:=(bx3.o.1.grown (World.grownBy_alloc _ _ none) (by simp)).grown hg4 (hne4.o _ (by omega)) |>.c;obtain⟨p0,p1,p2,p3,p4,-,-,-,p9,p10⟩:=(bx3.o.2.1.grown (World.grownBy_alloc _ _ none) (by simp)).grown hg4 (hne4.o _ (by omega)) |>.c) | (go_simp;go_at_call 89;refine(call7.o _ (by rfl) (by rfl) (by rfl) (by rfl)).mono ?_;rintro e w3 ⟨t0,st3,a7,a8,c7,c8,rfl,hv3,hT3,hl3,ht3,hr3,hg3⟩;have hsz3:w.heap.size+2<=w3.heap.size:=MH D.o.2.2.2.1.lt hg3.size;have bx3:Ll (Lc w3 w.heap.size/\ag w3 (w.heap.size+1) (.int .i64 4) (.int .i64 0) (.string ⟨#[]⟩) (.slice none 0 0) (.slice (some ⟨g0,0,none⟩) acc.length cap0)/\w3.ownsRow (w.heap.size+2) 39 5 (.slice (some ⟨g0,0,none⟩) acc.length cap0) acc.length cs):=⟨D.o.2.2.1.grown hg3 (by simp;omega),D.o.2.2.2.1.grown hg3 (by simp;omega),aW D.o.2.2.2.2.1 hg3 (by omega)⟩;have hne4:Ll (∀ k,k < w.heap.size+2->some k≠(Value.slice (some ⟨g0,0,none⟩) acc.length cap0).ownBlock):=(fun k hk e=>by have:=(bx3.o.2.2.lt k e.symm).1;omega);have k4:∀ o,(w3.alloc o).cell? ⟨w.heap.size+1,4,none⟩=some (.slice (some ⟨g0,0,none⟩) acc.length cap0):=fun o=>(bx3.o.2.1.grown (World.grownBy_alloc w3 o none) (by simp)).c.2.2.2.2.1;have q4:=bx3.o.2.1.c.2.2.2.2.1;have V3:Ll (_/\_/\_/\_/\_/\_):=⟨hv3,hT3,hl3,ht3,hr3,hg3⟩;clear hv3 hT3 hl3 ht3 hr3 hg3)))
     all_goals
      go_wp2_with fail
      obtain⟨hv3,hT3,htg3,hl3,hr3,hg3⟩:=V3.o;go_roundg (dw st3)
      case measure=>exact htg3
      case rel=>
       refine wn (g0:=g0) hbl bx3.o.1 bx3.o.2.1 bx3.o.2.2 (.inr rfl) (D.o.2.2.2.2.2.1.imp fun x v h=>h.grown hg3 (fun k hk e=>by simp at e;omega)) ?_ hT3.symm hl3 (by have:=A.o.2.2.1;omega) hr3 (D.o.2.2.2.2.2.2.1.grown hg3 (by intro k hk;cases hk;exact hb4)) hb4 (am D.o.2.2.2.2.2.2.2 hg3) ho4 hg4 hgg4;exact hv3.weak fun k hk=>⟨MH D.o.2.2.2.1.lt hk,fun e=>by have:=(D.o.2.2.2.2.1.lt g0 rfl).2;omega⟩
    | false=>
     have HM:=aa hm;have R2:Ll (bf w2 b s (st1.map (List.dropWhile cw))):=by have:=D.o.1;rw[if_neg (by rw[hm];simp)]at this;exact this
     clear hm;go_wp2_with fail
     refine(kP _ b s _ 93 93 rfl (by decide) (by exact R2.o)).mono ?_;rintro e w3 ⟨rfl,h3,hg3⟩;have E:Ll (bf w3 b s ((st1.map (List.dropWhile cw)).bind (aA 93))/\w.grownBy w3 (some b)/\Lc w3 w.heap.size/\ag w3 (w.heap.size+1) (.int .i64 4) (.int .i64 0) (.string ⟨#[]⟩) (.slice none 0 0) (.slice (some ⟨g0,0,none⟩) acc.length cap0)/\w3.ownsRow (w.heap.size+2) 39 5 (.slice (some ⟨g0,0,none⟩) acc.length cap0) acc.length cs/\cA (bu w3 (fun k=>w.heap.size+2<=k/\k≠g0) f) acc cs):=by
      obtain⟨d1,d2,bxC,bxA,ho,hrow,hGr,hg⟩:=D.o;exact⟨h3,am hg hg3,bxC.grown hg3 (by simp;omega),bxA.grown hg3 (by simp;omega),aW ho hg3 (by omega),hrow.imp (fun x v h=>h.grown hg3 (fun k hk e=>by simp at e;omega))⟩
     clear h3 hg3;have x0_:=E.o.2.2.1.c;obtain⟨p0,p1,p2,p3,p4,-⟩:=E.o.2.2.2.1.c;obtain⟨z0,z1,z2,z3,z4,-⟩:=(E.o.2.2.1.set (.int .i64 4) (.int .i64 0) (.string ⟨#[]⟩) (.slice none 0 0) (.slice (some ⟨g0,0,none⟩) acc.length cap0)).c;have Z:Ll (_/\_/\_/\_/\_):=⟨z0,z1,z2,z3,z4⟩
     go_wp2_with fail
     obtain⟨z0,z1,z2,z3,z4⟩:=Z.o;refine MM (v:=.agg #[.int .i64 4,.int .i64 0,.string ⟨#[]⟩,.slice none 0 0,.slice (some ⟨g0,0,none⟩) acc.length cap0]) ?_ rfl ?_
     ·simp only[ar]at z0 z1 z2 z3 z4;simp[results,results116,go_sem,z0,z1,z2,z3,z4]
     ·obtain⟨e1,e2,e3,e4,e5,e6⟩:=E.o;have g5:=aI w3 w.heap.size (.int .i64 4) (.int .i64 0) (.string ⟨#[]⟩) (.slice none 0 0) (.slice (some ⟨g0,0,none⟩) acc.length cap0);refine⟨⟨4,0,[],[],acc⟩,(st1.map (List.dropWhile cw)).bind (aA 93),none,some ⟨g0,0,none⟩,0,cap0,rfl,?_,?_,?_,?_⟩
      ·refine⟨_,_,rfl,by unfold dW;simp,by unfold dW;simp,by simp,⟨by simp,.inl ⟨rfl,none,rfl⟩⟩,?_⟩;have e6':cA (bu (ar w3 w.heap.size (.int .i64 4) (.int .i64 0) (.string ⟨#[]⟩) (.slice none 0 0) (.slice (some ⟨g0,0,none⟩) acc.length cap0)) (fun k=>w.heap.size<=k) f) acc cs:=
        e6.imp fun x v h=>(h.grown g5 (fun k hk e=>by simp at e;omega)).weak fun k hk=>by omega
       exact fJ rfl (aW e5 g5 (by omega)) e6' (fun k hk=>by omega) (by unfold maxLen;simp only;omega)
      ·rw[<-A.o.2.1,Cz HM.o]
      ·exact e1.of_heap (g5.block b e1.lt (by simp;omega))
      ·exact dv e2 g5 (by intro k hk;cases hk;exact MG _)
variable {ok:Nat->Prop}
variable {v:Value}
variable {t x:V}
variable {d:Nat}
theorem bu.form(h:bu w ok d t v):∃ (a7 a8:Option Addr) (c7 c8:Nat),v=(.agg (KV t a7 c7 a8 c8)):=by
 match d,h with
 | d+1,h=>
  obtain⟨ks,ls,e,h1,h2,h3,h4,h5⟩:=h;obtain⟨a1,c1,rfl⟩:=h4.form;obtain⟨a2,c2,rfl⟩:=h5.form;exact⟨_,_,_,_,e⟩
theorem mw{key}(hp:aK t=true):aK (aG t key x)=true/\(aG t key x).l.length<=t.l.length+1:=by
 have hk:t.kind=5/\t.keys.length=t.l.length:=by simpa [aK] using hp
 unfold aG;rw[if_pos hp];split
 ·rename_i i hi;have:=(iw hi).1;simp only[aK,MJ,decide_eq_true_eq,Mx,My,MC,MB];omega
 ·simp only[aK,MJ,decide_eq_true_eq,Mx,My,MC,MB];omega
theorem Hk{g:Lz->Option (V × Lz)}{key}{st st1 st3:Option Lz}(h1:st.bind iS=st1.map (fun l=>(key,l)))(h3:(st1.bind (aA 58)).bind g=st3.map (fun l=>(x,l))):st.bind (lO g t)=if (aS t key).isSome then none else st3.map (fun l=>(aG t key x,l)):=by
 have e:st.bind (lO g t)=(st.bind iS).bind fun q=>(aA 58 q.2).bind fun l=>(g l).bind fun p=>if (aS t q.1).isSome then none else some (aG t q.1 p.1,p.2):=by
  cases st <;> rfl
 rw[e,h1];cases st1 with
 | none=>
  cases st3 with
  | none=>simp
  | some l=>cases h3
 | some l1=>
  simp only[Option.map_some,Option.bind_some]at h3 ⊢;cases hm:aA 58 l1 with
  | none=>
   rw[hm]at h3;cases st3 with
   | none=>simp
   | some l=>cases h3
  | some l2=>
   rw[hm]at h3;simp only[Option.bind_some]at h3 ⊢;rw[h3];cases st3 <;> simp
theorem rI(hW:vW)(f)(ih:zo f)(w:LC)(b B s)(st:Option Lz)(t a7 a8 c7 c8)(h:bf w b s st)(hG:cn w)(hb4:7<=b)(hf0:0 < f)(LT:(st.getD []).length < f+1)(hbB:b < B)(hBw:B<=w.heap.size)(hv:bu w (fun k=>B<=k) (f+1) t (.agg (KV t a7 c7 a8 c8)))(hp:aK t=true)(htl:t.l.length<=10000):Calls prog 149 #[.pointer (some ⟨b,0,none⟩),(.agg (KV t a7 c7 a8 c8))] w fun e w'=>∃ (t':V) (st':Option Lz) (a5 a6:Option Addr) (c5 c6:Nat),
 e=.returned (.agg (KV t' a5 c5 a6 c6))/\bu w' (fun k=>B<=k) (f+1) t' (.agg (KV t' a5 c5 a6 c6))/\aK t'=true/\t'.l.length<=t.l.length+1 /\
 st.bind (lO (cH f) t)=st'.map (fun l=>(t',l))/\bf w' b s st'/\w.grownBy w' (some b):=by
 have H:Ll (bf w b s st/\cn w):=⟨h,hG⟩
 have HV:=aa hv;have IH:=aa ih;have HW:=aa hW;have HP:=aa hp;have hbl:=h.lt;clear h hG hv ih hW hp;go_enter func149,ntmps149;go_wp2_with fail
 refine(rY _ b s st (by exact H.o.1.grown (bd (World.grownBy_alloc w _ none) _) (by simp))).mono ?_;rintro e w1 ⟨key,st1,rfl,hq,hkl,h1,hg1⟩;have K1:Ll (st.bind iS=st1.map (fun l=>(key,l))/\bf w1 b s st1/\w.grownBy w1 (some b)/\KY w1 w.heap.size t a7 c7 a8 c8/\Lc w1 (w.heap.size+1)):=
  ⟨hq,h1,am (bd (bd (az _ _) _) _) hg1,ag.grown (fb w _ _) hg1 (by simp;omega),ag.grown (et w _ _) hg1 (by simp;omega)⟩
 clear hq h1 hg1;go_wp2_with fail
 refine(kP _ b s st1 58 58 rfl (by decide) (by exact K1.o.2.1)).mono ?_;rintro e w2 ⟨rfl,h2,hg2⟩;have K2:Ll (bf w2 b s (st1.bind (aA 58))/\w.grownBy w2 (some b)/\KY w2 w.heap.size t a7 c7 a8 c8/\Lc w2 (w.heap.size+1)/\cn w2):=
  ⟨h2,am K1.o.2.2.1 hg2,K1.o.2.2.2.1.grown hg2 (by simp;omega),K1.o.2.2.2.2.grown hg2 (by simp;omega),H.o.2.grown (am K1.o.2.2.1 hg2) (by intro k hk;cases hk;exact hb4)⟩
 have hl2:Ll (((st1.bind (aA 58)).getD []).length < f):=by
  show _ < _;cases st1 with
  | none=>exact hf0
  | some l1=>
   cases hm:aA 58 l1 with
   | none=>simp only[Option.bind_some,hm];exact hf0
   | some l2=>
    cases st with
    | none=>have:=K1.o.1;cases this
    | some l0=>
     have h9:=mL (show iS l0=some (key,l1) from K1.o.1);have:=bU hm;simp only[Option.bind_some,hm,Option.getD_some]at LT ⊢;simp only at h9;omega
 clear h2 hg2;go_wp2_with fail
 refine(IH.o _ b s _ (by exact K2.o.1) (by exact K2.o.2.2.2.2) hb4 hl2.o).mono ?_;rintro e w3 ⟨x,st3,a5,a6,c5,c6,rfl,hx,hst3,h3,hg3⟩;have K3:Ll ((st1.bind (aA 58)).bind (cH f)=st3.map (fun l=>(x,l))/\bf w3 b s st3/\w.grownBy w3 (some b)/\KY w3 w.heap.size t a7 c7 a8 c8/\Lc w3 (w.heap.size+1) /\
  bu w3 (fun k=>B<=k/\k≠w.heap.size+1) f x (.agg (KV x a5 c5 a6 c6))/\bu w3 (fun k=>B<=k/\k≠w.heap.size+1) (f+1) t (.agg (KV t a7 c7 a8 c8))):=
  ⟨hst3,h3,am K2.o.2.1 hg3,K2.o.2.2.1.grown hg3 (by simp;omega),K2.o.2.2.2.1.grown hg3 (by simp;omega),hx.weak (fun k hk=>⟨MH (MH hBw K2.o.2.1.size) hk,by have:=K2.o.2.2.2.1.lt;omega⟩),(HV.o.below.weak (fun k hk=>⟨hk.1,by omega⟩)).grown (am K2.o.2.1 hg3) (fun k hk e=>by cases e;omega)⟩
 have hsz3:w.heap.size+1 < w3.heap.size:=K3.o.2.2.2.2.1.lt;have p0_:=K3.o.2.2.2.1.c;clear hst3 h3 hg3 hx;have r0:∀ o,(w3.alloc o).cell? ⟨w.heap.size,0,none⟩=some (.int .i64 t.kind):=fun o=>(K3.o.2.2.2.1.grown (World.grownBy_alloc w3 o none) (by simp)).c.1;have r1:∀ o,(w3.alloc o).cell? ⟨w.heap.size,1,none⟩=some (.int .i64 t.n):=fun o=>(K3.o.2.2.2.1.grown (World.grownBy_alloc w3 o none) (by simp)).c.2.1;have r2:∀ o,(w3.alloc o).cell? ⟨w.heap.size,2,none⟩=some (.string ⟨t.s.toArray⟩):=fun o=>(K3.o.2.2.2.1.grown (World.grownBy_alloc w3 o none) (by simp)).c.2.2.1;have r3:∀ o,(w3.alloc o).cell? ⟨w.heap.size,3,none⟩=some (.slice a7 t.keys.length c7):=fun o=>(K3.o.2.2.2.1.grown (World.grownBy_alloc w3 o none) (by simp)).c.2.2.2.1;have r4:∀ o,(w3.alloc o).cell? ⟨w.heap.size,4,none⟩=some (.slice a8 t.l.length c8):=fun o=>(K3.o.2.2.2.1.grown (World.grownBy_alloc w3 o none) (by simp)).c.2.2.2.2.1;go_wp2_with fail
 refine(ny _ (fun k=>B<=k/\k≠w.heap.size+1) (f+1) t _ key (by exact K3.o.2.2.2.2.2.2.bel (ae _ _))).mono ?_;rintro e w4 ⟨xm,bm,rfl,hb4',hmem⟩;have B4:Ll (La w3 w4):=ab (ae _ _) hb4';have bxX:Ll (KY w4 w3.heap.size x a5 c5 a6 c6):=af hb4' (MN w3 _);have hsz4:w3.heap.size < w4.heap.size:=bxX.o.lt;clear hb4' r0 r1 r2 r3 r4;have bxV:Ll (∀ o,KY (w4.alloc o) w.heap.size t a7 c7 a8 c8/\KY (w4.alloc o) w3.heap.size x a5 c5 a6 c6/\Lc (w4.alloc o) (w.heap.size+1)):=
  fun o=>⟨af (ab B4.o (ae w4 o)) K3.o.2.2.2.1,af (ae w4 o) bxX.o,af (ab B4.o (ae w4 o)) K3.o.2.2.2.2.1⟩
 have s0:∀ o,(w4.alloc o).cell? ⟨w.heap.size,0,none⟩=some (.int .i64 t.kind):=fun o=>(bxV.o o).1.c.1;have s1:∀ o,(w4.alloc o).cell? ⟨w.heap.size,1,none⟩=some (.int .i64 t.n):=fun o=>(bxV.o o).1.c.2.1;have s2:∀ o,(w4.alloc o).cell? ⟨w.heap.size,2,none⟩=some (.string ⟨t.s.toArray⟩):=fun o=>(bxV.o o).1.c.2.2.1;have s3:∀ o,(w4.alloc o).cell? ⟨w.heap.size,3,none⟩=some (.slice a7 t.keys.length c7):=fun o=>(bxV.o o).1.c.2.2.2.1;have s4:∀ o,(w4.alloc o).cell? ⟨w.heap.size,4,none⟩=some (.slice a8 t.l.length c8):=fun o=>(bxV.o o).1.c.2.2.2.2.1;have v0:∀ o,(w4.alloc o).cell? ⟨w3.heap.size,0,none⟩=some (.int .i64 x.kind):=fun o=>(bxV.o o).2.1.c.1;have v1:∀ o,(w4.alloc o).cell? ⟨w3.heap.size,1,none⟩=some (.int .i64 x.n):=fun o=>(bxV.o o).2.1.c.2.1;have v2:∀ o,(w4.alloc o).cell? ⟨w3.heap.size,2,none⟩=some (.string ⟨x.s.toArray⟩):=fun o=>(bxV.o o).2.1.c.2.2.1;have v3:∀ o,(w4.alloc o).cell? ⟨w3.heap.size,3,none⟩=some (.slice a5 x.keys.length c5):=fun o=>(bxV.o o).2.1.c.2.2.2.1;have v4:∀ o,(w4.alloc o).cell? ⟨w3.heap.size,4,none⟩=some (.slice a6 x.l.length c6):=fun o=>(bxV.o o).2.1.c.2.2.2.2.1;have hws:Ll (st.bind (lO (cH f) t)=if (aS t key).isSome then none else st3.map (fun l=>(aG t key x,l))):=Hk K1.o.1 K3.o.1;have hklm:key.length<=maxLen:=by unfold maxLen;omega
 cases hmv:aS t key with
 | none=>
  rw[hmv]at hmem hws;obtain⟨rfl,rfl⟩:=hmem;unfold cz aR;go_wp2_with fail
  refine(HW.o _ (fun k=>B<=k/\k≠w.heap.size+1) f t x _ _ key (by exact K3.o.2.2.2.2.2.2.bel (ab B4.o (ae _ _))) (by exact K3.o.2.2.2.2.2.1.bel (ab B4.o (ae _ _))) HP.o (by omega) hklm).mono ?_;rintro e w5 ⟨r,rfl,hr5,hb5⟩;obtain⟨e5,e6,d5,d6,rfl⟩:=hr5.form;have G5:Ll (bu w5 (fun k=>B<=k/\k≠w.heap.size+1) (f+1) (aG t key x) (.agg #[.int .i64 (aG t key x).kind,.int .i64 (aG t key x).n,.string ⟨(aG t key x).s.toArray⟩,.slice e5 (aG t key x).keys.length d5,.slice e6 (aG t key x).l.length d6])/\w.grownBy w5 (some b)/\bf w5 b s st3/\Lc w5 (w.heap.size+1)):=by
   refine⟨hr5.weak fun k hk=>?_,?_,?_,?_⟩
   ·rcases hk with hk | hk
    ·exact hk
    ·have:=K3.o.2.2.1.size;simp at hk;exact⟨by omega,by omega⟩
   ·exact dv (dv (dv K3.o.2.2.1 (aq (r:=none) B4.o) (by simp)) (World.grownBy_alloc w4 _ none) (by simp)) (aq (r:=none) hb5) (by simp)
   ·exact K3.o.2.1.of_heap (((am (am (aq (r:=none) B4.o) (World.grownBy_alloc w4 _ none)) (aq hb5)).block b K3.o.2.1.lt (by simp)))
   ·exact af hb5 (bxV.o _).2.2
  clear hr5 hb5;have x0_:=G5.o.2.2.2.c;obtain⟨z0,z1,z2,z3,z4,-⟩:=(G5.o.2.2.2.set (.int .i64 (aG t key x).kind) (.int .i64 (aG t key x).n) (.string ⟨(aG t key x).s.toArray⟩) (.slice e5 (aG t key x).keys.length d5) (.slice e6 (aG t key x).l.length d6)).c;have Z:Ll (_/\_/\_/\_/\_):=⟨z0,z1,z2,z3,z4⟩
  go_wp2_with fail
  obtain⟨z0,z1,z2,z3,z4⟩:=Z.o;refine MM (v:=(.agg #[.int .i64 (aG t key x).kind,.int .i64 (aG t key x).n,.string ⟨(aG t key x).s.toArray⟩,.slice e5 (aG t key x).keys.length d5,.slice e6 (aG t key x).l.length d6])) ?_ rfl ?_
  ·simp only[ar]at z0 z1 z2 z3 z4;simp[results,results149,go_sem,z0,z1,z2,z3,z4]
  ·obtain⟨g1,g2,g3,g4⟩:=G5.o;have g5:=aI w5 (w.heap.size+1) (.int .i64 (aG t key x).kind) (.int .i64 (aG t key x).n) (.string ⟨(aG t key x).s.toArray⟩) (.slice e5 (aG t key x).keys.length d5) (.slice e6 (aG t key x).l.length d6);have hwp:=mw (key:=key) (x:=x) HP.o;refine⟨aG t key x,st3,e5,e6,d5,d6,rfl,?_,hwp.1,hwp.2,?_,g3.of_heap (g5.block b g3.lt (by simp;omega)),dv g2 g5 (by intro k hk;cases hk;omega)⟩
   ·exact(g1.grown g5 (fun k hk e=>by simp at e;exact hk.2 e)).weak fun k hk=>hk.1
   ·rw[hws.o];rfl
 | some y=>
  rw[hmv]at hmem hws;obtain⟨rfl,hy⟩:=hmem;obtain⟨i5,i6,j5,j6,rfl⟩:=hy.form;clear hy;go_wp2_with fail
  refine(Sb _ b s st3 (by exact K3.o.2.1.of_heap (((am (aq (r:=none) B4.o) (World.grownBy_alloc w4 _ none))).block b K3.o.2.1.lt (by simp)))).mono ?_;rintro e w6 ⟨rfl,h6,hg6⟩;have G6:Ll (bf w6 b s none/\w.grownBy w6 (some b)/\bu w6 (fun k=>B<=k/\k≠w.heap.size+1) (f+1) t (.agg (KV t a7 c7 a8 c8))/\bu w6 (fun k=>B<=k/\k≠w.heap.size+1) f x (.agg (KV x a5 c5 a6 c6))/\Lc w6 (w.heap.size+1)/\w.heap.size<=w6.heap.size):=by
   have ga:w3.grownBy w6 (some b):=am (am (aq B4.o) (World.grownBy_alloc w4 _ _)) hg6;exact⟨h6,am K3.o.2.2.1 ga,K3.o.2.2.2.2.2.2.grown ga (fun k hk e=>by cases e;omega),K3.o.2.2.2.2.2.1.grown ga (fun k hk e=>by cases e;omega),K3.o.2.2.2.2.1.grown ga (by simp;omega),MH K3.o.2.2.1.size ga.size⟩
  have t0:=(bxV.o (.cells (KV y i5 j5 i6 j6) 39))
  obtain⟨s0',s1',s2',s3',s4',-⟩:=(t0.1.grown hg6 (by simp;omega)).c;obtain⟨v0',v1',v2',v3',v4',-⟩:=(t0.2.1.grown hg6 (by simp;have:=K3.o.2.2.1.size;omega)).c;have hsz6:=hg6.size;clear h6 hg6 t0;go_wp2_with fail
  refine(HW.o _ (fun k=>B<=k/\k≠w.heap.size+1) f t x _ _ key (by exact G6.o.2.2.1) (by exact G6.o.2.2.2.1) HP.o (by omega) hklm).mono ?_;rintro e w5 ⟨r,rfl,hr5,hb5⟩;obtain⟨e5,e6,d5,d6,rfl⟩:=hr5.form;have G5:Ll (bu w5 (fun k=>B<=k/\k≠w.heap.size+1) (f+1) (aG t key x) (.agg #[.int .i64 (aG t key x).kind,.int .i64 (aG t key x).n,.string ⟨(aG t key x).s.toArray⟩,.slice e5 (aG t key x).keys.length d5,.slice e6 (aG t key x).l.length d6])/\w.grownBy w5 (some b)/\bf w5 b s (none:Option Lz)/\Lc w5 (w.heap.size+1)):=by
   refine⟨hr5.weak fun k hk=>?_,?_,?_,?_⟩
   ·rcases hk with hk | hk
    ·exact hk
    ·have:=G6.o.2.2.2.2.2;exact⟨by omega,by have:=G6.o.2.2.2.2.1.lt;omega⟩
   ·exact dv (am G6.o.2.1 (az _ _)) (aq (r:=none) hb5) (by simp)
   ·exact G6.o.1.of_heap ((aq (r:=none) hb5).block b G6.o.1.lt (by simp))
   ·exact af hb5 G6.o.2.2.2.2.1
  clear hr5 hb5;have x0_:=G5.o.2.2.2.c;obtain⟨z0,z1,z2,z3,z4,-⟩:=(G5.o.2.2.2.set (.int .i64 (aG t key x).kind) (.int .i64 (aG t key x).n) (.string ⟨(aG t key x).s.toArray⟩) (.slice e5 (aG t key x).keys.length d5) (.slice e6 (aG t key x).l.length d6)).c;have Z:Ll (_/\_/\_/\_/\_):=⟨z0,z1,z2,z3,z4⟩
  go_wp2_with fail
  obtain⟨z0,z1,z2,z3,z4⟩:=Z.o;refine MM (v:=(.agg #[.int .i64 (aG t key x).kind,.int .i64 (aG t key x).n,.string ⟨(aG t key x).s.toArray⟩,.slice e5 (aG t key x).keys.length d5,.slice e6 (aG t key x).l.length d6])) ?_ rfl ?_
  ·simp only[ar]at z0 z1 z2 z3 z4;simp[results,results149,go_sem,z0,z1,z2,z3,z4]
  ·obtain⟨g1,g2,g3,g4⟩:=G5.o;have g5:=aI w5 (w.heap.size+1) (.int .i64 (aG t key x).kind) (.int .i64 (aG t key x).n) (.string ⟨(aG t key x).s.toArray⟩) (.slice e5 (aG t key x).keys.length d5) (.slice e6 (aG t key x).l.length d6);have hwp:=mw (key:=key) (x:=x) HP.o;refine⟨aG t key x,(none:Option Lz),e5,e6,d5,d6,rfl,?_,hwp.1,hwp.2,?_,g3.of_heap (g5.block b g3.lt (by simp;omega)),dv g2 g5 (by intro k hk;cases hk;omega)⟩
   ·exact(g1.grown g5 (fun k hk e=>by simp at e;exact hk.2 e)).weak fun k hk=>hk.1
   ·rw[hws.o];rfl
theorem xj{g:Lz->Option (V × Lz)}(hg:kT g)(n):∀ (m:Nat) (v:V) (l:Lz),l.length < n->l.length < m->fC g n v l=fC g m v l:=by
 induction n with
 | zero=>intro m v l h;omega
 | succ n ih=>
  intro m v l h1 h2;cases m with
  | zero=>omega
  | succ m=>
   simp only[fC];split
   ·rename_i r hr;have:=bU hr;cases hgr:lO g v r with
    | none=>rfl
    | some p=>
     have:=iM hg _ _ _ hgr;exact ih m _ _ (by omega) (by omega)
   ·rfl
def jp (g:Lz->Option (V × Lz)) (v:V) (st:Option Lz):Option (V × Lz):=st.bind fun l=>fC g (l.length+1) v l
theorem yk{g:Lz->Option (V × Lz)}(hg:kT g){v t0}{st1 st3:Option Lz}(h2:(st1.bind (aA 44)).isSome=true)(h3:(st1.bind (aA 44)).bind (lO g v)=st3.map (fun l=>(t0,l))):jp g v st1=jp g t0 st3/\dw st3 < dw st1:=by
 cases st1 with
 | none=>cases h2
 | some l=>
  cases hm:aA 44 l with
  | none=>simp[hm]at h2
  | some r=>
   have hr:=bU hm;simp only[Option.bind_some,hm]at h3;have e:jp g v (some l)=(lO g v r).bind fun p=>fC g l.length p.1 p.2:=by
    show fC g (l.length+1) v l=_;simp only[fC,hm]
   rw[e,h3];cases st3 with
   | none=>exact⟨rfl,by simp[dw]⟩
   | some l3=>
    have hl:=iM hg _ _ _ h3;simp only at hl;exact⟨xj hg _ _ _ _ (by simp only;omega) (by simp only;omega),by simp only[dw];omega⟩
theorem Bn{g:Lz->Option (V × Lz)}{v}{st1:Option Lz}(h2:(st1.bind (aA 44)).isSome=false):jp g v st1=((st1.map (List.dropWhile cw)).bind (aA 125)).map fun r=>(v,r):=by
 cases st1 with
 | none=>rfl
 | some l=>
  cases hm:aA 44 l with
  | some r=>simp[hm]at h2
  | none=>
   show fC g (l.length+1) v l=_;simp only[fC,hm];rfl
theorem rM{g:Lz->Option (V × Lz)}{st:Option Lz}:st.bind (oq g)=(st.bind (aA 123)).bind fun l=>match aA 125 l with | some r=>some (⟨5,0,[],[],[]⟩,r) | none=>(lO g ⟨5,0,[],[],[]⟩ (l.dropWhile cw)).bind fun p=>fC g (p.2.length+1) p.1 p.2:=by
 cases st <;> rfl
theorem Cq{g:Lz->Option (V × Lz)}{st st3:Option Lz}{t0}(h2:((st.bind (aA 123)).bind (aA 125)).isSome=false)(h3:((st.bind (aA 123)).map (List.dropWhile cw)).bind (lO g ⟨5,0,[],[],[]⟩)=st3.map (fun l=>(t0,l))):st.bind (oq g)=jp g t0 st3:=by
 rw[rM];cases hs:st.bind (aA 123) with
 | none=>
  rw[hs]at h3;cases st3 with
  | none=>rfl
  | some l=>cases h3
 | some l=>
  rw[hs]at h2 h3;simp only[Option.bind_some]at h2 ⊢;have hm:aA 125 l=none:=by cases hm:aA 125 l with
   | none=>rfl
   | some r=>simp[hm]at h2
  rw[hm];have h3':lO g ⟨5,0,[],[],[]⟩ (l.dropWhile cw)=st3.map (fun l=>(t0,l)):=h3;simp only[h3'];cases st3 <;> rfl
def GU (f:Nat) (w:LC) (b:Nat) (s:ByteArray) (T:Option (V × Lz)) (k:Nat) (wr:LC):Prop:=
 ∃ (t:V) (st1:Option Lz) (a7 a8:Option Addr) (c7 c8:Nat),k=dw st1/\jp (cH f) t st1=T/\t.l.length+k<=3000/\(st1.getD []).length < f+1/\Lc wr w.heap.size/\KY wr (w.heap.size+1) t a7 c7 a8 c8 /\
  bu wr (fun k=>w.heap.size+2<=k) (f+1) t (.agg (KV t a7 c7 a8 c8))/\aK t=true/\bf wr b s st1/\cn wr/\w.grownBy wr (some b)
theorem zU{f}{w3:LC}{b s}{T:Option (V × Lz)}{st3:Option Lz}{a7 a8 c7 c8 d0 d1 d2 d3 d4}(hb4:7<=b)(hbl:b < w.heap.size)(bxC:Lc w3 w.heap.size)(bxA:ag w3 (w.heap.size+1) d0 d1 d2 d3 d4)(hv:bu w3 (fun k=>w.heap.size+2<=k) (f+1) t (.agg (KV t a7 c7 a8 c8)))(hp:aK t=true)(hT:jp (cH f) t st3=T)(hl:(st3.getD []).length < f+1)(hc:t.l.length+dw st3<=3000)(hr:bf w3 b s st3)(hG:cn w3)(hg:w.grownBy w3 (some b)):GU f w b s T (dw st3) (LG w3 (w.heap.size+1) t a7 c7 a8 c8):=by
 have g5:=aI w3 (w.heap.size+1) (.int .i64 t.kind) (.int .i64 t.n) (.string ⟨t.s.toArray⟩) (.slice a7 t.keys.length c7) (.slice a8 t.l.length c8);exact⟨t,st3,a7,a8,c7,c8,rfl,hT,hc,hl,bxC.grown g5 (by simp),bxA.set _ _ _ _ _,hv.grown g5 (fun k hk e=>by simp at e;omega),hp,hr.of_heap (g5.block b hr.lt (by simp;omega)),
  hG.grown g5 (fun k hk=>by cases hk;omega),dv hg g5 (by intro k hk;cases hk;omega)⟩
theorem Dv(hW:vW)(f)(ih:zo f)(w:LC)(b s)(st:Option Lz)(h:bf w b s st)(hG:cn w)(hb4:7<=b)(hf0:0 < f)(LT:(st.getD []).length < f+1):Calls prog 117 #[.pointer (some ⟨b,0,none⟩)] w fun e w'=>∃ (t:V) (st':Option Lz) (a7 a8:Option Addr) (c7 c8:Nat),
 e=.returned (.agg (KV t a7 c7 a8 c8))/\bu w' (fun k=>w.heap.size<=k) (f+1) t (.agg (KV t a7 c7 a8 c8))/\st.bind (oq (cH f))=st'.map (fun l=>(t,l))/\bf w' b s st'/\w.grownBy w' (some b):=by
 have H:=aa h;have HG:=aa hG;have IH:=aa ih;have HW:=aa hW;have hbl:=h.lt;clear h hG ih hW;go_enter func117,ntmps117;go_wp2_with fail
 refine(kP _ b s st 123 123 rfl (by decide) (by exact H.o.grown (bd (World.grownBy_alloc w _ none) _) (by simp))).mono ?_;rintro e w1 ⟨rfl,h1,hg1⟩;have bx1:Ll (Lc w1 w.heap.size/\ag w1 (w.heap.size+1) (.int .i64 5) (.int .i64 0) (.string ⟨#[]⟩) (.slice none 0 0) (.slice none 0 0)):=
  ⟨ag.grown (fb w _ _) hg1 (by simp;omega),ag.grown (et w _ _) hg1 (by simp;omega)⟩
 have G1:Ll (bf w1 b s (st.bind (aA 123))/\w.grownBy w1 (some b)):=⟨h1,am (bd (bd (az _ _) _) _) hg1⟩
 clear h1 hg1;go_wp2_with fail
 refine(mD _ b s (st.bind (aA 123)) 125 125 rfl (by decide) (by exact G1.o.1)).mono ?_;rintro e w2 ⟨rfl,h2,hg2⟩;have bx2:Ll (Lc w2 w.heap.size/\ag w2 (w.heap.size+1) (.int .i64 5) (.int .i64 0) (.string ⟨#[]⟩) (.slice none 0 0) (.slice none 0 0)):=⟨bx1.o.1.grown hg2 (by simp;omega),bx1.o.2.grown hg2 (by simp;omega)⟩
 have G2:Ll (bf w2 b s (if ((st.bind (aA 123)).bind (aA 125)).isSome then (st.bind (aA 123)).bind (aA 125) else (st.bind (aA 123)).map (List.dropWhile cw))/\w.grownBy w2 (some b)):=⟨h2,am G1.o.2 hg2⟩
 have x0_:=bx2.o.1.c;obtain⟨p0,p1,p2,p3,p4,q0,q1,q2,q3,q4⟩:=bx2.o.2.c;clear h2 hg2 bx1 G1;cases hm:((st.bind (aA 123)).bind (aA 125)).isSome with
 | true=>
  have HM:=aa hm;obtain⟨z0,z1,z2,z3,z4,-⟩:=(bx2.o.1.set (.int .i64 5) (.int .i64 0) (.string ⟨#[]⟩) (.slice none 0 0) (.slice none 0 0)).c;have Z:Ll (_/\_/\_/\_/\_):=⟨z0,z1,z2,z3,z4⟩
  clear hm;go_wp2_with fail
  obtain⟨z0,z1,z2,z3,z4⟩:=Z.o;refine MM (v:=cz 5 0 []) ?_ rfl ?_
  ·simp only[ar,aR]at z0 z1 z2 z3 z4;simp[results,results117,go_sem,z0,z1,z2,z3,z4,cz,aR]
  ·refine⟨bC 5 0 [],(st.bind (aA 123)).bind (aA 125),none,none,0,0,rfl,fd _ _ f _ _ _ (by unfold dW;omega) (by unfold dW;omega) (by simp),?_,?_,?_⟩
   ·rw[rM];cases hs:st.bind (aA 123) with
    | none=>rw[hs]at HM;exact absurd HM.o (by simp)
    | some l=>
     rw[hs]at HM;cases h9:aA 125 l with
     | none=>simp[h9]at HM;exact absurd HM.o (by simp)
     | some r=>simp only[Option.bind_some,h9];rfl
   ·have:=G2.o.1;rw[if_pos HM.o]at this;exact this.of_heap ((aI w2 w.heap.size _ _ _ _ _).block b this.lt (by simp;omega))
   ·exact dv G2.o.2 (aI w2 w.heap.size _ _ _ _ _) (by intro k hk;cases hk;exact MG _)
 | false=>
  have HM:=aa hm;have G3:Ll (bf w2 b s ((st.bind (aA 123)).map (List.dropWhile cw))/\w.grownBy w2 (some b)/\cn w2):=by
   have:=G2.o.1;rw[if_neg (by rw[HM.o];simp)]at this;exact⟨this,G2.o.2,HG.o.grown G2.o.2 (by intro k hk;cases hk;exact hb4)⟩
  clear hm G2;have call5:Ll (Calls prog 149 #[.pointer (some ⟨b,0,none⟩),.agg #[.int .i64 5,.int .i64 0,.string ⟨#[]⟩,.slice none 0 0,.slice none 0 0]] w2 fun e w'=>∃ (t:V) (st':Option Lz) (a7 a8:Option Addr) (c7 c8:Nat),
   e=.returned (.agg (KV t a7 c7 a8 c8))/\bu w' (fun k=>w.heap.size+2<=k) (f+1) t (.agg (KV t a7 c7 a8 c8))/\aK t=true/\st.bind (oq (cH f))=jp (cH f) t st'/\(st'.getD []).length < f+1/\t.l.length+dw st'<=3000/\bf w' b s st'/\w2.grownBy w' (some b)):=by
   have hl2:(((st.bind (aA 123)).map (List.dropWhile cw)).getD []).length < f:=by
    cases hs:st.bind (aA 123) with
    | none=>exact hf0
    | some l=>
     cases st with
     | none=>cases hs
     | some l0=>
      have:=bU (show aA 123 l0=some l from hs);have:=dX l;simp only[Option.getD_some,Option.map_some]at LT ⊢;omega
   refine(rI HW.o f IH.o w2 b (w.heap.size+2) s _ ⟨5,0,[],[],[]⟩ none none 0 0 G3.o.1 G3.o.2.2 hb4 hf0 (by omega) (by omega) bx2.o.2.lt (fd w2 _ f 5 0 [] (by unfold dW;omega) (by unfold dW;omega) (by simp)) rfl (by simp)).mono ?_;rintro e w' ⟨t,st',a7,a8,c7,c8,rfl,hv,hp,htl,hst,hr,hg⟩;refine⟨t,st',a7,a8,c7,c8,rfl,hv,hp,Cq HM.o hst,?_,?_,hr,hg⟩
   ·cases st' with
    | none=>simp
    | some l'=>
     cases hs:(st.bind (aA 123)).map (List.dropWhile cw) with
     | none=>rw[hs]at hst;cases hst
     | some l1=>
      rw[hs]at hst hl2;have:=iM (jd f) _ l1 _ hst;simp only[Option.getD_some]at hl2 ⊢;simp only at this;omega
   ·simp only[List.length_nil]at htl;cases st' with
    | none=>simp only[dw];omega
    | some l'=>have:=hr.len;simp only[dw];omega
  go_wp2_with fail
  refine(call5.o).mono ?_;rintro e w3 ⟨t,st3,a7,a8,c7,c8,rfl,hv3,hp3,hT3,hl3,hc3,hr3,hg3⟩;have I0:Ll (GU f w b s (st.bind (oq (cH f))) (dw st3) (LG w3 (w.heap.size+1) t a7 c7 a8 c8)):=
   zU hb4 hbl (bx2.o.1.grown hg3 (by simp;omega)) (bx2.o.2.grown hg3 (by simp;omega)) hv3 hp3 hT3.symm hl3 hc3 hr3 (G3.o.2.2.grown hg3 (by intro k hk;cases hk;exact hb4)) (am G3.o.2.1 hg3)
  obtain⟨p0,p1,p2,p3,p4,q0,q1,q2,q3,q4⟩:=(bx2.o.2.grown hg3 (by simp;omega)).c;clear hv3 hp3 hT3 hl3 hc3 hr3 hg3;go_wp2_with fail
  go_loopg [] (dw st3) (fun k wr=>GU f w b s (st.bind (oq (cH f))) k wr)
  case atStart=>exact I0.o
  case round=>
   clear I0 call5 bx2 G3;obtain⟨t,st1,a7,a8,c7,c8,hk,hT,hc,hl1,bxC,bxA,hv,hp,hr,hGr,hg⟩:=hrel;have A:Ll (gk=dw st1/\jp (cH f) t st1=st.bind (oq (cH f))/\t.l.length+gk<=3000/\(st1.getD []).length < f+1/\Lc wr w.heap.size/\KY wr (w.heap.size+1) t a7 c7 a8 c8/\bu wr (fun k=>w.heap.size+2<=k) (f+1) t (.agg (KV t a7 c7 a8 c8))/\aK t=true/\bf wr b s st1/\cn wr/\w.grownBy wr (some b)):=⟨hk,hT,hc,hl1,bxC,bxA,hv,hp,hr,hGr,hg⟩
   have htl:t.l.length<=3000:=by omega
   clear hk hT hc hl1 bxC bxA hv hp hr hGr hg;go_wp2_with fail
   refine(mD _ b s st1 44 44 rfl (by decide) (by exact A.o.2.2.2.2.2.2.2.2.1)).mono ?_;rintro e w2 ⟨rfl,h2,hg2⟩;have D:Ll (bf w2 b s (if (st1.bind (aA 44)).isSome then st1.bind (aA 44) else st1.map (List.dropWhile cw))/\Lc w2 w.heap.size/\KY w2 (w.heap.size+1) t a7 c7 a8 c8/\bu w2 (fun k=>w.heap.size+2<=k) (f+1) t (.agg (KV t a7 c7 a8 c8))/\cn w2/\w.grownBy w2 (some b)):=by
    obtain⟨hk,hT,hc,hl1,bxC,bxA,hv,hp,hr,hGr,hg⟩:=A.o;exact⟨h2,bxC.grown hg2 (by simp;omega),bxA.grown hg2 (by simp;omega),hv.grown hg2 (fun k hk e=>by simp at e;omega),hGr.grown hg2 (by intro k hk;cases hk;exact hb4),am hg hg2⟩
   clear h2 hg2;obtain⟨p0,p1,p2,p3,p4,q0,q1,q2,q3,q4⟩:=D.o.2.2.1.c;cases hm:(st1.bind (aA 44)).isSome with
   | true=>
    have HM:=aa hm;have R2:Ll (bf w2 b s (st1.bind (aA 44))):=by have:=D.o.1;rw[if_pos hm]at this;exact this
    clear hm;go_wp2_with fail
    have hl2:Ll (((st1.bind (aA 44)).getD []).length < f+1):=by
     show _ < _;have hl1:=A.o.2.2.2.1;cases st1 with
     | none=>simp
     | some l0=>
      cases hs:aA 44 l0 with
      | none=>simp only[Option.bind_some,hs];simp
      | some l=>
       have:=bU hs;simp only[Option.bind_some,hs,Option.getD_some]at hl1 ⊢;omega
    refine(rI HW.o f IH.o _ b (w.heap.size+2) s _ t a7 a8 c7 c8 (by exact R2.o) (by exact D.o.2.2.2.2.1) hb4 hf0 hl2.o (by omega) (by exact D.o.2.2.1.lt) (by exact D.o.2.2.2.1) A.o.2.2.2.2.2.2.2.1 (by omega)).mono ?_;rintro e w3 ⟨t',st3,a5,a6,c5,c6,rfl,hv3,hp3,htl3,hst3,hr3,hg3⟩;have V3:Ll (GU f w b s (st.bind (oq (cH f))) (dw st3) (LG w3 (w.heap.size+1) t' a5 c5 a6 c6)/\dw st3 < gk):=by
     obtain⟨hk,hT,hc,hl1,-⟩:=A.o;obtain⟨i1,i2⟩:=yk (jd f) HM.o hst3;refine⟨zU hb4 hbl (D.o.2.1.grown hg3 (by simp;omega)) (D.o.2.2.1.grown hg3 (by simp;omega)) hv3 hp3 (by rw[<-hT,i1]) ?_ (by omega) hr3 (D.o.2.2.2.2.1.grown hg3 (by intro k hk;cases hk;exact hb4)) (am D.o.2.2.2.2.2 hg3),by rw[hk];exact i2⟩;cases st3 with
     | none=>simp
     | some l'=>
      cases hs:st1.bind (aA 44) with
      | none=>rw[hs]at hst3;cases hst3
      | some l1=>
       rw[hs]at hst3;have:=iM (jd f) _ l1 _ hst3;have h8:=hl2.o;rw[hs]at h8;simp only[Option.getD_some]at h8 ⊢;simp only at this;omega
    obtain⟨p0,p1,p2,p3,p4,q0,q1,q2,q3,q4⟩:=(D.o.2.2.1.grown hg3 (by simp;omega)).c;clear hv3 hp3 htl3 hst3 hr3 hg3;go_wp2_with fail
    go_roundg (dw st3)
    case measure=>exact V3.o.2
    case rel=>exact V3.o.1
   | false=>
    have HM:=aa hm;have R2:Ll (bf w2 b s (st1.map (List.dropWhile cw))):=by have:=D.o.1;rw[if_neg (by rw[hm];simp)]at this;exact this
    clear hm;go_wp2_with fail
    refine(kP _ b s _ 125 125 rfl (by decide) (by exact R2.o)).mono ?_;rintro e w3 ⟨rfl,h3,hg3⟩;have E:Ll (bf w3 b s ((st1.map (List.dropWhile cw)).bind (aA 125))/\w.grownBy w3 (some b)/\Lc w3 w.heap.size/\KY w3 (w.heap.size+1) t a7 c7 a8 c8/\bu w3 (fun k=>w.heap.size+2<=k) (f+1) t (.agg (KV t a7 c7 a8 c8))):=
     ⟨h3,am D.o.2.2.2.2.2 hg3,D.o.2.1.grown hg3 (by simp;omega),D.o.2.2.1.grown hg3 (by simp;omega),D.o.2.2.2.1.grown hg3 (fun k hk e=>by simp at e;omega)⟩
    clear h3 hg3;have x0_:=E.o.2.2.1.c;obtain⟨p0,p1,p2,p3,p4,-⟩:=E.o.2.2.2.1.c;obtain⟨z0,z1,z2,z3,z4,-⟩:=(LH E.o.2.2.1.set t a7 c7 a8 c8).c;have Z:Ll (_/\_/\_/\_/\_):=⟨z0,z1,z2,z3,z4⟩
    go_wp2_with fail
    obtain⟨z0,z1,z2,z3,z4⟩:=Z.o;refine MM (v:=(.agg (KV t a7 c7 a8 c8))) ?_ rfl ?_
    ·simp only[ar]at z0 z1 z2 z3 z4;simp[results,results117,go_sem,z0,z1,z2,z3,z4]
    ·obtain⟨e1,e2,e3,e4,e5⟩:=E.o;have g5:=aI w3 w.heap.size (.int .i64 t.kind) (.int .i64 t.n) (.string ⟨t.s.toArray⟩) (.slice a7 t.keys.length c7) (.slice a8 t.l.length c8);refine⟨t,(st1.map (List.dropWhile cw)).bind (aA 125),a7,a8,c7,c8,rfl,(e5.grown g5 (fun k hk e=>by simp at e;omega)).weak (fun k hk=>by omega),?_,e1.of_heap (g5.block b e1.lt (by simp;omega)),dv e2 g5 (by intro k hk;cases hk;exact MG _)⟩;rw[<-A.o.2.1,Bn HM.o]
theorem rV(w b s)(st:Option Lz)(h:bf w b s st):Calls prog 90 #[.pointer (some ⟨b,0,none⟩)] w fun e w'=>e=.returned (.tuple #[])/\bf w' b s (st.map (List.dropWhile cw))/\w.grownBy w' (some b):=by
 refine(sB w b s _ _ h).mono ?_;rintro e w' ⟨he,hr,hg⟩;refine⟨he,?_,hg⟩;cases st with
 | none=>exact hr
 | some l=>exact hr
theorem Cp(f)(st:Option Lz):st.bind (cH (f+1))=(st.map (List.dropWhile cw)).bind (gy (cH f)):=by cases st <;> rfl
theorem rT{l c m}(hm:m=(c.toNat:Int))(h:es l≠c):(((es l).toNat:Int) == m)=false:=wE hm h
theorem rA{l c m}(hm:m=(c.toNat:Int))(h:es l=c):(((es l).toNat:Int) == m)=true:=by rw[h,hm];simp
theorem jq{f:Nat}{w3:LC}{b:Nat}{s}{st st':Option Lz}{a7 a8}{c7 c8:Nat}(hbl:b < w.heap.size)(hv:bu w3 (fun k=>w.heap.size+1<=k) (f+1) t (.agg (KV t a7 c7 a8 c8)))(hst:st.bind (cH (f+1))=st'.map (fun l=>(t,l)))(hr:bf w3 b s st')(hg:w.grownBy w3 (some b))(LU:Lc w3 w.heap.size):KY (LG w3 w.heap.size t a7 c7 a8 c8) w.heap.size t a7 c7 a8 c8/\bu (LG w3 w.heap.size t a7 c7 a8 c8) (fun k=>w.heap.size<=k) (f+1) t (.agg (KV t a7 c7 a8 c8))/\bf (LG w3 w.heap.size t a7 c7 a8 c8) b s st'/\w.grownBy (LG w3 w.heap.size t a7 c7 a8 c8) (some b):=by
 have g5:=aI w3 w.heap.size (.int .i64 t.kind) (.int .i64 t.n) (.string ⟨t.s.toArray⟩) (.slice a7 t.keys.length c7) (.slice a8 t.l.length c8);exact⟨LU.set _ _ _ _ _,(hv.grown g5 (fun k hk e=>by simp at e;omega)).weak (fun k hk=>by omega),hr.of_heap (g5.block b hr.lt (by simp;omega)),dv hg g5 (by intro k hk;cases hk;exact MG _)⟩
theorem xK(hW:vW)(f)(ih:zo f):zo (f+1):=by
 intro w b s st h hG hb4 LT;have H:=aa h;have HG:=aa hG;have IH:=aa ih;have HW:=aa hW;have hbl:=h.lt;clear h hG ih hW;go_enter func89,ntmps89;go_wp2_with fail
 refine(rV _ b s st (by exact H.o.grown (World.grownBy_alloc w _ none) (by simp))).mono ?_;rintro e w1 ⟨rfl,h1,hg1⟩;have K1:Ll (bf w1 b s (st.map (List.dropWhile cw))/\w.grownBy w1 (some b)/\Lc w1 w.heap.size/\cn w1):=by
  have g:=am (bd (az w (some b)) _) hg1;exact⟨h1,g,ag.grown (MN w _) hg1 (by simp;omega),HG.o.grown g (by intro k hk;cases hk;exact hb4)⟩
 clear h1 hg1;go_wp2_with fail
 refine(kd _ b s ((st.map (List.dropWhile cw)).getD []) (st.map (List.dropWhile cw)).isNone (by exact K1.o.1)).mono ?_;rintro e w2 ⟨rfl,n2,hw2⟩;have K2:Ll (bf w2 b s (st.map (List.dropWhile cw))/\w.grownBy w2 (some b)/\Lc w2 w.heap.size/\cn w2):=by
  rw[hw2];exact⟨K1.o.1.of_heap rfl,cJ K1.o.2.1 _,K1.o.2.2.1,K1.o.2.2.2.same rfl⟩
 have hsz2:w.heap.size+1<=w2.heap.size:=K2.o.2.2.1.lt;clear hw2 K1;have N:Ll (st.bind (cH (f+1))=(st.map (List.dropWhile cw)).bind (gy (cH f))):=Cp f st;have hlen2:Ll ((((st.map (List.dropWhile cw)).getD []).length < f+1)):=by
  show _ < _;cases st with
  | none=>simp
  | some l=>have:=dX l;simp only[Option.getD_some,Option.map_some]at LT ⊢;omega
 obtain⟨st1,hst1⟩:∃ st1,st1=st.map (List.dropWhile cw):=⟨_,rfl⟩
 rw[<-hst1]at K2 N hlen2 ⊢;have HST:=aa hst1;clear hst1;by_cases q110:es (st1.getD [])=110
 ·have d:=rA (m:=110) rfl q110;have E:Ll (st1.bind (gy (cH f))=(st1.bind (iW [110,117,108,108])).map fun r=>(bC 0 0 [],r)):=by
   cases st1 with
   | none=>rfl
   | some l=>
    have q:es l=110:=q110;show gy (cH f) l=_;simp only[gy,q];rfl
  go_wp2_with fail
  refine(tW _ b s st1 ⟨#[110,117,108,108]⟩ 0 0 (by unfold dW;omega) (by unfold dW;omega) (by decide) (by decide) (by exact K2.o.1)).mono ?_;rintro e w3 ⟨t,v,st3,rfl,⟨kk,nn,rfl,rfl,hkk,hnn⟩,hst3,hr3,hg3⟩;have HSTF:Ll (st.bind (cH (f+1))=st3.map (fun l=>(bC kk nn [],l))):=by show _=_;rw[N.o,E.o];exact hst3
  have HBX:Lc w3 w.heap.size:=K2.o.2.2.1.grown hg3 (by simp;omega);have HVV:bu w3 (fun k=>w.heap.size+1<=k) (f+1) (bC kk nn []) (cz kk nn []):=fd _ _ f _ _ _ hkk hnn (by simp);have HGG:=am K2.o.2.1 hg3;have HRR:=hr3;have HST2:=HSTF.o;clear hst3 hr3 hg3;unfold cz aR;have FIN:=aa (jq (f:=f) (a7:=none) (a8:=none) (c7:=0) (c8:=0) hbl HVV HST2 HRR HGG HBX);have x0_:=HBX.c;obtain⟨z0,z1,z2,z3,z4,-⟩:=(HBX.set (.int .i64 kk) (.int .i64 nn) (.string ⟨#[]⟩) (.slice none 0 0) (.slice none 0 0)).c;clear HVV HST2 HRR HGG HBX;have Z:Ll (_/\_/\_/\_/\_):=⟨z0,z1,z2,z3,z4⟩
  go_wp2_with fail
  obtain⟨z0,z1,z2,z3,z4⟩:=Z.o;refine MM (v:=cz kk nn []) ?_ rfl ?_
  ·simp only[ar]at z0 z1 z2 z3 z4;simp[results,results89,go_sem,z0,z1,z2,z3,z4,cz,bC,aR]
  ·exact⟨bC kk nn [],st3,none,none,0,0,rfl,FIN.o.2.1,HSTF.o,FIN.o.2.2.1,FIN.o.2.2.2⟩
 have n110:=rT (m:=110) rfl q110;by_cases q102:es (st1.getD [])=102
 ·have d:=rA (m:=102) rfl q102;have E:Ll (st1.bind (gy (cH f))=(st1.bind (iW [102,97,108,115,101])).map fun r=>(bC 1 0 [],r)):=by
   cases st1 with
   | none=>rfl
   | some l=>
    have q:es l=102:=q102;show gy (cH f) l=_;simp only[gy,q];rfl
  go_wp2_with fail
  refine(tW _ b s st1 ⟨#[102,97,108,115,101]⟩ 1 0 (by unfold dW;omega) (by unfold dW;omega) (by decide) (by decide) (by exact K2.o.1)).mono ?_;rintro e w3 ⟨t,v,st3,rfl,⟨kk,nn,rfl,rfl,hkk,hnn⟩,hst3,hr3,hg3⟩;have HSTF:Ll (st.bind (cH (f+1))=st3.map (fun l=>(bC kk nn [],l))):=by show _=_;rw[N.o,E.o];exact hst3
  have HBX:Lc w3 w.heap.size:=K2.o.2.2.1.grown hg3 (by simp;omega);have HVV:bu w3 (fun k=>w.heap.size+1<=k) (f+1) (bC kk nn []) (cz kk nn []):=fd _ _ f _ _ _ hkk hnn (by simp);have HGG:=am K2.o.2.1 hg3;have HRR:=hr3;have HST2:=HSTF.o;clear hst3 hr3 hg3;unfold cz aR;have FIN:=aa (jq (f:=f) (a7:=none) (a8:=none) (c7:=0) (c8:=0) hbl HVV HST2 HRR HGG HBX);have x0_:=HBX.c;obtain⟨z0,z1,z2,z3,z4,-⟩:=(HBX.set (.int .i64 kk) (.int .i64 nn) (.string ⟨#[]⟩) (.slice none 0 0) (.slice none 0 0)).c;clear HVV HST2 HRR HGG HBX;have Z:Ll (_/\_/\_/\_/\_):=⟨z0,z1,z2,z3,z4⟩
  go_wp2_with fail
  obtain⟨z0,z1,z2,z3,z4⟩:=Z.o;refine MM (v:=cz kk nn []) ?_ rfl ?_
  ·simp only[ar]at z0 z1 z2 z3 z4;simp[results,results89,go_sem,z0,z1,z2,z3,z4,cz,bC,aR]
  ·exact⟨bC kk nn [],st3,none,none,0,0,rfl,FIN.o.2.1,HSTF.o,FIN.o.2.2.1,FIN.o.2.2.2⟩
 have n102:=rT (m:=102) rfl q102;by_cases q116:es (st1.getD [])=116
 ·have d:=rA (m:=116) rfl q116;have E:Ll (st1.bind (gy (cH f))=(st1.bind (iW [116,114,117,101])).map fun r=>(bC 1 1 [],r)):=by
   cases st1 with
   | none=>rfl
   | some l=>
    have q:es l=116:=q116;show gy (cH f) l=_;simp only[gy,q];rfl
  go_wp2_with fail
  refine(tW _ b s st1 ⟨#[116,114,117,101]⟩ 1 1 (by unfold dW;omega) (by unfold dW;omega) (by decide) (by decide) (by exact K2.o.1)).mono ?_;rintro e w3 ⟨t,v,st3,rfl,⟨kk,nn,rfl,rfl,hkk,hnn⟩,hst3,hr3,hg3⟩;have HSTF:Ll (st.bind (cH (f+1))=st3.map (fun l=>(bC kk nn [],l))):=by show _=_;rw[N.o,E.o];exact hst3
  have HBX:Lc w3 w.heap.size:=K2.o.2.2.1.grown hg3 (by simp;omega);have HVV:bu w3 (fun k=>w.heap.size+1<=k) (f+1) (bC kk nn []) (cz kk nn []):=fd _ _ f _ _ _ hkk hnn (by simp);have HGG:=am K2.o.2.1 hg3;have HRR:=hr3;have HST2:=HSTF.o;clear hst3 hr3 hg3;unfold cz aR;have FIN:=aa (jq (f:=f) (a7:=none) (a8:=none) (c7:=0) (c8:=0) hbl HVV HST2 HRR HGG HBX);have x0_:=HBX.c;obtain⟨z0,z1,z2,z3,z4,-⟩:=(HBX.set (.int .i64 kk) (.int .i64 nn) (.string ⟨#[]⟩) (.slice none 0 0) (.slice none 0 0)).c;clear HVV HST2 HRR HGG HBX;have Z:Ll (_/\_/\_/\_/\_):=⟨z0,z1,z2,z3,z4⟩
  go_wp2_with fail
  obtain⟨z0,z1,z2,z3,z4⟩:=Z.o;refine MM (v:=cz kk nn []) ?_ rfl ?_
  ·simp only[ar]at z0 z1 z2 z3 z4;simp[results,results89,go_sem,z0,z1,z2,z3,z4,cz,bC,aR]
  ·exact⟨bC kk nn [],st3,none,none,0,0,rfl,FIN.o.2.1,HSTF.o,FIN.o.2.2.1,FIN.o.2.2.2⟩
 have n116:=rT (m:=116) rfl q116;by_cases q34:es (st1.getD [])=34
 ·have d:=rA (m:=34) rfl q34;have E:Ll (st1.bind (gy (cH f))=(st1.bind iS).map fun p=>(bC 3 0 p.1,p.2)):=by
   cases st1 with
   | none=>rfl
   | some l=>
    show gy (cH f) l=_;simp only[gy,if_neg (show ¬es l=110 from q110),if_neg (show ¬es l=102 from q102),if_neg (show ¬es l=116 from q116),if_pos (show es l=34 from q34)];rfl
  go_wp2_with fail
  refine(rY _ b s st1 (by exact K2.o.1)).mono ?_;rintro e w3 ⟨t,st3,rfl,hst3,hkl,hr3,hg3⟩;have HSTF:Ll (st.bind (cH (f+1))=st3.map (fun l=>(bC 3 0 t,l))):=by
   show _=_;rw[N.o,E.o,hst3];cases st3 <;> rfl
  have HBX:Lc w3 w.heap.size:=K2.o.2.2.1.grown hg3 (by simp;omega);have HVV:bu w3 (fun k=>w.heap.size+1<=k) (f+1) (bC 3 0 t) (cz 3 0 t):=fd _ _ f _ _ _ (by unfold dW;omega) (by unfold dW;omega) (by unfold maxLen;omega);have HGG:=am K2.o.2.1 hg3;have HRR:=hr3;have HST2:=HSTF.o;clear hst3 hr3 hg3;have FIN:=aa (jq (f:=f) (a7:=none) (a8:=none) (c7:=0) (c8:=0) hbl HVV HST2 HRR HGG HBX);have x0_:=HBX.c;obtain⟨z0,z1,z2,z3,z4,-⟩:=(HBX.set (.int .i64 3) (.int .i64 0) (.string ⟨t.toArray⟩) (.slice none 0 0) (.slice none 0 0)).c;clear HVV HST2 HRR HGG HBX;have Z:Ll (_/\_/\_/\_/\_):=⟨z0,z1,z2,z3,z4⟩
  go_wp2_with fail
  obtain⟨z0,z1,z2,z3,z4⟩:=Z.o;refine MM (v:=cz 3 0 t) ?_ rfl ?_
  ·simp only[ar]at z0 z1 z2 z3 z4;simp[results,results89,go_sem,z0,z1,z2,z3,z4,cz,aR]
  ·exact⟨bC 3 0 t,st3,none,none,0,0,rfl,FIN.o.2.1,HSTF.o,FIN.o.2.2.1,FIN.o.2.2.2⟩
 have n34:=rT (m:=34) rfl q34;by_cases q91:es (st1.getD [])=91
 ·have d:=rA (m:=91) rfl q91;have E:Ll (st1.bind (gy (cH f))=st1.bind (jH (cH f))):=by
   cases st1 with
   | none=>rfl
   | some l=>
    show gy (cH f) l=_;simp only[gy,if_neg (show ¬es l=110 from q110),if_neg (show ¬es l=102 from q102),if_neg (show ¬es l=116 from q116),if_neg (show ¬es l=34 from q34),if_pos (show es l=91 from q91)];rfl
  have hf0:0 < f:=by
   have:=hlen2.o;cases hs:st1.getD [] with
   | nil=>rw[hs]at q91;simp[es]at q91
   | cons c r=>rw[hs]at this;simp only[My]at this;omega
  go_wp2_with fail
  refine(Gz f IH.o _ b s st1 (by exact K2.o.1) (by exact K2.o.2.2.2) hb4 hf0 hlen2.o).mono ?_;rintro e w3 ⟨t,st3,a7,a8,c7,c8,rfl,hv3,hst3,hr3,hg3⟩;have HSTF:Ll (st.bind (cH (f+1))=st3.map (fun l=>(t,l))):=by
   show _=_;rw[N.o,E.o,hst3]
  have HBX:Lc w3 w.heap.size:=K2.o.2.2.1.grown hg3 (by simp;omega);have HVV:bu w3 (fun k=>w.heap.size+1<=k) (f+1) t (.agg (KV t a7 c7 a8 c8)):=hv3.weak (fun k hk=>by omega);have HGG:=am K2.o.2.1 hg3;have HRR:=hr3;have HST2:=HSTF.o;clear hst3 hr3 hg3 hv3;have FIN:=aa (jq (f:=f) hbl HVV HST2 HRR HGG HBX);have x0_:=HBX.c;obtain⟨z0,z1,z2,z3,z4,-⟩:=FIN.o.1.c;clear HVV HST2 HRR HGG HBX;have Z:Ll (_/\_/\_/\_/\_):=⟨z0,z1,z2,z3,z4⟩
  go_wp2_with fail
  obtain⟨z0,z1,z2,z3,z4⟩:=Z.o;refine MM (v:=(.agg (KV t a7 c7 a8 c8))) ?_ rfl ?_
  ·simp only[ar]at z0 z1 z2 z3 z4;simp[results,results89,go_sem,z0,z1,z2,z3,z4]
  ·exact⟨t,st3,a7,a8,c7,c8,rfl,FIN.o.2.1,HSTF.o,FIN.o.2.2.1,FIN.o.2.2.2⟩
 have n91:=rT (m:=91) rfl q91;by_cases q123:es (st1.getD [])=123
 ·have d:=rA (m:=123) rfl q123;have E:Ll (st1.bind (gy (cH f))=st1.bind (oq (cH f))):=by
   cases st1 with
   | none=>rfl
   | some l=>
    show gy (cH f) l=_;simp only[gy,if_neg (show ¬es l=110 from q110),if_neg (show ¬es l=102 from q102),if_neg (show ¬es l=116 from q116),if_neg (show ¬es l=34 from q34),if_neg (show ¬es l=91 from q91),if_pos (show es l=123 from q123)];rfl
  have hf0:0 < f:=by
   have:=hlen2.o;cases hs:st1.getD [] with
   | nil=>rw[hs]at q123;simp[es]at q123
   | cons c r=>rw[hs]at this;simp only[My]at this;omega
  go_wp2_with fail
  refine(Dv HW.o f IH.o _ b s st1 (by exact K2.o.1) (by exact K2.o.2.2.2) hb4 hf0 hlen2.o).mono ?_;rintro e w3 ⟨t,st3,a7,a8,c7,c8,rfl,hv3,hst3,hr3,hg3⟩;have HSTF:Ll (st.bind (cH (f+1))=st3.map (fun l=>(t,l))):=by
   show _=_;rw[N.o,E.o,hst3]
  have HBX:Lc w3 w.heap.size:=K2.o.2.2.1.grown hg3 (by simp;omega);have HVV:bu w3 (fun k=>w.heap.size+1<=k) (f+1) t (.agg (KV t a7 c7 a8 c8)):=hv3.weak (fun k hk=>by omega);have HGG:=am K2.o.2.1 hg3;have HRR:=hr3;have HST2:=HSTF.o;clear hst3 hr3 hg3 hv3;have FIN:=aa (jq (f:=f) hbl HVV HST2 HRR HGG HBX);have x0_:=HBX.c;obtain⟨z0,z1,z2,z3,z4,-⟩:=FIN.o.1.c;clear HVV HST2 HRR HGG HBX;have Z:Ll (_/\_/\_/\_/\_):=⟨z0,z1,z2,z3,z4⟩
  go_wp2_with fail
  obtain⟨z0,z1,z2,z3,z4⟩:=Z.o;refine MM (v:=(.agg (KV t a7 c7 a8 c8))) ?_ rfl ?_
  ·simp only[ar]at z0 z1 z2 z3 z4;simp[results,results89,go_sem,z0,z1,z2,z3,z4]
  ·exact⟨t,st3,a7,a8,c7,c8,rfl,FIN.o.2.1,HSTF.o,FIN.o.2.2.1,FIN.o.2.2.2⟩
 have n123:=rT (m:=123) rfl q123;have E:Ll (st1.bind (gy (cH f))=(st1.bind pO).map fun p=>(bC 2 p.1 [],p.2)):=by
  cases st1 with
  | none=>rfl
  | some l=>
   show gy (cH f) l=_;simp only[gy,if_neg (show ¬es l=110 from q110),if_neg (show ¬es l=102 from q102),if_neg (show ¬es l=116 from q116),if_neg (show ¬es l=34 from q34),if_neg (show ¬es l=91 from q91),if_neg (show ¬es l=123 from q123)];rfl
 go_wp2_with fail
 refine(CJ _ b s st1 (by exact K2.o.1) (by exact K2.o.2.2.2) hb4).mono ?_;rintro e w3 ⟨t,v,st3,rfl,⟨kk,nn,rfl,rfl,hkk,hnn⟩,hst3,hr3,hg3⟩;have HSTF:Ll (st.bind (cH (f+1))=st3.map (fun l=>(bC kk nn [],l))):=by show _=_;rw[N.o,E.o];exact hst3
 have HBX:Lc w3 w.heap.size:=K2.o.2.2.1.grown hg3 (by simp;omega);have HVV:bu w3 (fun k=>w.heap.size+1<=k) (f+1) (bC kk nn []) (cz kk nn []):=fd _ _ f _ _ _ hkk hnn (by simp);have HGG:=am K2.o.2.1 hg3;have HRR:=hr3;have HST2:=HSTF.o;clear hst3 hr3 hg3;unfold cz aR;have FIN:=aa (jq (f:=f) (a7:=none) (a8:=none) (c7:=0) (c8:=0) hbl HVV HST2 HRR HGG HBX);have x0_:=HBX.c;obtain⟨z0,z1,z2,z3,z4,-⟩:=(HBX.set (.int .i64 kk) (.int .i64 nn) (.string ⟨#[]⟩) (.slice none 0 0) (.slice none 0 0)).c;clear HVV HST2 HRR HGG HBX;have Z:Ll (_/\_/\_/\_/\_):=⟨z0,z1,z2,z3,z4⟩
 go_wp2_with fail
 obtain⟨z0,z1,z2,z3,z4⟩:=Z.o;refine MM (v:=cz kk nn []) ?_ rfl ?_
 ·simp only[ar]at z0 z1 z2 z3 z4;simp[results,results89,go_sem,z0,z1,z2,z3,z4,cz,aR]
 ·exact⟨bC kk nn [],st3,none,none,0,0,rfl,FIN.o.2.1,HSTF.o,FIN.o.2.2.1,FIN.o.2.2.2⟩
theorem DC(hW:vW)(f):zo f:=by
 induction f with
 | zero=>intro w b s st h hG hb4 LT;omega
 | succ f ih=>exact xK hW f ih
variable {wr:World}
variable {k i:Nat}
theorem de.ph{s}(h:de w g s)(n):de (w.setCell ⟨g,2,none⟩ (.int .i64 n)) g ⟨s.a,s.c,n,s.st,s.we,s.si⟩:=ak h 2 _
theorem de.st{s}(h:de w g s)(n):de (w.setCell ⟨g,3,none⟩ (.int .i64 n)) g ⟨s.a,s.c,s.ph,n,s.we,s.si⟩:=ak h 3 _
theorem de.we{s}(h:de w g s)(n):de (w.setCell ⟨g,4,none⟩ (.int .i64 n)) g ⟨s.a,s.c,s.ph,s.st,n,s.si⟩:=ak h 4 _
theorem de.si{s}(h:de w g s)(n):de (w.setCell ⟨g,5,none⟩ (.int .i64 n)) g ⟨s.a,s.c,s.ph,s.st,s.we,n⟩:=ak h 5 _
theorem de.far{s}(h:de w g s)(hk:g≠k):de (w.setCell ⟨k,i,none⟩ v) g s:=
 (Below.heap_setCell w ⟨k,i,none⟩ v g hk).trans h
theorem de.lt{s}(h:de w g s):g < w.heap.size:=(MF.1 h).1
def nI (w wr:LC) (l:List dN) (now:Int) (re:Bool) (s t:dI):Prop:=
 de wr w.heap.size t/\de wr (w.heap.size+1) iA/\La w wr/\0<=t.st/\0<=t.si/\t.si<=1099511627776/\gJ now re (l.drop t.st.toNat) t=gJ now re (l.drop s.st.toNat) s
theorem jT{l:List dN}{x:dN}(h:l[k]?=some x):l.drop k=x :: l.drop (k+1):=by
 obtain⟨hk,e⟩:=Mz.1 h;rw[ME hk,e]
theorem nI.on{l now re s t x}(R:nI w wr l now re s t)(hx:l[t.st.toNat]?=some x)(hw:x.w=-1)(hp:t.ph=3)(hr:¬(re=false/\(x.p=0\/now - t.si < x.p)))(o:Obj):nI w ((((wr.alloc o).setCell ⟨w.heap.size,2,none⟩ (.int .i64 2)).setCell ⟨w.heap.size,5,none⟩ (.int .i64 0)).setCell ⟨w.heap.size,3,none⟩ (.int .i64 (t.st+1))) l now re s (rg t):=by
 obtain⟨h1,h2,h3,h4,h5,h6,h7⟩:=R;refine⟨(((h1.bel (ae _ o)).ph 2).si 0).st (t.st+1),(((h2.bel (ae _ o)).far (by omega)).far (by omega)).far (by omega),aQ (aQ (aQ (ab h3 (ae _ o)) (MG _) _ _) (MG _) _ _) (MG _) _ _,by simp[rg];omega,by simp[rg],by simp[rg],?_⟩;rw[<-h7,jT hx,gJ,if_neg (by simp[hw]),if_neg (by simp[hp]),if_neg hr];congr 2
 simp only[rg];omega
theorem nI.to{l now re s t x}(R:nI w wr l now re s t)(hx:l[t.st.toNat]?=some x)(hw:x.w≠-1)(o:Obj):nI w (((((wr.alloc o).setCell ⟨w.heap.size,4,none⟩ (.int .i64 x.w)).setCell ⟨w.heap.size,2,none⟩ (.int .i64 2)).setCell ⟨w.heap.size,5,none⟩ (.int .i64 0)).setCell ⟨w.heap.size,3,none⟩ (.int .i64 (t.st+1))) l now re s (rg (IJ t x.w)):=by
 obtain⟨h1,h2,h3,h4,h5,h6,h7⟩:=R;refine⟨((((h1.bel (ae _ o)).we x.w).ph 2).si 0).st (t.st+1),((((h2.bel (ae _ o)).far (by omega)).far (by omega)).far (by omega)).far (by omega),aQ (aQ (aQ (aQ (ab h3 (ae _ o)) (MG _) _ _) (MG _) _ _) (MG _) _ _) (MG _) _ _,by simp[rg,IJ];omega,by simp[rg,IJ],by simp[rg,IJ],?_⟩;rw[<-h7,jT hx,gJ,if_pos hw];congr 2
 simp only[rg,IJ];omega
theorem Ag(w l v s now re)(h:bk w l v)(h0:0<=s.st)(h1:0<=s.si)(h2:s.si<=1099511627776)(h3:0<=now)(h4:now<=1099511627776):Calls prog 52 #[v,bc s,.int .i64 now,.bool re] w fun e w'=>e=.returned (bc (gJ now re (l.drop s.st.toNat) s))/\La w w':=by
 obtain⟨r0,hr0⟩:∃ r,gJ now re (l.drop s.st.toNat) s=r:=⟨_,rfl⟩
 rw[hr0];have HR:=aa hr0;clear hr0;have E0:Ll (bc s=.agg (Li s)):=aa rfl;rw[E0.o];clear E0;obtain⟨a,c,rfl⟩:=h.form;have H:=aa h;have ll:=h.1;have I0:Ll (∀ wr,de wr w.heap.size s->de wr (w.heap.size+1) iA->La w wr->nI w wr l now re s s):=fun wr k1 k2 k3=>⟨k1,k2,k3,h0,h1,h2,rfl⟩;clear h h0 h1 h2;go_enter func52,ntmps52;go_wp2
 go_loopg [9,20,27,35] (l.length - s.st.toNat) (fun gk _ _ _ _ wr=>∃ t:dI,Ll (gk=l.length - t.st.toNat)/\Ll (nI w wr l now re s t))
 case atStart=>exact⟨s,aa rfl,aa (I0.o _ (fb _ _ _) (et _ _ _) (ab (ae _ _) (ae _ _)))⟩
 case round=>
  obtain⟨t,GK,R⟩:=hrel;by_cases hlt:t.st < (l.length:Int)
  ·have hn0:0<=t.st:=R.o.2.2.2.1;have hk:t.st.toNat < l.length:=by omega
   obtain⟨b,off,rfl,j1,j2,k1,k2⟩:=AG H.o hk;have m1:=ah R.o.2.2.1 k1;have m2:=ah R.o.2.2.1 k2;clear k1 k2;obtain⟨x,hx⟩:∃ x,l[t.st.toNat]=x:=⟨_,rfl⟩
   have HX:Ll (l[t.st.toNat]?=some x):=aa (by rw[Mw hk,hx]);have HK:=aa hk;rw[hx]at m1 m2;clear hx hk;have c0_:=R.o.1.c;have c0'_:=(R.o.1.bel (ae wr (.cells #[.int .i64 x.w,.int .i64 x.p] 111))).c;by_cases hw:x.w=-1
   ·have e1:(x.w == -1)=true:=by simp[hw]
    have HW:=aa hw;clear hw;by_cases hp:t.ph=3
    ·have e2:(t.ph == 3)=true:=by simp[hp]
     have HP:=aa hp;clear hp;have hsi1:0<=t.si:=R.o.2.2.2.2.1;have hsi2:t.si<=1099511627776:=R.o.2.2.2.2.2.1;have S2:Ll (de (wr.alloc (.cells #[.int .i64 x.w,.int .i64 x.p] 111)) (w.heap.size+1) iA):=R.o.2.1.bel (ae _ _);have f0_:=S2.o.c;have e4:t.st+1<=9223372036854775807:=by omega
     have HBW:Ll (La w (wr.alloc (.cells #[.int .i64 x.w,.int .i64 x.p] 111))):=ab R.o.2.2.1 (ae _ _);cases hre:re with
     | true=>
      subst hre;have HN:=aa (R.o.on HX.o HW.o HP.o (by simp) (.cells #[.int .i64 x.w,.int .i64 x.p] 111));go_wp2
      go_roundg (l.length - (t.st.toNat+1))
      case measure=>rw[GK.o];have:=HK.o;omega
      case rel=>exact⟨rg t,aa (by simp only[rg];omega),HN⟩
     | false=>
      subst hre;by_cases p0:x.p=0
      ·have e5:(x.p == 0)=true:=by simp[p0]
       have FIN:Ll (r0=t):=aa (by rw[<-HR.o,<-R.o.2.2.2.2.2.2,jT HX.o,gJ,if_neg (by simp[HW.o]),if_neg (by simp[HP.o]),if_pos ⟨rfl,.inl p0⟩]);clear p0;go_wp2
       rw[FIN.o];have z0_:=(S2.o.set t).c;refine MM (v:=bc t) ?_ rfl ⟨rfl,bX HBW.o (by omega) t⟩;simp only[fR]at z0_;simp[results,results52,go_sem,z0_,bc]
      ·have e5:(x.p == 0)=false:=by simp[p0]
       by_cases p1:now - t.si < x.p
       ·have FIN:Ll (r0=t):=aa (by rw[<-HR.o,<-R.o.2.2.2.2.2.2,jT HX.o,gJ,if_neg (by simp[HW.o]),if_neg (by simp[HP.o]),if_pos ⟨rfl,.inr p1⟩]);clear p0;go_wp2
        rw[FIN.o];have z0_:=(S2.o.set t).c;refine MM (v:=bc t) ?_ rfl ⟨rfl,bX HBW.o (by omega) t⟩;simp only[fR]at z0_;simp[results,results52,go_sem,z0_,bc]
       ·have HN:=aa (R.o.on HX.o HW.o HP.o (by simp[p0];omega) (.cells #[.int .i64 x.w,.int .i64 x.p] 111));clear p0;go_wp2
        go_roundg (l.length - (t.st.toNat+1))
        case measure=>rw[GK.o];have:=HK.o;omega
        case rel=>exact⟨rg t,aa (by simp only[rg];omega),HN⟩
    ·have e2:(t.ph == 3)=false:=by simp[hp]
     have HP:=aa hp;clear hp;have S2:Ll (de (((wr.alloc (.cells #[.int .i64 x.w,.int .i64 x.p] 111)).setCell ⟨w.heap.size,2,none⟩ (.int .i64 3)).setCell ⟨w.heap.size,5,none⟩ (.int .i64 now)) (w.heap.size+1) iA):=((R.o.2.1.bel (ae _ _)).far (by omega)).far (by omega);have S3:Ll (de (((wr.alloc (.cells #[.int .i64 x.w,.int .i64 x.p] 111)).setCell ⟨w.heap.size,2,none⟩ (.int .i64 3)).setCell ⟨w.heap.size,5,none⟩ (.int .i64 now)) w.heap.size (lY t now)):=((R.o.1.bel (ae _ _)).ph 3).si now;have f0_:=S2.o.c;have i0_:=S3.o.c;simp only[lY]at i0_;have FIN:Ll (r0=lY t now):=aa (by rw[<-HR.o,<-R.o.2.2.2.2.2.2,jT HX.o,gJ,if_neg (by simp[HW.o]),if_pos HP.o]);have HBW:Ll (La w (((wr.alloc (.cells #[.int .i64 x.w,.int .i64 x.p] 111)).setCell ⟨w.heap.size,2,none⟩ (.int .i64 3)).setCell ⟨w.heap.size,5,none⟩ (.int .i64 now))):=aQ (aQ (ab R.o.2.2.1 (ae _ _)) (MG _) _ _) (MG _) _ _;go_wp2
     rw[FIN.o];have z0_:=(S2.o.set (lY t now)).c;refine MM (v:=bc (lY t now)) ?_ rfl ⟨rfl,bX HBW.o (by omega) (lY t now)⟩;simp only[fR,lY]at z0_;simp[results,results52,go_sem,z0_,bc,lY]
   ·have e1:(x.w == -1)=false:=by simp[hw]
    have HN:=aa (R.o.to HX.o hw (.cells #[.int .i64 x.w,.int .i64 x.p] 111));have e4:t.st+1<=9223372036854775807:=by omega
    clear hw;go_wp2
    go_roundg (l.length - (t.st.toNat+1))
    case measure=>rw[GK.o];have:=HK.o;omega
    case rel=>exact⟨rg (IJ t x.w),aa (by simp only[rg,IJ];omega),HN⟩
  ·have hn0:0<=t.st:=R.o.2.2.2.1;have FIN:Ll (r0=aF t.c):=aa (by rw[<-HR.o,<-R.o.2.2.2.2.2.2,List.drop_eq_nil_of_le (by omega)];rfl);have c0_:=R.o.1.c;go_wp2_with (go_at_call 49;refine Lk (ja _ t.c) fun w2 hb2=>?_;have S2:=aa (R.o.2.1.bel hb2);have HB2:=aa (ab R.o.2.2.1 hb2);have f0_:=S2.o.c;clear hb2)
   rw[FIN.o];have z0_:=(S2.o.set (aF t.c)).c;refine MM (v:=bc (aF t.c)) ?_ rfl ⟨rfl,bX HB2.o (by omega) (aF t.c)⟩;simp only[fR,aF]at z0_;simp[results,results52,go_sem,z0_,bc,aF]
def lU (w wr:LC) (g:Lz) (v:Value) (s:dI):Prop:=fM wr w.heap.size g v/\de wr (w.heap.size+1) s/\de wr (w.heap.size+2) iA/\La w wr
theorem lU.bel{g s}(h:lU w wr g v s)(hb:La wr w'):lU w w' g v s:=⟨h.1.bel hb,h.2.1.bel hb,h.2.2.1.bel hb,ab h.2.2.2 hb⟩
theorem lU.c{g s}(h:lU w wr g v s):wr.cell? ⟨w.heap.size,0,none⟩=some (.string ⟨g.toArray⟩)/\wr.cell? ⟨w.heap.size,1,none⟩=some v /\
 wr.cell? ⟨w.heap.size+1,0,none⟩=some (.string ⟨s.a.toArray⟩)/\wr.cell? ⟨w.heap.size+1,1,none⟩=some (.string ⟨s.c.toArray⟩)/\wr.cell? ⟨w.heap.size+1,2,none⟩=some (.int .i64 s.ph)/\wr.cell? ⟨w.heap.size+1,3,none⟩=some (.int .i64 s.st)/\wr.cell? ⟨w.heap.size+1,4,none⟩=some (.int .i64 s.we)/\wr.cell? ⟨w.heap.size+1,5,none⟩=some (.int .i64 s.si) /\
 wr.cell? ⟨w.heap.size+2,0,none⟩=some (.string ⟨#[]⟩)/\wr.cell? ⟨w.heap.size+2,1,none⟩=some (.string ⟨#[]⟩)/\wr.cell? ⟨w.heap.size+2,2,none⟩=some (.int .i64 0)/\wr.cell? ⟨w.heap.size+2,3,none⟩=some (.int .i64 0)/\wr.cell? ⟨w.heap.size+2,4,none⟩=some (.int .i64 0)/\wr.cell? ⟨w.heap.size+2,5,none⟩=some (.int .i64 0) /\
 wr.frozen? ⟨w.heap.size+2,0,none⟩=false/\wr.frozen? ⟨w.heap.size+2,1,none⟩=false/\wr.frozen? ⟨w.heap.size+2,2,none⟩=false/\wr.frozen? ⟨w.heap.size+2,3,none⟩=false/\wr.frozen? ⟨w.heap.size+2,4,none⟩=false/\wr.frozen? ⟨w.heap.size+2,5,none⟩=false /\
 wr.frozen? ⟨w.heap.size+1,0,none⟩=false/\wr.frozen? ⟨w.heap.size+1,1,none⟩=false/\wr.frozen? ⟨w.heap.size+1,2,none⟩=false/\wr.frozen? ⟨w.heap.size+1,3,none⟩=false/\wr.frozen? ⟨w.heap.size+1,4,none⟩=false/\wr.frozen? ⟨w.heap.size+1,5,none⟩=false:=by
 obtain⟨a0,a1⟩:=h.1.c;obtain⟨b0,b1,b2,b3,b4,b5,b6,b7,b8,b9,b10,b11⟩:=h.2.1.c;obtain⟨d0,d1,d2,d3,d4,d5,d6,d7,d8,d9,d10,d11⟩:=h.2.2.1.c;exact⟨a0,a1,b0,b1,b2,b3,b4,b5,d0,d1,d2,d3,d4,d5,d6,d7,d8,d9,d10,d11,b6,b7,b8,b9,b10,b11⟩
theorem lU.begun{g s}(h:lU w wr g v s)(t):lU w (fR wr (w.heap.size+1) t) g v t:=
 ⟨((((((Below.heap_setCell _ ⟨w.heap.size+1,5,none⟩ _ w.heap.size (by simp)).trans (Below.heap_setCell _ ⟨w.heap.size+1,4,none⟩ _ w.heap.size (by simp))).trans (Below.heap_setCell _ ⟨w.heap.size+1,3,none⟩ _ w.heap.size (by simp))).trans (Below.heap_setCell _ ⟨w.heap.size+1,2,none⟩ _ w.heap.size (by simp))).trans (Below.heap_setCell _ ⟨w.heap.size+1,1,none⟩ _ w.heap.size (by simp))).trans (Below.heap_setCell _ ⟨w.heap.size+1,0,none⟩ _ w.heap.size (by simp))).trans h.1,
  h.2.1.set t,(((((h.2.2.1.far (by omega)).far (by omega)).far (by omega)).far (by omega)).far (by omega)).far (by omega),bX h.2.2.2 (by omega) t⟩
theorem cF(w g v s):lU w (((w.alloc (.cells #[.string ⟨g.toArray⟩,v] 73)).alloc (.cells (Li s) 42)).alloc (.cells #[.string ⟨#[]⟩,.string ⟨#[]⟩,.int .i64 0,.int .i64 0,.int .i64 0,.int .i64 0] 42)) g v s:=by
 have e:de (((w.alloc (.cells #[.string ⟨g.toArray⟩,v] 73)).alloc (.cells (Li s) 42)).alloc (.cells #[.string ⟨#[]⟩,.string ⟨#[]⟩,.int .i64 0,.int .i64 0,.int .i64 0,.int .i64 0] 42)) (w.heap.size+1+1) iA:=by
  have e:=MN ((w.alloc (.cells #[.string ⟨g.toArray⟩,v] 73)).alloc (.cells (Li s) 42)) (.cells #[.string ⟨#[]⟩,.string ⟨#[]⟩,.int .i64 0,.int .i64 0,.int .i64 0,.int .i64 0] 42);have e2:((w.alloc (.cells #[.string ⟨g.toArray⟩,v] 73)).alloc (.cells (Li s) 42)).heap.size=w.heap.size+1+1:=by simp
  rw[e2]at e;exact e
 exact⟨(show fM _ _ g v from fb w _ _).bel (ae _ _),(show de _ _ s from et w _ _).bel (ae _ _),e,ab (ab (ae _ _) (ae _ _)) (ae _ _)⟩
theorem Lv(w g l v s now order)(h:bk w l v)(hg:g.length<=9223372036854775807)(n)(hc:((cM g l=false)/\n=1)\/((cM g l=true)/\(cC s=false)/\n=1)\/((cM g l=true)/\(cC s=true)/\(lp now=false)/\n=8)\/((cM g l=true)/\(cC s=true)/\(lp now=true)/\order < 0/\n=9)\/((cM g l=true)/\(cC s=true)/\(lp now=true)/\0<=order/\3 < order/\n=9)\/((cM g l=true)/\(cC s=true)/\(lp now=true)/\0<=order/\order<=3/\((g == s.c)=true)/\((s.ph == 1)=true)/\n=0)\/((cM g l=true)/\(cC s=true)/\(lp now=true)/\0<=order/\order<=3/\((g == s.c)=true)/\((s.ph == 1)=false)/\((s.ph == 4)=true)/\n=0)):Calls prog 32 #[.agg #[.string ⟨g.toArray⟩,v],bc s,.int .i64 now,.int .i64 order] w fun e w'=>e=.returned (.tuple #[bc (s),.int .i64 n])/\La w w':=by
 have E0:Ll (bc s=.agg (Li s)):=aa rfl;have E1:=E0.o;rw[E1];clear E0 E1;obtain⟨a,c,rfl⟩:=h.form;have H:=aa h;have G:=aa hg;have N0:=aa (cF w g (.slice a l.length c) s);clear h hg;rcases hc with⟨hs,rfl⟩ | ⟨hs,ht,rfl⟩ | ⟨hs,ht,hT,rfl⟩ | ⟨hs,ht,hT,ho,rfl⟩ | ⟨hs,ht,hT,ho,ho2,rfl⟩ | ⟨hs,ht,hT,ho,ho2,h1,h2,rfl⟩ | ⟨hs,ht,hT,ho,ho2,h1,h2,h3,rfl⟩
 all_goals
  go_enter func32,ntmps32;go_wp2_with (first | (go_at_call 46;refine Lk (bF _ g l _ (H.o.bel N0.o.2.2.2) G.o) fun w1 hb=>?_;rw[hs];have N1:=aa (N0.o.bel hb);have NQ:=N1;obtain⟨p0,p1,c0,c1,c2,c3,c4,c5,f0,f1,f2,f3,f4,f5,g0,g1,g2,g3,g4,g5,h0,h1,h2,h3,h4,h5⟩:=N1.o.c;clear hb) | (go_at_call 47;refine Lk (eV _ s) fun w2 hb=>?_;rw[ht];have N2:=aa (N1.o.bel hb);have NQ:=N2;obtain⟨p0,p1,c0,c1,c2,c3,c4,c5,f0,f1,f2,f3,f4,f5,g0,g1,g2,g3,g4,g5,h0,h1,h2,h3,h4,h5⟩:=N2.o.c;clear hb) | (go_at_call 48;refine LE (cN _ now) ?_;rw[hT]))
  have z0_:=(NQ.o.2.2.1.set (s)).c;refine MM (v:=.tuple #[bc (s),.int .i64 _]) ?_ rfl ⟨rfl,bX NQ.o.2.2.2 (by omega) (s)⟩;simp only[fR]at z0_;simp[results,results32,go_sem,z0_,bc]
theorem Bj(w g l v s now order)(h:bk w l v)(hg:g.length<=9223372036854775807)(hs:cM g l=true)(ht:cC s=true)(hT:lp now=true)(ho:0<=order)(ho2:order<=3)(h1:(g == s.c)=false)(h2:(g == s.a)=true):Calls prog 32 #[.agg #[.string ⟨g.toArray⟩,v],bc s,.int .i64 now,.int .i64 order] w fun e w'=>e=.returned (.tuple #[bc (aF s.a),.int .i64 0])/\La w w':=by
 have E0:Ll (bc s=.agg (Li s)):=aa rfl;have E1:=E0.o;rw[E1];clear E0 E1;obtain⟨a,c,rfl⟩:=h.form;have H:=aa h;have G:=aa hg;have N0:=aa (cF w g (.slice a l.length c) s);clear h hg;go_enter func32,ntmps32;go_wp2_with (first | (go_at_call 46;refine Lk (bF _ g l _ (H.o.bel N0.o.2.2.2) G.o) fun w1 hb=>?_;rw[hs];have N1:=aa (N0.o.bel hb);obtain⟨p0,p1,c0,c1,c2,c3,c4,c5,f0,f1,f2,f3,f4,f5,g0,g1,g2,g3,g4,g5,h0,h1,h2,h3,h4,h5⟩:=N1.o.c;clear hb) | (go_at_call 47;refine Lk (eV _ s) fun w2 hb=>?_;rw[ht];have N2:=aa (N1.o.bel hb);obtain⟨p0,p1,c0,c1,c2,c3,c4,c5,f0,f1,f2,f3,f4,f5,g0,g1,g2,g3,g4,g5,h0,h1,h2,h3,h4,h5⟩:=N2.o.c;clear hb) | (go_at_call 48;refine LE (cN _ now) ?_;rw[hT]) | (go_at_call 49;refine Lk (ja _ (s.a)) fun w5 hb=>?_;have N5:=aa (N2.o.bel hb);obtain⟨p0,p1,c0,c1,c2,c3,c4,c5,f0,f1,f2,f3,f4,f5,g0,g1,g2,g3,g4,g5,h0,h1,h2,h3,h4,h5⟩:=N5.o.c;clear hb))
 have z0_:=(N5.o.2.2.1.set (aF s.a)).c;refine MM (v:=.tuple #[bc (aF s.a),.int .i64 0]) ?_ rfl ⟨rfl,bX N5.o.2.2.2 (by omega) (aF s.a)⟩;simp only[fR,aF]at z0_;simp[results,results32,go_sem,z0_,bc,aF]
theorem Co(w g l v s now order)(h:bk w l v)(hg:g.length<=9223372036854775807)(hs:cM g l=true)(ht:cC s=true)(hT:lp now=true)(ho:0<=order)(ho2:order<=3)(h1:(g == s.c)=true)(h2:(s.ph == 1)=false)(h3:(s.ph == 4)=false)(h4:(order == 2)=true):Calls prog 32 #[.agg #[.string ⟨g.toArray⟩,v],bc s,.int .i64 now,.int .i64 order] w fun e w'=>e=.returned (.tuple #[bc (aF s.c),.int .i64 0])/\La w w':=by
 have E0:Ll (bc s=.agg (Li s)):=aa rfl;have E1:=E0.o;rw[E1];clear E0 E1;obtain⟨a,c,rfl⟩:=h.form;have H:=aa h;have G:=aa hg;have N0:=aa (cF w g (.slice a l.length c) s);clear h hg;go_enter func32,ntmps32;go_wp2_with (first | (go_at_call 46;refine Lk (bF _ g l _ (H.o.bel N0.o.2.2.2) G.o) fun w1 hb=>?_;rw[hs];have N1:=aa (N0.o.bel hb);obtain⟨p0,p1,c0,c1,c2,c3,c4,c5,f0,f1,f2,f3,f4,f5,g0,g1,g2,g3,g4,g5,h0,h1,h2,h3,h4,h5⟩:=N1.o.c;clear hb) | (go_at_call 47;refine Lk (eV _ s) fun w2 hb=>?_;rw[ht];have N2:=aa (N1.o.bel hb);obtain⟨p0,p1,c0,c1,c2,c3,c4,c5,f0,f1,f2,f3,f4,f5,g0,g1,g2,g3,g4,g5,h0,h1,h2,h3,h4,h5⟩:=N2.o.c;clear hb) | (go_at_call 48;refine LE (cN _ now) ?_;rw[hT]) | (go_at_call 49;refine Lk (ja _ (s.c)) fun w5 hb=>?_;have N5:=aa (N2.o.bel hb);obtain⟨p0,p1,c0,c1,c2,c3,c4,c5,f0,f1,f2,f3,f4,f5,g0,g1,g2,g3,g4,g5,h0,h1,h2,h3,h4,h5⟩:=N5.o.c;clear hb))
 have z0_:=(N5.o.2.2.1.set (aF s.c)).c;refine MM (v:=.tuple #[bc (aF s.c),.int .i64 0]) ?_ rfl ⟨rfl,bX N5.o.2.2.2 (by omega) (aF s.c)⟩;simp only[fR,aF]at z0_;simp[results,results32,go_sem,z0_,bc,aF]
theorem yn(w g l v s now order)(h:bk w l v)(hg:g.length<=9223372036854775807)(hs:cM g l=true)(ht:cC s=true)(hT:lp now=true)(ho:0<=order)(ho2:order<=3)(h1:(g == s.c)=true)(h2:(s.ph == 1)=false)(h3:(s.ph == 4)=false)(h4:(order == 2)=false)(h5:(order == 3)=true):Calls prog 32 #[.agg #[.string ⟨g.toArray⟩,v],bc s,.int .i64 now,.int .i64 order] w fun e w'=>e=.returned (.tuple #[bc (bw s.a s.c),.int .i64 0])/\La w w':=by
 have E0:Ll (bc s=.agg (Li s)):=aa rfl;have E1:=E0.o;rw[E1];clear E0 E1;obtain⟨a,c,rfl⟩:=h.form;have H:=aa h;have G:=aa hg;have N0:=aa (cF w g (.slice a l.length c) s);clear h hg;go_enter func32,ntmps32;go_wp2_with (first | (go_at_call 46;refine Lk (bF _ g l _ (H.o.bel N0.o.2.2.2) G.o) fun w1 hb=>?_;rw[hs];have N1:=aa (N0.o.bel hb);obtain⟨p0,p1,c0,c1,c2,c3,c4,c5,f0,f1,f2,f3,f4,f5,g0,g1,g2,g3,g4,g5,h0,h1,h2,h3,h4,h5⟩:=N1.o.c;clear hb) | (go_at_call 47;refine Lk (eV _ s) fun w2 hb=>?_;rw[ht];have N2:=aa (N1.o.bel hb);obtain⟨p0,p1,c0,c1,c2,c3,c4,c5,f0,f1,f2,f3,f4,f5,g0,g1,g2,g3,g4,g5,h0,h1,h2,h3,h4,h5⟩:=N2.o.c;clear hb) | (go_at_call 48;refine LE (cN _ now) ?_;rw[hT]) | (go_at_call 51;refine Lk (sw _ (s.a) (s.c)) fun w5 hb=>?_;have N5:=aa (N2.o.bel hb);obtain⟨p0,p1,c0,c1,c2,c3,c4,c5,f0,f1,f2,f3,f4,f5,g0,g1,g2,g3,g4,g5,h0,h1,h2,h3,h4,h5⟩:=N5.o.c;clear hb))
 have z0_:=(N5.o.2.2.1.set (bw s.a s.c)).c;refine MM (v:=.tuple #[bc (bw s.a s.c),.int .i64 0]) ?_ rfl ⟨rfl,bX N5.o.2.2.2 (by omega) (bw s.a s.c)⟩;simp only[fR,bw]at z0_;simp[results,results32,go_sem,z0_,bc,bw]
theorem Dn(w g l v s now order)(h:bk w l v)(hg:g.length<=9223372036854775807)(hs:cM g l=true)(ht:cC s=true)(hT:lp now=true)(ho:0<=order)(ho2:order<=3)(h1:(g == s.c)=true)(h2:(s.ph == 1)=false)(h3:(s.ph == 4)=false)(h4:(order == 2)=false)(h5:(order == 3)=false)(hw:0<=s.st/\0<=s.si/\s.si<=1099511627776):Calls prog 32 #[.agg #[.string ⟨g.toArray⟩,v],bc s,.int .i64 now,.int .i64 order] w fun e w'=>e=.returned (.tuple #[bc (gJ now (decide (order=1)) (l.drop s.st.toNat) s),.int .i64 0])/\La w w':=by
 have E0:Ll (bc s=.agg (Li s)):=aa rfl;have E1:=E0.o;rw[E1];clear E0 E1;obtain⟨a,c,rfl⟩:=h.form;have H:=aa h;have G:=aa hg;have N0:=aa (cF w g (.slice a l.length c) s);clear h hg;have RO:Ll (0<=(s).st/\0<=(s).si/\(s).si<=1099511627776/\0<=now/\now<=1099511627776):=⟨hw.1,hw.2.1,hw.2.2,Ak.1 hT⟩;obtain⟨r0,hr0⟩:∃ r,gJ now (decide (order=1)) (l.drop s.st.toNat) s=r:=⟨_,rfl⟩
 rw[hr0];have HR:=aa hr0;clear hr0 hw;go_enter func32,ntmps32;go_wp2_with (first | (go_at_call 46;refine Lk (bF _ g l _ (H.o.bel N0.o.2.2.2) G.o) fun w1 hb=>?_;rw[hs];have N1:=aa (N0.o.bel hb);obtain⟨p0,p1,c0,c1,c2,c3,c4,c5,f0,f1,f2,f3,f4,f5,g0,g1,g2,g3,g4,g5,h0,h1,h2,h3,h4,h5⟩:=N1.o.c;clear hb) | (go_at_call 47;refine Lk (eV _ s) fun w2 hb=>?_;rw[ht];have N2:=aa (N1.o.bel hb);obtain⟨p0,p1,c0,c1,c2,c3,c4,c5,f0,f1,f2,f3,f4,f5,g0,g1,g2,g3,g4,g5,h0,h1,h2,h3,h4,h5⟩:=N2.o.c;clear hb) | (go_at_call 48;refine LE (cN _ now) ?_;rw[hT]) | (go_at_call 52;refine Lk (Ag _ l _ (s) now (decide (order=1)) (by exact H.o.bel N2.o.2.2.2) RO.o.1 RO.o.2.1 RO.o.2.2.1 RO.o.2.2.2.1 RO.o.2.2.2.2) fun w5 hb=>?_;rw[HR.o];unfold bc;have N5:=aa (N2.o.bel hb);obtain⟨p0,p1,c0,c1,c2,c3,c4,c5,f0,f1,f2,f3,f4,f5,g0,g1,g2,g3,g4,g5,h0,h1,h2,h3,h4,h5⟩:=N5.o.c;clear hb))
 have z0_:=(N5.o.2.2.1.set (r0)).c;refine MM (v:=.tuple #[bc (r0),.int .i64 0]) ?_ rfl ⟨rfl,bX N5.o.2.2.2 (by omega) (r0)⟩;simp only[fR]at z0_;simp[results,results32,go_sem,z0_,bc]
theorem zp(w g l v s now order)(h:bk w l v)(hg:g.length<=9223372036854775807)(hs:cM g l=true)(ht:cC s=true)(hT:lp now=true)(ho:0<=order)(ho2:order<=3)(h1:(g == s.c)=false)(h2:(g == s.a)=false)(h4:(order == 2)=true):Calls prog 32 #[.agg #[.string ⟨g.toArray⟩,v],bc s,.int .i64 now,.int .i64 order] w fun e w'=>e=.returned (.tuple #[bc (aF g),.int .i64 0])/\La w w':=by
 have E0:Ll (bc s=.agg (Li s)):=aa rfl;have E1:=E0.o;rw[E1];clear E0 E1;obtain⟨a,c,rfl⟩:=h.form;have H:=aa h;have G:=aa hg;have N0:=aa (cF w g (.slice a l.length c) s);clear h hg;go_enter func32,ntmps32;go_wp2_with (first | (go_at_call 46;refine Lk (bF _ g l _ (H.o.bel N0.o.2.2.2) G.o) fun w1 hb=>?_;rw[hs];have N1:=aa (N0.o.bel hb);obtain⟨p0,p1,c0,c1,c2,c3,c4,c5,f0,f1,f2,f3,f4,f5,g0,g1,g2,g3,g4,g5,h0,h1,h2,h3,h4,h5⟩:=N1.o.c;clear hb) | (go_at_call 47;refine Lk (eV _ s) fun w2 hb=>?_;rw[ht];have N2:=aa (N1.o.bel hb);obtain⟨p0,p1,c0,c1,c2,c3,c4,c5,f0,f1,f2,f3,f4,f5,g0,g1,g2,g3,g4,g5,h0,h1,h2,h3,h4,h5⟩:=N2.o.c;clear hb) | (go_at_call 48;refine LE (cN _ now) ?_;rw[hT]) | (go_at_call 50;refine Lk (tb _ s.a g) fun w4 hb=>?_;have N4:=aa (N2.o.bel hb);have NB:=aa (N4.o.begun (da s.a g));obtain⟨p0,p1,c0,c1,c2,c3,c4,c5,f0,f1,f2,f3,f4,f5,g0,g1,g2,g3,g4,g5,h0,h1,h2,h3,h4,h5⟩:=N4.o.c;have p0'_:=NB.o.c;simp only[fR,da]at p0'_;clear hb) | (go_at_call 49;refine Lk (ja _ (g)) fun w5 hb=>?_;have N5:=aa (NB.o.bel hb);clear p0'_;obtain⟨p0,p1,c0,c1,c2,c3,c4,c5,f0,f1,f2,f3,f4,f5,g0,g1,g2,g3,g4,g5,h0,h1,h2,h3,h4,h5⟩:=N5.o.c;clear hb))
 have z0_:=(N5.o.2.2.1.set (aF g)).c;refine MM (v:=.tuple #[bc (aF g),.int .i64 0]) ?_ rfl ⟨rfl,bX N5.o.2.2.2 (by omega) (aF g)⟩;simp only[fR,aF]at z0_;simp[results,results32,go_sem,z0_,bc,aF]
theorem xh(w g l v s now order)(h:bk w l v)(hg:g.length<=9223372036854775807)(hs:cM g l=true)(ht:cC s=true)(hT:lp now=true)(ho:0<=order)(ho2:order<=3)(h1:(g == s.c)=false)(h2:(g == s.a)=false)(h4:(order == 2)=false)(h5:(order == 3)=true):Calls prog 32 #[.agg #[.string ⟨g.toArray⟩,v],bc s,.int .i64 now,.int .i64 order] w fun e w'=>e=.returned (.tuple #[bc (bw s.a g),.int .i64 0])/\La w w':=by
 have E0:Ll (bc s=.agg (Li s)):=aa rfl;have E1:=E0.o;rw[E1];clear E0 E1;obtain⟨a,c,rfl⟩:=h.form;have H:=aa h;have G:=aa hg;have N0:=aa (cF w g (.slice a l.length c) s);clear h hg;go_enter func32,ntmps32;go_wp2_with (first | (go_at_call 46;refine Lk (bF _ g l _ (H.o.bel N0.o.2.2.2) G.o) fun w1 hb=>?_;rw[hs];have N1:=aa (N0.o.bel hb);obtain⟨p0,p1,c0,c1,c2,c3,c4,c5,f0,f1,f2,f3,f4,f5,g0,g1,g2,g3,g4,g5,h0,h1,h2,h3,h4,h5⟩:=N1.o.c;clear hb) | (go_at_call 47;refine Lk (eV _ s) fun w2 hb=>?_;rw[ht];have N2:=aa (N1.o.bel hb);obtain⟨p0,p1,c0,c1,c2,c3,c4,c5,f0,f1,f2,f3,f4,f5,g0,g1,g2,g3,g4,g5,h0,h1,h2,h3,h4,h5⟩:=N2.o.c;clear hb) | (go_at_call 48;refine LE (cN _ now) ?_;rw[hT]) | (go_at_call 50;refine Lk (tb _ s.a g) fun w4 hb=>?_;have N4:=aa (N2.o.bel hb);have NB:=aa (N4.o.begun (da s.a g));obtain⟨p0,p1,c0,c1,c2,c3,c4,c5,f0,f1,f2,f3,f4,f5,g0,g1,g2,g3,g4,g5,h0,h1,h2,h3,h4,h5⟩:=N4.o.c;have p0'_:=NB.o.c;simp only[fR,da]at p0'_;clear hb) | (go_at_call 51;refine Lk (sw _ (s.a) (g)) fun w5 hb=>?_;have N5:=aa (NB.o.bel hb);clear p0'_;obtain⟨p0,p1,c0,c1,c2,c3,c4,c5,f0,f1,f2,f3,f4,f5,g0,g1,g2,g3,g4,g5,h0,h1,h2,h3,h4,h5⟩:=N5.o.c;clear hb))
 have z0_:=(N5.o.2.2.1.set (bw s.a g)).c;refine MM (v:=.tuple #[bc (bw s.a g),.int .i64 0]) ?_ rfl ⟨rfl,bX N5.o.2.2.2 (by omega) (bw s.a g)⟩;simp only[fR,bw]at z0_;simp[results,results32,go_sem,z0_,bc,bw]
theorem zr(w g l v s now order)(h:bk w l v)(hg:g.length<=9223372036854775807)(hs:cM g l=true)(ht:cC s=true)(hT:lp now=true)(ho:0<=order)(ho2:order<=3)(h1:(g == s.c)=false)(h2:(g == s.a)=false)(h4:(order == 2)=false)(h5:(order == 3)=false):Calls prog 32 #[.agg #[.string ⟨g.toArray⟩,v],bc s,.int .i64 now,.int .i64 order] w fun e w'=>e=.returned (.tuple #[bc (gJ now (decide (order=1)) (l.drop (da s.a g).st.toNat) (da s.a g)),.int .i64 0])/\La w w':=by
 have E0:Ll (bc s=.agg (Li s)):=aa rfl;have E1:=E0.o;rw[E1];clear E0 E1;obtain⟨a,c,rfl⟩:=h.form;have H:=aa h;have G:=aa hg;have N0:=aa (cF w g (.slice a l.length c) s);clear h hg;have RO:Ll (0<=(da s.a g).st/\0<=(da s.a g).si/\(da s.a g).si<=1099511627776/\0<=now/\now<=1099511627776):=aa (by have:=(Ak.1 hT);simp[da];omega);obtain⟨r0,hr0⟩:∃ r,gJ now (decide (order=1)) (l.drop (da s.a g).st.toNat) (da s.a g)=r:=⟨_,rfl⟩
 rw[hr0];have HR:=aa hr0;clear hr0;go_enter func32,ntmps32;go_wp2_with (first | (go_at_call 46;refine Lk (bF _ g l _ (H.o.bel N0.o.2.2.2) G.o) fun w1 hb=>?_;rw[hs];have N1:=aa (N0.o.bel hb);obtain⟨p0,p1,c0,c1,c2,c3,c4,c5,f0,f1,f2,f3,f4,f5,g0,g1,g2,g3,g4,g5,h0,h1,h2,h3,h4,h5⟩:=N1.o.c;clear hb) | (go_at_call 47;refine Lk (eV _ s) fun w2 hb=>?_;rw[ht];have N2:=aa (N1.o.bel hb);obtain⟨p0,p1,c0,c1,c2,c3,c4,c5,f0,f1,f2,f3,f4,f5,g0,g1,g2,g3,g4,g5,h0,h1,h2,h3,h4,h5⟩:=N2.o.c;clear hb) | (go_at_call 48;refine LE (cN _ now) ?_;rw[hT]) | (go_at_call 50;refine Lk (tb _ s.a g) fun w4 hb=>?_;have N4:=aa (N2.o.bel hb);have NB:=aa (N4.o.begun (da s.a g));obtain⟨p0,p1,c0,c1,c2,c3,c4,c5,f0,f1,f2,f3,f4,f5,g0,g1,g2,g3,g4,g5,h0,h1,h2,h3,h4,h5⟩:=N4.o.c;have p0'_:=NB.o.c;simp only[fR,da]at p0'_;clear hb) | (go_at_call 52;refine Lk (Ag _ l _ (da s.a g) now (decide (order=1)) (by exact H.o.bel NB.o.2.2.2) RO.o.1 RO.o.2.1 RO.o.2.2.1 RO.o.2.2.2.1 RO.o.2.2.2.2) fun w5 hb=>?_;rw[HR.o];unfold bc;have N5:=aa (NB.o.bel hb);clear p0'_;obtain⟨p0,p1,c0,c1,c2,c3,c4,c5,f0,f1,f2,f3,f4,f5,g0,g1,g2,g3,g4,g5,h0,h1,h2,h3,h4,h5⟩:=N5.o.c;clear hb))
 have z0_:=(N5.o.2.2.1.set (r0)).c;refine MM (v:=.tuple #[bc (r0),.int .i64 0]) ?_ rfl ⟨rfl,bX N5.o.2.2.2 (by omega) (r0)⟩;simp only[fR]at z0_;simp[results,results32,go_sem,z0_,bc]
theorem AK(w g l v s now order)(h:bk w l v)(hg:g.length<=9223372036854775807):Calls prog 32 #[.agg #[.string ⟨g.toArray⟩,v],bc s,.int .i64 now,.int .i64 order] w fun e w'=>e=.returned (.tuple #[bc (ij g l s now order).1,.int .i64 (ij g l s now order).2])/\La w w':=by
 rw[ij];cases hs:cM g l with
 | false=>rw[if_pos (by simp)];exact Lv w g l v s now order h hg _ (.inl ⟨hs,rfl⟩)
 | true=>
  cases ht:cC s with
  | false=>rw[if_pos (by simp)];exact Lv w g l v s now order h hg _ (.inr (.inl ⟨hs,ht,rfl⟩))
  | true=>
   rw[if_neg (by simp)];cases hT:lp now with
   | false=>rw[if_pos rfl];exact Lv w g l v s now order h hg _ (.inr (.inr (.inl ⟨hs,ht,hT,rfl⟩)))
   | true=>
    rw[if_neg (by simp)];by_cases o1:order < 0
    ·rw[if_pos (.inl o1)];exact Lv w g l v s now order h hg _ (.inr (.inr (.inr (.inl ⟨hs,ht,hT,o1,rfl⟩))))
    by_cases o2:3 < order
    ·rw[if_pos (.inr o2)];exact Lv w g l v s now order h hg _ (.inr (.inr (.inr (.inr (.inl ⟨hs,ht,hT,(by omega),o2,rfl⟩)))))
    rw[if_neg (by omega)];have k1:0<=order:=by omega
    have k2:order<=3:=by omega
    by_cases hc:g=s.c
    ·rw[if_neg (fun h=>h.1 hc),zq,if_pos hc,EH];have e1:(g == s.c)=true:=by simp[hc]
     by_cases p1:s.ph=1
     ·rw[if_pos (.inl p1)];exact Lv w g l v s now order h hg _ (.inr (.inr (.inr (.inr (.inr (.inl ⟨hs,ht,hT,k1,k2,e1,(by simp[p1]),rfl⟩))))))
     by_cases p4:s.ph=4
     ·rw[if_pos (.inr p4)];exact Lv w g l v s now order h hg _ (.inr (.inr (.inr (.inr (.inr (.inr ⟨hs,ht,hT,k1,k2,e1,(by simp[p1]),(by simp[p4]),rfl⟩))))))
     rw[if_neg (by omega)];by_cases q2:order=2
     ·rw[if_pos q2];exact Co w g l v s now order h hg hs ht hT k1 k2 e1 (by simp[p1]) (by simp[p4]) (by simp[q2])
     rw[if_neg q2];by_cases q3:order=3
     ·rw[if_pos q3];exact yn w g l v s now order h hg hs ht hT k1 k2 e1 (by simp[p1]) (by simp[p4]) (by simp[q2]) (by simp[q3])
     rw[if_neg q3];refine Dn w g l v s now order h hg hs ht hT k1 k2 e1 (by simp[p1]) (by simp[p4]) (by simp[q2]) (by simp[q3]) ?_;rcases Es ht with⟨k,_⟩ | ⟨k,_⟩ | k
     ·rw[k]at p1;exact absurd rfl p1
     ·rw[k]at p4;exact absurd rfl p4
     ·obtain⟨-,-,-,k3,-,-,-,k4⟩:=k;omega
    ·have e1:(g == s.c)=false:=by simp[hc]
     by_cases ha:g=s.a
     ·rw[if_pos ⟨hc,ha⟩];exact Bj w g l v s now order h hg hs ht hT k1 k2 e1 (by simp[ha])
     ·have e2:(g == s.a)=false:=by simp[ha]
      rw[if_neg (fun h=>ha h.2),zq,if_neg hc,EH,if_neg (by simp[da])];by_cases q2:order=2
      ·rw[if_pos q2];exact zp w g l v s now order h hg hs ht hT k1 k2 e1 e2 (by simp[q2])
      rw[if_neg q2];by_cases q3:order=3
      ·rw[if_pos q3];exact xh w g l v s now order h hg hs ht hT k1 k2 e1 e2 (by simp[q2]) (by simp[q3])
      rw[if_neg q3];exact zr w g l v s now order h hg hs ht hT k1 k2 e1 e2 (by simp[q2]) (by simp[q3])
section
open Go.ChangeShapes Go.WideShapes Go.ChangeAt Go.RowKit
theorem Tl:Tryz.prog.globalNamed "internal/strconv.uint64pow10"=some 1:=by kernel_rfl
theorem Fp:(Tryz.prog.globals[1]?).map (·.type)=some 213:=by kernel_rfl
theorem Gp:Tryz.prog.globalNamed "strconv.ErrRange"=some 6:=by kernel_rfl
theorem za:(Tryz.prog.globals[6]?).map (·.type)=some 186:=by kernel_rfl
theorem Ax:Tryz.prog.globalNamed "strconv.ErrSyntax"=some 5:=by kernel_rfl
theorem vR:(Tryz.prog.globals[5]?).map (·.type)=some 186:=by kernel_rfl
theorem Ej:Tryz.prog.cellsOf 213=20:=by kernel_rfl
theorem FC:Tryz.prog.cellsOf 153=1:=by kernel_rfl
theorem rH:Tryz.prog.cellsOf 278=1:=by kernel_rfl
theorem J6: "*"++ "errors.errorString"= "*errors.errorString":=by decide
theorem Fg(u:TypeId)(h:Tryz.prog.typeName? 3 u=some "*errors.errorString"):u=276:=
 typeName_ptr_named (nm:= "errors.errorString") (by rw[J6];kernel_rfl) (by kernel_rfl) (by decide) u (by rw[J6];exact h)
theorem Hu:(Rows.laid_internal_strconv_uint64pow10:DataW Unit)=Lib.tabData .u64 Lib.pow10Tab:=by kernel_rfl
end
end Go.Proofs.YtgolnaencepejaaGreatDoor
