import Derived.Test.YtkjeiljdoljjgaaGreatDoorG9
import Derived.Test.YtkjeiljdoljjgaaGreatDoorG10
set_option maxRecDepth 100000
set_option maxHeartbeats 40000000
set_option linter.unusedSimpArgs false
set_option linter.unusedVariables false
namespace Go.Proofs.YtkjeiljdoljjgaaGreatDoor
open Go.RowKit
open _root_.Go.Proofs.Tryz
theorem ut:vW:=by
 intro w ok d t x v xv key h hx hp L9 hkey;have hk:dO t key=dd key t.keys:=by simp[dO,hp]
 cases hf:dO t key with
 | some i=>
  have e:aG t key x={ t with l:=t.l.take i++x :: t.l.drop (i+1) }:=by
   unfold aG;rw[if_pos hp,<-hk,hf]
  rw[e];exact yX w ok d t x v xv key i h hx hf L9
 | none=>
  have e:aG t key x={ t with keys:=t.keys.take (em key t.keys)++key :: t.keys.drop (em key t.keys),l:=t.l.take (em key t.keys)++x :: t.l.drop (em key t.keys) }:=by
   unfold aG;rw[if_pos hp,<-hk,hf];rfl
  rw[e];exact ER w ok d t x v xv key h hx hf hp L9 hkey
section
attribute [local go_sem ↓] Go.wp_at_zero Go.wp_at_succ
theorem pK{w2 v1 v3 n1 n3 N cs1 cs3}(s1:du w2 1 v1 n1 cs1)(s3:du w2 1 v3 n3 cs3)(hN:n1+n3=N)(hn:N<=1000000)(W)(e1:W.heap=(w2.alloc (.cells #[v1,v3] 32)).heap)(e2:W.os=w2.os)(e3:W.tape=w2.tape)(e4:W.output=w2.output):Calls prog 198 #[.slice (some ⟨w2.heap.size,0,none⟩) 2 2] W fun e w'=>∃ a cap,e=.returned (.slice a N cap)/\w'.ownsRow w2.heap.size 9 1 (.slice a N cap) N (cs1++cs3)/\La w2 w':=by
 have LY:La w2 W:=by
  have:=ae w2 (.cells #[v1,v3] 32);exact⟨e2,e3,e4,by rw[e1];exact this.size,fun k hk=>by rw[e1];exact this.block k hk⟩
 have hb:=MN w2 (.cells #[v1,v3] 32);rw[<-e1]at hb;refine(At W w2.heap.size 0 2 [⟨v1,n1,cs1⟩,⟨v3,n3,cs3⟩] ?_ (by simp[dl];omega) (by simp) (by simp)).mono ?_
 ·intro i p hp;match i,hp with
  | 0,hp=>simp at hp;subst hp;exact⟨by simp[World.cell?,hb],s1.bel LY⟩
  | 1,hp=>simp at hp;subst hp;exact⟨by simp[World.cell?,hb],s3.bel LY⟩
 rintro e w' ⟨v,rfl,ho,hb9⟩;have q1:dl [⟨v1,n1,cs1⟩,⟨v3,n3,cs3⟩]=N:=by simp[dl];omega
 have q2:fQ [⟨v1,n1,cs1⟩,⟨v3,n3,cs3⟩]=cs1++cs3:=by simp[fQ]
 rw[q1,q2]at ho;have ho':=cV ho LY.size;rcases ho'.2 with⟨e,h0⟩ | ⟨g,cap,cur,e,rest⟩
 ·subst e;subst h0;exact⟨none,0,rfl,ho',ab LY hb9⟩
 ·subst e;exact⟨_,cap,rfl,ho',ab LY hb9⟩
theorem nB{w2 v1 v3 n1 n3 N cs1 cs3}(s1:du w2 5 v1 n1 cs1)(s3:du w2 5 v3 n3 cs3)(hN:n1+n3=N)(hn:N<=1000000)(W)(e1:W.heap=(w2.alloc (.cells #[v1,v3] 33)).heap)(e2:W.os=w2.os)(e3:W.tape=w2.tape)(e4:W.output=w2.output):Calls prog 197 #[.slice (some ⟨w2.heap.size,0,none⟩) 2 2] W fun e w'=>∃ a cap,e=.returned (.slice a N cap)/\w'.ownsRow w2.heap.size 35 5 (.slice a N cap) N (cs1++cs3)/\La w2 w':=by
 have LY:La w2 W:=by
  have:=ae w2 (.cells #[v1,v3] 33);exact⟨e2,e3,e4,by rw[e1];exact this.size,fun k hk=>by rw[e1];exact this.block k hk⟩
 have hb:=MN w2 (.cells #[v1,v3] 33);rw[<-e1]at hb;refine(Av W w2.heap.size 0 2 [⟨v1,n1,cs1⟩,⟨v3,n3,cs3⟩] ?_ (by simp[dl];omega) (by simp) (by simp)).mono ?_
 ·intro i p hp;match i,hp with
  | 0,hp=>simp at hp;subst hp;exact⟨by simp[World.cell?,hb],s1.bel LY⟩
  | 1,hp=>simp at hp;subst hp;exact⟨by simp[World.cell?,hb],s3.bel LY⟩
 rintro e w' ⟨v,rfl,ho,hb9⟩;have q1:dl [⟨v1,n1,cs1⟩,⟨v3,n3,cs3⟩]=N:=by simp[dl];omega
 have q2:fQ [⟨v1,n1,cs1⟩,⟨v3,n3,cs3⟩]=cs1++cs3:=by simp[fQ]
 rw[q1,q2]at ho;have ho':=cV ho LY.size;rcases ho'.2 with⟨e,h0⟩ | ⟨g,cap,cur,e,rest⟩
 ·subst e;subst h0;exact⟨none,0,rfl,ho',ab LY hb9⟩
 ·subst e;exact⟨_,cap,rfl,ho',ab LY hb9⟩
def J2 (w w2:LC) (t:V) (i:Nat) (a2:Option Addr) (c2:Nat) (wc:LC):Prop:=
 ∃ a9 c9,ag wc w.heap.size (.int .i64 t.kind) (.int .i64 t.n) (.string ⟨t.s.toArray⟩) (.slice a9 (t.keys.length - 1) c9) (.slice a2 t.l.length c2) /\
  Lc wc (w.heap.size+1) /\
  wc.ownsRow w2.heap.size 9 1 (.slice a9 (t.keys.length - 1) c9) (t.keys.length - 1) ((t.keys.take i).map aR++(t.keys.drop (i+1)).map aR) /\
  La w wc/\w2.heap.size<=wc.heap.size
theorem tY(w ok d t v key)(h:bu w ok (d+1) t v)(hf:dO t key=none):Calls prog 169 #[v,aR key] w fun e w'=>∃ r,e=.returned r/\bu w' (bQ ok w.heap.size) (d+1) t r/\La w w':=by
 have H:=aa h;obtain⟨ks,ls,rfl,h1,h2,h3,h4,h5⟩:=h;obtain⟨a1,c1,rfl⟩:=h4.form;obtain⟨a2,c2,rfl⟩:=h5.form;have l1:=h4.1;have l2:=h5.1;have F:=aa hf;clear hf;unfold maxLen at l1 h3 l2;unfold aR;clear h4 h5 h1 h2;go_enter func169,ntmps169;go_wp2_with fail
 refine Lk (kJ _ ok _ t _ key (by exact H.o.bel (ab (ae _ _) (ae _ _)))) fun w2 hb2=>?_;rw[F.o];have bx2:Ll (KY w2 w.heap.size t a1 c1 a2 c2/\Lc w2 (w.heap.size+1)):=⟨af hb2 (fb w _ _),af hb2 (et w _ _)⟩
 have B2:Ll (La w w2):=ab (ab (ae _ _) (ae _ _)) hb2;clear hb2;unfold pS;have p0_:=bx2.o.1.c;have x0_:=bx2.o.2.c;obtain⟨z0,z1,z2,z3,z4,-⟩:=(LH bx2.o.2.set t a1 c1 a2 c2).c;have Z:Ll (_/\_/\_/\_/\_):=⟨z0,z1,z2,z3,z4⟩
 go_wp2_with fail
 obtain⟨z0,z1,z2,z3,z4⟩:=Z.o;refine MM (v:=.agg (KV t a1 c1 a2 c2)) ?_ rfl ?_
 ·simp only[ar]at z0 z1 z2 z3 z4;simp[results,results169,go_sem,z0,z1,z2,z3,z4]
 ·have hb9:=bS (eD (aq (r:=none) B2.o) (Nat.le_succ w.heap.size) (.int .i64 t.kind) (.int .i64 t.n) (.string ⟨t.s.toArray⟩) (.slice a1 t.keys.length c1) (.slice a2 t.l.length c2));exact⟨_,rfl,(H.o.bel hb9).toN,hb9⟩
theorem rk(w ok d t v key i)(h:bu w ok (d+1) t v)(hf:dO t key=some i)(L9:t.l.length<=100000):Calls prog 169 #[v,aR key] w fun e w'=>∃ r,e=.returned r/\bu w' (bQ ok w.heap.size) (d+1) { t with keys:=t.keys.take i++t.keys.drop (i+1),l:=t.l.take i++t.l.drop (i+1) } r/\La w w':=by
 have H:=aa h;obtain⟨ks,ls,rfl,h1,h2,h3,h4,h5⟩:=h;have KK:Ll (dW t.kind/\dW t.n/\t.s.length<=maxLen/\ao w ok t.keys ks/\cS w ok (bu w ok d) t.l ls):=⟨h1,h2,h3,h4,h5⟩
 obtain⟨f1,f2,f3,f4⟩:=fW hf;have hkl:t.keys.length=t.l.length:=by
  simp only[aK,MJ,decide_eq_true_eq]at f1;exact f1.2
 have F:=aa hf;have hkl1:t.keys.length<=t.l.length:=by omega
 have hkl2:t.l.length<=t.keys.length:=by omega
 clear hf f1 f2 f4 hkl;obtain⟨_,K4⟩:=h4;rcases K4 with⟨e,_⟩ | ⟨kb,ko,c1,hks,kc1,kc2,-⟩
 ·have:t.keys.length=0:=by rw[e];rfl
  omega
 subst hks;obtain⟨_,K5⟩:=h5;rcases K5 with⟨e,_⟩ | ⟨b,off,c2,hls,hc1,hc2,-⟩
 ·rw[e]at f3;simp at f3
 subst hls;unfold maxLen at h3 hc2 kc2;unfold aR;clear h1 h2;have hsz2:t.keys.length<=100000:=by omega
 have hik:i < t.keys.length:=by omega
 go_enter func169,ntmps169;go_wp2_with fail
 refine Lk (kJ _ ok _ t _ key (by exact H.o.bel (ab (ae _ _) (ae _ _)))) fun w2 hb2=>?_;rw[F.o];have bx2:Ll (ag w2 w.heap.size (.int .i64 t.kind) (.int .i64 t.n) (.string ⟨t.s.toArray⟩) (.slice (some ⟨kb,ko,none⟩) t.keys.length c1) (.slice (some ⟨b,off,none⟩) t.l.length c2)/\Lc w2 (w.heap.size+1)):=⟨af hb2 (fb w _ _),af hb2 (et w _ _)⟩
 have B2:Ll (La w w2):=ab (ab (ae _ _) (ae _ _)) hb2;have hsz3:w.heap.size+1 < w2.heap.size:=bx2.o.2.lt;clear hb2;unfold pS;obtain⟨p0,p1,p2,p3,p4,-,-,-,p9,p10⟩:=bx2.o.1.c;have i0:0<=(i:Int):=by omega
 have i1:(i:Int)<=(c1:Int):=by omega
 have i2:(i:Int)+1<=(t.keys.length:Int):=by omega
 have i3:(t.keys.length:Int)<=(c1:Int):=by omega
 have hw1:IntKind.i64.wrap ((i:Int)+1)=(i:Int)+1:=by rw[IntKind.wrap_i64];omega
 have i4:(0:Int)<=(i:Int)+1:=by omega
 have j1:(i:Int)<=(c2:Int):=by omega
 have j2:(i:Int)+1<=(t.l.length:Int):=by omega
 have j3:(t.l.length:Int)<=(c2:Int):=by omega
 have fin10:Ll (∀ w3 a9 cap,w3.ownsRow w2.heap.size 9 1 (.slice a9 (t.keys.length - 1) cap) (t.keys.length - 1) ((t.keys.take i).map aR++(t.keys.drop (i+1)).map aR)->La w2 w3 ->
  J2 w w2 t i (some ⟨b,off,none⟩) c2 (w3.setCell ⟨w.heap.size,3,none⟩ (.slice a9 (t.keys.length - 1) cap))):=by
  intro w3 a9 cap ho hb;have g1:w3.grownBy (w3.setCell ⟨w.heap.size,3,none⟩ (.slice a9 (t.keys.length - 1) cap)) (some w.heap.size):=ap (az _ _) _ _;refine⟨a9,cap,xx (af hb bx2.o.1) _,(af hb bx2.o.2).grown g1 (by simp),aW ho g1 (by omega),?_,MH hb.size g1.size⟩;exact bS (bi (aq (ab B2.o hb)) (MG _) _ _)
 go_upto_region 4 with fail
 go_cut [5] (fun j wc'=>j=.int .i64 (i:Nat)/\J2 w w2 t i (some ⟨b,off,none⟩) c2 wc')
 case first=>
  have k3:∀ o,(w2.alloc o).cell? ⟨w.heap.size,3,none⟩=some (.slice (some ⟨kb,ko,none⟩) t.keys.length c1):=fun o=>(af (ae w2 o) bx2.o.1).c.2.2.2.1;obtain⟨s1,s2⟩:=qG KK.o.2.2.2.1 i (i+1) (by omega) hik (by omega);obtain⟨a3,hifs⟩:∃ a3,(if c1=i+1 then (some ⟨kb,ko,none⟩:Option Addr) else some ⟨kb,ko+(i+1),none⟩)=a3:=⟨_,rfl⟩
  rw[Nat.mul_one,hifs]at s2;have con:Ll (∀ W,W.heap=(w2.alloc (.cells #[.slice (some ⟨kb,ko,none⟩) i c1,.slice a3 (t.keys.length - (i+1)) (c1 - (i+1))] 32)).heap->W.os=w2.os->W.tape=w2.tape->W.output=w2.output ->
   Calls prog 198 #[.slice (some ⟨w2.heap.size,0,none⟩) 2 2] W fun e w'=>∃ a9 cap,e=.returned (.slice a9 (t.keys.length - 1) cap)/\w'.ownsRow w2.heap.size 9 1 (.slice a9 (t.keys.length - 1) cap) (t.keys.length - 1) ((t.keys.take i).map aR++(t.keys.drop (i+1)).map aR)/\La w2 w'):=by
   intro W e1 e2 e4 e5;exact pK (s1.bel B2.o) (s2.bel B2.o) (by omega) (by omega) W e1 e2 e4 e5
  clear s1 s2;go_region_with ((go_at_call 198;refine(con.o _ (by rfl) (by rfl) (by rfl) (by rfl)).mono ?_;rintro e w3 ⟨a9,cap,rfl,ho3,hb3⟩;obtain⟨p0,p1,p2,p3,p4,-,-,-,p9,p10⟩:=(af hb3 bx2.o.1).c;have O3:=aa ho3;have HB3:=aa hb3;clear ho3 hb3))
  all_goals
   go_wp2_with fail
   go_meet
   case rel=>exact⟨rfl,fin10.o _ _ _ O3.o HB3.o⟩
 case rest=>
  obtain⟨rfl,a9,kcap,hm1,hm2,hm3,hm4,hm5⟩:=hcut;have M:Ll (ag wc w.heap.size (.int .i64 t.kind) (.int .i64 t.n) (.string ⟨t.s.toArray⟩) (.slice a9 (t.keys.length - 1) kcap) (.slice (some ⟨b,off,none⟩) t.l.length c2)/\Lc wc (w.heap.size+1)/\wc.ownsRow w2.heap.size 9 1 (.slice a9 (t.keys.length - 1) kcap) (t.keys.length - 1) ((t.keys.take i).map aR++(t.keys.drop (i+1)).map aR)/\La w wc/\w2.heap.size<=wc.heap.size):=⟨hm1,hm2,hm3,hm4,hm5⟩
  clear hm1 hm2 hm3 hm4 fin10;obtain⟨p0,p1,p2,p3,p4,-,-,-,p9,p10⟩:=M.o.1.c;have k4:∀ o,(wc.alloc o).cell? ⟨w.heap.size,4,none⟩=some (.slice (some ⟨b,off,none⟩) t.l.length c2):=fun o=>(af (ae wc o) M.o.1).c.2.2.2.2.1;obtain⟨cs1,cs2,r1,s1,r2,s2⟩:=km KK.o.2.2.2.2 i (i+1) (by omega) f3 (by omega);obtain⟨a3,hifs⟩:∃ a3,(if c2=i+1 then (some ⟨b,off,none⟩:Option Addr) else some ⟨b,off+(i+1) * 5,none⟩)=a3:=⟨_,rfl⟩
  rw[hifs]at s2;have con:Ll (∀ W,W.heap=(wc.alloc (.cells #[.slice (some ⟨b,off,none⟩) i c2,.slice a3 (t.l.length - (i+1)) (c2 - (i+1))] 33)).heap->W.os=wc.os->W.tape=wc.tape->W.output=wc.output ->
   Calls prog 197 #[.slice (some ⟨wc.heap.size,0,none⟩) 2 2] W fun e w'=>∃ a8 cap,e=.returned (.slice a8 (t.l.length - 1) cap)/\w'.ownsRow wc.heap.size 35 5 (.slice a8 (t.l.length - 1) cap) (t.l.length - 1) (cs1++cs2)/\La wc w'):=by
   intro W e1 e2 e4 e5;exact nB (s1.bel M.o.2.2.2.1) (s2.bel M.o.2.2.2.1) (by omega) (by omega) W e1 e2 e4 e5
  have fin:Ll (∀ w3 a8 cap,w3.ownsRow wc.heap.size 35 5 (.slice a8 (t.l.length - 1) cap) (t.l.length - 1) (cs1++cs2)->La wc w3 ->
   bu (ar (w3.setCell ⟨w.heap.size,4,none⟩ (.slice a8 (t.l.length - 1) cap)) (w.heap.size+1) (.int .i64 t.kind) (.int .i64 t.n) (.string ⟨t.s.toArray⟩) (.slice a9 (t.keys.length - 1) kcap) (.slice a8 (t.l.length - 1) cap)) (bQ ok w.heap.size) (d+1) { t with keys:=t.keys.take i++t.keys.drop (i+1),l:=t.l.take i++t.l.drop (i+1) } (.agg #[.int .i64 t.kind,.int .i64 t.n,.string ⟨t.s.toArray⟩,.slice a9 (t.keys.length - 1) kcap,.slice a8 (t.l.length - 1) cap]) /\
   La w (ar (w3.setCell ⟨w.heap.size,4,none⟩ (.slice a8 (t.l.length - 1) cap)) (w.heap.size+1) (.int .i64 t.kind) (.int .i64 t.n) (.string ⟨t.s.toArray⟩) (.slice a9 (t.keys.length - 1) kcap) (.slice a8 (t.l.length - 1) cap))/\ag (ar (w3.setCell ⟨w.heap.size,4,none⟩ (.slice a8 (t.l.length - 1) cap)) (w.heap.size+1) (.int .i64 t.kind) (.int .i64 t.n) (.string ⟨t.s.toArray⟩) (.slice a9 (t.keys.length - 1) kcap) (.slice a8 (t.l.length - 1) cap)) (w.heap.size+1) (.int .i64 t.kind) (.int .i64 t.n) (.string ⟨t.s.toArray⟩) (.slice a9 (t.keys.length - 1) kcap) (.slice a8 (t.l.length - 1) cap)):=by
   intro w3 a8 cap ho hb;have g1:w3.grownBy (w3.setCell ⟨w.heap.size,4,none⟩ (.slice a8 (t.l.length - 1) cap)) (some w.heap.size):=ap (az _ _) _ _;have g2:=aI (w3.setCell ⟨w.heap.size,4,none⟩ (.slice a8 (t.l.length - 1) cap)) (w.heap.size+1) (.int .i64 t.kind) (.int .i64 t.n) (.string ⟨t.s.toArray⟩) (.slice a9 (t.keys.length - 1) kcap) (.slice a8 (t.l.length - 1) cap);have LU:=((af hb M.o.2.1).grown g1 (by simp)).set (.int .i64 t.kind) (.int .i64 t.n) (.string ⟨t.s.toArray⟩) (.slice a9 (t.keys.length - 1) kcap) (.slice a8 (t.l.length - 1) cap);have hbw:La w w3:=ab M.o.2.2.2.1 hb;have hb9:La w (ar (w3.setCell ⟨w.heap.size,4,none⟩ (.slice a8 (t.l.length - 1) cap)) (w.heap.size+1) (.int .i64 t.kind) (.int .i64 t.n) (.string ⟨t.s.toArray⟩) (.slice a9 (t.keys.length - 1) kcap) (.slice a8 (t.l.length - 1) cap)):=bS (eD (bi (aq hbw) (MG _) _ _) (by omega) _ _ _ _ _);refine⟨⟨_,_,by simp only[Mx,MC,MB];congr 5 <;> omega,KK.o.1,KK.o.2.1,KK.o.2.2.1,?_,?_⟩,hb9,LU⟩
   ·have hk3:=aW (aW (fD M.o.2.2.1 hb) g1 (by omega)) g2 (by omega);have LT:t.keys.length - 1=(t.keys.take i++t.keys.drop (i+1)).length:=by simp;omega
    refine kf (B:=w2.heap.size) LT ?_ ?_ (fun k hk=>.inr (by omega)) (by rw[<-LT];unfold maxLen;omega)
    ·rw[List.map_append];exact hk3
    ·intro y hy;simp only[List.mem_append]at hy;rcases hy with hy | hy
     ·exact KK.o.2.2.2.1.mem y (List.mem_of_mem_take hy)
     ·exact KK.o.2.2.2.1.mem y (List.mem_of_mem_drop hy)
   ·have ho9:=aW (aW ho g1 (by omega)) g2 (by omega);have LT:t.l.length - 1=(t.l.take i++t.l.drop (i+1)).length:=by simp;omega
    refine fJ LT ho9 ?_ (fun k hk=>.inr (by omega)) (by rw[<-LT];unfold maxLen;omega);exact(r2.bel (B:=w.heap.size) hb9).append (r1.bel (B:=w.heap.size) hb9)
  clear r1 r2 s1 s2;go_upto_region 5 with fail
  go_region_with ((go_at_call 197;refine(con.o _ (by rfl) (by rfl) (by rfl) (by rfl)).mono ?_;rintro e w3 ⟨a8,cap,rfl,ho3,hb3⟩;obtain⟨p0,p1,p2,p3,p4,-,-,-,p9,p10⟩:=(af hb3 M.o.1).c;have x0_:=(af hb3 M.o.2.1).c;have O3:=aa ho3;have HB3:=aa hb3;clear ho3 hb3))
  all_goals
   go_wp2_with fail
   obtain⟨f1,f2,f3⟩:=fin.o _ a8 cap O3.o HB3.o;have z0_:=f3.c;refine MM (v:=.agg #[.int .i64 t.kind,.int .i64 t.n,.string ⟨t.s.toArray⟩,.slice a9 (t.keys.length - 1) kcap,.slice a8 (t.l.length - 1) cap]) ?_ rfl ?_
   ·simp only[ar]at z0_;simp[results,results169,go_sem,z0_]
   ·exact⟨_,rfl,f1,f2⟩
theorem ui(w ok d t v key)(h:bu w ok (d+1) t v)(L9:t.l.length<=100000):Calls prog 169 #[v,aR key] w fun e w'=>∃ r,e=.returned r/\bu w' (bQ ok w.heap.size) (d+1) (bH t key) r/\La w w':=by
 unfold bH;cases hf:dO t key with
 | none=>exact tY w ok d t v key h hf
 | some i=>exact rk w ok d t v key i h hf L9
end
theorem gf(w ok t x v xv key)(h:In w ok t v)(hx:In w ok x xv)(hp:aK t=true)(hl:t.l.length<=100000)(hk:key.length<=9223372036854775807):Calls prog 164 #[v,aR key,xv] w fun e w'=>∃ r,e=.returned r/\In w' (bQ ok w.heap.size) (aG t key x) r/\La w w':=by
 obtain⟨d,h1,h2⟩:=h.two hx;refine(ut w ok d t x v xv key h1 h2 hp hl hk).mono ?_;rintro e w' ⟨r,rfl,hr,hb⟩;exact⟨r,rfl,hr.is,hb⟩
theorem jD(w ok t v key)(h:In w ok t v)(hl:t.l.length<=100000):Calls prog 169 #[v,aR key] w fun e w'=>∃ r,e=.returned r/\In w' (bQ ok w.heap.size) (bH t key) r/\La w w':=by
 obtain⟨d,h⟩:=h.at;refine(ui w ok d t v key h hl).mono ?_;rintro e w' ⟨r,rfl,hr,hb⟩;exact⟨r,rfl,hr.is,hb⟩
variable {c:Nat}
theorem pB(w v n cells)(h:du w 1 v n cells):Calls prog 28 #[v] w fun e w'=>∃ v',e=.returned v'/\w'.ownsRow w.heap.size 9 1 v' n cells/\La w w':=by
 obtain⟨i0,hi,hz0,hz1,hz2⟩:=info_parts wG;obtain⟨g1,g2,g3,g4⟩:=h;rcases g4 with⟨rfl,rfl⟩ | ⟨ad,cc,rfl,Mb⟩
 ·have hc0:cells=[]:=List.eq_nil_of_length_eq_zero (by rw[g1]);subst hc0;have hnil:∀ W:LC,(binOp .eql 32 (.slice none 0 0) (.slice none 0 0)).run prog W=.ok (.bool true) W:=fun W=>Lib.run_eql_slice_nil W _ _ _ _ _ _ _ underlying32;go_enter func28,ntmps28;go_wp2
  go_ret;exact⟨_,rfl,World.ownsRow_nil _ _ _ _,MK _ _⟩
 ·have O:Ll ((w.alloc (.cells #[] 9)).ownsRow w.heap.size 9 1 (.slice (some ⟨w.heap.size,0,none⟩) 0 0) 0 []):=World.ownsRow_made w #[] 0 (MG _) (by simp) (by simp);have C:Ll (cells.length=n * 1/\(∀ u∈cells,u.oneCell'=true)/\∀ j u,cells[j]?=some u->(w.alloc (.cells #[] 9)).cell? (ad.add j)=some u):=⟨g1,g3,fun j u hj=>ah (ae _ _) (Mb j u hj)⟩
  have hnil:∀ W:LC,(binOp .eql 32 (.slice (some ad) n cc) (.slice none 0 0)).run prog W=.ok (.bool false) W:=fun W=>Lib.run_eql_slice_nil W _ _ _ _ _ _ _ underlying32;clear g1 g3 Mb;go_enter func28,ntmps28;go_wp2_with (at_builtin;go_must (refine wpList_append_own _ rfl _ _ 32 rfl w.heap.size 9 i0 _ 1 16 underlying32 hi hz0 hz1 hz2 rfl (by decide) (.slice (some ⟨w.heap.size,0,none⟩) 0 0) 0 [] rfl O.o ad n cc cells rfl C.o.1 C.o.2.2 C.o.2.1 (by unfold maxLen;omega) (by omega) (by simp) ?_);intro v2 w2 ho2 hg2 _;refine Ll.o ?_)
  refine aa ?_;have D:Ll (w2.ownsRow w.heap.size 9 1 v2 n cells/\La w w2):=by
   rw[Nat.zero_add,List.nil_append]at ho2;exact⟨ho2,(ae w _).grown hg2 (by simp) (fun k hk=>(O.o.lt k hk).1)⟩
  clear ho2 hg2;go_wp2_with fail
  go_ret;exact⟨v2,rfl,D.o.1,D.o.2⟩
theorem tD(w v n cells)(h:du w 5 v n cells):Calls prog 39 #[v] w fun e w'=>∃ v',e=.returned v'/\w'.ownsRow w.heap.size 35 5 v' n cells/\La w w':=by
 obtain⟨i0,hi,hz0,hz1,hz2⟩:=info_parts sO;obtain⟨g1,g2,g3,g4⟩:=h;rcases g4 with⟨rfl,rfl⟩ | ⟨ad,cc,rfl,Mb⟩
 ·have hc0:cells=[]:=List.eq_nil_of_length_eq_zero (by rw[g1]);subst hc0;have hnil:∀ W:LC,(binOp .eql 33 (.slice none 0 0) (.slice none 0 0)).run prog W=.ok (.bool true) W:=fun W=>Lib.run_eql_slice_nil W _ _ _ _ _ _ _ underlying33;go_enter func39,ntmps39;go_wp2
  go_ret;exact⟨_,rfl,World.ownsRow_nil _ _ _ _,MK _ _⟩
 ·have O:Ll ((w.alloc (.cells #[] 35)).ownsRow w.heap.size 35 5 (.slice (some ⟨w.heap.size,0,none⟩) 0 0) 0 []):=World.ownsRow_made w #[] 0 (MG _) (by simp) (by simp);have C:Ll (cells.length=n * 5/\(∀ u∈cells,u.oneCell'=true)/\∀ j u,cells[j]?=some u->(w.alloc (.cells #[] 35)).cell? (ad.add j)=some u):=⟨g1,g3,fun j u hj=>ah (ae _ _) (Mb j u hj)⟩
  have hnil:∀ W:LC,(binOp .eql 33 (.slice (some ad) n cc) (.slice none 0 0)).run prog W=.ok (.bool false) W:=fun W=>Lib.run_eql_slice_nil W _ _ _ _ _ _ _ underlying33;clear g1 g3 Mb;go_enter func39,ntmps39;go_wp2_with (at_builtin;go_must (refine wpList_append_own _ rfl _ _ 33 rfl w.heap.size 35 i0 _ 5 80 underlying33 hi hz0 hz1 hz2 rfl (by decide) (.slice (some ⟨w.heap.size,0,none⟩) 0 0) 0 [] rfl O.o ad n cc cells rfl C.o.1 C.o.2.2 C.o.2.1 (by unfold maxLen;omega) (by omega) (by simp) ?_);intro v2 w2 ho2 hg2 _;refine Ll.o ?_)
  refine aa ?_;have D:Ll (w2.ownsRow w.heap.size 35 5 v2 n cells/\La w w2):=by
   rw[Nat.zero_add,List.nil_append]at ho2;exact⟨ho2,(ae w _).grown hg2 (by simp) (fun k hk=>(O.o.lt k hk).1)⟩
  clear ho2 hg2;go_wp2_with fail
  go_ret;exact⟨v2,rfl,D.o.1,D.o.2⟩
def KE (b:Option Addr) (c:Nat):Prop:=c=0\/∃ g o,b=some ⟨g,o,none⟩/\c<=9223372036854775807
theorem KE.vals{b}(h:KE b c)(w ok)(R:V->Value->Prop):cS w ok R [] (.slice b 0 c):=by
 rcases h with rfl | ⟨g,o,rfl,hc⟩
 ·exact⟨by simp,.inl ⟨rfl,b,rfl⟩⟩
 ·exact⟨by simp,.inr ⟨g,o,c,rfl,Nat.zero_le _,hc,fun i x hx=>by simp at hx⟩⟩
variable {w:World}
variable {ok:Nat->Prop}
variable {v:Value}
variable {t y:V}
variable {g n:Nat}
theorem gN(a b):cnts (a++b)=cnts a+cnts b:=by simp[cnts]
theorem ii(l i):cnts l=cnts (l.take i)+cnts (l.drop i):=by rw[<-gN,List.take_append_drop]
theorem su{k}:fa (aG t k y)+(match aS t k with | some z=>fa z | none=>0)<=fa t+fa y:=by
 rw[df,df t];unfold aG;split
 ·rename_i hp;unfold aS;split
  ·rename_i i hf;rw[show dO t k=some i by simp[dO,hp,hf],Option.bind_some];simp only;rw[gN,er];cases hz:t.l[i]? with
   | none=>
    have h1:=ii t.l i;have h2:t.l.drop (i+1)=[]:=List.drop_eq_nil_of_le (by have:=List.getElem?_eq_none_iff.1 hz;omega);simp only[h2,qf];omega
   | some z=>
    obtain⟨hi,rfl⟩:=Mz.1 hz;have h1:=ii t.l i;rw[iV hi]at h1;simp only;omega
  ·rename_i hf;rw[show dO t k=none by simp[dO,hp,hf]];simp only[Option.bind_none];rw[gN,er];have h1:=ii t.l (qW k t.keys);omega
 ·rename_i hp;have:aS t k=none:=by simp[aS,dO,hp]
  rw[this];have:=df y;simp only;omega
theorem lN(t k):fa (bH t k)<=fa t:=by
 rw[df,df t];unfold bH;split
 ·rename_i i hf;simp only;rw[gN];have h1:=ii t.l i;have h2:=ii (t.l.drop i) 1;rw[List.drop_drop]at h2;omega
 ·omega
theorem rO(t):fa (cD t)<=fa t:=by
 unfold cD;split
 ·exact MG _
 ·have:=df t;have h2:fa jM=1:=by rw[df];simp[jM,cnts]
  omega
theorem uY:∀ (ns:List Lz) (v x:V),fa (cK ns v x)<=fa v+ns.length+fa x
 | [],v,x=>by unfold cK;split <;> simp <;> omega
 | n :: ns,v,x=>by
  unfold cK;have h1:=su (t:=cD v) (k:=n) (y:=cK ns ((aS v n).getD aM) x);have h2:=uY ns ((aS v n).getD aM) x;have h3:=rO v;rw[kC]at h1;have hz:fa aM=1:=by rw[df];simp[aM,cnts]
  cases hm:aS v n with
  | none=>rw[hm]at h1 h2;simp only[Option.getD_none]at h1 h2 ⊢;rw[hz]at h2;simp only[My];omega
  | some z=>rw[hm]at h1 h2;simp only[Option.getD_some]at h1 h2 ⊢;simp only[My];omega
theorem He{v z n}(h:aS v n=some z):fa z < fa v:=by
 have h1:=pC (lG h);have h2:=df v;omega
theorem Ab(v n):fa ((aS v n).getD aM)<=fa v:=by
 cases h:aS v n with
 | none=>
  have hz:fa aM=1:=by rw[df];simp[aM,cnts]
  have:=df v;rw[Option.getD_none];omega
 | some z=>have:=He h;rw[Option.getD_some];omega
theorem zP:∀ (ns:List Lz) (v:V),(∃ y,dr ns v=some y)->fa (gI ns v)<=fa v
 | [],v,_=>MG _
 | [n],v,_=>lN v n
 | n :: m :: ns,v,⟨y,hy⟩=>by
  obtain⟨-,z,hm,hz⟩:=gB hy;unfold gI;rw[hm,Option.getD_some];have h2:=zP (m :: ns) z ⟨y,hz⟩;split
  ·exact lN v n
  ·have h1:=su (t:=v) (k:=n) (y:=gI (m :: ns) z);rw[hm]at h1;simp only at h1;omega
theorem zT(t):t.l.length < fa t:=by
 have h1:=uF t.l;have h2:=df t;omega
theorem cY{w1:LC}{C v0 v1 v2 v3 v4}(h:In w1 (bg ok w.heap.size C) t (.agg #[v0,v1,v2,v3,v4]))(hb:La w w1)(hg:w.heap.size<=g)(hC:g < C):La w (ar w1 g v0 v1 v2 v3 v4)/\In (ar w1 g v0 v1 v2 v3 v4) (bQ ok w.heap.size) t (.agg #[v0,v1,v2,v3,v4]):=
 ⟨aP hb hg _ _ _ _ _,(h.box hg hC _ _ _ _ _).weak (ik (by omega))⟩
theorem lw{s ns b off}(h:ao w ok (s :: ns) (.slice (some ⟨b,off,none⟩) n c)):ao w ok ns (.slice (some ⟨b,off+1,none⟩) ns.length (c - 1)):=by
 have hl:=h.1;simp only[My]at hl;refine⟨by omega,.inr ⟨b,off+1,c - 1,rfl,?_⟩⟩;rcases h.2 with⟨e,_⟩ | ⟨b',off',c',e,h1,h2,Mb⟩
 ·cases e
 ·simp only[Value.slice.injEq,Option.some.injEq,Addr.mk.injEq,My,and_true]at e h1;obtain⟨⟨rfl,rfl⟩,-,rfl⟩:=e;refine⟨by omega,by omega,fun i x hx=>?_⟩;obtain⟨g1,g2,g3⟩:=Mb (i+1) x (by simpa using hx);exact⟨g1,g2,by rw[show off+1+i=off+(i+1) by omega];exact g3⟩
theorem qm{s ns}(h:ao w ok (s :: ns) v):∃ b off c,v=.slice (some ⟨b,off,none⟩) (s :: ns).length c/\(s :: ns).length<=c/\c<=9223372036854775807/\w.cell? ⟨b,off,none⟩=some (.string ⟨s.toArray⟩)/\s.length<=9223372036854775807:=by
 rcases h.2 with⟨e,_⟩ | ⟨b,off,c,e,h1,h2,Mb⟩
 ·cases e
 ·obtain⟨g1,g2,g3⟩:=Mb 0 s rfl;exact⟨b,off,c,e,h1,h2,g3,g1⟩
variable {W:World}
variable {B k:Nat}
theorem my{w1:LC}{C v0 v1 v2 v3 v4}(h:In w1 (bg ok w.heap.size C) t (.agg #[v0,v1,v2,v3,v4]))(hb:La w w1)(hg:w.heap.size<=g)(hC:g < C):La w (ar w1 g v0 v1 v2 v3 v4)/\In (ar w1 g v0 v1 v2 v3 v4) (bQ ok w.heap.size) t (.agg #[v0,v1,v2,v3,v4]):=
 ⟨aP hb hg _ _ _ _ _,(h.box hg hC _ _ _ _ _).weak (ik (by omega))⟩
theorem KH(e1:W.heap=w.heap)(e2:W.os=w.os)(e3:W.tape=w.tape)(e4:W.output=w.output):La w W:=⟨e2,e3,e4,by rw[e1];exact MG _,fun k _=>by rw[e1]⟩
theorem oK{C H}(h:C<=H):∀ k,bQ (bg ok B C) H k->bg ok B C k:=by
 intro k hk;rcases hk with hk | hk
 ·exact hk
 ·exact .inr (by omega)
theorem vN{f:V->V->V}:∀ (ps:List (Lz × V)) (v:V),(ps.foldl (fu f) v).l.length<=v.l.length+ps.length
 | [],v=>by simp
 | p :: ps,v=>by
  have h1:=vN (f:=f) ps (fu f v p);have h2:(fu f v p).l.length<=v.l.length+1:=by
   unfold fu;split
   ·have:=rt v p.1;omega
   ·exact xS _ _ _
  rw[List.foldl_cons,My];omega
theorem Df{v}(h:dz v):(cD v).l.length<=120:=by
 unfold cD;split
 ·exact hU h
 ·simp[jM]
theorem JK{a:List Lz}{b:List V}(h:k < a.length)(h':k < b.length):(a.zip b)[k]'(by rw[List.length_zip];omega)=(a[k],b[k]):=by simp
theorem EL{β:Type}{g:β->Lz × V->β}{a:List Lz}{b:List V}{v:β}(h:k < a.length)(h':k < b.length):((a.zip b).take (k+1)).foldl g v=g (((a.zip b).take k).foldl g v) (a[k],b[k]):=by
 rw[List.take_succ_eq_append_getElem (by rw[List.length_zip];omega),List.foldl_append,JK h h'];rfl
theorem Bo{a:List Lz}{b:List V}(hd:a.Nodup)(h:k < a.length):∀ p∈(a.zip b).take k,p.1≠a[k]:=by
 intro p hp e;have ez:(a.zip b).take k=(a.take k).zip (b.take k):=by simp[List.zip,List.take_zipWith]
 rw[ez]at hp;have h1:=(List.of_mem_zip hp).1;rw[e]at h1;obtain⟨i,hi⟩:=List.getElem?_of_mem h1;rw[List.getElem?_take]at hi;split at hi
 ·rename_i hik;have h2:=(Mz.1 hi)
  exact List.pairwise_iff_getElem.1 hd i k h2.1 h hik h2.2
 ·cases hi
theorem Fz{E v p}(hv:dz v)(op:Ob p)(hk:k < p.keys.length):Ob (((p.keys.zip p.l).take k).foldl (fu (dH E)) (cD v))/\aS (((p.keys.zip p.l).take k).foldl (fu (dH E)) (cD v)) p.keys[k]=aS (cD v) p.keys[k]:=by
 have o0:=ul (zO hv);exact⟨Ao (wP _) _ _ o0,wV (wP _) (C5 _) _ _ o0 (Bo (nT op.2.2.2.2) hk)⟩
theorem BG{E v p}(hv:dz v)(hp:dz p):(((p.keys.zip p.l).take k).foldl (fu (dH E)) (cD v)).l.length<=240:=by
 have h1:=vN (f:=dH E) ((p.keys.zip p.l).take k) (cD v);have h2:=Df hv;have h3:=hU hp;have h4:((p.keys.zip p.l).take k).length<=p.l.length:=by rw[MC,List.length_zip];omega
 omega
variable {w':World}
variable {ok':Nat->Prop}
structure jf where
 kind:Int
 path:Lz
 frm:Lz
 value:V
abbrev Lg (t:jf) (a:Option Addr) (c:Nat) (b:Option Addr) (d:Nat):Array Value:=#[.int .i64 t.kind,.string ⟨t.path.toArray⟩,.string ⟨t.frm.toArray⟩,.int .i64 t.value.kind,.int .i64 t.value.n,.string ⟨t.value.s.toArray⟩,.slice a t.value.keys.length c,.slice b t.value.l.length d]
def eO (v:V) (frm dst:Lz):V × Int:=
 if (fP (ax frm) v).2≠0 then (v,(fP (ax frm) v).2)
 else if Lib.hasPrefix dst (frm++[47])=true then (v,1)
 else if dst=frm then (v,0)
 else if (aX ch (ax frm) v).2≠0 then (v,(aX ch (ax frm) v).2)
 else if (ep bL dst (ax dst) (aX ch (ax frm) v).1 (fP (ax frm) v).1).2≠0 then (v,(ep bL dst (ax dst) (aX ch (ax frm) v).1 (fP (ax frm) v).1).2)
 else ((ep bL dst (ax dst) (aX ch (ax frm) v).1 (fP (ax frm) v).1).1,0)
def gS (v:V) (frm dst:Lz):V × Int:=
 if (fP (ax frm) v).2≠0 then (v,(fP (ax frm) v).2) else ep bL dst (ax dst) v (fP (ax frm) v).1
def od (w:LC) (ok:Nat->Prop) (o:jf) (v:Value):Prop:=
 dW o.kind/\o.path.length<=140737488351232/\o.frm.length<=140737488351232/\∃ (a7 a8:Option Addr) (c7 c8:Nat),
  v=.agg (Lg o a7 c7 a8 c8) /\
  In w ok o.value (.agg (KV o.value a7 c7 a8 c8))
theorem od.bel{o:jf}(h:od w ok o v)(hb:La w w'):od w' ok o v:=by
 obtain⟨h1,h2,h3,a7,a8,c7,c8,e,hi⟩:=h;exact⟨h1,h2,h3,a7,a8,c7,c8,e,hi.bel hb⟩
theorem od.weak{o:jf}(h:od w ok o v)(hk:∀ k,ok k->ok' k):od w ok' o v:=by
 obtain⟨h1,h2,h3,a7,a8,c7,c8,e,hi⟩:=h;exact⟨h1,h2,h3,a7,a8,c7,c8,e,hi.weak hk⟩
theorem od.low{o:jf}(h:od w ok o v):od w (Lj ok w) o v:=by
 obtain⟨h1,h2,h3,a7,a8,c7,c8,e,hi⟩:=h;exact⟨h1,h2,h3,a7,a8,c7,c8,e,hi.low⟩
def eX (w:LC) (ok:Nat->Prop) (os:List jf) (v:Value):Prop:=
 os.length<=9223372036854775807/\(os=[]/\(∃ a,v=.slice a 0 0)\/∃ b off c,v=.slice (some ⟨b,off,none⟩) os.length c/\os.length<=c/\c<=9223372036854775807 /\
  ∀ i o,os[i]?=some o->∃ v0 v1 v2 v3 v4 v5 v6 v7,ok b/\w.cell? ⟨b,off+i * 8,none⟩=some v0/\w.cell? ⟨b,off+i * 8+1,none⟩=some v1/\w.cell? ⟨b,off+i * 8+2,none⟩=some v2/\w.cell? ⟨b,off+i * 8+3,none⟩=some v3 /\
   w.cell? ⟨b,off+i * 8+4,none⟩=some v4/\w.cell? ⟨b,off+i * 8+5,none⟩=some v5/\w.cell? ⟨b,off+i * 8+6,none⟩=some v6/\w.cell? ⟨b,off+i * 8+7,none⟩=some v7/\od w ok o (.agg #[v0,v1,v2,v3,v4,v5,v6,v7]))
theorem eX.form{os:List jf}(h:eX w ok os v):∃ a c,v=.slice a os.length c:=by
 rcases h.2 with⟨rfl,a,e⟩ | ⟨b,off,c,e,_⟩
 ·exact⟨a,0,e⟩
 ·exact⟨_,c,e⟩
theorem eX.bel{os:List jf}(h:eX w ok os v)(hb:La w w'):eX w' ok os v:=by
 refine⟨h.1,?_⟩;rcases h.2 with h | ⟨b,off,c,e,h1,h2,h3⟩
 ·exact .inl h
 ·refine .inr ⟨b,off,c,e,h1,h2,fun i o ho=>?_⟩;obtain⟨v0,v1,v2,v3,v4,v5,v6,v7,hk,g0,g1,g2,g3,g4,g5,g6,g7,g8⟩:=h3 i o ho;exact⟨v0,v1,v2,v3,v4,v5,v6,v7,hk,ah hb g0,ah hb g1,ah hb g2,ah hb g3,ah hb g4,ah hb g5,ah hb g6,ah hb g7,g8.bel hb⟩
end Go.Proofs.YtkjeiljdoljjgaaGreatDoor
