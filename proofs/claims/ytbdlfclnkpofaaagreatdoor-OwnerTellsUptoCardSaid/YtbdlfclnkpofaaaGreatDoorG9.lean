import Derived.Test.YtbdlfclnkpofaaaGreatDoorG5
set_option maxRecDepth 100000
set_option maxHeartbeats 40000000
set_option linter.unusedSimpArgs false
set_option linter.unusedVariables false
namespace Go.Proofs.YtbdlfclnkpofaaaGreatDoor
open Go.RowKit
open _root_.Go.Proofs.Tryz
variable {w w' wr:World}
variable {ok ok':Nat->Prop}
variable {v:Value}
variable {t y x:V}
variable {g B k d:Nat}
section
attribute [local go_sem ↓] Go.wp_at_zero Go.wp_at_succ
def FV:V->Nat
 | ⟨_,_,_,ks,l⟩=>1+ks.length+(l.map FV).sum
def np (xs:List V):Nat:=(xs.map FV).sum
theorem wA(x:V)(xs:List V):np (x :: xs)=FV x+np xs:=by simp[np]
theorem SS(t:V):FV t=1+t.keys.length+np t.l:=by cases t;rw[FV];rfl
theorem VO{xs:List V}(h:x∈xs):FV x<=np xs:=by
 induction xs with
 | nil=>cases h
 | cons y xs ih=>
  rw[wA];rcases List.mem_cons.1 h with rfl | h
  ·omega
  ·have:=ih h;omega
theorem UO:∀ (xs:List V),xs.length<=np xs
 | []=>MG _
 | x :: xs=>by
  have:=UO xs;have:=SS x;rw[wA,My];omega
theorem m9:∀ (l:List V),(∀ x∈l,bN x<=FV x)->cnts l<=np l
 | [],_=>by simp[cnts,np]
 | x :: l,h=>by
  rw[er,wA];have h1:=h x (by simp);have h2:=m9 l fun y hy=>h y (by simp[hy]);omega
theorem Uk:∀ (t:V),bN t<=FV t
 | ⟨k,n,s,ks,l⟩=>by
  rw[df,SS];have h:∀ x∈l,bN x<=FV x:=fun x hx=>Uk x;have:=m9 l h;simp only;omega
theorem VH{c0 c1 c2 c3 c4:Value}(h:ag w g c0 c1 c2 c3 c4)(v:Value):ag (w.setCell ⟨g,4,none⟩ v) g c0 c1 c2 c3 v:=ak h 4 v
theorem V6{c0 c1 c2 c3 c4:Value}(h:ag w g c0 c1 c2 c3 c4)(v:Value):ag (w.setCell ⟨g,3,none⟩ v) g c0 c1 c2 v c4:=ak h 3 v
theorem V4{ops:Array Oper}{o:Oper}{a:Act}{K:Act->LC->Prop}{Q:Exit->Act->LC->Prop}{E:Prop}(hgd:o.guard=none)(s x:Operand)(ho:o.op=.call { callee:=.builtin .append,args:=#[s,x],argTypes:=#[23,23] })(B:Nat)(v:Value)(n:Nat)(cs:List Value)(k m:Int)(ss:ByteArray)(a7 a8:Option Addr)(l7 c7 l8 c8:Nat)(hs:a.eval s=v)(hx:a.eval x=.slice (some ⟨w.heap.size,0,none⟩) 1 1)(hown:w.ownsRow B 25 5 v n cs)(hB:B<=w.heap.size)(hl:n<=1700000000000)(hK:∀ g cap w',w'.ownsRow B 25 5 (.slice (some ⟨g,0,none⟩) (n+1) cap) (n+1) (cs++[.int .i64 k,.int .i64 m,.string ss,.slice a7 l7 c7,.slice a8 l8 c8])->(w.alloc (.cells #[.int .i64 k,.int .i64 m,.string ss,.slice a7 l7 c7,.slice a8 l8 c8] 25)).grownBy w' v.ownBlock->(v.ownBlock=some g\/w.heap.size < g)->K (a.put o.dst (.slice (some ⟨g,0,none⟩) (n+1) cap)) w'):if Region.wanted o (yielded ops a.tmps)=true then Oper.wp prog o a (w.alloc (.cells #[.int .i64 k,.int .i64 m,.string ss,.slice a7 l7 c7,.slice a8 l8 c8] 25)) K Q else E:=by
 obtain⟨i0,hi,hz0,hz1,hz2⟩:=info_parts ye;have hb:ag (w.alloc (.cells #[.int .i64 k,.int .i64 m,.string ss,.slice a7 l7 c7,.slice a8 l8 c8] 25)) w.heap.size (.int .i64 k) (.int .i64 m) (.string ss) (.slice a7 l7 c7) (.slice a8 l8 c8):=MN w _;refine step_append_lies _ hgd s x 23 ho B 25 i0 _ 5 80 underlying23 hi hz0 hz1 hz2 rfl (by decide) v n cs hs (hown.alloc _) ⟨w.heap.size,0,none⟩ 1 1 [.int .i64 k,.int .i64 m,.string ss,.slice a7 l7 c7,.slice a8 l8 c8] hx rfl (World.news_of_block (cs:=#[.int .i64 k,.int .i64 m,.string ss,.slice a7 l7 c7,.slice a8 l8 c8]) hb) (Ji _ _ _ _ _ _ _ _ _) (by decide) (by unfold maxLen;omega) (by omega) (by simp;omega) (w.heap.size+1) (by simp) ?_;intro g cap w' ho' hg' hor _;exact hK g cap w' ho' hg' (hor.imp id fun e=>by omega)
def V9 (w:LC) (d:Nat) (t:V) (k:Nat) (wr:LC):Prop:=
 ∃ (ka la:Option Addr) (kc lc g0:Nat) (cs:List Value),ag wr w.heap.size (.int .i64 t.kind) (.int .i64 t.n) (.string ⟨t.s.toArray⟩) (.slice ka t.keys.length kc) (.slice la k lc)/\ag wr (w.heap.size+1) (.int .i64 0) (.int .i64 0) (.string ⟨#[]⟩) (.slice none 0 0) (.slice none 0 0)/\wr.ownsRow (w.heap.size+2) 25 5 (.slice la k lc) k cs/\(((.slice la k lc:Value).ownBlock=none/\g0<=wr.heap.size)\/(.slice la k lc:Value).ownBlock=some g0)/\cA (bu wr (fun j=>w.heap.size+2<=j/\j≠g0) d) (t.l.take k) cs/\ao wr (fun j=>w.heap.size+2<=j/\j≠g0) t.keys (.slice ka t.keys.length kc)/\La w wr
theorem ao.bel2{r:Option Nat}{xs:List Lz}(h:ao w ok xs v)(hg:w.grownBy w' r)(hr:∀ k,ok k->some k≠r)(hk:∀ k,ok k->k < w.heap.size->ok' k):ao w' ok' xs v:=
 h.imp fun a x h1 h2=>⟨hk _ h1 (World.block_lt_of_cell? w a h2),hg.cell h2 (hr _ h1)⟩
theorem V8{w3 w4:LC}{ka la a7 a8:Option Addr}{kc lc g0 c7 c8 cap:Nat}{cs:List Value}(hk:k < t.l.length)(hy:y=t.l[k])(bx:ag w3 w.heap.size (.int .i64 t.kind) (.int .i64 t.n) (.string ⟨t.s.toArray⟩) (.slice ka t.keys.length kc) (.slice la k lc))(bz:ag w3 (w.heap.size+1) (.int .i64 0) (.int .i64 0) (.string ⟨#[]⟩) (.slice none 0 0) (.slice none 0 0))(ho:w3.ownsRow (w.heap.size+2) 25 5 (.slice la k lc) k cs)(hlv:(.slice la k lc:Value).ownBlock=none\/(.slice la k lc:Value).ownBlock=some g0)(hrow:cA (bu w3 (fun j=>w.heap.size+2<=j/\j≠g0) d) (t.l.take k) cs)(hks:ao w3 (fun j=>w.heap.size+2<=j/\j≠g0) t.keys (.slice ka t.keys.length kc))(hb:La w w3)(hv:bu w3 (fun j=>w.heap.size+2<=j/\j≠g0) d y (.agg #[.int .i64 y.kind,.int .i64 y.n,.string ⟨y.s.toArray⟩,.slice a7 y.keys.length c7,.slice a8 y.l.length c8]))(ho4:w4.ownsRow (w.heap.size+2) 25 5 (.slice (some ⟨g,0,none⟩) (k+1) cap) (k+1) (cs++[.int .i64 y.kind,.int .i64 y.n,.string ⟨y.s.toArray⟩,.slice a7 y.keys.length c7,.slice a8 y.l.length c8]))(hg4:(w3.alloc (.cells #[.int .i64 y.kind,.int .i64 y.n,.string ⟨y.s.toArray⟩,.slice a7 y.keys.length c7,.slice a8 y.l.length c8] 25)).grownBy w4 (.slice la k lc:Value).ownBlock)(hgg:(.slice la k lc:Value).ownBlock=some g\/w3.heap.size < g):V9 w d t (k+1) (w4.setCell ⟨w.heap.size,4,none⟩ (.slice (some ⟨g,0,none⟩) (k+1) cap)):=by
 have hlow:∀ j,(.slice la k lc:Value).ownBlock=some j->w.heap.size+2<=j:=fun j hj=>(ho.lt j hj).1;have g34:w3.grownBy w4 (.slice la k lc:Value).ownBlock:=am (World.grownBy_alloc w3 _ _) hg4;have g5:w4.grownBy (w4.setCell ⟨w.heap.size,4,none⟩ (.slice (some ⟨g,0,none⟩) (k+1) cap)) (some w.heap.size):=ap (az _ _) _ _;have ne:∀ j,j < w.heap.size+2->some j≠(.slice la k lc:Value).ownBlock:=fun j hj e=>by have:=hlow j e.symm;omega
 have neR:∀ j,(fun j=>w.heap.size+2<=j/\j≠g0) j->some j≠(.slice la k lc:Value).ownBlock:=by
  intro j hj e;rcases hlv with h0 | h0 <;> rw[h0]at e <;> simp at e
  exact hj.2 e
 have up:∀ j,(fun j=>w.heap.size+2<=j/\j≠g0) j->j < w3.heap.size->w.heap.size+2<=j/\j≠g:=by
  intro j hj hlt;refine⟨hj.1,fun e=>?_⟩;subst e;rcases hgg with h0 | h0
  ·rcases hlv with h2 | h2
   ·rw[h2]at h0;cases h0
   ·rw[h2]at h0;cases h0;exact hj.2 rfl
  ·omega
 have conv:∀ x v,bu w3 (fun j=>w.heap.size+2<=j/\j≠g0) d x v->bu (w4.setCell ⟨w.heap.size,4,none⟩ (.slice (some ⟨g,0,none⟩) (k+1) cap)) (fun j=>w.heap.size+2<=j/\j≠g) d x v:=by
  intro x v h;have h1:=(h.below.grown g34 (fun j hj=>neR j hj.1)).grown g5 (fun j hj e=>by have:=hj.1.1;simp at e;omega);exact h1.weak fun j hj=>up j hj.1 hj.2
 refine⟨ka,some ⟨g,0,none⟩,kc,cap,g,_,VH (bx.grown g34 (ne _ (by omega))) _,(bz.grown g34 (ne _ (by omega))).grown g5 (by simp),aW ho4 g5 (by omega),.inr rfl,?_,?_,?_⟩
 ·have rx:cA (bu (w4.setCell ⟨w.heap.size,4,none⟩ (.slice (some ⟨g,0,none⟩) (k+1) cap)) (fun j=>w.heap.size+2<=j/\j≠g) d) [y] [.int .i64 y.kind,.int .i64 y.n,.string ⟨y.s.toArray⟩,.slice a7 y.keys.length c7,.slice a8 y.l.length c8]:=⟨_,_,_,_,_,[],rfl,conv _ _ hv,rfl⟩
  rw[b8 hk,<-hy];exact rx.append (hrow.imp conv)
 ·exact(hks.bel2 (ok':=fun j=>w.heap.size+2<=j/\j≠g) g34 neR up).bel2 g5 (fun j hj e=>by have:=hj.1;simp at e;omega) (fun j hj _=>hj)
 ·refine bS (lC (g:=w.heap.size) ?_ g5 (MG _));have hbw:w.grownBy w3 none:=aq hb;exact⟨g34.os.trans hb.os,g34.tape.trans hb.tape,g34.output.trans hb.output,MH hb.size g34.size,fun j hj _=>(g34.block j (MI hj hb.size) (ne j (by omega))).trans (hb.block j hj)⟩
theorem VK{w3:LC}{g0:Nat}{la:Option Addr}{lc:Nat}{cs:List Value}{yv:Value}(h:bu w3 (fun j=>wr.heap.size+1<=j) d y yv)(ho:wr.ownsRow (B+2) 25 5 (.slice la k lc) k cs)(hlv:((.slice la k lc:Value).ownBlock=none/\g0<=wr.heap.size)\/(.slice la k lc:Value).ownBlock=some g0)(hB:B+1 < wr.heap.size):bu w3 (fun j=>B+2<=j/\j≠g0) d y yv:=by
 refine h.weak fun j hj=>⟨by omega,fun e=>?_⟩
 subst e;rcases hlv with h0 | h0
 ·omega
 ·have:=(ho.lt _ h0).2;omega
def Wa (d:Nat):Prop:=∀ (w:LC) (ok:Nat->Prop) (t:V) (v:Value),bu w ok d t v->FV t<=1000000000000 ->
 Calls prog 5 #[v] w fun e w'=>∃ r,e=.returned r/\La w w'/\bu w' (fun k=>w.heap.size<=k) d t r
theorem Up(d:Nat)(ih:Wa d):Wa (d+1):=by
 intro w ok t v h hN;have IH:=aa ih;obtain⟨a1,a2,c1,c2,rfl⟩:=h.shape;have VV:Ll (cS w ok (bu w ok d) t.l (.slice a2 t.l.length c2)/\ao w ok t.keys (.slice a1 t.keys.length c1)/\t.s.length<=maxLen/\dW t.kind/\dW t.n):=aa (by
  obtain⟨ks,ls,e,h1,h2,h3,h4,h5⟩:=h;simp only[Value.agg.injEq,Array.mk.injEq,List.cons.injEq,and_true]at e;obtain⟨-,-,-,rfl,rfl⟩:=e;exact⟨h5,h4,h3,h1,h2⟩)
 have ll:t.l.length<=9223372036854775807:=VV.o.1.1;have lk:t.keys.length<=9223372036854775807:=VV.o.2.1.1;have z0:=SS t;have z1:=UO t.l;have zk:t.keys.length<=8000000000000:=by omega
 have zl:t.l.length<=1700000000000:=by omega
 have ZS:Ll (np t.l<=1000000000000):=aa (by omega);have B2:Ll (∀ o1 o2,La w ((w.alloc o1).alloc o2)):=fun o1 o2=>ab (ae _ _) (ae _ _);obtain⟨kv,w5,hR,hks,hb5⟩:=Vr ((w.alloc (.cells #[.int .i64 t.kind,.int .i64 t.n,.string ⟨t.s.toArray⟩,.slice a1 t.keys.length c1,.slice a2 t.l.length c2] 25)).alloc (.cells #[.int .i64 0,.int .i64 0,.string ⟨#[]⟩,.slice none 0 0,.slice none 0 0] 25)) ok t.keys _ (VV.o.2.1.bel (B2.o _ _)) zk 22;have HR:=aa hR;obtain⟨ka,kc,rfl⟩:=hks.form;have L9:((w.alloc (.cells #[.int .i64 t.kind,.int .i64 t.n,.string ⟨t.s.toArray⟩,.slice a1 t.keys.length c1,.slice a2 t.l.length c2] 25)).alloc (.cells #[.int .i64 0,.int .i64 0,.string ⟨#[]⟩,.slice none 0 0,.slice none 0 0] 25)).heap.size=w.heap.size+2:=by simp
 have K5:Ll (ag w5 w.heap.size (.int .i64 t.kind) (.int .i64 t.n) (.string ⟨t.s.toArray⟩) (.slice a1 t.keys.length c1) (.slice a2 t.l.length c2)/\ag w5 (w.heap.size+1) (.int .i64 0) (.int .i64 0) (.string ⟨#[]⟩) (.slice none 0 0) (.slice none 0 0)/\La w w5/\ao w5 (fun j=>w.heap.size+2<=j) t.keys (.slice ka t.keys.length kc)):=aa ⟨af hb5 (fb w _ _),af hb5 (et w _ _),ab (B2.o _ _) hb5,by rw[L9]at hks;exact hks⟩;clear h ih hN hR hks hb5 L9;have I0:Ll (V9 w d t 0 ((w5.setCell ⟨w.heap.size,3,none⟩ (.slice ka t.keys.length kc)).setCell ⟨w.heap.size,4,none⟩ (.slice none 0 0))):=by
  obtain⟨k1,k2,k3,k4⟩:=K5.o;have g1:w5.grownBy ((w5.setCell ⟨w.heap.size,3,none⟩ (.slice ka t.keys.length kc)).setCell ⟨w.heap.size,4,none⟩ (.slice none 0 0)) (some w.heap.size):=ap (ap (az _ _) _ _) _ _;refine aa ⟨ka,none,kc,0,w5.heap.size,[],VH (V6 k1 _) _,k2.grown g1 (by simp),World.ownsRow_nil _ _ _ _,.inl ⟨rfl,g1.size⟩,rfl,?_,bS (lC (aq k3) g1 (MG _))⟩;exact k4.bel2 g1 (fun j hj e=>by simp at e;omega) (fun j hj hlt=>⟨hj,by omega⟩)
 obtain⟨y0,y1,y2,y3,y4,y5,y6,y7,y8,y9⟩:=K5.o.1.c;go_enter func5,ntmps5;go_wp2_with (at_builtin;go_must (refine Lib.wpList_append_run _ rfl _ _ _ _ rfl (.slice none 0 0) (.slice a1 t.keys.length c1) rfl rfl _ _ HR.o ?_);refine Ll.o ?_)
 refine aa ?_;go_wp2_with fail
 clear HR;go_loopg [15] t.l.length (fun gk i wr=>∃ k:Nat,k<=t.l.length/\gk=t.l.length - k/\i=.int .i64 k/\V9 w d t k wr)
 case atStart=>exact⟨0,Nat.zero_le _,rfl,rfl,I0.o⟩
 case round=>
  obtain⟨k,hk,hgk,rfl,ka,la,kc,lc,g0,cs,i1,i2,i3,i4,i5,i6,i7⟩:=hrel;have GK:=aa hgk;have I:Ll (ag wr w.heap.size (.int .i64 t.kind) (.int .i64 t.n) (.string ⟨t.s.toArray⟩) (.slice ka t.keys.length kc) (.slice la k lc)/\ag wr (w.heap.size+1) (.int .i64 0) (.int .i64 0) (.string ⟨#[]⟩) (.slice none 0 0) (.slice none 0 0)/\wr.ownsRow (w.heap.size+2) 25 5 (.slice la k lc) k cs/\(((.slice la k lc:Value).ownBlock=none/\g0<=wr.heap.size)\/(.slice la k lc:Value).ownBlock=some g0)/\cA (bu wr (fun j=>w.heap.size+2<=j/\j≠g0) d) (t.l.take k) cs/\ao wr (fun j=>w.heap.size+2<=j/\j≠g0) t.keys (.slice ka t.keys.length kc)/\La w wr):=aa ⟨i1,i2,i3,i4,i5,i6,i7⟩;clear hgk i1 i2 i3 i4 i5 i6 i7;by_cases hlt:k < t.l.length
  ·obtain⟨b,off,rfl,z1,z2,a5,c5,a6,c6,p0,p1,p2,p3,p4,p5⟩:=fz VV.o.1 hlt;unfold maxLen at z2;replace p0:=ah I.o.2.2.2.2.2.2 p0;replace p1:=ah I.o.2.2.2.2.2.2 p1;replace p2:=ah I.o.2.2.2.2.2.2 p2;replace p3:=ah I.o.2.2.2.2.2.2 p3;replace p4:=ah I.o.2.2.2.2.2.2 p4;have P5:=aa (p5.bel I.o.2.2.2.2.2.2);have w1:(0:Int)<=(k:Int):=by omega
   have w2:(k:Int) < (t.l.length:Int):=by omega
   have zx:Ll (FV t.l[k]<=1000000000000):=aa (by have:=VO (List.getElem_mem hlt);have:=ZS.o;omega);have call:Ll (∀ W,W.heap=(wr.alloc (.cells #[.int .i64 t.l[k].kind,.int .i64 t.l[k].n,.string ⟨t.l[k].s.toArray⟩,.slice a5 t.l[k].keys.length c5,.slice a6 t.l[k].l.length c6] 25)).heap->W.os=wr.os->W.tape=wr.tape->W.output=wr.output->Calls prog 5 #[.agg #[.int .i64 t.l[k].kind,.int .i64 t.l[k].n,.string ⟨t.l[k].s.toArray⟩,.slice a5 t.l[k].keys.length c5,.slice a6 t.l[k].l.length c6]] W fun e w3=>∃ (a7 a8:Option Addr) (c7 c8:Nat),e=.returned (.agg #[.int .i64 t.l[k].kind,.int .i64 t.l[k].n,.string ⟨t.l[k].s.toArray⟩,.slice a7 t.l[k].keys.length c7,.slice a8 t.l[k].l.length c8])/\bu w3 (fun j=>wr.heap.size+1<=j) d t.l[k] (.agg #[.int .i64 t.l[k].kind,.int .i64 t.l[k].n,.string ⟨t.l[k].s.toArray⟩,.slice a7 t.l[k].keys.length c7,.slice a8 t.l[k].l.length c8])/\La wr w3):=by
    intro W e1 e2 e3 e4;have LY:La wr W:=by
     have:=ae wr (.cells #[.int .i64 t.l[k].kind,.int .i64 t.l[k].n,.string ⟨t.l[k].s.toArray⟩,.slice a5 t.l[k].keys.length c5,.slice a6 t.l[k].l.length c6] 25);exact⟨e2,e3,e4,by rw[e1];exact this.size,fun k hk=>by rw[e1];exact this.block k hk⟩
    have L9:W.heap.size=wr.heap.size+1:=by rw[e1];simp
    refine(IH.o W ok t.l[k] _ (P5.o.bel LY) zx.o).mono ?_;rintro e w3 ⟨r,rfl,hb,hr⟩;obtain⟨a7,a8,c7,c8,rfl⟩:=hr.shape;rw[L9]at hr;exact⟨a7,a8,c7,c8,rfl,hr,ab LY hb⟩
   have q4:=(af (ae wr (.cells #[.int .i64 t.l[k].kind,.int .i64 t.l[k].n,.string ⟨t.l[k].s.toArray⟩,.slice a5 t.l[k].keys.length c5,.slice a6 t.l[k].l.length c6] 25)) I.o.1).c.2.2.2.2.1;have hnl:k<=1700000000000:=by omega
   clear p5;go_wp2_with fail
   go_region_law ((first | (refine V4 (by rfl) _ _ (by rfl) (w.heap.size+2) (.slice la k lc) k cs t.l[k].kind t.l[k].n ⟨t.l[k].s.toArray⟩ a7 a8 t.l[k].keys.length c7 t.l[k].l.length c8 (by rfl) (by rfl) K3.o.2.2.1 hsz3 hnl ?_;intro g cap w4 ho4 hg4 hgg4;obtain⟨x0,x1,x2,x3,x4,-,-,-,-,x9⟩:=((K3.o.1.grown (World.grownBy_alloc _ _ none) (by simp)).grown hg4 (ne3.o _ (by omega))).c;have CM:=aa (V8 hlt rfl K3.o.1 K3.o.2.1 K3.o.2.2.1 (K3.o.2.2.2.1.imp And.left id) K3.o.2.2.2.2.1 K3.o.2.2.2.2.2.1 K3.o.2.2.2.2.2.2 V3.o ho4 hg4 hgg4);clear ho4 hg4 hgg4) | (go_simp;go_at_call 5;refine(call.o _ (by rfl) (by rfl) (by rfl) (by rfl)).mono ?_;rintro e w3 ⟨a7,a8,c7,c8,rfl,hv3,hb3⟩;have V3:Ll (bu w3 (fun j=>w.heap.size+2<=j/\j≠g0) d t.l[k] (.agg #[.int .i64 t.l[k].kind,.int .i64 t.l[k].n,.string ⟨t.l[k].s.toArray⟩,.slice a7 t.l[k].keys.length c7,.slice a8 t.l[k].l.length c8])):=aa (VK hv3 I.o.2.2.1 I.o.2.2.2.1 I.o.2.1.lt);have K3:Ll (ag w3 w.heap.size (.int .i64 t.kind) (.int .i64 t.n) (.string ⟨t.s.toArray⟩) (.slice ka t.keys.length kc) (.slice la k lc)/\ag w3 (w.heap.size+1) (.int .i64 0) (.int .i64 0) (.string ⟨#[]⟩) (.slice none 0 0) (.slice none 0 0)/\w3.ownsRow (w.heap.size+2) 25 5 (.slice la k lc) k cs/\(((.slice la k lc:Value).ownBlock=none/\g0<=wr.heap.size)\/(.slice la k lc:Value).ownBlock=some g0)/\cA (bu w3 (fun j=>w.heap.size+2<=j/\j≠g0) d) (t.l.take k) cs/\ao w3 (fun j=>w.heap.size+2<=j/\j≠g0) t.keys (.slice ka t.keys.length kc)/\La w w3):=aa ⟨af hb3 I.o.1,af hb3 I.o.2.1,I.o.2.2.1.kept (aq (r:=none) hb3) (by cases (.slice la k lc:Value).ownBlock <;> simp),I.o.2.2.2.1,I.o.2.2.2.2.1.imp fun _ _ h=>h.bel hb3,I.o.2.2.2.2.2.1.bel hb3,ab I.o.2.2.2.2.2.2 hb3⟩;have hsz3:w.heap.size+2<=w3.heap.size:=MH I.o.2.1.lt hb3.size;have ne3:Ll (∀ j,j < w.heap.size+2->some j≠(.slice la k lc:Value).ownBlock):=aa (fun j hj e=>by have:=(K3.o.2.2.1.lt j e.symm).1;omega);have r4:=K3.o.1.c.2.2.2.2.1;have r5:∀ o,(w3.alloc o).cell? ⟨w.heap.size,4,none⟩=some (.slice la k lc):=fun o=>(af (ae w3 o) K3.o.1).c.2.2.2.2.1;clear hv3 hb3)))
   all_goals
    go_wp2_with fail
    go_roundg (t.l.length - (k+1))
    case measure=>rw[GK.o];omega
    case rel=>exact⟨k+1,hlt,rfl,by go_num,CM.o⟩
  ·have Mc:k=t.l.length:=by omega
   subst Mc;have d1:¬(t.l.length:Int) < (t.l.length:Int):=by omega
   obtain⟨y0,y1,y2,y3,y4,-⟩:=I.o.1.c;obtain⟨z0,z1,z2,z3,z4,z5,z6,z7,z8,z9⟩:=I.o.2.1.c;have gs:=aI wr (w.heap.size+1) (.int .i64 t.kind) (.int .i64 t.n) (.string ⟨t.s.toArray⟩) (.slice ka t.keys.length kc) (.slice la t.l.length lc);have ZB:Ll _:=aa (I.o.2.1.set (.int .i64 t.kind) (.int .i64 t.n) (.string ⟨t.s.toArray⟩) (.slice ka t.keys.length kc) (.slice la t.l.length lc));have Z:Ll (La w (ar wr (w.heap.size+1) (.int .i64 t.kind) (.int .i64 t.n) (.string ⟨t.s.toArray⟩) (.slice ka t.keys.length kc) (.slice la t.l.length lc))/\bu (ar wr (w.heap.size+1) (.int .i64 t.kind) (.int .i64 t.n) (.string ⟨t.s.toArray⟩) (.slice ka t.keys.length kc) (.slice la t.l.length lc)) (fun j=>w.heap.size<=j) (d+1) t (.agg #[.int .i64 t.kind,.int .i64 t.n,.string ⟨t.s.toArray⟩,.slice ka t.keys.length kc,.slice la t.l.length lc])):=by
    obtain⟨k1,k2,k3,k4,k5,k6,k7⟩:=I.o;refine aa ⟨aP k7 (by omega) _ _ _ _ _,_,_,rfl,VV.o.2.2.2.1,VV.o.2.2.2.2,VV.o.2.2.1,?_,?_⟩
    ·exact k6.bel2 gs (fun j hj e=>by have:=hj.1;simp at e;omega) (fun j hj _=>by have:=hj.1;omega)
    ·rw[MD (MG _)]at k5;exact fJ rfl (aW k3 gs (by omega)) (k5.imp fun x v h=>(h.grown gs (fun j hj e=>by have:=hj.1;simp at e;omega)).weak fun j hj=>by have:=hj.1;omega) (fun j hj=>by omega) ll
   clear gs;go_wp2_with fail
   obtain⟨q0,q1,q2,q3,q4,-⟩:=ZB.o.c;refine MM (v:=.agg #[.int .i64 t.kind,.int .i64 t.n,.string ⟨t.s.toArray⟩,.slice ka t.keys.length kc,.slice la t.l.length lc]) ?_ rfl ?_
   ·simp only[ar]at q0 q1 q2 q3 q4;simp[results,results5,go_sem,q0,q1,q2,q3,q4]
   ·exact⟨_,rfl,Z.o.1,Z.o.2⟩
theorem Ur(d:Nat):Wa d:=by
 induction d with
 | zero=>exact fun _ _ _ _ h=>h.elim
 | succ d ih=>exact Up d ih
end
section
open Go.ChangeShapes Go.WideShapes Go.ChangeAt Go.RowKit
theorem Ss{H:Type}(d:DataW H):1<=Rows.uptoBulk d:=by
 cases d with
 | lit l=>cases l <;> simp[Rows.uptoBulk]
 | nil=>simp[Rows.uptoBulk]
 | ptr d=>simp[Rows.uptoBulk]
 | slice elems spare=>simp[Rows.uptoBulk]
 | agg parts=>simp[Rows.uptoBulk]
 | iface t d=>simp[Rows.uptoBulk]
 | map entries=>simp[Rows.uptoBulk]
 | held h=>simp[Rows.uptoBulk]
theorem SD{H:Type}(l:List (DataW H)):l.length<=Rows.uptoBulkAll l:=by
 induction l with
 | nil=>simp[Rows.uptoBulkAll]
 | cons x r ih=>have:=Ss x;simp only[Rows.uptoBulkAll,My];omega
theorem xd{H:Type}:∀ (l:List V) (es:List (DataW H)),l.length=es.length->(∀ (i:Nat) (x:V) (e:DataW H),l[i]?=some x->es[i]?=some e->FV x<=Rows.uptoBulk e)->np l<=Rows.uptoBulkAll es
 | [],es,_,_=>by simp[np]
 | x :: l,[],h,_=>by simp at h
 | x :: l,e :: es,h,hh=>by
  have h1:=hh 0 x e rfl rfl;have h2:=xd l es (by simpa using h) fun i y f hy hf=>hh (i+1) y f (by simpa using hy) (by simpa using hf);rw[wA];simp only[Rows.uptoBulkAll];omega
theorem RD{H:Type}{enc:TypeId × Value->H}{W:World}{fuel:Nat}{v:Value}{x:DataW H × List MemPlace}(h:DataW.trod enc Tryz.prog W 0 (fun _=>true) true fuel 22 [v]=some x){ks:List (List UInt8)}(hk:ao W (fun _=>True) ks v):ks.length<=Rows.uptoBulk x.1:=by
 rcases open_strings Tryz.underlying22 Tryz.underlying9 db h with⟨e,-⟩ | ⟨a,len,cap,ss,e,-,hl,hm,hss,hx,hc,hz⟩
 ·simp only[List.cons.injEq,and_true]at e;subst e;rcases hk.2 with⟨h1,-⟩ | ⟨b,off,c,h1,-⟩
  ·rw[h1];simp
  ·simp at h1
 ·simp only[List.cons.injEq,and_true]at e;subst e;simp only[if_true]at hss;have LT:ks.length=len:=by
   rcases hk.2 with⟨h1,a0,h2⟩ | ⟨b,off,c,h1,-⟩
   ·simp only[Value.slice.injEq]at h2;rw[h1,h2.2.1];rfl
   ·simp only[Value.slice.injEq]at h1;exact h1.2.1.symm
  subst hx;have h1:=SD (strs (H:=H) (ss.take len));have h2:(strs (H:=H) (ss.take len)).length=len:=by simp[strs];omega
  simp only[Rows.uptoBulk];omega
theorem Sp{H:Type}{enc:TypeId × Value->H}{W:World}(fuel:Nat):∀ (cs:List Value) (x:DataW H × List MemPlace),DataW.trod enc Tryz.prog W 0 (fun _=>true) true fuel 25 cs=some x ->
 ∃ t v0 v1 v2 v3 v4,cs=[v0,v1,v2,v3,v4]/\bu W (fun _=>True) fuel t (.agg #[v0,v1,v2,v3,v4])/\FV t<=Rows.uptoBulk x.1:=by
 induction fuel with
 | zero=>intro cs x h;simp[DataW.trod]at h
 | succ fuel ih=>
  intro cs x h;obtain⟨xs,n,e,hx,hl,LT,hf⟩:=DataW.trod_struct Tryz.underlying25 h;obtain rfl:n=fuel:=by omega
  rw[si]at hl;match cs,hl,xs,LT with
  | [v0,v1,v2,v3,v4],_,[y0,y1,y2,y3,y4],_=>
   have g0:DataW.trod enc Tryz.prog W 0 (fun _=>true) true n 3 [v0]=some y0:=by simpa [D6] using hf 0 _ rfl
   have g1:DataW.trod enc Tryz.prog W 0 (fun _=>true) true n 3 [v1]=some y1:=by simpa [D6] using hf 1 _ rfl
   have g2:DataW.trod enc Tryz.prog W 0 (fun _=>true) true n 9 [v2]=some y2:=by simpa [db] using hf 2 _ rfl
   have g3:DataW.trod enc Tryz.prog W 0 (fun _=>true) true n 22 [v3]=some y3:=by simpa [x6] using hf 3 _ rfl
   have g4:DataW.trod enc Tryz.prog W 0 (fun _=>true) true n 23 [v4]=some y4:=by simpa [Vu] using hf 4 _ rfl
   obtain⟨z0,e0,-,w0⟩:=DataW.trod_int Tryz.underlying3 g0;obtain⟨z1,e1,-,w1⟩:=DataW.trod_int Tryz.underlying3 g1;obtain⟨s,e2,-,hs⟩:=DataW.trod_string Tryz.underlying9 g2;simp only[List.cons.injEq,and_true]at e0 e1 e2;subst e0;subst e1;subst e2;obtain⟨ks,hks⟩:=Tm g3;have hkb:=RD g3 hks;have hvals:∃ l,cS W (fun _=>True) (bu W (fun _=>True) n) l v4/\np l<=Rows.uptoBulk y4.1:=by
    rcases DataW.trod_slice Tryz.underlying23 g4 with⟨e,-⟩ | ⟨a,len,cap,elems,rest,k,ek,e,hy4,-,hl,hm,LT,hel,hsp,-⟩
    ·simp only[List.cons.injEq,and_true]at e;exact⟨[],⟨by simp[maxLen],.inl ⟨rfl,none,e⟩⟩,by simp[np]⟩
    ·simp only[List.cons.injEq,and_true]at e;rw[si]at hel hsp;have all:∀ i,i < len->∃ cs' y,W.cells? 0 (a.add (i * 5)) 5=some cs'/\DataW.trod enc Tryz.prog W 0 (fun _=>true) true k 25 cs'=some y/\elems[i]?=some y:=by
      intro i hil;have:=hel i hil;rw[Mw (by omega)]at this;obtain⟨cs',h1,h2⟩:=Option.bind_eq_some_iff.1 this;exact⟨cs',_,h1,h2,Mw (by omega)⟩
     by_cases h0:len=0
     ·subst h0;have he:elems=[]:=List.eq_nil_of_length_eq_zero LT;by_cases hc:cap=0
      ·subst hc;exact⟨[],⟨by simp[maxLen],.inl ⟨rfl,some a,e⟩⟩,by simp[np]⟩
      ·have ha:a=⟨a.block,a.off,none⟩:=by
        obtain⟨hrl,hrest⟩:=hsp rfl;have:=hrest 0 (by omega);rw[Mw (by omega)]at this;obtain⟨cs',h1,h2⟩:=Option.bind_eq_some_iff.1 this;obtain⟨-,h2,h3⟩:=World.cells?_some h1;have:=h3 0 (by omega);rw[Mw (by omega)]at this;exact qv (sg (v:=cs'[0]) (by simpa [Addr.add] using this))
       exact⟨[],⟨by simp[maxLen],.inr ⟨a.block,a.off,cap,by rw[<-ha];exact e,by simp,hm,fun i t ht=>by simp at ht⟩⟩,by simp[np]⟩
     ·have ha:a=⟨a.block,a.off,none⟩:=by
       obtain⟨cs',y,h1,-⟩:=all 0 (by omega);obtain⟨-,h2,h3⟩:=World.cells?_some h1;have:=h3 0 (by omega);rw[Mw (by omega)]at this;exact qv (sg (v:=cs'[0]) (by simpa [Addr.add] using this))
      obtain⟨T,hT⟩:=@Go.Deep.choose_lt V ⟨⟨0,0,[],[],[]⟩⟩ len (fun i t=>∃ v0 v1 v2 v3 v4 y,W.cells? 0 (a.add (i * 5)) 5=some [v0,v1,v2,v3,v4]/\bu W (fun _=>True) n t (.agg #[v0,v1,v2,v3,v4])/\elems[i]?=some y/\FV t<=Rows.uptoBulk y.1) (fun i hi=>by
       obtain⟨cs',y,h1,h2,h3⟩:=all i hi;obtain⟨t,v0,v1,v2,v3,v4,rfl,hv,hz⟩:=ih cs' y (DataW.trod_le (by omega) h2);exact⟨t,v0,v1,v2,v3,v4,y,h1,hv,h3,hz⟩)
      refine⟨(List.range len).map T,⟨by simp only[List.length_map,List.length_range];omega,.inr ⟨a.block,a.off,cap,by simp only[List.length_map,List.length_range];rw[<-ha];exact e,by simp only[List.length_map,List.length_range];omega,hm,fun i t ht=>?_⟩⟩,?_⟩
      ·simp only[List.getElem?_map,Option.map_eq_some_iff]at ht;obtain⟨j,hj,rfl⟩:=ht;obtain⟨hj1,hj2⟩:=Mz.1 hj;simp only[List.length_range]at hj1;simp only[List.getElem_range]at hj2;subst hj2;obtain⟨v0,v1,v2,v3,v4,y,h1,hv,-⟩:=hT i hj1;obtain⟨-,-,h3⟩:=World.cells?_some h1;rw[ha]at h3;have c:∀ q,q < 5->W.cell? ⟨a.block,a.off+i * 5+q,none⟩=[v0,v1,v2,v3,v4][q]?:=by
        intro q hq;have:=h3 q hq;rw[eh,eh]at this;exact this
       exact⟨v0,v1,v2,v3,v4,trivial,c 0 (by omega),c 1 (by omega),c 2 (by omega),c 3 (by omega),c 4 (by omega),hv⟩
      ·have hb:np ((List.range len).map T)<=Rows.uptoBulkAll (elems.map (·.1)):=by
        refine xd _ _ (by simp[LT]) fun i x f hx hf=>?_;simp only[List.getElem?_map,Option.map_eq_some_iff]at hx hf;obtain⟨j,hj,rfl⟩:=hx;obtain⟨hj1,hj2⟩:=Mz.1 hj;simp only[List.length_range]at hj1;simp only[List.getElem_range]at hj2;subst hj2;obtain⟨y',hy',rfl⟩:=hf;obtain⟨v0,v1,v2,v3,v4,y,-,-,h3,h4⟩:=hT i hj1;rw[hy']at h3;cases h3;exact h4
       rw[hy4];simp only[Rows.uptoBulk];omega
   obtain⟨l,hl,hlb⟩:=hvals;refine⟨⟨z0,z1,s.data.toList,ks,l⟩,_,_,_,_,_,rfl,⟨v3,v4,by unfold aR;simp,Pu w0,Pu w1,by rw[Array.length_toList];exact hs,hks,hl⟩,?_⟩;rw[SS,hx];simp only[List.map_cons,List.map_nil,Rows.uptoBulk,Rows.uptoBulkAll];omega
theorem DP{H:Type}{enc:TypeId × Value->H}{W:World}{base:Nat}{v:Value}{d:DataW H}{p:List MemPlace}(hk:Value.okWide Tryz.prog W .any base 25 v)(h:DataW.Trod enc Tryz.prog W 0 (fun _=>true) true 25 v d p):∃ f t,bu W (fun _=>True) f t v/\FV t<=Rows.uptoBulk d:=by
 obtain⟨cs,rfl,-⟩:=okWide_struct Tryz.underlying25 hk;obtain⟨f,hf⟩:=h;obtain⟨t,v0,v1,v2,v3,v4,e,hv,hz⟩:=Sp f _ _ hf;have e2:cs=#[v0,v1,v2,v3,v4]:=by
  obtain⟨l⟩:=cs;exact congrArg Array.mk e
 subst e2;exact⟨f,t,hv,hz⟩
theorem KT{H:Type}{l:List (DataW H)}(hk:Rows.uptoSmall H l=true):Rows.uptoBulkAll l<=1048576:=of_decide_eq_true hk
end
variable {n c:Nat}
def bA (l:List aL):List (Lz × Lz):=l.flatMap fun o=>o.paths.map fun p=>(o.name,p)
theorem lz{l:List aL}(hk:k < l.length):bA (l.take (k+1))=bA (l.take k)++l[k].paths.map fun p=>(l[k].name,p):=by
 unfold bA;rw[List.take_succ_eq_append_getElem hk,List.flatMap_append];simp
theorem Bw{l j}(hk:k < l.length)(hj:j < l[k].paths.length):bA (l.take k)++(l[k].paths.take j).map (fun p=>(l[k].name,p))++[(l[k].name,l[k].paths[j])] <+: bA l:=by
 have e1:bA l=bA (l.take (k+1))++bA (l.drop (k+1)):=by
  unfold bA;rw[<-List.flatMap_append,List.take_append_drop]
 have e3:l[k].paths=l[k].paths.take j++[l[k].paths[j]]++l[k].paths.drop (j+1):=by rw[<-List.take_succ_eq_append_getElem hj,List.take_append_drop]
 have e4:=congrArg (List.map fun p=>(l[k].name,p)) e3;rw[List.map_append,List.map_append,List.map_cons,List.map_nil]at e4;refine⟨(l[k].paths.drop (j+1)).map (fun p=>(l[k].name,p))++bA (l.drop (k+1)),?_⟩;rw[e1,lz hk,e4];simp only[List.append_assoc]
theorem kL{l n p}(h:(n,p)∈bA l):∃ o∈l,o.name=n/\p∈o.paths:=by
 unfold bA at h;rw[List.mem_flatMap]at h;obtain⟨o,ho,h⟩:=h;rw[List.mem_map]at h;obtain⟨q,hq,e⟩:=h;cases e;exact⟨o,ho,rfl,hq⟩
structure Sh (w0:LC) (g:Nat) (lb:Array Value) (l:List aL) (ok:Nat->Prop) (v:Value) (I:List (Lz × Lz)->(Nat->Prop)->LC->Prop):Prop where
 owns:aB w0 ok l v
 cells:∀ d F W,I d F W->∀ a x,ok a.block->w0.cell? a=some x->W.cell? a=some x
 alloc:∀ d F W o,I d F W->I d (fun k=>F k\/k=W.heap.size) (W.alloc o)
 low:∀ d (F G:Nat->Prop) W,I d F W->(∀ k,G k->F k)->I d G W
 step:∀ d F W n p,I d F W->d++[(n,p)] <+: bA l->Calls prog g (#[.string ⟨n.toArray⟩,.string ⟨p.toArray⟩]++lb) W fun e w'=>e=.returned (.tuple #[])/\I (d++[(n,p)]) F w'/\W.heap.size<=w'.heap.size/\∀ k,F k->k < W.heap.size->w'.heap[k]?=W.heap[k]?
theorem uP{xs a}(h:aB w ok xs (.slice a n c))(hk:k < xs.length):∃ b off pa pc,a=some ⟨b,off,none⟩/\ok b/\xs.length<=c/\c<=9223372036854775807/\w.cell? ⟨b,off+k * 2,none⟩=some (.string ⟨xs[k].name.toArray⟩)/\w.cell? ⟨b,off+k * 2+1,none⟩=some (.slice pa xs[k].paths.length pc)/\ao w ok xs[k].paths (.slice pa xs[k].paths.length pc):=by
 rcases h.2 with⟨e,_⟩ | ⟨b,off,c',e,h1,h2,h3⟩
 ·rw[e]at hk;simp at hk
 ·simp only[Value.slice.injEq]at e;obtain⟨rfl,-,rfl⟩:=e;obtain⟨a,n,c',g1,g2,g3,g4,g5⟩:=h3 k xs[k] (Mw hk);obtain⟨a9,c9,e9⟩:=g5.form;simp only[Value.slice.injEq]at e9;obtain⟨rfl,rfl,rfl⟩:=e9;exact⟨b,off,a,c',rfl,g2,h1,h2,g3,g4,g5⟩
theorem xY{xs a}(h:ao w ok xs (.slice a n c))(hk:k < xs.length):∃ b off,a=some ⟨b,off,none⟩/\ok b/\xs.length<=c/\c<=9223372036854775807/\w.cell? ⟨b,off+k,none⟩=some (.string ⟨xs[k].toArray⟩):=by
 rcases h.2 with⟨e,_⟩ | ⟨b,off,c',e,h1,h2,h3⟩
 ·rw[e]at hk;simp at hk
 ·simp only[Value.slice.injEq]at e;obtain⟨rfl,-,rfl⟩:=e;obtain⟨g1,g2,g3⟩:=h3 k xs[k] (Mw hk);exact⟨b,off,rfl,g2,h1,h2,g3⟩
theorem nW(w0 w ok l v g)(lb:Array Value)(I:List (Lz × Lz)->(Nat->Prop)->LC->Prop)(F)(eg:∀ args w,(callFunc g args).run prog w=.ok (.enter g args) w)(hs:Sh w0 g lb l ok v I)(h0:I [] F w):Calls prog 53 #[v,.func (.func g) #[] lb] w fun e w'=>e=.returned (.tuple #[])/\I (bA l) F w':=by
 have h:=hs.owns;obtain⟨a,c,rfl⟩:=h.form;have HS:=aa hs;have ll:=h.1;unfold maxLen at ll;have H0:=aa h0;clear hs h h0;go_enter func53,ntmps53;go_wp2
 go_loopg [10] l.length (fun gk i wr=>∃ k:Nat,k<=l.length/\gk=l.length - k/\i=.int .i64 k/\Ll (I (bA (l.take k)) F wr))
 case atStart=>exact⟨0,Nat.zero_le _,rfl,rfl,H0⟩
 case round=>
  obtain⟨k,hk,hgk,rfl,IK⟩:=hrel;have GK:=aa hgk;clear hgk;obtain⟨wo,hwo⟩:∃ wo,wo=wr:=⟨wr,rfl⟩
  subst hwo;by_cases hlt:k < l.length
  ·obtain⟨b,off,pa,pc,rfl,okb,j1,j2,k1,k2,k3⟩:=uP HS.o.owns hlt;replace k1:=HS.o.cells _ _ _ IK.o _ _ okb k1;replace k2:=HS.o.cells _ _ _ IK.o _ _ okb k2;have w2:(k:Int) < (l.length:Int):=by omega
   have w3:(0:Int)<=(k:Int):=by omega
   have AS:=aa (lz hlt);have PRE:Ll (∀ j (hj:j < l[k].paths.length),bA (l.take k)++(l[k].paths.take j).map (fun p=>(l[k].name,p))++[(l[k].name,l[k].paths[j])] <+: bA l):=fun j hj=>Bw hlt hj;have pl:=k3.1;unfold maxLen at pl;obtain⟨o,ho⟩:∃ o,l[k]=o:=⟨_,rfl⟩
   rw[ho]at k1 k2 k3 AS pl;have PRE2:Ll (∀ j (hj:j < o.paths.length),bA (l.take k)++(o.paths.take j).map (fun p=>(o.name,p))++[(o.name,o.paths[j])] <+: bA l):=aa (by subst ho;exact PRE.o);clear PRE;clear ho;obtain⟨W5,hW5⟩:∃ W,W=wo.alloc (.cells #[.string ⟨o.name.toArray⟩,.slice pa o.paths.length pc] 47):=⟨_,rfl⟩
   have BX:Ll (W5.heap[wo.heap.size]?=some (.cells #[.string ⟨o.name.toArray⟩,.slice pa o.paths.length pc] 47)):=aa (by rw[hW5];exact MN _ _);have I5:Ll (I (bA (l.take k)) (fun k=>F k\/k=wo.heap.size) W5):=aa (by rw[hW5];exact HS.o.alloc _ _ _ _ IK.o);have HW5:=aa hW5;clear hW5;have K3:=aa k3;go_upto_region 3 with fail
   rw[<-HW5.o];clear k1 k2 k3;obtain⟨q0,q1⟩:=rl BX.o;go_upto_region 4 with fail
   clear q0 q1;go_loopg [17] o.paths.length (fun gj i wr=>∃ j:Nat,j<=o.paths.length/\gj=o.paths.length - j/\i=.int .i64 j/\Ll (I (bA (l.take k)++(o.paths.take j).map fun p=>(o.name,p)) (fun k=>F k\/k=wo.heap.size) wr/\wr.heap[wo.heap.size]?=some (.cells #[.string ⟨o.name.toArray⟩,.slice pa o.paths.length pc] 47)))
   case atStart=>exact⟨0,Nat.zero_le _,rfl,rfl,aa ⟨by simpa using I5.o,BX.o⟩⟩
   case round=>
    obtain⟨j,hj,hgj,rfl,J⟩:=hrel;have GJ:=aa hgj;clear hgj;by_cases hlj:j < o.paths.length
    ·obtain⟨pb,po,rfl,okp,m1,m2,m3⟩:=xY K3.o hlj;replace m3:=HS.o.cells _ _ _ J.o.1 _ _ okp m3;obtain⟨q0,q1⟩:=rl J.o.2;have x2:(j:Int) < (o.paths.length:Int):=by omega
     have x3:(0:Int)<=(j:Int):=by omega
     have CALL:=aa (HS.o.step _ _ wr o.name o.paths[j] J.o.1 (PRE2.o j hlj));have BL:Ll (wo.heap.size < wr.heap.size):=aa (MF.1 J.o.2).1;have TK:Ll ((o.paths.take (j+1)).map (fun p=>(o.name,p))=(o.paths.take j).map (fun p=>(o.name,p))++[(o.name,o.paths[j])]):=aa (by rw[List.take_succ_eq_append_getElem hlj,List.map_append];rfl);go_wp2_with (go_at_fn g;refine CALL.o.mono ?_;rintro e w7 ⟨rfl,hi7,hs7,hk7⟩;have I7:=aa hi7;have K7:=aa (hk7 wo.heap.size (.inr rfl) BL.o);clear hi7 hs7 hk7)
     go_roundg (o.paths.length - (j+1))
     case measure=>rw[GJ.o];omega
     case rel=>exact⟨j+1,hlj,rfl,by go_num,aa ⟨by rw[TK.o,<-List.append_assoc];exact I7.o,K7.o.trans J.o.2⟩⟩
    ·have y1:¬(j:Int) < (o.paths.length:Int):=by omega
     have IE:Ll (I (bA (l.take (k+1))) F wr):=aa (by
      rw[AS.o];have:=J.o.1;rw[show o.paths.take j=o.paths from MD (by omega)]at this;exact HS.o.low _ _ _ _ this fun k hk=>Or.inl hk)
     clear J;go_wp2
     go_roundg (l.length - (k+1))
     case measure=>rw[GK.o];omega
     case rel=>exact⟨k+1,hlt,rfl,by go_num,IE⟩
  ·have d1:¬(k:Int) < (l.length:Int):=by omega
   have IE:Ll (I (bA l) F wo):=aa (by have:=IK.o;rwa [MD (by omega)]at this);clear IK;go_wp2
   go_end0
   exact⟨rfl,IE.o⟩
section
open Go.ChangeShapes Go.WideShapes Go.ChangeAt Go.RowKit
theorem tl:Tryz.prog.cellsOf 47=2:=by kernel_rfl
theorem RS:Tryz.prog.readableRec 26=true:=by kernel_rfl
theorem Tx:26 < Tryz.prog.types.size:=of_decide_eq_true (by kernel_rfl)
def TR (o:aL):Nat:=(o.paths.map fun x=>x.length+1).sum+1
theorem D5{l:List Nat}{n:Nat}(h:n∈l):n<=l.sum:=by
 induction l with
 | nil=>cases h
 | cons x r ih=>
  rw[List.sum_cons];rcases List.mem_cons.1 h with rfl | e
  ·omega
  ·have:=ih e;omega
theorem Tg(l:List (List UInt8)):l.length<=(l.map fun x=>x.length+1).sum:=by
 induction l with
 | nil=>simp
 | cons x r ih=>simp only[List.map_cons,List.sum_cons,My];omega
theorem O6(l:List aL):(bA l).length<=(l.map TR).sum:=by
 induction l with
 | nil=>simp[bA]
 | cons o r ih=>
  have h:o.paths.length<=(o.paths.map fun x=>x.length+1).sum:=Tg o.paths;have h3:TR o=(o.paths.map fun x=>x.length+1).sum+1:=rfl;unfold bA at ih ⊢;simp only[List.flatMap_cons,Mx,List.length_map,List.map_cons,List.sum_cons];omega
theorem NO:∀ (l:List aL),l.length<=(l.map TR).sum
 | []=>MG _
 | o :: r=>by
  have h:=NO r;have h3:TR o=(o.paths.map fun x=>x.length+1).sum+1:=rfl;simp only[List.map_cons,List.sum_cons,My];omega
theorem Sx{l:List aL}{o:aL}{x:List UInt8}(ho:o∈l)(hx:x∈o.paths):x.length<=(l.map TR).sum:=by
 have h1:TR o<=(l.map TR).sum:=D5 (List.mem_map.2 ⟨o,ho,rfl⟩);have h2:x.length+1<=(o.paths.map fun x=>x.length+1).sum:=D5 (List.mem_map.2 ⟨x,hx,rfl⟩);have h3:TR o=(o.paths.map fun x=>x.length+1).sum+1:=rfl;omega
theorem Tu{H:Type}{enc:TypeId × Value->H}{W:World}(fuel:Nat)(cs:List Value)(x:DataW H × List MemPlace)(h:DataW.trod enc Tryz.prog W 0 (fun _=>true) true fuel 47 cs=some x):∃ o a n c,cs=[aR o.name,.slice a n c]/\o.name.length<=maxLen/\ao W (fun _=>True) o.paths (.slice a n c)/\TR o<=Rows.uptoBulk x.1:=by
 obtain⟨xs,n,e,hx,hl,LT,hf⟩:=DataW.trod_struct Tryz.underlying47 h;rw[tl]at hl;match cs,hl,xs,LT with
 | [v0,v1],_,[y0,y1],_=>
  have g0:DataW.trod enc Tryz.prog W 0 (fun _=>true) true n 9 [v0]=some y0:=by simpa [db] using hf 0 _ rfl
  have g1:DataW.trod enc Tryz.prog W 0 (fun _=>true) true n 22 [v1]=some y1:=by simpa [db,x6] using hf 1 _ rfl
  obtain⟨s1,e1,f1,hs1⟩:=DataW.trod_string Tryz.underlying9 g0;obtain⟨ks,hks,hb⟩:=N4 g1;obtain⟨a,c,rfl⟩:=hks.form;simp only[List.cons.injEq,and_true]at e1;subst e1;refine⟨⟨s1.data.toList,ks⟩,a,_,c,by unfold aR;simp,by rw[Array.length_toList];exact hs1,hks,?_⟩;rw[hx];simp only[List.map_cons,List.map_nil,Rows.uptoBulk,Rows.uptoBulkAll];have hs:TR ⟨s1.data.toList,ks⟩=(ks.map fun x=>x.length+1).sum+1:=rfl;omega
theorem wB{H:Type}:∀ (l:List aL) (es:List (DataW H)),l.length=es.length->(∀ (i:Nat) (x:aL) (e:DataW H),l[i]?=some x->es[i]?=some e->TR x<=Rows.uptoBulk e)->(l.map TR).sum<=Rows.uptoBulkAll es
 | [],es,_,_=>by simp
 | x :: l,[],h,_=>by simp at h
 | x :: l,e :: es,h,hh=>by
  have h1:=hh 0 x e rfl rfl;have h2:=wB l es (by simpa using h) fun i y f hy hf=>hh (i+1) y f (by simpa using hy) (by simpa using hf);simp only[List.map_cons,List.sum_cons,Rows.uptoBulkAll];omega
theorem Sn{H:Type}{enc:TypeId × Value->H}{W:World}{base:Nat}{v:Value}{d:DataW H}{p:List MemPlace}(hk:Value.okWide Tryz.prog W .any base 26 v)(h:DataW.Trod enc Tryz.prog W 0 (fun _=>true) true 26 v d p):∃ os,aB W (fun _=>True) os v/\(os.map TR).sum<=Rows.uptoBulk d:=by
 obtain⟨a0,len0,cap0,rfl⟩:=okWide_slice Tryz.underlying26 hk;obtain⟨f,hf⟩:=h;have hf':DataW.trod enc Tryz.prog W 0 (fun _=>true) true f 26 [.slice a0 len0 cap0]=some (d,p):=hf;rcases DataW.trod_slice Tryz.underlying26 hf' with⟨e,-⟩ | ⟨a,len,cap,elems,rest,k,ek,e,hx,-,hl,hm,LT,hel,hsp,-⟩
 ·simp only[List.cons.injEq,and_true]at e;exact⟨[],⟨by simp,.inl ⟨rfl,none,e⟩⟩,by simp⟩
 ·simp only[List.cons.injEq,and_true]at e;simp only[Prod.mk.injEq]at hx;rw[tl]at hel hsp;obtain⟨hrl,hrest⟩:=hsp rfl;have all:∀ i,i < len->∃ cs' y,W.cells? 0 (a.add (i * 2)) 2=some cs'/\DataW.trod enc Tryz.prog W 0 (fun _=>true) true k 47 cs'=some y/\elems[i]?=some y:=by
   intro i hi;have:=hel i hi;rw[Mw (by omega)]at this;obtain⟨cs',h1,h2⟩:=Option.bind_eq_some_iff.1 this;exact⟨cs',_,h1,h2,Mw (by omega)⟩
  by_cases h0:len=0
  ·subst h0;by_cases hc0:cap=0
   ·subst hc0;exact⟨[],⟨by simp,.inl ⟨rfl,some a,e⟩⟩,by simp⟩
   ·have ha:a=⟨a.block,a.off,none⟩:=by
     have:=hrest 0 (by omega);rw[Mw (by omega)]at this;obtain⟨cs',h1,-⟩:=Option.bind_eq_some_iff.1 this;obtain⟨-,h2,h3⟩:=World.cells?_some h1;have:=h3 0 (by omega);rw[Mw (by omega)]at this;exact qv (sg (v:=cs'[0]) (by simpa [Addr.add] using this))
    exact⟨[],⟨by simp,.inr ⟨a.block,a.off,cap,by rw[<-ha];exact e,by simp,hm,fun i o ho=>by simp at ho⟩⟩,by simp⟩
  ·have ha:a=⟨a.block,a.off,none⟩:=by
    obtain⟨cs',y,h1,-⟩:=all 0 (by omega);obtain⟨-,h2,h3⟩:=World.cells?_some h1;have:=h3 0 (by omega);rw[Mw (by omega)]at this;exact qv (sg (v:=cs'[0]) (by simpa [Addr.add] using this))
   obtain⟨T,hT⟩:=@Go.Deep.choose_lt aL ⟨⟨[],[]⟩⟩ len (fun i o=>∃ a1 n1 c1 y,W.cells? 0 (a.add (i * 2)) 2=some [aR o.name,.slice a1 n1 c1]/\o.name.length<=maxLen/\ao W (fun _=>True) o.paths (.slice a1 n1 c1)/\elems[i]?=some y/\TR o<=Rows.uptoBulk y.1) (fun i hi=>by
    obtain⟨cs',y,h1,h2,h3⟩:=all i hi;obtain⟨o,a1,n1,c1,rfl,hn,hs,hb⟩:=Tu k cs' y h2;exact⟨o,a1,n1,c1,y,h1,hn,hs,h3,hb⟩)
   refine⟨(List.range len).map T,⟨by simp only[List.length_map,List.length_range];omega,.inr ⟨a.block,a.off,cap,by simp only[List.length_map,List.length_range];rw[<-ha];exact e,by simp only[List.length_map,List.length_range];omega,hm,fun i o ho=>?_⟩⟩,?_⟩
   ·simp only[List.getElem?_map,Option.map_eq_some_iff]at ho;obtain⟨j,hj,rfl⟩:=ho;obtain⟨hj1,hj2⟩:=Mz.1 hj;simp only[List.length_range]at hj1;simp only[List.getElem_range]at hj2;subst hj2;obtain⟨a1,n1,c1,y,h1,hn,hs,-,-⟩:=hT i hj1;obtain⟨-,-,h3⟩:=World.cells?_some h1;rw[ha]at h3;have c:∀ q,q < 2->W.cell? ⟨a.block,a.off+i * 2+q,none⟩=[aR (T i).name,.slice a1 n1 c1][q]?:=by
     intro q hq;have:=h3 q hq;rw[eh,eh]at this;exact this
    exact⟨a1,n1,c1,hn,trivial,c 0 (by omega),c 1 (by omega),hs⟩
   ·have hb:(((List.range len).map T).map TR).sum<=Rows.uptoBulkAll (elems.map (·.1)):=by
     refine wB _ _ (by simp[LT]) fun i x f hx hf=>?_;simp only[List.getElem?_map,Option.map_eq_some_iff]at hx hf;obtain⟨j,hj,rfl⟩:=hx;obtain⟨hj1,hj2⟩:=Mz.1 hj;simp only[List.length_range]at hj1;simp only[List.getElem_range]at hj2;subst hj2;obtain⟨y',hy',rfl⟩:=hf;obtain⟨a1,n1,c1,y,-,-,-,h3,h4⟩:=hT i hj1;rw[hy']at h3;cases h3;exact h4
    rw[hx.1];simp only[Rows.uptoBulk];omega
end
section
open Go.ChangeShapes Go.WideShapes Go.ChangeAt Go.RowKit
def F9:List (String × DataW Unit):=[("math/bits.deBruijn32tab",Rows.laid_math_bits_deBruijn32tab),("math/bits.deBruijn64tab",Rows.laid_math_bits_deBruijn64tab),("internal/strconv.uint64pow10",Rows.laid_internal_strconv_uint64pow10),("unicode/utf8.acceptRanges",Rows.laid_unicode_utf8_acceptRanges),("strconv.ErrRange",Rows.laid_strconv_ErrRange),("strconv.ErrSyntax",Rows.laid_strconv_ErrSyntax),("unicode/utf8.first",Rows.laid_unicode_utf8_first)]
theorem Th{W:World}(h:laidMet Tryz.prog F9 W):cn W:=by
 have h3:=h.tail.tail;have h4:=h3.tail.tail;have h5:=h4.tail;rw[Hu]at h3;have hp:=Lib.tabIs_of_head J3 Fp Tryz.underlying188 Tryz.underlying132 VF Ej h3;obtain⟨a1,s1,hv1,-,-,-⟩:=laid_sentinel h4 Gp za Tryz.underlying117 Fg Tryz.underlying184 Tryz.underlying186 rfl rfl Tryz.underlying9 rH db;obtain⟨a2,s2,hv2,-,-,-⟩:=laid_sentinel h5 Ax vR Tryz.underlying117 Fg Tryz.underlying184 Tryz.underlying186 rfl rfl Tryz.underlying9 rH db;obtain⟨t1,f1,e1⟩:=kQ Gp hv1;obtain⟨t2,f2,e2⟩:=kQ Ax hv2;obtain⟨t3,f3,e3⟩:=kQ J3 hp;exact⟨⟨_,_,t2,f2,e2⟩,⟨_,_,t1,f1,e1⟩,t3,f3,e3⟩
noncomputable def yd (os:Os):World:=
 let w0:=World.holding Tryz.prog os ⟨#[.cells #[Aw Rows.laid_strconv_ErrRange] 186,.cells #[Aw Rows.laid_strconv_ErrSyntax] 186],#[],[]⟩
 { w0 with heap:=nF (nF (nF (nF (nF (nF (nF w0.heap 6 (pu Rows.laid_math_bits_deBruijn32tab)) 7 (pu Rows.laid_math_bits_deBruijn64tab)) 3 (pu Rows.laid_internal_strconv_uint64pow10))
  5 (sE Rows.laid_unicode_utf8_acceptRanges)) 2 #[.iface 184 (.pointer (some ⟨low,0,none⟩))]) 1 #[.iface 184 (.pointer (some ⟨low+1,0,none⟩))]) 4 (sE Rows.laid_unicode_utf8_first) }
theorem Tr(os:Os)(args:Array Value):laidMet Tryz.prog F9 ((yd os).forCall (fun _ _=>0) ⟨#[],args,[]⟩).memory:=
 laidMet_of_run' 8 (by kernel_rfl) (by kernel_rfl)
end
def L5 (d:Nat):Prop:=∀ (w:LC) (ok ok':Nat->Prop) (a b:V) (va vb:Value),bu w ok d a va->bu w ok' d b vb ->
 Calls prog 9 #[va,vb] w fun e w'=>e=.returned (.bool (TQ d a b))/\La w w'
theorem KC(d:Nat)(ih:L5 d):L5 (d+1):=by
 intro w ok ok' a b va vb ha hb;obtain⟨a1,a2,c1,c2,rfl⟩:=ha.shape;obtain⟨b1,b2,d1,d2,rfl⟩:=hb.shape;have IH:=aa ih;have lA:a.keys.length<=maxLen/\a.l.length<=maxLen:=by obtain⟨ks,ls,e,h1,h2,h3,h4,h5⟩:=ha;exact⟨h4.1,h5.1⟩
 have lB:b.keys.length<=maxLen/\b.l.length<=maxLen:=by obtain⟨ks,ls,e,h1,h2,h3,h4,h5⟩:=hb;exact⟨h4.1,h5.1⟩
 unfold maxLen at lA lB;obtain⟨lA1,lA2⟩:=lA;obtain⟨lB1,lB2⟩:=lB;have HA:=aa ha;have HB:=aa hb;clear ha hb ih;by_cases hk:¬(a.kind=b.kind)
 ·have F:Ll (TQ (d+1) a b=false):=aa (by simp[TQ,hk]);have Ehk:(a.kind == b.kind)=false:=by rw[MO];exact hk
  have Nhk:(a.kind != b.kind)=true:=by simp[bne,Ehk]
  go_enter func9,ntmps9;go_wp2
  all_goals
   go_ret;rw[F.o];exact⟨rfl,ab (ae _ _) (ae _ _)⟩
 rw[Decidable.not_not]at hk;by_cases hn:¬(a.n=b.n)
 ·have F:Ll (TQ (d+1) a b=false):=aa (by simp[TQ,hn]);have Ehk:(a.kind == b.kind)=true:=by rw[beq_iff_eq];exact hk
  have Ehn:(a.n == b.n)=false:=by rw[MO];exact hn
  have Nhn:(a.n != b.n)=true:=by simp[bne,Ehn]
  clear hk;go_enter func9,ntmps9;go_wp2
  all_goals
   go_ret;rw[F.o];exact⟨rfl,ab (ae _ _) (ae _ _)⟩
 rw[Decidable.not_not]at hn;by_cases hs:¬(a.s=b.s)
 ·have F:Ll (TQ (d+1) a b=false):=aa (by simp[TQ,hs]);have Ehk:(a.kind == b.kind)=true:=by rw[beq_iff_eq];exact hk
  have Ehn:(a.n == b.n)=true:=by rw[beq_iff_eq];exact hn
  have Ehs:(ByteArray.mk a.s.toArray == ByteArray.mk b.s.toArray)=false:=Aq (by simpa using hs);have Nhs:(ByteArray.mk a.s.toArray != ByteArray.mk b.s.toArray)=true:=by simp[bne,Ehs]
  clear hk hn;go_enter func9,ntmps9;go_wp2
  all_goals
   go_ret;rw[F.o];exact⟨rfl,ab (ae _ _) (ae _ _)⟩
 rw[Decidable.not_not]at hs;by_cases hkl:¬(a.keys.length=b.keys.length)
 ·have hkx:a.keys≠b.keys:=fun e=>hkl (by rw[e]);have F:Ll (TQ (d+1) a b=false):=aa (by simp[TQ,hkx]);have Ehk:(a.kind == b.kind)=true:=by rw[beq_iff_eq];exact hk
  have Ehn:(a.n == b.n)=true:=by rw[beq_iff_eq];exact hn
  have Ehs:(ByteArray.mk a.s.toArray == ByteArray.mk b.s.toArray)=true:=zN (by simpa using hs);have Ehkl:((a.keys.length:Int) == (b.keys.length:Int))=false:=by rw[MO];omega
  have Nhkl:((a.keys.length:Int) != (b.keys.length:Int))=true:=by simp only[bne,Ehkl,Bool.not_false]
  clear hkx;clear hk hn hs;go_enter func9,ntmps9;go_wp2
  all_goals
   go_ret;rw[F.o];exact⟨rfl,ab (ae _ _) (ae _ _)⟩
 rw[Decidable.not_not]at hkl;by_cases hll:¬(a.l.length=b.l.length)
 ·have F:Ll (TQ (d+1) a b=false):=aa (by simp[TQ,hll]);have Ehk:(a.kind == b.kind)=true:=by rw[beq_iff_eq];exact hk
  have Ehn:(a.n == b.n)=true:=by rw[beq_iff_eq];exact hn
  have Ehs:(ByteArray.mk a.s.toArray == ByteArray.mk b.s.toArray)=true:=zN (by simpa using hs);have Ehkl:((a.keys.length:Int) == (b.keys.length:Int))=true:=by rw[beq_iff_eq];omega
  have Ehll:((a.l.length:Int) == (b.l.length:Int))=false:=by rw[MO];omega
  have Nhll:((a.l.length:Int) != (b.l.length:Int))=true:=by simp only[bne,Ehll,Bool.not_false]
  clear hk hn hs hkl;go_enter func9,ntmps9;go_wp2
  all_goals
   go_ret;rw[F.o];exact⟨rfl,ab (ae _ _) (ae _ _)⟩
 rw[Decidable.not_not]at hll;have FS:Ll (TQ (d+1) a b=(decide (a.keys=b.keys)&&n8 (TQ d) a.l b.l)):=aa (by simp[TQ,hk,hn,hs,hll]);have HKL:=aa hkl;have HLL:=aa hll;rw[<-hk,<-hn,<-hs,<-hkl,<-hll]at HB ⊢;have es:(ByteArray.mk a.s.toArray == ByteArray.mk a.s.toArray)=true:=zN rfl;have I0:Ll (ru w ((w.alloc (.cells #[.int .i64 a.kind,.int .i64 a.n,.string ⟨a.s.toArray⟩,.slice a1 a.keys.length c1,.slice a2 a.l.length c2] 25)).alloc (.cells #[.int .i64 a.kind,.int .i64 a.n,.string ⟨a.s.toArray⟩,.slice b1 a.keys.length d1,.slice b2 a.l.length d2] 25)) ok ok' (d+1) a b a.kind a.n a.s a.keys.length a.l.length a1 a2 b1 b2 c1 c2 d1 d2):=
  ⟨fb w _ _,et w _ _,HA.o.bel (ab (ae _ _) (ae _ _)),HB.o.bel (ab (ae _ _) (ae _ _)),ab (ae _ _) (ae _ _)⟩
 clear hk hn hs hkl hll;go_enter func9,ntmps9;go_wp2
 go_loopg [47] a.keys.length (fun gk i wr=>∃ (k:Nat),k<=a.keys.length/\gk=a.keys.length - k/\i=.int .i64 k/\(∀ j,j < k->a.keys[j]?=b.keys[j]?)/\ru w wr ok ok' (d+1) a b a.kind a.n a.s a.keys.length a.l.length a1 a2 b1 b2 c1 c2 d1 d2)
 case atStart=>exact⟨0,Nat.zero_le _,rfl,rfl,fun j hj=>absurd hj (by omega),I0.o⟩
 case round=>
  obtain⟨k,hk,hgk,rfl,Mc,hI⟩:=hrel;have A:=aa (And.intro Mc hI);obtain⟨x0,x1,x2,x3,x4,-⟩:=hI.1.c;obtain⟨y0,y1,y2,y3,y4,-⟩:=hI.2.1.c;clear Mc;by_cases hlt:k < a.keys.length
  ·have hlt2:k < b.keys.length:=by rw[<-HKL.o];exact hlt
   obtain⟨g1,o1,rfl,z1,z2,z3⟩:∃ g1 o1,a1=some ⟨g1,o1,none⟩/\a.keys.length<=c1/\c1<=maxLen/\wr.cell? ⟨g1,o1+k,none⟩=some (.string ⟨a.keys[k].toArray⟩):=by
    obtain⟨ks,ls,e,-,-,-,h4,-⟩:=hI.2.2.1;simp only[Value.agg.injEq,Array.mk.injEq,List.cons.injEq,and_true]at e;obtain⟨-,-,-,rfl,-⟩:=e;exact gQ h4 hlt
   obtain⟨g2,o2,rfl,z4,z5,z6⟩:∃ g2 o2,b1=some ⟨g2,o2,none⟩/\b.keys.length<=d1/\d1<=maxLen/\wr.cell? ⟨g2,o2+k,none⟩=some (.string ⟨b.keys[k].toArray⟩):=by
    obtain⟨ks,ls,e,-,-,-,h4,-⟩:=hI.2.2.2.1;simp only[Value.agg.injEq,Array.mk.injEq,List.cons.injEq,and_true]at e;obtain⟨-,-,-,rfl,-⟩:=e;exact gQ h4 hlt2
   unfold maxLen at z2 z5;clear hI;by_cases hq:a.keys[k]=b.keys[k]
   ·rw[<-hq]at z6;have q1:(ByteArray.mk a.keys[k].toArray == ByteArray.mk a.keys[k].toArray)=true:=zN rfl;have HQ:=aa hq;clear hq;go_wp2
    go_quiet (fail)
    go_wp2
    go_roundg (a.keys.length - (k+1))
    case measure=>omega
    case rel=>
     refine⟨k+1,hlt,rfl,by go_num,?_,A.o.2.drewN _⟩;intro j hj;by_cases hjk:j < k
     ·exact A.o.1 j hjk
     ·have:j=k:=by omega
      subst this;rw[Mw hlt,Mw hlt2,HQ.o]
   ·have q1:(ByteArray.mk a.keys[k].toArray == ByteArray.mk b.keys[k].toArray)=false:=Aq (by simpa using hq);have q2:(a.keys[k] == b.keys[k])=false:=by rw[MO];exact hq
    have HQ:=aa hq;clear hq;go_wp2
    go_quiet (fail)
    go_wp2
    go_ret;refine⟨?_,(A.o.2.drewN _).2.2.2.2⟩;have hne:a.keys≠b.keys:=by
     intro e;apply HQ.o;have:=congrArg (fun l=>l[k]?) e;simp only[Mw hlt,Mw hlt2,Option.some.injEq]at this;exact this
    rw[FS.o];simp[hne]
  ·have Mc:Ll (a.keys=b.keys):=aa (by
    apply List.ext_getElem?;intro j;by_cases hj:j < k
    ·exact A.o.1 j hj
    ·have h1:a.keys.length<=j:=by omega
     rw[List.getElem?_eq_none h1,List.getElem?_eq_none (by rw[<-HKL.o];exact h1)])
   have AI:=aa A.o.2;clear hI A;obtain⟨x0,x1,x2,x3,x4,-⟩:=AI.o.1.c;obtain⟨y0,y1,y2,y3,y4,-⟩:=AI.o.2.1.c;go_wp2
   go_loopg [65] a.l.length (fun gk i wr=>∃ (k:Nat),k<=a.l.length/\gk=a.l.length - k/\i=.int .i64 k/\(∀ (j:Nat) (x y:V),j < k->a.l[j]?=some x->b.l[j]?=some y->TQ d x y=true)/\ru w wr ok ok' (d+1) a b a.kind a.n a.s a.keys.length a.l.length a1 a2 b1 b2 c1 c2 d1 d2)
   case atStart=>exact⟨0,Nat.zero_le _,rfl,rfl,fun j x y hj=>absurd hj (by omega),AI.o⟩
   case round=>
    obtain⟨k',hk',hgk',rfl,hall,hI⟩:=hrel;have A:=aa (And.intro hall hI);clear hall;by_cases hlt':k' < a.l.length
    ·have hltb:k' < b.l.length:=by rw[<-HLL.o];exact hlt'
     obtain⟨g1,o1,rfl,z1,z2,a5,c5,a6,c6,p0,p1,p2,p3,p4,p5⟩:∃ g1 o1,a2=some ⟨g1,o1,none⟩/\a.l.length<=c2/\c2<=maxLen/\_:=by
      obtain⟨ks,ls,e,-,-,-,-,h5⟩:=hI.2.2.1;simp only[Value.agg.injEq,Array.mk.injEq,List.cons.injEq,and_true]at e;obtain⟨-,-,-,-,rfl⟩:=e;exact fz h5 hlt'
     obtain⟨g2,o2,rfl,z4,z5,a5',c5',a6',c6',q0,q1,q2,q3,q4,q5⟩:∃ g2 o2,b2=some ⟨g2,o2,none⟩/\b.l.length<=d2/\d2<=maxLen/\_:=by
      obtain⟨ks,ls,e,-,-,-,-,h5⟩:=hI.2.2.2.1;simp only[Value.agg.injEq,Array.mk.injEq,List.cons.injEq,and_true]at e;obtain⟨-,-,-,-,rfl⟩:=e;exact fz h5 hltb
     unfold maxLen at z2 z5;have x4:=hI.1.c.2.2.2.2.1;have y4:=hI.2.1.c.2.2.2.2.1;have CALL:Ll (∀ w',La wr w'->Calls prog 9 #[.agg #[.int .i64 a.l[k'].kind,.int .i64 a.l[k'].n,.string ⟨a.l[k'].s.toArray⟩,.slice a5 a.l[k'].keys.length c5,.slice a6 a.l[k'].l.length c6],.agg #[.int .i64 b.l[k'].kind,.int .i64 b.l[k'].n,.string ⟨b.l[k'].s.toArray⟩,.slice a5' b.l[k'].keys.length c5',.slice a6' b.l[k'].l.length c6']] w' fun e w3=>e=.returned (.bool (TQ d a.l[k'] b.l[k']))/\La wr w3 /\
      w3.cell? ⟨w.heap.size,4,none⟩=some (.slice (some ⟨g1,o1,none⟩) a.l.length c2)/\w3.cell? ⟨w.heap.size+1,4,none⟩=some (.slice (some ⟨g2,o2,none⟩) a.l.length d2) /\
      w3.cell? ⟨g1,o1+k' * 5,none⟩=some (.int .i64 a.l[k'].kind)/\w3.cell? ⟨g1,o1+k' * 5+1,none⟩=some (.int .i64 a.l[k'].n)/\w3.cell? ⟨g1,o1+k' * 5+2,none⟩=some (.string ⟨a.l[k'].s.toArray⟩)/\w3.cell? ⟨g1,o1+k' * 5+3,none⟩=some (.slice a5 a.l[k'].keys.length c5)/\w3.cell? ⟨g1,o1+k' * 5+4,none⟩=some (.slice a6 a.l[k'].l.length c6) /\
      w3.cell? ⟨g2,o2+k' * 5,none⟩=some (.int .i64 b.l[k'].kind)/\w3.cell? ⟨g2,o2+k' * 5+1,none⟩=some (.int .i64 b.l[k'].n)/\w3.cell? ⟨g2,o2+k' * 5+2,none⟩=some (.string ⟨b.l[k'].s.toArray⟩)/\w3.cell? ⟨g2,o2+k' * 5+3,none⟩=some (.slice a5' b.l[k'].keys.length c5')/\w3.cell? ⟨g2,o2+k' * 5+4,none⟩=some (.slice a6' b.l[k'].l.length c6')):=by
      intro w' hb';refine Lk (IH.o w' ok ok' a.l[k'] b.l[k'] _ _ (p5.bel hb') (q5.bel hb')) fun w3 hb3=>?_;have hb4:=ab hb' hb3;exact⟨rfl,hb4,ah hb4 x4,ah hb4 y4,ah hb4 p0,ah hb4 p1,ah hb4 p2,ah hb4 p3,ah hb4 p4,ah hb4 q0,ah hb4 q1,ah hb4 q2,ah hb4 q3,ah hb4 q4⟩
     clear hI p5 q5;go_wp2
     go_region_held3 (fun w3=>w3.cell? ⟨w.heap.size,4,none⟩=some (.slice (some ⟨g1,o1,none⟩) a.l.length c2)/\w3.cell? ⟨w.heap.size+1,4,none⟩=some (.slice (some ⟨g2,o2,none⟩) a.l.length d2) /\
      w3.cell? ⟨g1,o1+k' * 5,none⟩=some (.int .i64 a.l[k'].kind)/\w3.cell? ⟨g1,o1+k' * 5+1,none⟩=some (.int .i64 a.l[k'].n)/\w3.cell? ⟨g1,o1+k' * 5+2,none⟩=some (.string ⟨a.l[k'].s.toArray⟩)/\w3.cell? ⟨g1,o1+k' * 5+3,none⟩=some (.slice a5 a.l[k'].keys.length c5)/\w3.cell? ⟨g1,o1+k' * 5+4,none⟩=some (.slice a6 a.l[k'].l.length c6) /\
      w3.cell? ⟨g2,o2+k' * 5,none⟩=some (.int .i64 b.l[k'].kind)/\w3.cell? ⟨g2,o2+k' * 5+1,none⟩=some (.int .i64 b.l[k'].n)/\w3.cell? ⟨g2,o2+k' * 5+2,none⟩=some (.string ⟨b.l[k'].s.toArray⟩)/\w3.cell? ⟨g2,o2+k' * 5+3,none⟩=some (.slice a5' b.l[k'].keys.length c5')/\w3.cell? ⟨g2,o2+k' * 5+4,none⟩=some (.slice a6' b.l[k'].l.length c6')) (go_keep)
      (first | (go_at_call 9;refine(CALL.o _ (by exact⟨rfl,rfl,rfl,MG _,fun _ _=>rfl⟩)).mono ?_;rintro e w3 ⟨rfl,hb3,s1,s2,s3,s4,s5,s6,s7,s8,s9,s10,s11,s12⟩))
     all_goals
      have A3:=aa (A.o.2.below hb3);clear s1 s2 s3 s4 s5 s6 s7 s8 s9 s10 s11 s12 hb3 p0 p1 p2 p3 p4 q0 q1 q2 q3 q4;cases hr:TQ d a.l[k'] b.l[k'] with
      | true=>
       have HR:=aa hr;clear hr;go_wp2
       go_roundg (a.l.length - (k'+1))
       case measure=>omega
       case rel=>
        refine⟨k'+1,hlt',rfl,by go_num,?_,A3.o⟩;intro j x y hj hx hy;by_cases hjk:j < k'
        ·exact A.o.1 j x y hjk hx hy
        ·have:j=k':=by omega
         subst this;rw[Mw hlt']at hx;rw[Mw hltb]at hy;cases hx;cases hy;exact HR.o
      | false=>
       have HR:=aa hr;clear hr;go_wp2
       go_ret;refine⟨?_,A3.o.2.2.2.2⟩;have hno:n8 (TQ d) a.l b.l=false:=by
        cases h9:n8 (TQ d) a.l b.l with
        | false=>rfl
        | true=>
         have:=(r9 _ _).1 h9 k' _ _ (Mw hlt') (Mw hltb);rw[HR.o]at this;cases this
       rw[FS.o,hno,Bool.and_false];rfl
    ·have A3:=aa A.o;clear hI A;go_wp2
     go_ret;refine⟨?_,A3.o.2.2.2.2.2⟩;have hyes:n8 (TQ d) a.l b.l=true:=(r9 _ _).2 fun j x y hx hy=>A3.o.1 j x y (by have:=(Mz.1 hx).1;omega) hx hy;rw[FS.o,hyes,Mc.o];simp
theorem OD(d:Nat):L5 d:=by
 induction d with
 | zero=>exact fun _ _ _ _ _ _ _ h=>h.elim
 | succ d ih=>exact KC d ih
theorem UA{f:V->V->Bool}:∀ (l m:List V),l.length=m.length->(∀ x∈l,∀ y,f x y=true↔x=y)->(n8 f l m=true↔l=m)
 | [],[],_,_=>by simp[n8]
 | [],_ :: _,h,_=>by simp at h
 | _ :: _,[],h,_=>by simp at h
 | x :: l,y :: m,h,hf=>by
  rw[n8,MJ,hf x (by simp) y,UA l m (by simpa using h) fun z hz=>hf z (by simp[hz]),List.cons.injEq]
theorem N3(d:Nat):∀ (a b:V),Jd d a->(TQ d a b=true↔a=b):=by
 induction d with
 | zero=>intro a b h;exact h.elim
 | succ d ih=>
  intro a b h;simp only[TQ,MJ,decide_eq_true_eq];constructor
  ·rintro⟨⟨⟨⟨⟨h1,h2⟩,h3⟩,h4⟩,h5⟩,h6⟩;have e:=(UA a.l b.l h5 fun x hx y=>ih x y (h x hx)).1 h6;rw[<-Ai a,<-Ai b,h1,h2,h3,h4,e]
  ·rintro rfl;exact⟨⟨⟨⟨⟨rfl,rfl⟩,rfl⟩,rfl⟩,rfl⟩,(UA a.l a.l rfl fun x hx y=>ih x y (h x hx)).2 rfl⟩
theorem DR:∀ (d:Nat) {t:V} {v:Value},bu w ok d t v->Jd d t
 | 0,_,_,h=>h.elim
 | d+1,t,v,h=>by
  obtain⟨ks,ls,e,h1,h2,h3,h4,h5⟩:=h;intro x hx;obtain⟨y,hy⟩:=D2 h5 hx;exact DR d hy
open Classical in
theorem Sk(w:LC)(ok ok':Nat->Prop)(a b:V)(va vb:Value)(ha:In w ok a va)(hb:In w ok' b vb):Calls prog 9 #[va,vb] w fun e w'=>e=.returned (.bool (decide (a=b)))/\La w w':=by
 obtain⟨d,ha⟩:=ha;obtain⟨d',hb⟩:=hb;have h1:=bu.le (show d<=d+d' by omega) ha;refine Lk (OD (d+d') w _ _ a b va vb h1 (bu.le (by omega) hb)) fun w' hb=>?_;refine⟨?_,hb⟩;congr 2
 rw[Bool.eq_iff_iff,N3 _ a b (DR _ h1)];simp
end Go.Proofs.YtbdlfclnkpofaaaGreatDoor
