import Derived.Test.YtgolnaencepejaaGreatDoorG6
import Derived.Test.YtgolnaencepejaaGreatDoorG7
set_option maxRecDepth 100000
set_option maxHeartbeats 40000000
set_option linter.unusedSimpArgs false
set_option linter.unusedVariables false
namespace Go.Proofs.YtgolnaencepejaaGreatDoor
open Go.RowKit
open _root_.Go.Proofs.Tryz
variable {w W:World}
variable {ok:Nat->Prop}
variable {v:Value}
variable {n c:Nat}
def En (gh gx:Nat) (how:V->Lz->Option V) (w0:LC) (base:Nat->Prop):Prop:=∀ (W:LC) (ok:Nat->Prop) (t:V) (v:Value) (s:Lz),La w0 W->(∀ k,base k->ok k/\k < w0.heap.size)->In W ok t v->dz t->s.length<=9223372036854775807 ->
 Calls prog 232 #[v,aR s,.pointer (some ⟨gh,0,none⟩),.pointer (some ⟨gx,0,none⟩)] W fun e w'=>∃ r b,e=.returned (.tuple #[r,.bool b])/\La W w'/\cZ w' (bQ ok W.heap.size) (how t s) r b
def Lq (hv:Value) (how:V->Lz->Option V) (w0:LC) (base:Nat->Prop) (ns:List Lz):Prop:=∀ (W:LC) (ok oks:Nat->Prop) (t:V) (v nv:Value),La w0 W->(∀ k,base k->ok k/\k < w0.heap.size)->In W ok t v->dz t->ao W oks ns nv ->
 Calls prog 234 #[v,nv,hv] W fun e w'=>∃ r b,e=.returned (.tuple #[r,.bool b])/\La W w'/\cZ w' (bQ ok W.heap.size) (dM how ns t) r b
abbrev Aj (gh gx:Nat):=Lq (.func (.func 232) #[] #[.pointer (some ⟨gh,0,none⟩),.pointer (some ⟨gx,0,none⟩)])
theorem kD{o1 o2:Obj}(e1:W.heap=((w.alloc o1).alloc o2).heap)(e2:W.os=w.os)(e3:W.tape=w.tape)(e4:W.output=w.output):La w W:=by
 have:=ab (ae w o1) (ae _ o2);exact⟨e2,e3,e4,by rw[e1];exact this.size,fun k hk=>by rw[e1];exact this.block k hk⟩
theorem mn(e1:W.heap=w.heap)(e2:W.os=w.os)(e3:W.tape=w.tape)(e4:W.output=w.output):La w W:=⟨e2,e3,e4,by rw[e1];exact MG _,fun k _=>by rw[e1]⟩
theorem tS{o1 o2 o3:Obj}(e1:W.heap=(((w.alloc o1).alloc o2).alloc o3).heap)(e2:W.os=w.os)(e3:W.tape=w.tape)(e4:W.output=w.output):La w W:=by
 have:=ab (ab (ae w o1) (ae _ o2)) (ae _ o3);exact⟨e2,e3,e4,by rw[e1];exact this.size,fun k hk=>by rw[e1];exact this.block k hk⟩
theorem kF{s ns}(h:ao w ok (s :: ns) v):∃ b off c,v=.slice (some ⟨b,off,none⟩) (ns.length+1) c/\ns.length+1<=c/\c<=9223372036854775807/\s.length<=9223372036854775807/\w.cell? ⟨b,off,none⟩=some (.string ⟨s.toArray⟩):=by
 rcases h.2 with⟨e,_⟩ | ⟨b,off,c,e,h1,h2,Mb⟩
 ·cases e
 ·obtain⟨g1,-,g2⟩:=Mb 0 s rfl;exact⟨b,off,c,e,h1,h2,g1,g2⟩
theorem sH{s ns b off}(h:ao w ok (s :: ns) (.slice (some ⟨b,off,none⟩) n c)):ao w ok ns (.slice (some ⟨b,off+1,none⟩) ns.length (c - 1)):=by
 have hl:=h.1;simp only[My]at hl;refine⟨by omega,.inr ⟨b,off+1,c - 1,rfl,?_⟩⟩;rcases h.2 with⟨e,_⟩ | ⟨b',off',c',e,h1,h2,Mb⟩
 ·cases e
 ·simp only[Value.slice.injEq,Option.some.injEq,Addr.mk.injEq,My,and_true]at e h1;obtain⟨⟨rfl,rfl⟩,-,rfl⟩:=e;refine⟨by omega,by omega,fun i x hx=>?_⟩;obtain⟨g1,g2,g3⟩:=Mb (i+1) x (by simpa using hx);exact⟨g1,g2,by rw[show off+1+i=off+(i+1) by omega];exact g3⟩
theorem CQ(gh gx)(how:V->Lz->Option V)(w0 base)(hH:En gh gx how w0 base)(s):Aj gh gx how w0 base [s]:=by
 intro w ok oks t v nv hw0 hbase h hn hnv;obtain⟨nb,no,nc,rfl,n1,n2,n3,n4⟩:=kF hnv;simp only[List.length_nil,Nat.zero_add]at n1 ⊢;have H:=aa h.low;have HN:=aa hn;have HW:=aa hw0;have HB:=aa hbase;have HH:=aa hH;obtain⟨l1,l2,l3⟩:=h.lens;obtain⟨a1,a2,c1,c2,rfl⟩:=h.form;have B2:Ll (∀ o1 o2,La w ((w.alloc o1).alloc o2)):=fun o1 o2=>ab (ae _ _) (ae _ _);have g0:∀ o1 o2,((w.alloc o1).alloc o2).cell? ⟨nb,no,none⟩=some (.string ⟨s.toArray⟩):=fun o1 o2=>ah (B2.o o1 o2) n4;have con:Ll (∀ o1 W,W.heap=((w.alloc o1).alloc (.cells Lb 39)).heap->W.os=w.os->W.tape=w.tape->W.output=w.output->Calls prog 232 #[.agg (KV t a1 c1 a2 c2),.string ⟨s.toArray⟩,.pointer (some ⟨gh,0,none⟩),.pointer (some ⟨gx,0,none⟩)] W fun e w'=>∃ (y:V) (a5 a6:Option Addr) (c5 c6:Nat) (b:Bool),e=.returned (.tuple #[.agg (KV y a5 c5 a6 c6),.bool b])/\La w w'/\Lc w' (w.heap.size+1) /\
  b=(how t s).isSome/\In w' (bg ok w.heap.size (w.heap.size+2)) y (.agg (KV y a5 c5 a6 c6))/\∀ z,how t s=some z->y=z):=by
  intro o1 W e1 e2 e3 e4;have LY:=kD e1 e2 e3 e4;have L9:W.heap.size=w.heap.size+2:=by rw[e1];simp
  refine(HH.o W (Lj ok w) t _ s (HW.o.trans (LY.mono HW.o.size)) (fun k hk=>⟨⟨(HB.o k hk).1,by have:=(HB.o k hk).2;have:=HW.o.size;omega⟩,(HB.o k hk).2⟩) (H.o.bel LY) HN.o n3).mono ?_;rintro e w1 ⟨r,b,rfl,hb1,hb2,y,hy,hyz⟩;obtain⟨a5,a6,c5,c6,rfl⟩:=hy.form;rw[L9]at hy;exact⟨y,a5,a6,c5,c6,b,rfl,ab LY hb1,af hb1 (by unfold ag;rw[e1];exact et w _ _),hb2,hy,hyz⟩
 clear h hn hw0 hbase hH n4 hnv;unfold dM;go_enter func234,ntmps234;go_upto_region 2 with fail
 go_region_with ((go_at_call 232;refine(con.o _ _ (by rfl) (by rfl) (by rfl) (by rfl)).mono ?_;rintro e w1 ⟨y,a5,a6,c5,c6,b,rfl,r1,r2,hb2,hy,hyz⟩;have x0_:=r2.c;have Z:=aa (aN (g:=w.heap.size+1) hy r1 (by omega) (by omega));have ZB:=aa (LH r2.set y a5 c5 a6 c6);have R:Ll (b=(how t s).isSome/\∀ z,how t s=some z->y=z):=⟨hb2,hyz⟩;clear hb2 hy hyz r1 r2))
 all_goals
  go_wp2
  have z0_:=ZB.o.c;refine MM (v:=.tuple #[.agg (KV y a5 c5 a6 c6),.bool b]) ?_ rfl ?_
  ·simp only[ar]at z0_;simp[results,results234,go_sem,z0_]
  ·exact⟨_,_,rfl,Z.o.1,R.o.1,y,Z.o.2,R.o.2⟩
def DW (w:LC) (ok:Nat->Prop) (t:V) (s:Lz) (a1 a2:Option Addr) (c1 c2:Nat) (p q:Value) (wc:LC):Prop:=
 ∃ (y:V) (a5 a6:Option Addr) (c5 c6 g:Nat) (b:Bool),p=.pointer (some ⟨g,0,none⟩)/\q=.bool b/\b=(cg t s).isSome/\(∀ z,cg t s=some z->y=z)/\KY wc g y a5 c5 a6 c6/\w.heap.size+2<=g /\
  KY wc w.heap.size t a1 c1 a2 c2/\Lc wc (w.heap.size+1)/\La w wc/\In wc (Lj ok w) y (.agg (KV y a5 c5 a6 c6))
def IR (w:LC) (ok:Nat->Prop) (t:V) (m:Option V) (a1 a2:Option Addr) (c1 c2 g C:Nat) (q:Value) (wc:LC):Prop:=
 ∃ (y2:V) (b5 b6:Option Addr) (d5 d6:Nat) (b:Bool),q=.bool b/\b=m.isSome/\(∀ z,m=some z->y2=z)/\KY wc g y2 b5 d5 b6 d6 /\
  KY wc w.heap.size t a1 c1 a2 c2/\Lc wc (w.heap.size+1)/\La w wc/\In wc (bg ok w.heap.size C) y2 (.agg (KV y2 b5 d5 b6 d6))/\C<=wc.heap.size
theorem Lp(hv)(how:V->Lz->Option V)(w0 base s r rs)(ih:Lq hv how w0 base (r :: rs)):Lq hv how w0 base (s :: r :: rs):=by
 intro w ok oks t v nv hw0 hbase h hn hnv;have hnl:=hnv.1;obtain⟨nb,no,nc,rfl,n1,n2,n3,n4⟩:=kF hnv;simp only[My]at n1 hnl ⊢;obtain⟨m,rfl⟩:∃ m,nc=m+2:=⟨nc - 2,by omega⟩
 have NT:=aa (sH hnv);have H:=aa h.low;have HN:=aa hn;have HW:=aa hw0;have HB:=aa hbase;have IH:=aa ih;have hnl':(rs.length:Int)+1+1<=9223372036854775807:=by unfold maxLen at hnl;omega
 have e1:(((rs.length:Int)+1+1) == 1)=false:=by rw[MO];omega
 have e2:(rs.length:Int)+1+1<=(m:Int)+2:=by omega
 have e3:(1:Int)<=(rs.length:Int)+1+1:=by omega
 have e4:(0:Int) < (rs.length:Int)+1+1:=by omega
 obtain⟨l1,l2,l3⟩:=h.lens;obtain⟨a1,a2,c1,c2,rfl⟩:=h.form;have B2:Ll (∀ o1 o2,La w ((w.alloc o1).alloc o2)):=fun o1 o2=>ab (ae _ _) (ae _ _);have g0:∀ o1 o2,((w.alloc o1).alloc o2).cell? ⟨nb,no,none⟩=some (.string ⟨s.toArray⟩):=fun o1 o2=>ah (B2.o o1 o2) n4;have N4:=aa n4;have con3:Ll (∀ W,W.heap=((w.alloc (.cells (KV t a1 c1 a2 c2) 39)).alloc (.cells Lb 39)).heap->W.os=w.os->W.tape=w.tape->W.output=w.output->Calls prog 235 #[.agg (KV t a1 c1 a2 c2),.string ⟨s.toArray⟩] W fun e w'=>∃ (y:V) (a5 a6:Option Addr) (c5 c6:Nat) (b:Bool),e=.returned (.tuple #[.agg (KV y a5 c5 a6 c6),.bool b]) /\
  ∀ wc,wc=w'.alloc (.cells (KV y a5 c5 a6 c6) 39)->DW w ok t s a1 a2 c1 c2 (.pointer (some ⟨w'.heap.size,0,none⟩)) (.bool b) wc):=by
  intro W e1 e2 e3 e4;have LY:=kD e1 e2 e3 e4;have L9:W.heap.size=w.heap.size+2:=by rw[e1];simp
  refine(eI W (Lj ok w) t _ s (H.o.bel LY) n3).mono ?_;rintro e w1 ⟨r,b,rfl,hb1,hb2,y,hy,hyz⟩;obtain⟨a5,a6,c5,c6,rfl⟩:=hy.form;refine⟨y,a5,a6,c5,c6,b,rfl,?_⟩;rintro wc rfl;have LW:=ab hb1 (ae w1 (.cells (KV y a5 c5 a6 c6) 39));refine⟨y,a5,a6,c5,c6,w1.heap.size,b,rfl,rfl,hb2,hyz,MN w1 _,by have:=hb1.size;omega,?_,?_,ab LY LW,hy.bel (ae _ _)⟩
  ·exact af LW (by unfold ag;rw[e1];exact fb w _ _)
  ·exact af LW (by unfold ag;rw[e1];exact et w _ _)
 have con3b:Ll (∀ W,W.heap=(((w.alloc (.cells (KV t a1 c1 a2 c2) 39)).alloc (.cells Lb 39)).alloc (.cells Lb 39)).heap->W.os=w.os->W.tape=w.tape->W.output=w.output->Calls prog 235 #[.agg (KV t a1 c1 a2 c2),.string ⟨s.toArray⟩] W fun e w'=>∃ (y:V) (a5 a6:Option Addr) (c5 c6:Nat) (b:Bool),e=.returned (.tuple #[.agg (KV y a5 c5 a6 c6),.bool b])/\Lc w' (w.heap.size+1+1) /\
  ∀ wc,wc=ar w' (w.heap.size+1+1) (.int .i64 y.kind) (.int .i64 y.n) (.string ⟨y.s.toArray⟩) (.slice a5 y.keys.length c5) (.slice a6 y.l.length c6)->DW w ok t s a1 a2 c1 c2 (.pointer (some ⟨w.heap.size+1+1,0,none⟩)) (.bool b) wc):=by
  intro W e1 e2 e3 e4;have LY:=tS e1 e2 e3 e4;have L9:W.heap.size=w.heap.size+3:=by rw[e1];simp
  refine(eI W (Lj ok w) t _ s (H.o.bel LY) n3).mono ?_;rintro e w1 ⟨r,b,rfl,hb1,hb2,y,hy,hyz⟩;obtain⟨a5,a6,c5,c6,rfl⟩:=hy.form;have LU:Lc w1 (w.heap.size+1+1):=af hb1 (by unfold ag;rw[e1];exact jI w _ _ _);refine⟨y,a5,a6,c5,c6,b,rfl,LU,?_⟩;rintro wc rfl;have g1:=aI w1 (w.heap.size+1+1) (.int .i64 y.kind) (.int .i64 y.n) (.string ⟨y.s.toArray⟩) (.slice a5 y.keys.length c5) (.slice a6 y.l.length c6);refine⟨y,a5,a6,c5,c6,w.heap.size+1+1,b,rfl,rfl,hb2,hyz,LU.set _ _ _ _ _,by omega,?_,?_,aP (ab LY hb1) (by omega) _ _ _ _ _,hy.grown g1 (fun k hk=>by omega)⟩
  ·exact(af hb1 (by unfold ag;rw[e1];exact lI w _ _ _)).grown g1 (by simp;omega)
  ·exact(af hb1 (by unfold ag;rw[e1];exact mE w _ _ _)).grown g1 (by simp)
 have g1:∀ o1 o2 o3,(((w.alloc o1).alloc o2).alloc o3).cell? ⟨nb,no,none⟩=some (.string ⟨s.toArray⟩):=fun o1 o2 o3=>ah (ab (B2.o o1 o2) (ae _ o3)) n4;clear h hn hw0 hbase ih n4 hnv;go_enter func234,ntmps234;go_upto_region 3 with fail
 go_cut [8,9] (fun p q wc=>DW w ok t s a1 a2 c1 c2 p q wc)
 case first=>
  go_region_with (first
   |(go_at_call 235;refine(con3.o _ (by rfl) (by rfl) (by rfl) (by rfl)).mono ?_;rintro e w1 ⟨y,a5,a6,c5,c6,b,rfl,hfin⟩;have FIN:=aa hfin;clear hfin)
   |(go_at_call 235;refine(con3b.o _ (by rfl) (by rfl) (by rfl) (by rfl)).mono ?_;rintro e w1 ⟨y,a5,a6,c5,c6,b,rfl,LU,hfin⟩;obtain⟨x0,x1,x2,x3,x4,y0,y1,y2',y3,y4⟩:=LU.c;have FIN:=aa hfin;clear hfin LU))
  all_goals
   go_wp2
   go_meet
   case rel=>exact FIN.o _ rfl
 case rest=>
  obtain⟨wa,hwa⟩:∃ wa,wa=wc:=⟨_,rfl⟩
  subst hwa;obtain⟨y,a5,a6,c5,c6,g,b,rfl,rfl,hb2,hyz,k1,k2,k3,k4,k5,k6⟩:=hcut;have K:Ll (KY wa g y a5 c5 a6 c6/\KY wa w.heap.size t a1 c1 a2 c2/\Lc wa (w.heap.size+1)/\La w wa/\In wa (Lj ok w) y (.agg (KV y a5 c5 a6 c6))):=⟨k1,k3,k4,k5,k6⟩
  have hgl:=k1.lt;clear con3 con3b g0 g1;cases hm:cg t s with
  | none=>
   rw[hm]at hb2;simp only[Option.isSome_none]at hb2;subst hb2;have p0_:=k3.c;obtain⟨x0,x1,x2,x3,x4,y0,y1,y2,y3,y4⟩:=k4.c;have Z:Ll (_/\_):=aN (C:=wa.heap.size) (g:=w.heap.size+1) ((H.o.bel k5).weak (aO (C:=wa.heap.size))) k5 (by omega) k4.lt;have ZB:Ll _:=aa (LH k4.set t a1 c1 a2 c2);have HA:Ll (dM how (s :: r :: rs) t=none):=aa (by rw[dM,hm];rfl);clear k1 k3 k4 k5 k6 hm hyz;go_wp2
   have z0_:=ZB.o.c;refine MM (v:=.tuple #[.agg (KV t a1 c1 a2 c2),.bool false]) ?_ rfl ?_
   ·simp only[ar]at z0_;simp[results,results234,go_sem,z0_]
   ·refine⟨_,_,rfl,Z.o.1,?_⟩;rw[HA.o];exact cZ.none Z.o.2
  | some y9=>
   rw[hm]at hb2;simp only[Option.isSome_some]at hb2;subst hb2;obtain rfl:=hyz y9 hm;have HM:=aa hm;obtain⟨f0,f1,f2,f3,f4,f5,f6,f7,f8,f9⟩:=k1.c;have con6:Ll (∀ W,W.heap=wa.heap->W.os=wa.os->W.tape=wa.tape->W.output=wa.output->Calls prog 234 #[.agg (KV y a5 c5 a6 c6),.slice (some ⟨nb,no+1,none⟩) (rs.length+1) (m+1),hv] W fun e w'=>∃ (y2:V) (b5 b6:Option Addr) (d5 d6:Nat) (b:Bool),e=.returned (.tuple #[.agg (KV y2 b5 d5 b6 d6),.bool b])/\KY w' g y a5 c5 a6 c6 /\
    ∀ W',W'=ar w' g (.int .i64 y2.kind) (.int .i64 y2.n) (.string ⟨y2.s.toArray⟩) (.slice b5 y2.keys.length d5) (.slice b6 y2.l.length d6)->IR w ok t (dM how (r :: rs) y) a1 a2 c1 c2 g wa.heap.size (.bool b) W'):=by
    intro W e1 e2 e3 e4;have LY:=mn e1 e2 e3 e4;have L9:W.heap.size=wa.heap.size:=by rw[e1]
    have LW:=ab K.o.2.2.2.1 LY;refine(IH.o W (Lj ok w) oks y _ _ (HW.o.trans (LW.mono HW.o.size)) (fun k hk=>⟨⟨(HB.o k hk).1,by have:=(HB.o k hk).2;have:=HW.o.size;omega⟩,(HB.o k hk).2⟩) (K.o.2.2.2.2.bel LY) (lu HN.o HM.o) (NT.o.bel LW)).mono ?_;rintro e w1 ⟨r9,b,rfl,hb1,hb2,y2,hy,hyz⟩;obtain⟨b5,b6,d5,d6,rfl⟩:=hy.form;rw[L9]at hy;have hb3:=ab LY hb1;refine⟨y2,b5,b6,d5,d6,b,rfl,af hb3 K.o.1,?_⟩;rintro W' rfl;have g1:=aI w1 g (.int .i64 y2.kind) (.int .i64 y2.n) (.string ⟨y2.s.toArray⟩) (.slice b5 y2.keys.length d5) (.slice b6 y2.l.length d6);refine⟨y2,b5,b6,d5,d6,b,rfl,hb2,hyz,(af hb3 K.o.1).set _ _ _ _ _,(af hb3 K.o.2.1).grown g1 (by simp;omega),(af hb3 K.o.2.2.1).grown g1 (by simp;omega),aP (ab K.o.2.2.2.1 hb3) (by omega) _ _ _ _ _,In.box hy (by omega) hgl _ _ _ _ _,MH hb3.size g1.size⟩
   clear k1 k3 k4 k5 k6 hm hyz;go_upto_region 6 with fail
   go_cut [10] (fun q wc'=>IR w ok t (dM how (r :: rs) y) a1 a2 c1 c2 g wa.heap.size q wc')
   case first=>
    go_region_with ((go_at_call 234;refine(con6.o _ (by rfl) (by rfl) (by rfl) (by rfl)).mono ?_;rintro e w1 ⟨y2,b5,b6,d5,d6,b,rfl,LU,hfin⟩;obtain⟨x0,x1,x2,x3,x4,y0,y1,y2',y3,y4⟩:=LU.c;have FIN:=aa hfin;clear hfin LU))
    all_goals
     go_wp2
     go_meet
     case rel=>exact FIN.o _ rfl
   case rest=>
    obtain⟨y2,b5,b6,d5,d6,b,rfl,hb2,hyz,k1,k3,k4,k5,k6,k7⟩:=hcut;clear con6;cases hd:dM how (r :: rs) y with
    | none=>
     rw[hd]at hb2;simp only[Option.isSome_none]at hb2;subst hb2;have p0_:=k3.c;obtain⟨x0,x1,x2,x3,x4,y0,y1,y2',y3,y4⟩:=k4.c;have Z:Ll (_/\_):=aN (C:=wc.heap.size) (g:=w.heap.size+1) ((H.o.bel k5).weak (aO (C:=wc.heap.size))) k5 (by omega) k4.lt;have ZB:Ll _:=aa (LH k4.set t a1 c1 a2 c2);have HA:Ll (dM how (s :: r :: rs) t=none):=aa (by rw[dM,HM.o,Option.bind_some,hd];rfl);clear k1 k3 k4 k5 k6 hd hyz;go_wp2
     have z0_:=ZB.o.c;refine MM (v:=.tuple #[.agg (KV t a1 c1 a2 c2),.bool false]) ?_ rfl ?_
     ·simp only[ar]at z0_;simp[results,results234,go_sem,z0_]
     ·refine⟨_,_,rfl,Z.o.1,?_⟩;rw[HA.o];exact cZ.none Z.o.2
    | some y9=>
     rw[hd]at hb2;simp only[Option.isSome_some]at hb2;subst hb2;obtain rfl:=hyz y9 hd;have HA:Ll (dM how (s :: r :: rs) t=aY y2 t s):=aa (by rw[dM,HM.o,Option.bind_some,hd];rfl);have K2:Ll (KY wc w.heap.size t a1 c1 a2 c2/\Lc wc (w.heap.size+1)/\La w wc/\In wc (bg ok w.heap.size wa.heap.size) y2 (.agg (KV y2 b5 d5 b6 d6))):=⟨k3,k4,k5,k6⟩
     obtain⟨f0,f1,f2,f3,f4,-⟩:=k1.c;have p0_:=k3.c;have g0:=ah k5 N4.o;have con9:Ll (∀ W,W.heap=wc.heap->W.os=wc.os->W.tape=wc.tape->W.output=wc.output->Calls prog 202 #[.agg (KV t a1 c1 a2 c2),.string ⟨s.toArray⟩,.agg (KV y2 b5 d5 b6 d6)] W fun e w'=>∃ (y3:V) (b7 b8:Option Addr) (d7 d8:Nat) (b:Bool),e=.returned (.tuple #[.agg (KV y3 b7 d7 b8 d8),.bool b])/\Lc w' (w.heap.size+1) /\
      ∀ W',W'=ar w' (w.heap.size+1) (.int .i64 y3.kind) (.int .i64 y3.n) (.string ⟨y3.s.toArray⟩) (.slice b7 y3.keys.length d7) (.slice b8 y3.l.length d8)->La w W'/\cZ W' (bQ ok w.heap.size) (dM how (s :: r :: rs) t) (.agg (KV y3 b7 d7 b8 d8)) b/\KY W' (w.heap.size+1) y3 b7 d7 b8 d8):=by
      intro W e1 e2 e3 e4;have LY:=mn e1 e2 e3 e4;have L9:W.heap.size=wc.heap.size:=by rw[e1]
      have LW:=ab K2.o.2.2.1 LY;refine(kn W (bg ok w.heap.size wa.heap.size) t y2 _ _ s ((H.o.bel LW).weak aO) (K2.o.2.2.2.bel LY) HN.o n3).mono ?_;rintro e w1 ⟨r9,b,rfl,hb1,hb2,y3,hy,hyz⟩;obtain⟨b7,b8,d7,d8,rfl⟩:=hy.form;have hb3:=ab LY hb1;have LU:=af hb3 K2.o.2.1;refine⟨y3,b7,b8,d7,d8,b,rfl,LU,?_⟩;rintro W' rfl;have g1:=aI w1 (w.heap.size+1) (.int .i64 y3.kind) (.int .i64 y3.n) (.string ⟨y3.s.toArray⟩) (.slice b7 y3.keys.length d7) (.slice b8 y3.l.length d8);refine⟨aP (ab K2.o.2.2.1 hb3) (by omega) _ _ _ _ _,⟨by rw[HA.o];exact hb2,y3,?_,by rw[HA.o];exact hyz⟩,LU.set _ _ _ _ _⟩;refine(hy.grown g1 ?_).weak ?_
      ·intro k hk e;rcases hk with hk | hk
       ·exact jB (by omega) (by omega) k hk e
       ·omega
      ·intro k hk;rcases hk with hk | hk
       ·exact ik (by omega) k hk
       ·exact .inr (by omega)
     clear k1 k3 k4 k5 k6 hd hyz;go_upto_region 9 with fail
     go_region_with ((go_at_call 202;refine(con9.o _ (by rfl) (by rfl) (by rfl) (by rfl)).mono ?_;rintro e w1 ⟨y3,b7,b8,d7,d8,b,rfl,LU,hfin⟩;obtain⟨x0,x1,x2,x3,x4,y0,y1,y2',y3',y4⟩:=LU.c;have FIN:=aa hfin;clear hfin LU))
     all_goals
      go_wp2
      obtain⟨r1,r2,r3⟩:=FIN.o _ rfl;have z0_:=r3.c;refine MM (v:=.tuple #[.agg (KV y3 b7 d7 b8 d8),.bool b]) ?_ rfl ?_
      ·simp only[ar]at z0_;simp[results,results234,go_sem,z0_]
      ·exact⟨_,_,rfl,r1,r2⟩
theorem Di(gh gx)(how:V->Lz->Option V)(w0 base)(hH:En gh gx how w0 base):∀ (s:Lz) (ns:List Lz),Aj gh gx how w0 base (s :: ns):=by
 intro s ns;induction ns generalizing s with
 | nil=>exact CQ gh gx how w0 base hH s
 | cons r rs ih=>exact Lp _ how w0 base s r rs (ih r)
def IA (how:V->Lz->Option V) (w0:LC) (base:Nat->Prop):Prop:=∀ (W:LC) (ok:Nat->Prop) (t:V) (v:Value) (s:Lz),La w0 W->(∀ k,base k->ok k/\k < w0.heap.size)->In W ok t v->dz t->s.length<=9223372036854775807 ->
 Calls prog 201 #[v,aR s] W fun e w'=>∃ r b,e=.returned (.tuple #[r,.bool b])/\La W w'/\cZ w' (bQ ok W.heap.size) (how t s) r b
abbrev Ar:=Lq (.func (.func 201) #[] #[])
theorem BU(how:V->Lz->Option V)(w0 base)(hH:IA how w0 base)(s):Ar how w0 base [s]:=by
 intro w ok oks t v nv hw0 hbase h hn hnv;obtain⟨nb,no,nc,rfl,n1,n2,n3,n4⟩:=kF hnv;simp only[List.length_nil,Nat.zero_add]at n1 ⊢;have H:=aa h.low;have HN:=aa hn;have HW:=aa hw0;have HB:=aa hbase;have HH:=aa hH;obtain⟨l1,l2,l3⟩:=h.lens;obtain⟨a1,a2,c1,c2,rfl⟩:=h.form;have B2:Ll (∀ o1 o2,La w ((w.alloc o1).alloc o2)):=fun o1 o2=>ab (ae _ _) (ae _ _);have g0:∀ o1 o2,((w.alloc o1).alloc o2).cell? ⟨nb,no,none⟩=some (.string ⟨s.toArray⟩):=fun o1 o2=>ah (B2.o o1 o2) n4;have con:Ll (∀ o1 W,W.heap=((w.alloc o1).alloc (.cells Lb 39)).heap->W.os=w.os->W.tape=w.tape->W.output=w.output->Calls prog 201 #[.agg (KV t a1 c1 a2 c2),.string ⟨s.toArray⟩] W fun e w'=>∃ (y:V) (a5 a6:Option Addr) (c5 c6:Nat) (b:Bool),e=.returned (.tuple #[.agg (KV y a5 c5 a6 c6),.bool b])/\La w w'/\Lc w' (w.heap.size+1) /\
  b=(how t s).isSome/\In w' (bg ok w.heap.size (w.heap.size+2)) y (.agg (KV y a5 c5 a6 c6))/\∀ z,how t s=some z->y=z):=by
  intro o1 W e1 e2 e3 e4;have LY:=kD e1 e2 e3 e4;have L9:W.heap.size=w.heap.size+2:=by rw[e1];simp
  refine(HH.o W (Lj ok w) t _ s (HW.o.trans (LY.mono HW.o.size)) (fun k hk=>⟨⟨(HB.o k hk).1,by have:=(HB.o k hk).2;have:=HW.o.size;omega⟩,(HB.o k hk).2⟩) (H.o.bel LY) HN.o n3).mono ?_;rintro e w1 ⟨r,b,rfl,hb1,hb2,y,hy,hyz⟩;obtain⟨a5,a6,c5,c6,rfl⟩:=hy.form;rw[L9]at hy;exact⟨y,a5,a6,c5,c6,b,rfl,ab LY hb1,af hb1 (by unfold ag;rw[e1];exact et w _ _),hb2,hy,hyz⟩
 clear h hn hw0 hbase hH n4 hnv;unfold dM;go_enter func234,ntmps234;go_upto_region 2 with fail
 go_region_with ((go_at_call 201;refine(con.o _ _ (by rfl) (by rfl) (by rfl) (by rfl)).mono ?_;rintro e w1 ⟨y,a5,a6,c5,c6,b,rfl,r1,r2,hb2,hy,hyz⟩;have x0_:=r2.c;have Z:=aa (aN (g:=w.heap.size+1) hy r1 (by omega) (by omega));have ZB:=aa (LH r2.set y a5 c5 a6 c6);have R:Ll (b=(how t s).isSome/\∀ z,how t s=some z->y=z):=⟨hb2,hyz⟩;clear hb2 hy hyz r1 r2))
 all_goals
  go_wp2
  have z0_:=ZB.o.c;refine MM (v:=.tuple #[.agg (KV y a5 c5 a6 c6),.bool b]) ?_ rfl ?_
  ·simp only[ar]at z0_;simp[results,results234,go_sem,z0_]
  ·exact⟨_,_,rfl,Z.o.1,R.o.1,y,Z.o.2,R.o.2⟩
theorem DH(how:V->Lz->Option V)(w0 base)(hH:IA how w0 base):∀ (s:Lz) (ns:List Lz),Ar how w0 base (s :: ns):=by
 intro s ns;induction ns generalizing s with
 | nil=>exact BU how w0 base hH s
 | cons r rs ih=>exact Lp _ how w0 base s r rs (ih r)
theorem Ls(hv)(how:V->Lz->Option V)(w0 base)(hH:∀ (s:Lz) (ns:List Lz),Lq hv how w0 base (s :: ns))(w ok t v p)(hw0:La w0 w)(hbase:∀ k,base k->ok k/\k < w0.heap.size)(h:In w ok t v)(hp:p.length<=140737488351232)(hM:bj w):Calls prog 200 #[v,aR p,hv] w fun e w'=>∃ r,e=.returned (.tuple #[r,.int .i64 (aX how (ax p) t).2])/\La w w'/\In w' (bQ ok w.heap.size) (aX how (ax p) t).1 r:=by
 have H:=aa h.low;have HW:=aa hw0;have HB:=aa hbase;have HH:=aa hH;have HMM:=aa hM;obtain⟨l1,l2,l3⟩:=h.lens;obtain⟨a1,a2,c1,c2,rfl⟩:=h.form;clear h hw0 hbase hH hM;go_enter func200,ntmps200;go_wp2_with fail
 refine(iO _ p hp (by exact HMM.o.bel (ab (ae _ _) (ae _ _)))).mono ?_;rintro e w1 ⟨ns,ee,na,nc,rfl,hsp,hns,hb1⟩;have SP:=aa hsp;have nlen:=hns.1;unfold maxLen at nlen;have K1:Ll (KY w1 w.heap.size t a1 c1 a2 c2/\Lc w1 (w.heap.size+1)/\La w w1/\ao w1 (fun k=>(((w.alloc _).alloc _).heap.size<=k)) ns (.slice na ns.length nc)):=⟨af hb1 (fb w _ _),af hb1 (et w _ _),ab (ab (ae _ _) (ae _ _)) hb1,hns⟩
 clear hb1 hns hsp;by_cases he:ee=0
 ·subst he;cases ns with
  | nil=>
   have p0_:=(K1.o.1).c;have x0_:=(K1.o.2.1).c;have Z:Ll (_/\_):=aN (C:=(w1).heap.size) (g:=w.heap.size+1) ((H.o.bel K1.o.2.2.1).weak (aO (C:=(w1).heap.size))) K1.o.2.2.1 (by omega) (K1.o.2.1).lt;have ZB:Ll _:=aa ((K1.o.2.1).set (.int .i64 t.kind) (.int .i64 t.n) (.string ⟨t.s.toArray⟩) (.slice a1 t.keys.length c1) (.slice a2 t.l.length c2));have HA:Ll (aX how (ax p) t=(t,1)):=aa (by rw[SP.o];rfl);clear K1;go_wp2_with fail
   have z0_:=ZB.o.c;refine MM (v:=.tuple #[.agg (KV t a1 c1 a2 c2),.int .i64 1]) ?_ rfl ?_
   ·simp only[ar]at z0_;simp[results,results200,go_sem,z0_]
   ·refine⟨_,by rw[HA.o],Z.o.1,?_⟩;rw[HA.o];exact Z.o.2
  | cons s rs=>
   have e1:(((rs.length:Int)+1) == 0)=false:=by rw[MO];omega
   simp only[My]at nlen ⊢;have p0_:=K1.o.1.c;go_wp2_with fail
   refine Lk (bG _ (Lj ok w) t _ (by exact H.o.bel K1.o.2.2.1)) fun w2 hb2=>?_;have K2:Ll (KY w2 w.heap.size t a1 c1 a2 c2/\Lc w2 (w.heap.size+1)/\La w w2/\ao w2 (fun k=>(((w.alloc (.cells #[] 0)).alloc (.cells #[] 0)).heap.size<=k)) (s :: rs) (.slice na (rs.length+1) nc)):=⟨af hb2 K1.o.1,af hb2 K1.o.2.1,ab K1.o.2.2.1 hb2,by have:=K1.o.2.2.2.bel hb2;simpa using this⟩
   clear hb2 K1;cases hg:aE t with
   | false=>
    have p0_:=(K2.o.1).c;have x0_:=(K2.o.2.1).c;have Z:Ll (_/\_):=aN (C:=(w2).heap.size) (g:=w.heap.size+1) ((H.o.bel K2.o.2.2.1).weak (aO (C:=(w2).heap.size))) K2.o.2.2.1 (by omega) (K2.o.2.1).lt;have ZB:Ll _:=aa ((K2.o.2.1).set (.int .i64 t.kind) (.int .i64 t.n) (.string ⟨t.s.toArray⟩) (.slice a1 t.keys.length c1) (.slice a2 t.l.length c2));have HA:Ll (aX how (ax p) t=(t,1)):=aa (by rw[SP.o];unfold aX;rw[if_neg (by simp),if_pos (.inr hg)]);clear K2 hg;go_wp2_with fail
    have z0_:=ZB.o.c;refine MM (v:=.tuple #[.agg (KV t a1 c1 a2 c2),.int .i64 1]) ?_ rfl ?_
    ·simp only[ar]at z0_;simp[results,results200,go_sem,z0_]
    ·refine⟨_,by rw[HA.o],Z.o.1,?_⟩;rw[HA.o];exact Z.o.2
   | true=>
    have HG:=aa hg;have p0_:=K2.o.1.c;clear hg;go_wp2_with fail
    refine(HH.o s rs _ (Lj ok w) _ t _ _ (by exact HW.o.trans (K2.o.2.2.1.mono HW.o.size)) (fun k hk=>⟨⟨(HB.o k hk).1,by have:=(HB.o k hk).2;have:=HW.o.size;omega⟩,(HB.o k hk).2⟩) (by exact H.o.bel K2.o.2.2.1) (dQ HG.o) (by exact K2.o.2.2.2)).mono ?_;rintro e w3 ⟨r,b,rfl,hb3,hb,y,hy,hyz⟩;obtain⟨a5,a6,c5,c6,rfl⟩:=hy.form;have L9:=K2.o.2.1.lt;have LW:=ab hb3 (ae w3 (.cells (KV y a5 c5 a6 c6) 39));have K3:Ll (KY (w3.alloc (.cells (KV y a5 c5 a6 c6) 39)) w.heap.size t a1 c1 a2 c2/\Lc (w3.alloc (.cells (KV y a5 c5 a6 c6) 39)) (w.heap.size+1)/\La w (w3.alloc (.cells (KV y a5 c5 a6 c6) 39))/\KY (w3.alloc (.cells (KV y a5 c5 a6 c6) 39)) w3.heap.size y a5 c5 a6 c6/\In (w3.alloc (.cells (KV y a5 c5 a6 c6) 39)) (bg ok w.heap.size w2.heap.size) y (.agg (KV y a5 c5 a6 c6))/\w2.heap.size<=w3.heap.size):=⟨af LW K2.o.1,af LW K2.o.2.1,ab K2.o.2.2.1 LW,MN w3 _,hy.bel (ae _ _),hb3.size⟩
    clear hb3 LW hy K2;cases hd:dM how (s :: rs) t with
    | none=>
     rw[hd]at hb;simp only[Option.isSome_none]at hb;subst hb;have p0_:=(K3.o.1).c;have x0_:=(K3.o.2.1).c;have Z:Ll (_/\_):=aN (C:=(w3.alloc (.cells (KV y a5 c5 a6 c6) 39)).heap.size) (g:=w.heap.size+1) ((H.o.bel K3.o.2.2.1).weak (aO (C:=(w3.alloc (.cells (KV y a5 c5 a6 c6) 39)).heap.size))) K3.o.2.2.1 (by omega) (K3.o.2.1).lt;have ZB:Ll _:=aa ((K3.o.2.1).set (.int .i64 t.kind) (.int .i64 t.n) (.string ⟨t.s.toArray⟩) (.slice a1 t.keys.length c1) (.slice a2 t.l.length c2));have HA:Ll (aX how (ax p) t=(t,3)):=aa (by rw[SP.o];unfold aX;rw[if_neg (by simp),if_neg (by simp[HG.o])];simp only[hd]);clear hd hyz;go_wp2_with fail
     have z0_:=ZB.o.c;refine MM (v:=.tuple #[.agg (KV t a1 c1 a2 c2),.int .i64 3]) ?_ rfl ?_
     ·simp only[ar]at z0_;simp[results,results200,go_sem,z0_]
     ·refine⟨_,by rw[HA.o],Z.o.1,?_⟩;rw[HA.o];exact Z.o.2
    | some y9=>
     rw[hd]at hb;simp only[Option.isSome_some]at hb;subst hb;obtain rfl:=hyz y9 hd;have q0_:=K3.o.2.2.2.1.c;have HD:=aa hd;clear hd hyz;go_wp2_with fail
     refine Lk (bG _ _ y _ (by exact K3.o.2.2.2.2.1)) fun w4 hb4=>?_;have hsz3:w3.heap.size < (w3.alloc (.cells (KV y a5 c5 a6 c6) 39)).heap.size:=by simp
     have K4:Ll (KY w4 w.heap.size t a1 c1 a2 c2/\Lc w4 (w.heap.size+1)/\La w w4/\KY w4 w3.heap.size y a5 c5 a6 c6/\In w4 (bg ok w.heap.size w2.heap.size) y (.agg (KV y a5 c5 a6 c6))):=⟨af hb4 K3.o.1,af hb4 K3.o.2.1,ab K3.o.2.2.1 hb4,af hb4 K3.o.2.2.2.1,K3.o.2.2.2.2.1.bel hb4⟩
     clear hb4 K3;cases hg:aE y with
     | false=>
      have p0_:=(K4.o.1).c;have x0_:=(K4.o.2.1).c;have Z:Ll (_/\_):=aN (C:=(w4).heap.size) (g:=w.heap.size+1) ((H.o.bel K4.o.2.2.1).weak (aO (C:=(w4).heap.size))) K4.o.2.2.1 (by omega) (K4.o.2.1).lt;have ZB:Ll _:=aa ((K4.o.2.1).set (.int .i64 t.kind) (.int .i64 t.n) (.string ⟨t.s.toArray⟩) (.slice a1 t.keys.length c1) (.slice a2 t.l.length c2));have HA:Ll (aX how (ax p) t=(t,2)):=aa (by rw[SP.o];unfold aX;rw[if_neg (by simp),if_neg (by simp[HG.o])];simp only[HD.o,hg];rfl);clear hg;go_wp2_with fail
      have z0_:=ZB.o.c;refine MM (v:=.tuple #[.agg (KV t a1 c1 a2 c2),.int .i64 2]) ?_ rfl ?_
      ·simp only[ar]at z0_;simp[results,results200,go_sem,z0_]
      ·refine⟨_,by rw[HA.o],Z.o.1,?_⟩;rw[HA.o];exact Z.o.2
     | true=>
      have q0_:=K4.o.2.2.2.1.c;have x0_:=K4.o.2.1.c;have Z:Ll (_/\_):=aN (g:=w.heap.size+1) K4.o.2.2.2.2 K4.o.2.2.1 (by omega) L9;have ZB:Ll _:=aa (LH K4.o.2.1.set y a5 c5 a6 c6);have HA:Ll (aX how (ax p) t=(y,0)):=aa (by rw[SP.o];unfold aX;rw[if_neg (by simp),if_neg (by simp[HG.o])];simp only[HD.o,hg];rfl);clear hg K4;go_wp2_with fail
      have z0_:=ZB.o.c;refine MM (v:=.tuple #[.agg (KV y a5 c5 a6 c6),.int .i64 0]) ?_ rfl ?_
      ·simp only[ar]at z0_;simp[results,results200,go_sem,z0_]
      ·refine⟨_,by rw[HA.o],Z.o.1,?_⟩;rw[HA.o];exact Z.o.2
 ·have e1:(ee != 0)=true:=by rw[bne_iff_ne];exact he
  have e2:(ee == 0)=false:=by rw[MO];exact he
  have HE:=aa he;clear he;have p0_:=(K1.o.1).c;have x0_:=(K1.o.2.1).c;have Z:Ll (_/\_):=aN (C:=(w1).heap.size) (g:=w.heap.size+1) ((H.o.bel K1.o.2.2.1).weak (aO (C:=(w1).heap.size))) K1.o.2.2.1 (by omega) (K1.o.2.1).lt;have ZB:Ll _:=aa ((K1.o.2.1).set (.int .i64 t.kind) (.int .i64 t.n) (.string ⟨t.s.toArray⟩) (.slice a1 t.keys.length c1) (.slice a2 t.l.length c2));have HA:Ll (aX how (ax p) t=(t,ee)):=aa (by rw[SP.o];unfold aX;rw[if_pos HE.o]);clear K1;go_wp2_with fail
  have z0_:=ZB.o.c;refine MM (v:=.tuple #[.agg (KV t a1 c1 a2 c2),.int .i64 ee]) ?_ rfl ?_
  ·simp only[ar]at z0_;simp[results,results200,go_sem,z0_]
  ·refine⟨_,by rw[HA.o],Z.o.1,?_⟩;rw[HA.o];exact Z.o.2
theorem oC(gh gx)(how:V->Lz->Option V)(w0:LC)(base)(hH:En gh gx how w0 base)(w:LC)(ok t v p)(hw0:La w0 w)(hbase:∀ k,base k->ok k/\k < w0.heap.size)(h:In w ok t v)(hp:p.length<=140737488351232)(hM:bj w):Calls prog 200 #[v,aR p,.func (.func 232) #[] #[.pointer (some ⟨gh,0,none⟩),.pointer (some ⟨gx,0,none⟩)]] w fun e w'=>∃ r,e=.returned (.tuple #[r,.int .i64 (aX how (ax p) t).2])/\La w w'/\In w' (bQ ok w.heap.size) (aX how (ax p) t).1 r:=
 Ls _ how w0 base (Di gh gx how w0 base hH) w ok t v p hw0 hbase h hp hM
theorem Ha(how:V->Lz->Option V)(w0:LC)(base)(hH:IA how w0 base)(w:LC)(ok t v p)(hw0:La w0 w)(hbase:∀ k,base k->ok k/\k < w0.heap.size)(h:In w ok t v)(hp:p.length<=140737488351232)(hM:bj w):Calls prog 200 #[v,aR p,.func (.func 201) #[] #[]] w fun e w'=>∃ r,e=.returned (.tuple #[r,.int .i64 (aX how (ax p) t).2])/\La w w'/\In w' (bQ ok w.heap.size) (aX how (ax p) t).1 r:=
 Ls _ how w0 base (DH how w0 base hH) w ok t v p hw0 hbase h hp hM
variable {x:V}
variable {B:Nat}
theorem Ky(w:LC)(o1 o2 o3 o4:Obj):((((w.alloc o1).alloc o2).alloc o3).alloc o4).heap[w.heap.size]?=some o1:=by
 rw[(ae _ o4).block _ (by simp;omega)];exact lI w o1 o2 o3
theorem Kz(w:LC)(o1 o2 o3 o4:Obj):((((w.alloc o1).alloc o2).alloc o3).alloc o4).heap[w.heap.size+1]?=some o2:=by
 rw[(ae _ o4).block _ (by simp)];exact mE w o1 o2 o3
theorem KI(w:LC)(o1 o2 o3 o4:Obj):((((w.alloc o1).alloc o2).alloc o3).alloc o4).heap[w.heap.size+2]?=some o3:=by
 rw[(ae _ o4).block _ (by simp)];exact jI w o1 o2 o3
theorem KG(w:LC)(o1 o2 o3 o4:Obj):((((w.alloc o1).alloc o2).alloc o3).alloc o4).heap[w.heap.size+3]?=some o4:=by
 have:=MN (((w.alloc o1).alloc o2).alloc o3) o4;simpa using this
theorem rW{W0:LC}{gh gx:Nat}{a7 a8:Option Addr}{c7 c8:Nat}{tf:TypeId}(bx:KY W0 gx x a7 c7 a8 c8)(bh:W0.heap[gh]?=some (.cells #[.func (.func 199) #[] #[]] tf))(hx:In W0 (fun k=>ok k/\k < B) x (.agg (KV x a7 c7 a8 c8)))(hB:B<=W0.heap.size):En gh gx (bL x) W0 (fun k=>ok k/\k < B):=by
 intro W ok' t v s hW hk h hn hs;exact C3 W ok' t x v s gh gx a7 a8 c7 c8 tf h ((hx.bel hW).weak fun k hk'=>(hk k hk').1) (af hW bx) (by rw[hW.block _ (MF.1 bh).1];exact bh) hn hs
theorem mt{W0:LC}{gh gx:Nat}{a7 a8:Option Addr}{c7 c8:Nat}{tf:TypeId}(bx:KY W0 gx x a7 c7 a8 c8)(bh:W0.heap[gh]?=some (.cells #[.func (.func 202) #[] #[]] tf))(hx:In W0 (fun k=>ok k/\k < B) x (.agg (KV x a7 c7 a8 c8)))(hB:B<=W0.heap.size):En gh gx (aY x) W0 (fun k=>ok k/\k < B):=by
 intro W ok' t v s hW hk h hn hs;exact tx W ok' t x v s gh gx a7 a8 c7 c8 tf h ((hx.bel hW).weak fun k hk'=>(hk k hk').1) (af hW bx) (by rw[hW.block _ (MF.1 bh).1];exact bh) hn hs
def Lo (f:FuncId) (how:V->V->Lz->Option V):Prop:=∀ {W0:LC} {ok:Nat->Prop} {B gh gx:Nat} {x:V} {a7 a8:Option Addr} {c7 c8:Nat} {tf:TypeId},KY W0 gx x a7 c7 a8 c8->W0.heap[gh]?=some (.cells #[.func (.func f) #[] #[]] tf)->In W0 (fun k=>ok k/\k < B) x (.agg (KV x a7 c7 a8 c8))->B<=W0.heap.size->En gh gx (how x) W0 (fun k=>ok k/\k < B)
theorem Ln(f:FuncId)(how:V->V->Lz->Option V)(hf:Lo f how)(w ok t x v xv p)(h:In w ok t v)(hx:In w ok x xv)(hp:p.length<=140737488351232)(hM:bj w):Calls prog 198 #[v,aR p,xv,.func (.func f) #[] #[]] w fun e w'=>∃ r,e=.returned (.tuple #[r,.int .i64 (ep how p (ax p) t x).2])/\La w w'/\In w' (bQ ok w.heap.size) (ep how p (ax p) t x).1 r:=by
 have HF:Ll (Lo f how):=@hf;clear hf;have H:=aa h.low;have HX:=aa hx.low;have HMM:=aa hM;obtain⟨l1,l2,l3⟩:=h.lens;obtain⟨a1,a2,c1,c2,rfl⟩:=h.form;obtain⟨a7,a8,c7,c8,rfl⟩:=hx.form;clear h hx hM;have B4:Ll (∀ o1 o2 o3 o4,La w ((((w.alloc o1).alloc o2).alloc o3).alloc o4)):=fun o1 o2 o3 o4=>ab (ab (ab (ae _ _) (ae _ _)) (ae _ _)) (ae _ _);go_enter func198,ntmps198;go_wp2_with fail
 refine Lk (bG _ (Lj ok w) x _ (by exact HX.o.bel (B4.o _ _ _ _))) fun w1 hb1=>?_;have K:Ll (KY w1 w.heap.size t a1 c1 a2 c2/\KY w1 (w.heap.size+1) x a7 c7 a8 c8/\w1.heap[w.heap.size+2]?=some (.cells #[.func (.func f) #[] #[]] 255)/\Lc w1 (w.heap.size+3)/\La w w1):=⟨af hb1 (Ky w _ _ _ _),af hb1 (Kz w _ _ _ _),by rw[hb1.block _ (by simp)];exact KI w _ _ _ _,af hb1 (KG w _ _ _ _),ab (B4.o _ _ _ _) hb1⟩
 clear hb1;cases hgx:aE x with
 | false=>
  have p0_:=K.o.1.c;have x0_:=K.o.2.2.2.1.c;have Z:Ll (_/\_):=aN (C:=w1.heap.size) (g:=w.heap.size+3) ((H.o.bel K.o.2.2.2.2).weak (aO (C:=w1.heap.size))) K.o.2.2.2.2 (by omega) K.o.2.2.2.1.lt;have ZB:Ll _:=aa (LH K.o.2.2.2.1.set t a1 c1 a2 c2);have HA:Ll (ep how p (ax p) t x=(t,1)):=aa (by unfold ep;rw[if_pos hgx]);clear hgx;go_wp2_with fail
  have z0_:=ZB.o.c;refine MM (v:=.tuple #[.agg (KV t a1 c1 a2 c2),.int .i64 1]) ?_ rfl ?_
  ·simp only[ar]at z0_;simp[results,results198,go_sem,z0_]
  ·refine⟨_,by rw[HA.o],Z.o.1,?_⟩;rw[HA.o];exact Z.o.2
 | true=>
  have GX:=aa hgx;clear hgx;obtain⟨o0,o1,o2,o3,o4,-⟩:=K.o.1.c;by_cases hpe:p=[]
  ·have q1:(p == [])=true:=by rw[hpe];rfl
   have q2:p.isEmpty=true:=by rw[hpe];rfl
   have PE:=aa hpe;clear hpe;unfold aR;go_wp2_with fail
   refine Lk (bG _ (Lj ok w) t _ (by exact H.o.bel K.o.2.2.2.2)) fun w2 hb2=>?_;have K2:Ll (KY w2 w.heap.size t a1 c1 a2 c2/\KY w2 (w.heap.size+1) x a7 c7 a8 c8/\w2.heap[w.heap.size+2]?=some (.cells #[.func (.func f) #[] #[]] 255)/\Lc w2 (w.heap.size+3)/\La w w2):=⟨af hb2 K.o.1,af hb2 K.o.2.1,by rw[hb2.block _ (by have:=K.o.2.2.2.1.lt;omega)];exact K.o.2.2.1,af hb2 K.o.2.2.2.1,ab K.o.2.2.2.2 hb2⟩
   clear hb2 K;cases hgt:aE t with
   | true=>
    have p0_:=K2.o.2.1.c;have x0_:=K2.o.2.2.2.1.c;have Z:Ll (_/\_):=aN (C:=w2.heap.size) (g:=w.heap.size+3) ((HX.o.bel K2.o.2.2.2.2).weak (aO (C:=w2.heap.size))) K2.o.2.2.2.2 (by omega) K2.o.2.2.2.1.lt;have ZB:Ll _:=aa (LH K2.o.2.2.2.1.set x a7 c7 a8 c8);have HA:Ll (ep how p (ax p) t x=(x,0)):=aa (by unfold ep;rw[if_neg (by simp[GX.o]),if_pos ⟨PE.o,hgt⟩]);clear hgt;go_wp2_with fail
    have z0_:=ZB.o.c;refine MM (v:=.tuple #[.agg (KV x a7 c7 a8 c8),.int .i64 0]) ?_ rfl ?_
    ·simp only[ar]at z0_;simp[results,results198,go_sem,z0_]
    ·refine⟨_,by rw[HA.o],Z.o.1,?_⟩;rw[HA.o];exact Z.o.2
   | false=>
    have GT:=aa hgt;clear hgt;obtain⟨o0,o1,o2,o3,o4,-⟩:=K2.o.1.c;go_wp2_with fail
    refine(oC (w.heap.size+2) (w.heap.size+1) (how x) w2 (Lj ok w) (HF.o (K2.o.2.1) (K2.o.2.2.1) (HX.o.bel K2.o.2.2.2.2) (by have:=K2.o.2.2.2.1.lt;omega)) _ (Lj ok w) t _ p (by exact MK _ _) (fun k hk=>⟨hk,by have:=K2.o.2.2.2.1.lt;omega⟩) (by exact H.o.bel K2.o.2.2.2.2) hp (by exact HMM.o.bel K2.o.2.2.2.2)).mono ?_;rintro e w9 ⟨r,rfl,hb9,hr⟩;obtain⟨y,hy⟩:∃ y,aX (how x) (ax p) t=y:=⟨_,rfl⟩
    rw[hy]at hr ⊢;obtain⟨y,ye⟩:=y;simp only at hr ⊢;have HA:Ll (ep how p (ax p) t x=(y,ye)):=aa (by unfold ep;rw[if_neg (by simp[GX.o]),if_neg (by simp[GT.o])];exact hy);obtain⟨a5,a6,c5,c6,rfl⟩:=hr.form;have LU:=af hb9 K2.o.2.2.2.1;have x0_:=LU.c;have Z:Ll (_/\_):=aN (g:=w.heap.size+3) hr (ab K2.o.2.2.2.2 hb9) (by omega) K2.o.2.2.2.1.lt;have ZB:Ll _:=aa (LH LU.set y a5 c5 a6 c6);clear hy hr hb9 LU;go_wp2_with fail
    have z0_:=ZB.o.c;refine MM (v:=.tuple #[.agg (KV y a5 c5 a6 c6),.int .i64 ye]) ?_ rfl ?_
    ·simp only[ar]at z0_;simp[results,results198,go_sem,z0_]
    ·refine⟨_,by rw[HA.o],Z.o.1,?_⟩;rw[HA.o];exact Z.o.2
  ·have q1:(p == [])=false:=by rw[MO];exact hpe
   have q2:p.isEmpty=false:=by cases p with | nil=>exact absurd rfl hpe | cons _ _=>rfl
   have PE:=aa hpe;clear hpe;unfold aR;go_wp2_with fail
   refine(oC (w.heap.size+2) (w.heap.size+1) (how x) w1 (Lj ok w) (HF.o (K.o.2.1) (K.o.2.2.1) (HX.o.bel K.o.2.2.2.2) (by have:=K.o.2.2.2.1.lt;omega)) _ (Lj ok w) t _ p (by exact MK _ _) (fun k hk=>⟨hk,by have:=K.o.2.2.2.1.lt;omega⟩) (by exact H.o.bel K.o.2.2.2.2) hp (by exact HMM.o.bel K.o.2.2.2.2)).mono ?_;rintro e w9 ⟨r,rfl,hb9,hr⟩;obtain⟨y,hy⟩:∃ y,aX (how x) (ax p) t=y:=⟨_,rfl⟩
   rw[hy]at hr ⊢;obtain⟨y,ye⟩:=y;simp only at hr ⊢;have HA:Ll (ep how p (ax p) t x=(y,ye)):=aa (by unfold ep;rw[if_neg (by simp[GX.o]),if_neg (fun h=>PE.o h.1)];exact hy);obtain⟨a5,a6,c5,c6,rfl⟩:=hr.form;have LU:=af hb9 K.o.2.2.2.1;have x0_:=LU.c;have Z:Ll (_/\_):=aN (g:=w.heap.size+3) hr (ab K.o.2.2.2.2 hb9) (by omega) K.o.2.2.2.1.lt;have ZB:Ll _:=aa (LH LU.set y a5 c5 a6 c6);clear hy hr hb9 LU;go_wp2_with fail
   have z0_:=ZB.o.c;refine MM (v:=.tuple #[.agg (KV y a5 c5 a6 c6),.int .i64 ye]) ?_ rfl ?_
   ·simp only[ar]at z0_;simp[results,results198,go_sem,z0_]
   ·refine⟨_,by rw[HA.o],Z.o.1,?_⟩;rw[HA.o];exact Z.o.2
theorem yi(w:LC)(ok t x v xv p)(h:In w ok t v)(hx:In w ok x xv)(hp:p.length<=140737488351232)(hM:bj w):Calls prog 170 #[v,aR p,xv] w fun e w'=>∃ r,e=.returned (.tuple #[r,.int .i64 (ep bL p (ax p) t x).2])/\La w w'/\In w' (bQ ok w.heap.size) (ep bL p (ax p) t x).1 r:=by
 have H:=aa h.low;have HX:=aa hx.low;have HMM:=aa hM;obtain⟨l1,l2,l3⟩:=h.lens;obtain⟨a1,a2,c1,c2,rfl⟩:=h.form;obtain⟨a7,a8,c7,c8,rfl⟩:=hx.form;clear h hx hM;have B3:Ll (∀ o1 o2 o3,La w (((w.alloc o1).alloc o2).alloc o3)):=fun o1 o2 o3=>ab (ab (ae _ _) (ae _ _)) (ae _ _);go_enter func170,ntmps170;go_wp2_with fail
 refine(Ln _ bL rW _ (Lj ok w) t x _ _ p (by exact H.o.bel (B3.o _ _ _)) (by exact HX.o.bel (B3.o _ _ _)) hp (by exact HMM.o.bel (B3.o _ _ _))).mono ?_;rintro e w9 ⟨r,rfl,hb9,hr⟩;obtain⟨y,hy⟩:∃ y,ep bL p (ax p) t x=y:=⟨_,rfl⟩
 rw[hy]at hr ⊢;obtain⟨y,ye⟩:=y;simp only at hr ⊢;obtain⟨a5,a6,c5,c6,rfl⟩:=hr.form;have LU:=af hb9 (jI w _ _ _);obtain⟨x0,x1,x2,x3,x4,y0,y1,y2,y3,y4⟩:=ag.c LU;have Z:Ll (_/\_):=aN (g:=w.heap.size+2) hr (ab (B3.o _ _ _) hb9) (by omega) (by simp);have ZB:Ll _:=aa (LH (ag.set LU) y a5 c5 a6 c6);have HA:=aa hy;clear hy hr hb9 LU;go_wp2_with fail
 have z0_:=ZB.o.c;refine MM (v:=.tuple #[.agg (KV y a5 c5 a6 c6),.int .i64 ye]) ?_ rfl ?_
 ·simp only[ar]at z0_;simp[results,results170,go_sem,z0_]
 ·exact⟨_,by rw[HA.o],Z.o.1,by rw[HA.o];exact Z.o.2⟩
theorem JE(w:LC)(ok t x v xv p)(h:In w ok t v)(hx:In w ok x xv)(hp:p.length<=140737488351232)(hM:bj w):Calls prog 172 #[v,aR p,xv] w fun e w'=>∃ r,e=.returned (.tuple #[r,.int .i64 (ep aY p (ax p) t x).2])/\La w w'/\In w' (bQ ok w.heap.size) (ep aY p (ax p) t x).1 r:=by
 have H:=aa h.low;have HX:=aa hx.low;have HMM:=aa hM;obtain⟨l1,l2,l3⟩:=h.lens;obtain⟨a1,a2,c1,c2,rfl⟩:=h.form;obtain⟨a7,a8,c7,c8,rfl⟩:=hx.form;clear h hx hM;have B3:Ll (∀ o1 o2 o3,La w (((w.alloc o1).alloc o2).alloc o3)):=fun o1 o2 o3=>ab (ab (ae _ _) (ae _ _)) (ae _ _);go_enter func172,ntmps172;go_wp2_with fail
 refine(Ln _ aY mt _ (Lj ok w) t x _ _ p (by exact H.o.bel (B3.o _ _ _)) (by exact HX.o.bel (B3.o _ _ _)) hp (by exact HMM.o.bel (B3.o _ _ _))).mono ?_;rintro e w9 ⟨r,rfl,hb9,hr⟩;obtain⟨y,hy⟩:∃ y,ep aY p (ax p) t x=y:=⟨_,rfl⟩
 rw[hy]at hr ⊢;obtain⟨y,ye⟩:=y;simp only at hr ⊢;obtain⟨a5,a6,c5,c6,rfl⟩:=hr.form;have LU:=af hb9 (jI w _ _ _);obtain⟨x0,x1,x2,x3,x4,y0,y1,y2,y3,y4⟩:=ag.c LU;have Z:Ll (_/\_):=aN (g:=w.heap.size+2) hr (ab (B3.o _ _ _) hb9) (by omega) (by simp);have ZB:Ll _:=aa (LH (ag.set LU) y a5 c5 a6 c6);have HA:=aa hy;clear hy hr hb9 LU;go_wp2_with fail
 have z0_:=ZB.o.c;refine MM (v:=.tuple #[.agg (KV y a5 c5 a6 c6),.int .i64 ye]) ?_ rfl ?_
 ·simp only[ar]at z0_;simp[results,results172,go_sem,z0_]
 ·exact⟨_,by rw[HA.o],Z.o.1,by rw[HA.o];exact Z.o.2⟩
theorem ws(W0:LC):IA ch W0 (fun _=>False):=by
 intro W ok t v s _ _ h hn hs;exact zz W ok t v s h hn hs
theorem sD(w:LC)(ok t v p)(h:In w ok t v)(hp:p.length<=140737488351232)(hM:bj w):Calls prog 171 #[v,aR p] w fun e w'=>∃ r,e=.returned (.tuple #[r,.int .i64 (aX ch (ax p) t).2])/\La w w'/\In w' (bQ ok w.heap.size) (aX ch (ax p) t).1 r:=by
 have H:=aa h.low;have HMM:=aa hM;obtain⟨l1,l2,l3⟩:=h.lens;obtain⟨a1,a2,c1,c2,rfl⟩:=h.form;clear h hM;have B2:Ll (∀ o1 o2,La w ((w.alloc o1).alloc o2)):=fun o1 o2=>ab (ae _ _) (ae _ _);go_enter func171,ntmps171;go_wp2_with fail
 refine(Ha ch w (fun _=>False) (ws w) _ (Lj ok w) t _ p (by exact B2.o _ _) (fun k hk=>hk.elim) (by exact H.o.bel (B2.o _ _)) hp (by exact HMM.o.bel (B2.o _ _))).mono ?_;rintro e w9 ⟨r,rfl,hb9,hr⟩;obtain⟨y,hy⟩:∃ y,aX ch (ax p) t=y:=⟨_,rfl⟩
 rw[hy]at hr ⊢;obtain⟨y,ye⟩:=y;simp only at hr ⊢;obtain⟨a5,a6,c5,c6,rfl⟩:=hr.form;have LU:=af hb9 (et w _ _);obtain⟨x0,x1,x2,x3,x4,y0,y1,y2,y3,y4⟩:=ag.c LU;have Z:Ll (_/\_):=aN (g:=w.heap.size+1) hr (ab (B2.o _ _) hb9) (by omega) (by simp);have ZB:Ll _:=aa (LH (ag.set LU) y a5 c5 a6 c6);have HA:=aa hy;clear hy hr hb9 LU;go_wp2_with fail
 have z0_:=ZB.o.c;refine MM (v:=.tuple #[.agg (KV y a5 c5 a6 c6),.int .i64 ye]) ?_ rfl ?_
 ·simp only[ar]at z0_;simp[results,results171,go_sem,z0_]
 ·exact⟨_,by rw[HA.o],Z.o.1,by rw[HA.o];exact Z.o.2⟩
section
def Lu (f:FuncId) (d:Nat):Prop:=∀ (w:LC) (ok:Nat->Prop) (x:V) (xv:Value),bu w ok d x xv->dz x ->
 Calls prog f #[xv] w fun e w'=>∃ r,e=.returned r/\La w w'/\In w' (fun k=>w.heap.size<=k) x r/\∃ D,Sd w' (fun k=>w.heap.size<=k) D r
def JX (w:LC) (x:V) (cs:List Value) (ka' la':Option Addr) (kc' lc' k:Nat) (wr:LC):Prop:=
 ∃ ns:List Value,KY wr w.heap.size x ka' kc' la' lc'/\Lc wr (w.heap.size+1)/\La w wr/\wr.ownsRow (w.heap.size+2) 9 1 (.slice ka' x.keys.length kc') x.keys.length (x.keys.map aR)/\wr.ownsRow (w.heap.size+2) 39 5 (.slice la' x.l.length lc') x.l.length (ns++cs.drop (k * 5))/\cA (In wr (fun j=>w.heap.size+2<=j/\la'≠some ⟨j,0,none⟩)) (x.l.take k) ns/\∃ L0:List (List Value),L0.flatten=ns/\L0.length=k/\∀ c∈L0,c.length=5/\∃ D,Sd wr (fun j=>w.heap.size+2<=j/\la'≠some ⟨j,0,none⟩) D (.agg c.toArray)
def Ks (w:LC) (x:V) (cs:List Value) (wc:LC):Prop:=
 ∃ (ka' la':Option Addr) (kc' lc':Nat),KY wc w.heap.size x ka' kc' la' lc'/\Lc wc (w.heap.size+1)/\La w wc/\wc.ownsRow (w.heap.size+2) 9 1 (.slice ka' x.keys.length kc') x.keys.length (x.keys.map aR)/\wc.ownsRow (w.heap.size+2) 39 5 (.slice la' x.l.length lc') x.l.length cs/\(∀ g,ka'=some ⟨g,0,none⟩->la'≠some ⟨g,0,none⟩)
attribute [local go_sem ↓] Go.wp_at_zero Go.wp_at_succ
theorem Lt(f:FuncId)(hf:f=204\/f=28)(d:Nat)(ih:Lu f d):Lu f (d+1):=by
 intro w ok x xv h hn;have LT:=hU hn;have hklen:x.keys.length<=120:=nG (fp hn) LT;obtain⟨ks,ls,rfl,h1,h2,h3,h4,h5⟩:=h;have sk:=sY h4 (by omega);obtain⟨cs,hrow,sl⟩:=AF h5 (by omega);obtain⟨ka,kc,rfl⟩:=h4.form;obtain⟨la,lc,rfl⟩:=h5.form;have KK:Ll (dW x.kind/\dW x.n/\x.s.length<=maxLen/\(∀ y∈x.keys,y.length<=maxLen)):=⟨h1,h2,h3,fun y hy=>h4.mem y hy⟩
 have RW:=aa hrow;have SK:=aa sk;have SL:=aa sl;have IH:=aa ih;have HN:=aa hn;clear h1 h2 h3 h4 h5 hrow sk sl ih hn;unfold aR;have bx0:Ll (∀ W,W.heap=((w.alloc (.cells (KV x ka kc la lc) 39)).alloc (.cells Lb 39)).heap->W.os=w.os->W.tape=w.tape->W.output=w.output->KY W w.heap.size x ka kc la lc/\Lc W (w.heap.size+1)/\La w W/\w.heap.size+2<=W.heap.size):=by
  intro W e1 e2 e3 e4;exact⟨(congrArg (fun h=>h[w.heap.size]?) e1).trans (fb w _ _),(congrArg (fun h=>h[w.heap.size+1]?) e1).trans (et w _ _),kD e1 e2 e3 e4,by rw[e1];simp⟩
 have conS1:Ll (∀ W,(KY W w.heap.size x ka kc la lc/\Lc W (w.heap.size+1)/\La w W/\w.heap.size+2<=W.heap.size)->Calls prog 30 #[(.slice ka x.keys.length kc)] W fun e w'=>∃ ka' kc',e=.returned (.slice ka' x.keys.length kc')/\(KY w' w.heap.size x ka kc la lc/\Lc w' (w.heap.size+1)/\La w w'/\w.heap.size+2<=w'.heap.size)/\w'.ownsRow (w.heap.size+2) 9 1 (.slice ka' x.keys.length kc') x.keys.length (x.keys.map aR)):=by
  intro W hW;refine(pB W _ _ _ (SK.o.bel hW.2.2.1)).mono ?_;rintro e w' ⟨v',rfl,ho,hb⟩;obtain⟨a,c,rfl,-⟩:=ej ho;exact⟨a,c,rfl,⟨af hb hW.1,af hb hW.2.1,ab hW.2.2.1 hb,MH hW.2.2.2 hb.size⟩,cV ho hW.2.2.2⟩
 have conV1:Ll (∀ W,(KY W w.heap.size x ka kc la lc/\Lc W (w.heap.size+1)/\La w W/\w.heap.size+2<=W.heap.size)->Calls prog 42 #[(.slice la x.l.length lc)] W fun e w'=>∃ la' lc',e=.returned (.slice la' x.l.length lc')/\(KY w' w.heap.size x ka kc la lc/\Lc w' (w.heap.size+1)/\La w w'/\w.heap.size+2<=w'.heap.size)/\w'.ownsRow (w.heap.size+2) 39 5 (.slice la' x.l.length lc') x.l.length cs):=by
  intro W hW;refine(tD W _ _ _ (SL.o.bel hW.2.2.1)).mono ?_;rintro e w' ⟨v',rfl,ho,hb⟩;obtain⟨a,c,rfl,-⟩:=ej ho;exact⟨a,c,rfl,⟨af hb hW.1,af hb hW.2.1,ab hW.2.2.1 hb,MH hW.2.2.2 hb.size⟩,cV ho hW.2.2.2⟩
 have nB:Ll (∀ W ka' kc',((KY W w.heap.size x ka kc la lc/\Lc W (w.heap.size+1)/\La w W/\w.heap.size+2<=W.heap.size)/\W.ownsRow (w.heap.size+2) 9 1 (.slice ka' x.keys.length kc') x.keys.length (x.keys.map aR))->Calls prog 42 #[(.slice la x.l.length lc)] W fun e w'=>∃ la' lc',e=.returned (.slice la' x.l.length lc')/\(KY w' w.heap.size x ka kc la lc/\Lc w' (w.heap.size+1)/\La w w'/\w.heap.size+2<=w'.heap.size)/\w'.ownsRow (w.heap.size+2) 9 1 (.slice ka' x.keys.length kc') x.keys.length (x.keys.map aR)/\w'.ownsRow (w.heap.size+2) 39 5 (.slice la' x.l.length lc') x.l.length cs/\(∀ g,ka'=some ⟨g,0,none⟩->la'≠some ⟨g,0,none⟩)):=by
  intro W ka' kc' hW;refine(tD W _ _ _ (SL.o.bel hW.1.2.2.1)).mono ?_;rintro e w' ⟨v',rfl,ho,hb⟩;obtain⟨a,c,rfl,-,-,-,hg⟩:=ej ho;refine⟨a,c,rfl,⟨af hb hW.1.1,af hb hW.1.2.1,ab hW.1.2.2.1 hb,MH hW.1.2.2.2 hb.size⟩,fD hW.2 hb,cV ho hW.1.2.2.2,fun g e1 e2=>?_⟩;have:=(hg g e2).1;have:=(hW.2.lt g (by rw[e1];rfl)).2;omega
 have pK:Ll (∀ W la' lc',((KY W w.heap.size x ka kc la lc/\Lc W (w.heap.size+1)/\La w W/\w.heap.size+2<=W.heap.size)/\W.ownsRow (w.heap.size+2) 39 5 (.slice la' x.l.length lc') x.l.length cs)->Calls prog 30 #[(.slice ka x.keys.length kc)] W fun e w'=>∃ ka' kc',e=.returned (.slice ka' x.keys.length kc')/\(KY w' w.heap.size x ka kc la lc/\Lc w' (w.heap.size+1)/\La w w'/\w.heap.size+2<=w'.heap.size)/\w'.ownsRow (w.heap.size+2) 9 1 (.slice ka' x.keys.length kc') x.keys.length (x.keys.map aR)/\w'.ownsRow (w.heap.size+2) 39 5 (.slice la' x.l.length lc') x.l.length cs/\(∀ g,ka'=some ⟨g,0,none⟩->la'≠some ⟨g,0,none⟩)):=by
  intro W la' lc' hW;refine(pB W _ _ _ (SK.o.bel hW.1.2.2.1)).mono ?_;rintro e w' ⟨v',rfl,ho,hb⟩;obtain⟨a,c,rfl,-,-,-,hg⟩:=ej ho;refine⟨a,c,rfl,⟨af hb hW.1.1,af hb hW.1.2.1,ab hW.1.2.2.1 hb,MH hW.1.2.2.2 hb.size⟩,cV ho hW.1.2.2.2,fD hW.2 hb,fun g e1 e2=>?_⟩;have:=(hg g e1).1;have:=(hW.2.lt g (by rw[e2];rfl)).2;omega
 have midI:Ll (∀ (wb:LC) (ka' la':Option Addr) (kc' lc':Nat),((KY wb w.heap.size x ka kc la lc/\Lc wb (w.heap.size+1)/\La w wb/\w.heap.size+2<=wb.heap.size)/\wb.ownsRow (w.heap.size+2) 9 1 (.slice ka' x.keys.length kc') x.keys.length (x.keys.map aR)/\wb.ownsRow (w.heap.size+2) 39 5 (.slice la' x.l.length lc') x.l.length cs/\(∀ g,ka'=some ⟨g,0,none⟩->la'≠some ⟨g,0,none⟩))->∀ W,(W=(wb.setCell ⟨w.heap.size,3,none⟩ (.slice ka' x.keys.length kc')).setCell ⟨w.heap.size,4,none⟩ (.slice la' x.l.length lc')\/W=(wb.setCell ⟨w.heap.size,4,none⟩ (.slice la' x.l.length lc')).setCell ⟨w.heap.size,3,none⟩ (.slice ka' x.keys.length kc'))->Ks w x cs W):=by
  intro wb ka' la' kc' lc' hw W hW;have g1:∀ (i j:Nat) (u v:Value),wb.grownBy ((wb.setCell ⟨w.heap.size,i,none⟩ u).setCell ⟨w.heap.size,j,none⟩ v) (some w.heap.size):=fun i j u v=>ap (ap (az _ _) _ _) _ _;refine⟨ka',la',kc',lc',?_⟩;rcases hW with rfl | rfl
  ·exact⟨ak (ak hw.1.1 3 _) 4 _,hw.1.2.1.grown (g1 _ _ _ _) (by simp),bS (bi (bi (aq hw.1.2.2.1) (MG _) _ _) (MG _) _ _),aW hw.2.1 (g1 _ _ _ _) (by omega),aW hw.2.2.1 (g1 _ _ _ _) (by omega),hw.2.2.2⟩
  ·exact⟨ak (ak hw.1.1 4 _) 3 _,hw.1.2.1.grown (g1 _ _ _ _) (by simp),bS (bi (bi (aq hw.1.2.2.1) (MG _) _ _) (MG _) _ _),aW hw.2.1 (g1 _ _ _ _) (by omega),aW hw.2.2.1 (g1 _ _ _ _) (by omega),hw.2.2.2⟩
 rcases hf with hf | hf
 all_goals
  have HF:=aa hf;rw[hf];clear hf;first
   | go_enter func204,ntmps204
   | go_enter func28,ntmps28
  go_upto_region 1 with fail
  go_cut [] (fun wc=>Ks w x cs wc)
  case first=>
   go_region_with (first
    |(go_at_call 30;refine(conS1.o _ (bx0.o _ (by rfl) (by rfl) (by rfl) (by rfl))).mono ?_;rintro e wa ⟨ka',kc',rfl,hka⟩;obtain⟨p0,p1,p2,p3,p4,p5,p6,p7,p8,p9⟩:=hka.1.1.c;have KA:=aa hka;clear hka)
    |(go_at_call 42;refine(conV1.o _ (bx0.o _ (by rfl) (by rfl) (by rfl) (by rfl))).mono ?_;rintro e wa ⟨la',lc',rfl,hka⟩;obtain⟨p0,p1,p2,p3,p4,p5,p6,p7,p8,p9⟩:=hka.1.1.c;have KA:=aa hka;clear hka)
    |(go_at_call 30;refine(pK.o _ la' lc' (by exact KA.o)).mono ?_;rintro e wb ⟨ka',kc',rfl,hkb⟩;obtain⟨p0,p1,p2,p3,p4,p5,p6,p7,p8,p9⟩:=hkb.1.1.c;have KB:=aa hkb;clear hkb)
    |(go_at_call 42;refine(nB.o _ ka' kc' (by exact KA.o)).mono ?_;rintro e wb ⟨la',lc',rfl,hkb⟩;obtain⟨p0,p1,p2,p3,p4,p5,p6,p7,p8,p9⟩:=hkb.1.1.c;have KB:=aa hkb;clear hkb))
   all_goals
    go_wp2
    go_meet
    case rel=>first | exact midI.o _ ka' la' kc' lc' KB.o _ (.inl rfl) | exact midI.o _ ka' la' kc' lc' KB.o _ (.inr rfl)
  case rest=>
   obtain⟨ka',la',kc',lc',k1,k2,k3,k4,k5,k6⟩:=hcut;have Mb:=RW.o.length;have KF:=aa k6;have TL0:Ll (JX w x cs ka' la' kc' lc' 0 wc):=⟨[],k1,k2,k3,k4,by simpa using k5,rfl,[],rfl,rfl,fun c hc=>by cases hc⟩
   obtain⟨a9,c9,e9,hla,hlc1,hlc2,hlg⟩:=ej k5;simp only[Value.slice.injEq]at e9;obtain⟨rfl,-,rfl⟩:=e9;obtain⟨p0,p1,p2,p3,p4,-⟩:=k1.c;clear k1 k2 k3 k4 k5 k6 conS1 pK conV1 nB midI bx0 hlg;go_wp2
   go_loopg [16] x.l.length (fun gk i wr=>∃ k:Nat,k<=x.l.length/\gk=x.l.length - k/\i=.int .i64 k/\JX w x cs ka' la' kc' lc' k wr)
   case atStart=>exact⟨0,Nat.zero_le _,rfl,rfl,TL0.o⟩
   case round=>
    obtain⟨k,hk,hgk,rfl,ns,i1,i2,i3,i4,i5,i6,i7⟩:=hrel;have IS:=aa i7;have GK:=aa hgk;have I:Ll (KY wr w.heap.size x ka' kc' la' lc'/\Lc wr (w.heap.size+1)/\La w wr/\wr.ownsRow (w.heap.size+2) 9 1 (.slice ka' x.keys.length kc') x.keys.length (x.keys.map aR)/\wr.ownsRow (w.heap.size+2) 39 5 (.slice la' x.l.length lc') x.l.length (ns++cs.drop (k * 5))/\cA (In wr (fun j=>w.heap.size+2<=j/\la'≠some ⟨j,0,none⟩)) (x.l.take k) ns):=⟨i1,i2,i3,i4,i5,i6⟩
    clear hgk i1 i2 i3 i4 i5 i6 i7;by_cases hlt:k < x.l.length
    ·obtain⟨gl,rfl⟩:∃ gl,la'=some ⟨gl,0,none⟩:=by
      rcases hla with h0 | h0
      ·omega
      ·exact h0
     obtain⟨v0,v1,v2,v3,v4,g0,g1,g2,g3,g4,g5⟩:=RW.o.get k x.l[k] (Mw hlt);have hns:ns.length=k * 5:=by have:=I.o.2.2.2.2.2.length;rw[MC,Nat.min_eq_left hk]at this;exact this
     have G5:=aa g5;have hdrop:cs.drop (k * 5)=v0 :: v1 :: v2 :: v3 :: v4 :: cs.drop ((k+1) * 5):=Jc g0 g1 g2 g3 g4;obtain⟨rfl,rfl,rfl,⟨a5,c5,rfl⟩,⟨a6,c6,rfl⟩⟩:=g5.agg;have DR:=aa hdrop;have hgl:=(I.o.2.2.2.2.1.lt gl rfl)
     have cel:=lE (by rw[<-hdrop];exact I.o.2.2.2.2.1) hns;obtain⟨m0,m1,m2,m3,m4⟩:=cel;obtain⟨p0,p1,p2,p3,p4,-⟩:=I.o.1.c;have p4':=(af (ae wr (.cells #[.int .i64 x.l[k].kind,.int .i64 x.l[k].n,.string ⟨x.l[k].s.toArray⟩,.slice a5 x.l[k].keys.length c5,.slice a6 x.l[k].l.length c6] 39)) I.o.1).c.2.2.2.2.1;have con5:Ll (∀ W,W.heap=(wr.alloc (.cells #[.int .i64 x.l[k].kind,.int .i64 x.l[k].n,.string ⟨x.l[k].s.toArray⟩,.slice a5 x.l[k].keys.length c5,.slice a6 x.l[k].l.length c6] 39)).heap->W.os=wr.os->W.tape=wr.tape->W.output=wr.output->Calls prog f #[.agg #[.int .i64 x.l[k].kind,.int .i64 x.l[k].n,.string ⟨x.l[k].s.toArray⟩,.slice a5 x.l[k].keys.length c5,.slice a6 x.l[k].l.length c6]] W fun e w'=>∃ (b5 b6:Option Addr) (d5 d6:Nat),e=.returned (.agg #[.int .i64 x.l[k].kind,.int .i64 x.l[k].n,.string ⟨x.l[k].s.toArray⟩,.slice b5 x.l[k].keys.length d5,.slice b6 x.l[k].l.length d6])/\w'.cell? ⟨w.heap.size,4,none⟩=some (.slice (some ⟨gl,0,none⟩) x.l.length lc') /\
      (Jn w' gl (k * 5))/\∀ W',W'=vr w' gl (k * 5) (.int .i64 x.l[k].kind) (.int .i64 x.l[k].n) (.string ⟨x.l[k].s.toArray⟩) (.slice b5 x.l[k].keys.length d5) (.slice b6 x.l[k].l.length d6)->JX w x cs ka' (some ⟨gl,0,none⟩) kc' lc' (k+1) W'):=by
      intro W e1 e2 e3 e4;have LY:La wr W:=by
       have:=ae wr (.cells #[.int .i64 x.l[k].kind,.int .i64 x.l[k].n,.string ⟨x.l[k].s.toArray⟩,.slice a5 x.l[k].keys.length c5,.slice a6 x.l[k].l.length c6] 39);exact⟨e2,e3,e4,by rw[e1];exact this.size,fun j hj=>by rw[e1];exact this.block j hj⟩
      refine(IH.o W ok x.l[k] _ (G5.o.bel (ab I.o.2.2.1 LY)) (gC HN.o (List.getElem_mem _))).mono ?_;rintro e w' ⟨r,rfl,hb,hr,D9,hsh⟩;obtain⟨b5,b6,d5,d6,rfl⟩:=hr.form;have hb3:=ab LY hb;have oL:=fD I.o.2.2.2.2.1 hb3;rw[DR.o]at oL;have hWs:wr.heap.size<=W.heap.size:=LY.size;refine⟨b5,b6,d5,d6,rfl,(af hb3 I.o.1).c.2.2.2.2.1,AC oL hns,?_⟩;rintro W' rfl;have gs:=us w' gl (k * 5) (.int .i64 x.l[k].kind) (.int .i64 x.l[k].n) (.string ⟨x.l[k].s.toArray⟩) (.slice b5 x.l[k].keys.length d5) (.slice b6 x.l[k].l.length d6);refine⟨ns++[.int .i64 x.l[k].kind,.int .i64 x.l[k].n,.string ⟨x.l[k].s.toArray⟩,.slice b5 x.l[k].keys.length d5,.slice b6 x.l[k].l.length d6],(af hb3 I.o.1).grown gs (by simp;omega),(af hb3 I.o.2.1).grown gs (by simp;omega),sK (ab I.o.2.2.1 hb3) (by omega) _ _ _ _ _ _,?_,?_,?_,?_⟩
      ·refine(fD I.o.2.2.2.1 hb3).kept gs ?_;rcases ry I.o.2.2.2.1 with e | ⟨g,e⟩
       ·rw[e];exact .inl rfl
       ·rw[e];refine .inr fun e9=>KF.o g e ?_;simp only[Value.ownBlock,Option.some.injEq]at e9;rw[e9]
      ·have:=Ad (d0:=.int .i64 x.l[k].kind) (d1:=.int .i64 x.l[k].n) (d2:=.string ⟨x.l[k].s.toArray⟩) (d3:=.slice b5 x.l[k].keys.length d5) (d4:=.slice b6 x.l[k].l.length d6) oL;rw[hns]at this;rw[List.append_assoc];exact this
      ·rw[List.take_add_one,Mw hlt];refine cA.append (ys:=[x.l[k]]) ⟨_,_,_,_,_,[],rfl,(hr.weak (ok':=fun j=>w.heap.size+2<=j/\some ⟨gl,0,none⟩≠some (⟨j,0,none⟩:Addr)) (fun j hj=>⟨by omega,fun e=>by simp only[Option.some.injEq,Addr.mk.injEq,and_true]at e;omega⟩)).grown gs (fun j hj e=>hj.2 (by rw[e])),rfl⟩ (I.o.2.2.2.2.2.imp fun y v hy=>(hy.bel hb3).grown gs (fun j hj e=>hj.2 (by rw[e])))
      ·obtain⟨L0,e1,e2,e3⟩:=IS.o;refine⟨L0++[[.int .i64 x.l[k].kind,.int .i64 x.l[k].n,.string ⟨x.l[k].s.toArray⟩,.slice b5 x.l[k].keys.length d5,.slice b6 x.l[k].l.length d6]],by rw[List.flatten_append,e1];rfl,by rw[Mx,e2];rfl,fun c hc=>?_⟩;rcases List.mem_append.1 hc with hc | hc
       ·obtain⟨h5,D,hD⟩:=e3 c hc;exact⟨h5,D,(hD.bel hb3).imp (fun g hg hl=>⟨hg,gs.block g hl (fun e=>hg.2 (by cases e;rfl))⟩) _ _⟩
       ·obtain rfl:=List.mem_singleton.1 hc;exact⟨rfl,D9,hsh.imp (fun g hg hl=>⟨⟨by omega,fun e=>by simp only[Option.some.injEq,Addr.mk.injEq,and_true]at e;omega⟩,gs.block g hl (fun e=>by cases e;omega)⟩) _ _⟩
     rw[HF.o]at con5;clear g0 g1 g2 g3 g4 g5 hdrop;go_upto_region 5 with fail
     go_region_with (((first | go_at_call 204 | go_at_call 28);refine(con5.o _ (by rfl) (by rfl) (by rfl) (by rfl)).mono ?_;rintro e w2 ⟨b5,b6,d5,d6,rfl,hp4,hown,hfin⟩;obtain⟨⟨t0,n0⟩,⟨t1,n1⟩,⟨t2,n2⟩,⟨t3,n3⟩,⟨t4,n4⟩,f0,f1,f2,f3,f4⟩:=hown;have FIN:=aa hfin;clear hfin))
     all_goals
      go_wp2
      go_roundg (x.l.length - (k+1))
      case measure=>rw[GK.o];omega
      case rel=>exact⟨k+1,hlt,rfl,by go_num,FIN.o _ rfl⟩
    ·have Mc:k=x.l.length:=by omega
     subst Mc;obtain⟨D,hD⟩:=mQ I.o.2.2.2.2.2;rw[List.take_length]at hD;have oL:=I.o.2.2.2.2.1;rw[<-Mb,List.drop_length,List.append_nil]at oL;have hin:In wr (fun j=>w.heap.size+2<=j) x (.agg (KV x ka' kc' la' lc')):=⟨D+1,_,_,rfl,KK.o.1,KK.o.2.1,KK.o.2.2.1,kf rfl I.o.2.2.2.1 KK.o.2.2.2 (fun j hj=>hj) (by unfold maxLen;omega),fJ rfl oL (hD.imp fun _ _ h=>h.weak fun j hj=>hj.1) (fun j hj=>hj) (by unfold maxLen;omega)⟩
     have ZS:Ll (∃ D,Sd (LG wr (w.heap.size+1) x ka' kc' la' lc') (fun k=>w.heap.size<=k) D (.agg (KV x ka' kc' la' lc'))):=aa (by
      obtain⟨L0,e1,e2,e3⟩:=IS.o;obtain⟨E,hE⟩:=SF L0 e3;have h9:Sd wr (fun j=>w.heap.size+2<=j) (E+1) (.agg (KV x ka' kc' la' lc')):=
       ⟨_,_,_,_,_,_,_,_,_,x.keys.map aR,L0,rfl,cV I.o.2.2.2.1 (Nat.zero_le _),fun u hu=>by obtain⟨z,-,rfl⟩:=List.mem_map.1 hu;exact⟨_,rfl⟩,fun g hg=>(bY I.o.2.2.2.1 hg).1,by rw[e1];exact cV oL (Nat.zero_le _),e2,fun g hg=>(bY oL hg).1,fun c hc=>⟨(hE c hc).1,(hE c hc).2.imp (fun g hg _=>⟨hg.1,rfl⟩) _ _⟩⟩
      exact⟨E+1,h9.imp (fun g hg hl=>⟨by omega,(aI wr (w.heap.size+1) _ _ _ _ _).block g hl (fun e=>by cases e;omega)⟩) _ _⟩)
     obtain⟨p0,p1,p2,p3,p4,-⟩:=I.o.1.c;have x0_:=I.o.2.1.c;have ZI:=aa ((hin.grown (LH (aI wr (w.heap.size+1)) x ka' kc' la' lc') (fun j hj e=>by omega)).weak (ok':=fun j=>w.heap.size<=j) (fun j hj=>by omega));have ZW:=aa (LH (aP I.o.2.2.1 (Nat.le_succ w.heap.size)) x ka' kc' la' lc');have ZB:=aa (LH I.o.2.1.set x ka' kc' la' lc');clear hin oL hD;go_wp2
     have z0_:=ZB.o.c;refine MM (v:=.agg (KV x ka' kc' la' lc')) ?_ rfl ?_
     ·simp only[ar]at z0_;simp[results,results204,results28,go_sem,z0_]
     ·exact⟨_,rfl,ZW.o,ZI.o,ZS.o⟩
theorem Lr(f:FuncId)(hf:f=204\/f=28)(d:Nat):Lu f d:=by
 induction d with
 | zero=>exact fun _ _ _ _ h _=>h.elim
 | succ d ih=>exact Lt f hf d ih
theorem IG(w:LC)(ok x xv)(h:In w ok x xv)(hn:dz x):Calls prog 204 #[xv] w fun e w'=>∃ r,e=.returned r/\La w w'/\In w' (fun k=>w.heap.size<=k) x r:=by
 obtain⟨d,h⟩:=h;exact(Lr _ (.inl rfl) d w ok x xv h hn).mono fun e w' ⟨r,h1,h2,h3,_⟩=>⟨r,h1,h2,h3⟩
theorem pU:∀ (ns:List Lz) (t y:V),dz t->mh ns t=some y->dz y
 | [],t,y,ht,h=>by rw[mh]at h;cases h;exact ht
 | s :: ns,t,y,ht,h=>by
  rw[mh,Option.bind_eq_some_iff]at h;obtain⟨u,h1,h2⟩:=h;exact pU ns u y (lu ht h1) h2
end
theorem F0(w:LC)(ok t v frm dst)(h:In w ok t v)(hf:frm.length<=140737488351232)(hd:dst.length<=140737488351232)(hM:bj w):Calls prog 173 #[v,aR frm,aR dst] w fun e w'=>∃ r,e=.returned (.tuple #[r,.int .i64 (wf t frm dst).2])/\La w w'/\In w' (bQ ok w.heap.size) (wf t frm dst).1 r:=by
 have H:=aa h.low;have HMM:=aa hM;obtain⟨l1,l2,l3⟩:=h.lens;obtain⟨a1,a2,c1,c2,rfl⟩:=h.form;clear h hM;have B2:Ll (∀ o1 o2,La w ((w.alloc o1).alloc o2)):=fun o1 o2=>ab (ae _ _) (ae _ _);unfold aR;go_enter func173,ntmps173;go_wp2_with fail
 refine(zD _ (Lj ok w) t _ frm (by exact H.o.bel (B2.o _ _)) hf (by exact HMM.o.bel (B2.o _ _))).mono ?_;rintro e w1 ⟨r,rfl,hb1,hr⟩;obtain⟨g,hg⟩:∃ g,fP (ax frm) t=g:=⟨_,rfl⟩
 rw[hg]at hr ⊢;obtain⟨x,xe⟩:=g;simp only at hr ⊢;obtain⟨a7,a8,c7,c8,rfl⟩:=hr.form;have HG:=aa hg;have LW:=ab hb1 (ae w1 (.cells (KV x a7 c7 a8 c8) 39));have K:Ll (KY (w1.alloc (.cells (KV x a7 c7 a8 c8) 39)) w.heap.size t a1 c1 a2 c2/\Lc (w1.alloc (.cells (KV x a7 c7 a8 c8) 39)) (w.heap.size+1)/\La w (w1.alloc (.cells (KV x a7 c7 a8 c8) 39))/\KY (w1.alloc (.cells (KV x a7 c7 a8 c8) 39)) w1.heap.size x a7 c7 a8 c8/\In (w1.alloc (.cells (KV x a7 c7 a8 c8) 39)) (Lj ok w) x (.agg (KV x a7 c7 a8 c8))):=⟨af LW (fb w _ _),af LW (et w _ _),ab (B2.o _ _) LW,MN w1 _,hr.bel (ae _ _)⟩
 clear hg hr hb1 LW;by_cases hxe:xe=0
 ·subst hxe;cases hpre:Lib.hasPrefix dst (frm++[47]) with
  | true=>
   have HPRE:=aa hpre;clear hpre;go_wp2_with fail
   have hpx:=Tryz.strings_HasPrefix ⟨dst.toArray⟩ ⟨(frm++[47]).toArray⟩ (w1.alloc (.cells (KV x a7 c7 a8 c8) 39));simp only[List.toList_toArray]at hpx;rw[HPRE.o,<-yR]at hpx;refine hpx.mono ?_;rintro e w2 ⟨rfl,hw2⟩;have K2:Ll (KY w2 w.heap.size t a1 c1 a2 c2/\Lc w2 (w.heap.size+1)/\La w w2):=by rw[hw2];exact⟨K.o.1,K.o.2.1,K.o.2.2.1⟩
   clear hw2 K hpx;have p0_:=(K2.o.1).c;obtain⟨x0,x1,x2,x3,x4,y0,y1,y2,y3,y4⟩:=(K2.o.2.1).c;have Z:Ll (_/\_):=aN (C:=(w2).heap.size) (g:=w.heap.size+1) ((H.o.bel K2.o.2.2).weak (aO (C:=(w2).heap.size))) K2.o.2.2 (by omega) (K2.o.2.1).lt;have ZB:Ll _:=aa ((K2.o.2.1).set (.int .i64 t.kind) (.int .i64 t.n) (.string ⟨t.s.toArray⟩) (.slice a1 t.keys.length c1) (.slice a2 t.l.length c2));have HA:Ll (wf t frm dst=(t,1)):=aa (by unfold wf;rw[HG.o];simp only[ne_eq,not_true_eq_false,if_false,HPRE.o,if_true]);clear K2;go_wp2_with fail
   have z0_:=ZB.o.c;refine MM (v:=.tuple #[.agg (KV t a1 c1 a2 c2),.int .i64 1]) ?_ rfl ?_
   ·simp only[ar]at z0_;simp[results,results173,go_sem,z0_]
   ·refine⟨_,by rw[HA.o],Z.o.1,?_⟩;rw[HA.o];exact Z.o.2
  | false=>
   have HPRE:=aa hpre;clear hpre;go_wp2_with fail
   have hpx:=Tryz.strings_HasPrefix ⟨dst.toArray⟩ ⟨(frm++[47]).toArray⟩ (w1.alloc (.cells (KV x a7 c7 a8 c8) 39));simp only[List.toList_toArray]at hpx;rw[HPRE.o,<-yR]at hpx;refine hpx.mono ?_;rintro e w2 ⟨rfl,hw2⟩;have K2:Ll (KY w2 w.heap.size t a1 c1 a2 c2/\Lc w2 (w.heap.size+1)/\La w w2/\KY w2 w1.heap.size x a7 c7 a8 c8/\In w2 (Lj ok w) x (.agg (KV x a7 c7 a8 c8))):=by rw[hw2];exact K.o
   clear hw2 K hpx;by_cases hdf:dst=frm
   ·have q1:(dst == frm)=true:=by rw[hdf];simp
    have HDF:=aa hdf;clear hdf;have p0_:=(K2.o.1).c;obtain⟨x0,x1,x2,x3,x4,y0,y1,y2,y3,y4⟩:=(K2.o.2.1).c;have Z:Ll (_/\_):=aN (C:=(w2).heap.size) (g:=w.heap.size+1) ((H.o.bel K2.o.2.2.1).weak (aO (C:=(w2).heap.size))) K2.o.2.2.1 (by omega) (K2.o.2.1).lt;have ZB:Ll _:=aa ((K2.o.2.1).set (.int .i64 t.kind) (.int .i64 t.n) (.string ⟨t.s.toArray⟩) (.slice a1 t.keys.length c1) (.slice a2 t.l.length c2));have HA:Ll (wf t frm dst=(t,0)):=aa (by unfold wf;rw[HG.o];simp only[ne_eq,not_true_eq_false,if_false,HPRE.o];rw[if_neg (by simp),if_pos HDF.o]);clear K2;go_wp2_with fail
    have z0_:=ZB.o.c;refine MM (v:=.tuple #[.agg (KV t a1 c1 a2 c2),.int .i64 0]) ?_ rfl ?_
    ·simp only[ar]at z0_;simp[results,results173,go_sem,z0_]
    ·refine⟨_,by rw[HA.o],Z.o.1,?_⟩;rw[HA.o];exact Z.o.2
   ·have q1:(dst == frm)=false:=by rw[MO];exact hdf
    have HDF:=aa hdf;clear hdf;have p0_:=K2.o.1.c;go_wp2_with fail
    refine(sD _ (Lj ok w) t _ frm (by exact H.o.bel K2.o.2.2.1) hf (by exact HMM.o.bel K2.o.2.2.1)).mono ?_;rintro e w3 ⟨r,rfl,hb3,hr⟩;obtain⟨g,hg⟩:∃ g,aX ch (ax frm) t=g:=⟨_,rfl⟩
    rw[hg]at hr ⊢;obtain⟨y,ye⟩:=g;simp only at hr ⊢;obtain⟨a5,a6,c5,c6,rfl⟩:=hr.form;have HC:=aa hg;have LW:=ab hb3 (ae w3 (.cells (KV y a5 c5 a6 c6) 39));have hsz2:=K2.o.2.1.lt;have hsz2b:=K2.o.2.2.2.1.lt;have hsz3:=hb3.size;have K3:Ll (KY (w3.alloc (.cells (KV y a5 c5 a6 c6) 39)) w.heap.size t a1 c1 a2 c2/\Lc (w3.alloc (.cells (KV y a5 c5 a6 c6) 39)) (w.heap.size+1)/\La w (w3.alloc (.cells (KV y a5 c5 a6 c6) 39))/\KY (w3.alloc (.cells (KV y a5 c5 a6 c6) 39)) w1.heap.size x a7 c7 a8 c8/\In (w3.alloc (.cells (KV y a5 c5 a6 c6) 39)) (fun k=>bg ok w.heap.size w2.heap.size k/\k < w3.heap.size) x (.agg (KV x a7 c7 a8 c8))/\KY (w3.alloc (.cells (KV y a5 c5 a6 c6) 39)) w3.heap.size y a5 c5 a6 c6/\In (w3.alloc (.cells (KV y a5 c5 a6 c6) 39)) (fun k=>bg ok w.heap.size w2.heap.size k/\k < w3.heap.size) y (.agg (KV y a5 c5 a6 c6))):=⟨af LW K2.o.1,af LW K2.o.2.1,ab K2.o.2.2.1 LW,af LW K2.o.2.2.2.1,(K2.o.2.2.2.2.bel LW).weak (fun k hk=>⟨aO k hk,by omega⟩),MN w3 _,hr.low.bel (ae _ _)⟩
    clear hg hr hb3 LW K2;by_cases hye:ye=0
    ·subst hye;have r0_:=K3.o.2.2.2.1.c;obtain⟨s0,s1,s2,s3,s4,-⟩:=K3.o.2.2.2.2.2.1.c;go_wp2_with fail
     refine(yi _ (fun k=>bg ok w.heap.size w2.heap.size k/\k < w3.heap.size) y x _ _ dst (by exact K3.o.2.2.2.2.2.2) (by exact K3.o.2.2.2.2.1) hd (by exact HMM.o.bel K3.o.2.2.1)).mono ?_;rintro e w4 ⟨r,rfl,hb4,hr⟩;obtain⟨g,hg⟩:∃ g,ep bL dst (ax dst) y x=g:=⟨_,rfl⟩
     rw[hg]at hr ⊢;obtain⟨z,ze⟩:=g;simp only at hr ⊢;obtain⟨a3,a4,c3,c4,rfl⟩:=hr.form;have HL:=aa hg;have hsz4:=hb4.size;have hszA:(w3.alloc (.cells (KV y a5 c5 a6 c6) 39)).heap.size=w3.heap.size+1:=by simp
     have bx4:=af hb4 K3.o.2.2.2.2.2.1;obtain⟨s0,s1,s2,s3,s4,s5,s6,s7,s8,s9⟩:=bx4.c;have g4:=aI w4 w3.heap.size (.int .i64 z.kind) (.int .i64 z.n) (.string ⟨z.s.toArray⟩) (.slice a3 z.keys.length c3) (.slice a4 z.l.length c4);have K4:Ll (KY (LG w4 w3.heap.size z a3 c3 a4 c4) w.heap.size t a1 c1 a2 c2/\Lc (LG w4 w3.heap.size z a3 c3 a4 c4) (w.heap.size+1)/\La w (LG w4 w3.heap.size z a3 c3 a4 c4)/\KY (LG w4 w3.heap.size z a3 c3 a4 c4) w3.heap.size z a3 c3 a4 c4/\In (LG w4 w3.heap.size z a3 c3 a4 c4) (bQ (fun k=>bg ok w.heap.size w2.heap.size k/\k < w3.heap.size) (w3.heap.size+1)) z (.agg (KV z a3 c3 a4 c4))):=by
      have hne:∀ k,bQ (fun k=>bg ok w.heap.size w2.heap.size k/\k < w3.heap.size) (w3.heap.size+1) k->k≠w3.heap.size:=by
       intro k hk e;rcases hk with hk | hk <;> omega
      exact⟨(af hb4 K3.o.1).grown g4 (by simp;omega),(af hb4 K3.o.2.1).grown g4 (by simp;omega),aP (ab K3.o.2.2.1 hb4) (by omega) _ _ _ _ _,bx4.set _ _ _ _ _,(hr.weak (fun k hk=>by rw[hszA]at hk;exact hk)).grown g4 hne⟩
     clear hg hr hb4 bx4 g4 K3;by_cases hze:ze=0
     ·subst hze;have HA:Ll (wf t frm dst=(z,0)):=aa (by unfold wf;rw[HG.o,HC.o];simp only[ne_eq,not_true_eq_false,if_false,HPRE.o,HL.o];rw[if_neg (by simp),if_neg HDF.o]);have n0_:=K4.o.2.2.2.1.c;obtain⟨x0,x1,x2,x3,x4,y0,y1,y2,y3,y4⟩:=K4.o.2.1.c;have ZI:=aa ((K4.o.2.2.2.2.grown (aI (LG w4 w3.heap.size z a3 c3 a4 c4) (w.heap.size+1) (.int .i64 z.kind) (.int .i64 z.n) (.string ⟨z.s.toArray⟩) (.slice a3 z.keys.length c3) (.slice a4 z.l.length c4)) (fun k hk e=>by
       rcases hk with hk | hk
       ·exact jB (by omega) hsz2 k hk.1 e
       ·omega)).weak (ok':=bQ ok w.heap.size) (fun k hk=>by
       rcases hk with hk | hk
       ·exact ik (by omega) k hk.1
       ·exact .inr (by omega)))
      have ZW:=aa (LH (aP K4.o.2.2.1 (Nat.le_succ w.heap.size)) z a3 c3 a4 c4);have ZB:=aa (LH K4.o.2.1.set z a3 c3 a4 c4);clear K4;simp only[ar]at n0_ x0 x1 x2 x3 x4 y0 y1 y2 y3 y4;go_wp2_with fail
      have z0_:=ZB.o.c;refine MM (v:=.tuple #[.agg (KV z a3 c3 a4 c4),.int .i64 0]) ?_ rfl ?_
      ·simp only[ar]at z0_;simp[results,results173,go_sem,z0_]
      ·refine⟨_,by rw[HA.o],ZW.o,?_⟩;rw[HA.o];exact ZI.o
     ·have e3:(ze != 0)=true:=by rw[bne_iff_ne];exact hze
      have e4:(ze == 0)=false:=by rw[MO];exact hze
      have HZE:=aa hze;clear hze;have p0_:=(K4.o.1).c;obtain⟨x0,x1,x2,x3,x4,y0,y1,y2,y3,y4⟩:=(K4.o.2.1).c;have Z:Ll (_/\_):=aN (C:=((LG w4 w3.heap.size z a3 c3 a4 c4)).heap.size) (g:=w.heap.size+1) ((H.o.bel K4.o.2.2.1).weak (aO (C:=((LG w4 w3.heap.size z a3 c3 a4 c4)).heap.size))) K4.o.2.2.1 (by omega) (K4.o.2.1).lt;have ZB:Ll _:=aa ((K4.o.2.1).set (.int .i64 t.kind) (.int .i64 t.n) (.string ⟨t.s.toArray⟩) (.slice a1 t.keys.length c1) (.slice a2 t.l.length c2));have HA:Ll (wf t frm dst=(t,ze)):=aa (by unfold wf;rw[HG.o,HC.o];simp only[ne_eq,not_true_eq_false,if_false,HPRE.o,HL.o];rw[if_neg (by simp),if_neg HDF.o,if_pos HZE.o]);clear K4;simp only[ar]at p0_ x0 x1 x2 x3 x4 y0 y1 y2 y3 y4;go_wp2_with fail
      have z0_:=ZB.o.c;refine MM (v:=.tuple #[.agg (KV t a1 c1 a2 c2),.int .i64 ze]) ?_ rfl ?_
      ·simp only[ar]at z0_;simp[results,results173,go_sem,z0_]
      ·refine⟨_,by rw[HA.o],Z.o.1,?_⟩;rw[HA.o];exact Z.o.2
    ·have e3:(ye != 0)=true:=by rw[bne_iff_ne];exact hye
     have e4:(ye == 0)=false:=by rw[MO];exact hye
     have HYE:=aa hye;clear hye;have p0_:=(K3.o.1).c;obtain⟨x0,x1,x2,x3,x4,y0,y1,y2,y3,y4⟩:=(K3.o.2.1).c;have Z:Ll (_/\_):=aN (C:=((w3.alloc (.cells (KV y a5 c5 a6 c6) 39))).heap.size) (g:=w.heap.size+1) ((H.o.bel K3.o.2.2.1).weak (aO (C:=((w3.alloc (.cells (KV y a5 c5 a6 c6) 39))).heap.size))) K3.o.2.2.1 (by omega) (K3.o.2.1).lt;have ZB:Ll _:=aa ((K3.o.2.1).set (.int .i64 t.kind) (.int .i64 t.n) (.string ⟨t.s.toArray⟩) (.slice a1 t.keys.length c1) (.slice a2 t.l.length c2));have HA:Ll (wf t frm dst=(t,ye)):=aa (by unfold wf;rw[HG.o,HC.o];simp only[ne_eq,not_true_eq_false,if_false,HPRE.o];rw[if_neg (by simp),if_neg HDF.o,if_pos HYE.o]);clear K3;go_wp2_with fail
     have z0_:=ZB.o.c;refine MM (v:=.tuple #[.agg (KV t a1 c1 a2 c2),.int .i64 ye]) ?_ rfl ?_
     ·simp only[ar]at z0_;simp[results,results173,go_sem,z0_]
     ·refine⟨_,by rw[HA.o],Z.o.1,?_⟩;rw[HA.o];exact Z.o.2
 ·have e1:(xe != 0)=true:=by rw[bne_iff_ne];exact hxe
  have e2:(xe == 0)=false:=by rw[MO];exact hxe
  have HXE:=aa hxe;clear hxe;have p0_:=(K.o.1).c;obtain⟨x0,x1,x2,x3,x4,y0,y1,y2,y3,y4⟩:=(K.o.2.1).c;have Z:Ll (_/\_):=aN (C:=((w1.alloc (.cells (KV x a7 c7 a8 c8) 39))).heap.size) (g:=w.heap.size+1) ((H.o.bel K.o.2.2.1).weak (aO (C:=((w1.alloc (.cells (KV x a7 c7 a8 c8) 39))).heap.size))) K.o.2.2.1 (by omega) (K.o.2.1).lt;have ZB:Ll _:=aa ((K.o.2.1).set (.int .i64 t.kind) (.int .i64 t.n) (.string ⟨t.s.toArray⟩) (.slice a1 t.keys.length c1) (.slice a2 t.l.length c2));have HA:Ll (wf t frm dst=(t,xe)):=aa (by unfold wf;rw[HG.o,if_pos HXE.o]);clear K;go_wp2_with fail
  have z0_:=ZB.o.c;refine MM (v:=.tuple #[.agg (KV t a1 c1 a2 c2),.int .i64 xe]) ?_ rfl ?_
  ·simp only[ar]at z0_;simp[results,results173,go_sem,z0_]
  ·refine⟨_,by rw[HA.o],Z.o.1,?_⟩;rw[HA.o];exact Z.o.2
theorem DE(w:LC)(ok t v frm dst)(h:In w ok t v)(hf:frm.length<=140737488351232)(hd:dst.length<=140737488351232)(hM:bj w):Calls prog 174 #[v,aR frm,aR dst] w fun e w'=>∃ r,e=.returned (.tuple #[r,.int .i64 (gS t frm dst).2])/\La w w'/\In w' (bQ ok w.heap.size) (gS t frm dst).1 r:=by
 have H:=aa h.low;have HMM:=aa hM;obtain⟨l1,l2,l3⟩:=h.lens;obtain⟨a1,a2,c1,c2,rfl⟩:=h.form;clear h hM;have B2:Ll (∀ o1 o2,La w ((w.alloc o1).alloc o2)):=fun o1 o2=>ab (ae _ _) (ae _ _);unfold aR;go_enter func174,ntmps174;go_wp2_with fail
 refine(zD _ (Lj ok w) t _ frm (by exact H.o.bel (B2.o _ _)) hf (by exact HMM.o.bel (B2.o _ _))).mono ?_;rintro e w1 ⟨r,rfl,hb1,hr⟩;obtain⟨g,hg⟩:∃ g,fP (ax frm) t=g:=⟨_,rfl⟩
 rw[hg]at hr ⊢;obtain⟨x,xe⟩:=g;simp only at hr ⊢;have HG:=aa hg;obtain⟨a7,a8,c7,c8,rfl⟩:=hr.form;have LW:=ab hb1 (ae w1 (.cells (KV x a7 c7 a8 c8) 39));have K:Ll (KY (w1.alloc (.cells (KV x a7 c7 a8 c8) 39)) w.heap.size t a1 c1 a2 c2/\Lc (w1.alloc (.cells (KV x a7 c7 a8 c8) 39)) (w.heap.size+1)/\La w (w1.alloc (.cells (KV x a7 c7 a8 c8) 39))/\KY (w1.alloc (.cells (KV x a7 c7 a8 c8) 39)) w1.heap.size x a7 c7 a8 c8/\In (w1.alloc (.cells (KV x a7 c7 a8 c8) 39)) (Lj ok w) x (.agg (KV x a7 c7 a8 c8))):=⟨af LW (fb w _ _),af LW (et w _ _),ab (B2.o _ _) LW,MN w1 _,hr.bel (ae _ _)⟩
 clear hr hb1 LW hg;by_cases hxe:xe=0
 ·subst hxe;have hnice:Ll (dz x):=aa (by obtain⟨q1,q2,q3⟩:=uu HG.o;exact pU _ _ _ (dQ q1) q3);have hszA:=K.o.2.1.lt;have conT:Ll (∀ W,W.heap=(w1.alloc (.cells (KV x a7 c7 a8 c8) 39)).heap->W.os=(w1.alloc (.cells (KV x a7 c7 a8 c8) 39)).os->W.tape=(w1.alloc (.cells (KV x a7 c7 a8 c8) 39)).tape->W.output=(w1.alloc (.cells (KV x a7 c7 a8 c8) 39)).output->Calls prog 204 #[.agg (KV x a7 c7 a8 c8)] W fun e w'=>∃ b7 b8 d7 d8,e=.returned (.agg (KV x b7 d7 b8 d8))/\(In w' (fun k=>(w1.alloc (.cells (KV x a7 c7 a8 c8) 39)).heap.size<=k) x (.agg (KV x b7 d7 b8 d8)))/\KY w' w.heap.size t a1 c1 a2 c2/\Lc w' (w.heap.size+1)/\La w w'):=by
   intro W e1 e2 e3 e4;have LY:=mn e1 e2 e3 e4;have L9:W.heap.size=(w1.alloc (.cells (KV x a7 c7 a8 c8) 39)).heap.size:=by rw[e1]
   refine(IG W _ x _ (K.o.2.2.2.2.bel LY) hnice.o).mono ?_;rintro e w' ⟨r,rfl,hb,hr⟩;obtain⟨b7,b8,d7,d8,rfl⟩:=hr.form;rw[L9]at hr;have hb':=ab LY hb;exact⟨b7,b8,d7,d8,rfl,hr,af hb' K.o.1,af hb' K.o.2.1,ab K.o.2.2.1 hb'⟩
  have conA:Ll (∀ W b7 b8 d7 d8,In W (fun k=>(w1.alloc (.cells (KV x a7 c7 a8 c8) 39)).heap.size<=k) x (.agg (KV x b7 d7 b8 d8))->(KY W w.heap.size t a1 c1 a2 c2/\Lc W (w.heap.size+1)/\La w W)->Calls prog 170 #[.agg (KV t a1 c1 a2 c2),.string ⟨dst.toArray⟩,.agg (KV x b7 d7 b8 d8)] W fun e w'=>∃ (z:V) (a3 a4:Option Addr) (c3 c4:Nat) (ze:Int),e=.returned (.tuple #[.agg (KV z a3 c3 a4 c4),.int .i64 ze])/\Lc w' (w.heap.size+1) /\
   (gS t frm dst=(z,ze))/\La w (LG w' (w.heap.size+1) z a3 c3 a4 c4)/\In (LG w' (w.heap.size+1) z a3 c3 a4 c4) (bQ ok w.heap.size) z (.agg (KV z a3 c3 a4 c4))/\KY (LG w' (w.heap.size+1) z a3 c3 a4 c4) (w.heap.size+1) z a3 c3 a4 c4):=by
   intro W b7 b8 d7 d8 he hW;refine(yi W (bg ok w.heap.size (w1.alloc (.cells (KV x a7 c7 a8 c8) 39)).heap.size) t x _ _ dst ((H.o.bel hW.2.2).weak aO) (he.weak fun k hk=>.inr hk) hd (HMM.o.bel hW.2.2)).mono ?_;rintro e w' ⟨r,rfl,hb,hr⟩;obtain⟨g,hg⟩:∃ g,ep bL dst (ax dst) t x=g:=⟨_,rfl⟩
   rw[hg]at hr ⊢;obtain⟨z,ze⟩:=g;simp only at hr ⊢;obtain⟨a3,a4,c3,c4,rfl⟩:=hr.form;have LU:=af hb hW.2.1;have hszW:=hW.2.1.lt;have hgs:=aI w' (w.heap.size+1) (.int .i64 z.kind) (.int .i64 z.n) (.string ⟨z.s.toArray⟩) (.slice a3 z.keys.length c3) (.slice a4 z.l.length c4);refine⟨z,a3,a4,c3,c4,ze,rfl,LU,by unfold gS;rw[HG.o];simp only[ne_eq,not_true_eq_false,if_false];exact hg,aP (ab hW.2.2 hb) (Nat.le_succ _) _ _ _ _ _,?_,LU.set _ _ _ _ _⟩;refine(hr.grown hgs ?_).weak ?_
   ·intro k hk e;rcases hk with hk | hk
    ·exact jB (by omega) hszA k hk e
    ·omega
   ·intro k hk;rcases hk with hk | hk
    ·exact ik (by omega) k hk
    ·exact .inr (by omega)
  have p0_:=K.o.1.c;obtain⟨q0,q1,q2,q3,q4,-⟩:=K.o.2.2.2.1.c;go_upto_region 4 with fail
  go_region_with (first
   |(go_at_call 204;refine(conT.o _ (by rfl) (by rfl) (by rfl) (by rfl)).mono ?_;rintro e wt ⟨b7,b8,d7,d8,rfl,hem,hkt⟩;have p0_:=hkt.1.c;have EM:=aa hem;have KT:=aa hkt;clear hem hkt)
   |(go_at_call 170;refine(conA.o _ b7 b8 d7 d8 EM.o KT.o).mono ?_;rintro e wz ⟨z,a3,a4,c3,c4,ze,rfl,LU,hR,hq1,hq2,hq3⟩;have x0_:=LU.c;have HA:=aa hR;have FIN:Ll (_/\_/\_):=⟨hq1,hq2,hq3⟩;clear hR hq1 hq2 hq3 LU))
  all_goals
   go_wp2_with fail
   have z0_:=FIN.o.2.2.c;refine MM (v:=.tuple #[.agg (KV z a3 c3 a4 c4),.int .i64 ze]) ?_ rfl ?_
   ·simp only[ar]at z0_;simp[results,results174,go_sem,z0_]
   ·refine⟨_,by rw[HA.o],FIN.o.1,?_⟩;rw[HA.o];exact FIN.o.2.1
 ·have e1:(xe != 0)=true:=by rw[bne_iff_ne];exact hxe
  have e2:(xe == 0)=false:=by rw[MO];exact hxe
  have HXE:=aa hxe;clear hxe;have p0_:=(K.o.1).c;have x0_:=(K.o.2.1).c;have Z:Ll (_/\_):=aN (C:=((w1.alloc (.cells (KV x a7 c7 a8 c8) 39))).heap.size) (g:=w.heap.size+1) ((H.o.bel K.o.2.2.1).weak (aO (C:=((w1.alloc (.cells (KV x a7 c7 a8 c8) 39))).heap.size))) K.o.2.2.1 (by omega) (K.o.2.1).lt;have ZB:Ll _:=aa ((K.o.2.1).set (.int .i64 t.kind) (.int .i64 t.n) (.string ⟨t.s.toArray⟩) (.slice a1 t.keys.length c1) (.slice a2 t.l.length c2));have HA:Ll (gS t frm dst=(t,xe)):=aa (by unfold gS;rw[HG.o,if_pos HXE.o]);clear K;go_wp2_with fail
  have z0_:=ZB.o.c;refine MM (v:=.tuple #[.agg (KV t a1 c1 a2 c2),.int .i64 xe]) ?_ rfl ?_
  ·simp only[ar]at z0_;simp[results,results174,go_sem,z0_]
  ·refine⟨_,by rw[HA.o],Z.o.1,?_⟩;rw[HA.o];exact Z.o.2
def kZ (f:V × Int) (o:jf) (t:V):Prop:=∀ (W:LC) (ok:Nat->Prop) (v ov:Value),In W ok t v->od W ok o ov->bj W ->
 Calls prog 137 #[v,ov] W fun e w'=>∃ r,e=.returned (.tuple #[r,.int .i64 f.2])/\La W w'/\In w' (bQ ok W.heap.size) f.1 r
theorem GQ(o:jf)(t)(hk:o.kind=1):kZ (ep bL o.path (ax o.path) t o.value) o t:=by
 intro w ok v ov h ho hM;have H:=aa h.low;have HMM:=aa hM;obtain⟨l1,l2,l3⟩:=h.lens;obtain⟨a1,a2,c1,c2,rfl⟩:=h.form;obtain⟨o1,o2,o3,a7,a8,c7,c8,rfl,hx⟩:=ho;have HX:=aa hx.low;have q1:(o.kind == 1)=true:=by rw[hk];rfl
 clear h hM hx hk;have B3:Ll (∀ o1 o2 o3,La w (((w.alloc o1).alloc o2).alloc o3)):=fun o1 o2 o3=>ab (ab (ae _ _) (ae _ _)) (ae _ _);go_enter func137,ntmps137;go_wp2_with fail
 refine(yi _ (Lj ok w) t o.value _ _ o.path (by exact H.o.bel (B3.o _ _ _)) (by exact HX.o.bel (B3.o _ _ _)) o2 (by exact HMM.o.bel (B3.o _ _ _))).mono ?_;rintro e w9 ⟨r,rfl,hb9,hr⟩;obtain⟨y,hy⟩:∃ y,ep bL o.path (ax o.path) t o.value=y:=⟨_,rfl⟩
 rw[hy]at hr ⊢;obtain⟨y,ye⟩:=y;simp only at hr ⊢;obtain⟨a5,a6,c5,c6,rfl⟩:=hr.form;have LU:=af hb9 (jI w _ _ _);obtain⟨x0,x1,x2,x3,x4,y0,y1,y2,y3,y4⟩:=ag.c LU;have Z:Ll (_/\_):=aN (g:=w.heap.size+2) hr (ab (B3.o _ _ _) hb9) (by omega) (by simp);have ZB:Ll _:=aa (LH (ag.set LU) y a5 c5 a6 c6);have HA:=aa hy;clear hy hr hb9 LU;go_wp2_with fail
 have z0_:=ZB.o.c;refine MM (v:=.tuple #[.agg (KV y a5 c5 a6 c6),.int .i64 ye]) ?_ rfl ?_
 ·simp only[ar]at z0_;simp[results,results137,go_sem,z0_]
 ·exact⟨_,by rw[HA.o],Z.o.1,by rw[HA.o];exact Z.o.2⟩
theorem xM(o:jf)(t)(hk:o.kind=2):kZ (aX ch (ax o.path) t) o t:=by
 intro w ok v ov h ho hM;have H:=aa h.low;have HMM:=aa hM;obtain⟨l1,l2,l3⟩:=h.lens;obtain⟨a1,a2,c1,c2,rfl⟩:=h.form;obtain⟨o1,o2,o3,a7,a8,c7,c8,rfl,hx⟩:=ho;have HX:=aa hx.low;have q1:(o.kind == 1)=false:=by rw[hk];rfl
 have q2:(o.kind == 2)=true:=by rw[hk];rfl
 clear h hM hx hk;have B3:Ll (∀ o1 o2 o3,La w (((w.alloc o1).alloc o2).alloc o3)):=fun o1 o2 o3=>ab (ab (ae _ _) (ae _ _)) (ae _ _);go_enter func137,ntmps137;go_wp2_with fail
 refine(sD _ (Lj ok w) t _ o.path (by exact H.o.bel (B3.o _ _ _)) o2 (by exact HMM.o.bel (B3.o _ _ _))).mono ?_;rintro e w9 ⟨r,rfl,hb9,hr⟩;obtain⟨y,hy⟩:∃ y,aX ch (ax o.path) t=y:=⟨_,rfl⟩
 rw[hy]at hr ⊢;obtain⟨y,ye⟩:=y;simp only at hr ⊢;obtain⟨a5,a6,c5,c6,rfl⟩:=hr.form;have LU:=af hb9 (jI w _ _ _);obtain⟨x0,x1,x2,x3,x4,y0,y1,y2,y3,y4⟩:=ag.c LU;have Z:Ll (_/\_):=aN (g:=w.heap.size+2) hr (ab (B3.o _ _ _) hb9) (by omega) (by simp);have ZB:Ll _:=aa (LH (ag.set LU) y a5 c5 a6 c6);have HA:=aa hy;clear hy hr hb9 LU;go_wp2_with fail
 have z0_:=ZB.o.c;refine MM (v:=.tuple #[.agg (KV y a5 c5 a6 c6),.int .i64 ye]) ?_ rfl ?_
 ·simp only[ar]at z0_;simp[results,results137,go_sem,z0_]
 ·exact⟨_,by rw[HA.o],Z.o.1,by rw[HA.o];exact Z.o.2⟩
theorem uE(o:jf)(t)(hk:o.kind=3):kZ (ep aY o.path (ax o.path) t o.value) o t:=by
 intro w ok v ov h ho hM;have H:=aa h.low;have HMM:=aa hM;obtain⟨l1,l2,l3⟩:=h.lens;obtain⟨a1,a2,c1,c2,rfl⟩:=h.form;obtain⟨o1,o2,o3,a7,a8,c7,c8,rfl,hx⟩:=ho;have HX:=aa hx.low;have q1:(o.kind == 1)=false:=by rw[hk];rfl
 have q2:(o.kind == 2)=false:=by rw[hk];rfl
 have q3:(o.kind == 3)=true:=by rw[hk];rfl
 clear h hM hx hk;have B3:Ll (∀ o1 o2 o3,La w (((w.alloc o1).alloc o2).alloc o3)):=fun o1 o2 o3=>ab (ab (ae _ _) (ae _ _)) (ae _ _);go_enter func137,ntmps137;go_wp2_with fail
 refine(JE _ (Lj ok w) t o.value _ _ o.path (by exact H.o.bel (B3.o _ _ _)) (by exact HX.o.bel (B3.o _ _ _)) o2 (by exact HMM.o.bel (B3.o _ _ _))).mono ?_;rintro e w9 ⟨r,rfl,hb9,hr⟩;obtain⟨y,hy⟩:∃ y,ep aY o.path (ax o.path) t o.value=y:=⟨_,rfl⟩
 rw[hy]at hr ⊢;obtain⟨y,ye⟩:=y;simp only at hr ⊢;obtain⟨a5,a6,c5,c6,rfl⟩:=hr.form;have LU:=af hb9 (jI w _ _ _);obtain⟨x0,x1,x2,x3,x4,y0,y1,y2,y3,y4⟩:=ag.c LU;have Z:Ll (_/\_):=aN (g:=w.heap.size+2) hr (ab (B3.o _ _ _) hb9) (by omega) (by simp);have ZB:Ll _:=aa (LH (ag.set LU) y a5 c5 a6 c6);have HA:=aa hy;clear hy hr hb9 LU;go_wp2_with fail
 have z0_:=ZB.o.c;refine MM (v:=.tuple #[.agg (KV y a5 c5 a6 c6),.int .i64 ye]) ?_ rfl ?_
 ·simp only[ar]at z0_;simp[results,results137,go_sem,z0_]
 ·exact⟨_,by rw[HA.o],Z.o.1,by rw[HA.o];exact Z.o.2⟩
theorem Fx(o:jf)(t)(hk:o.kind=4):kZ (wf t o.frm o.path) o t:=by
 intro w ok v ov h ho hM;have H:=aa h.low;have HMM:=aa hM;obtain⟨l1,l2,l3⟩:=h.lens;obtain⟨a1,a2,c1,c2,rfl⟩:=h.form;obtain⟨o1,o2,o3,a7,a8,c7,c8,rfl,hx⟩:=ho;have HX:=aa hx.low;have q1:(o.kind == 1)=false:=by rw[hk];rfl
 have q2:(o.kind == 2)=false:=by rw[hk];rfl
 have q3:(o.kind == 3)=false:=by rw[hk];rfl
 have q4:(o.kind == 4)=true:=by rw[hk];rfl
 clear h hM hx hk;have B3:Ll (∀ o1 o2 o3,La w (((w.alloc o1).alloc o2).alloc o3)):=fun o1 o2 o3=>ab (ab (ae _ _) (ae _ _)) (ae _ _);go_enter func137,ntmps137;go_wp2_with fail
 refine(F0 _ (Lj ok w) t _ o.frm o.path (by exact H.o.bel (B3.o _ _ _)) o3 o2 (by exact HMM.o.bel (B3.o _ _ _))).mono ?_;rintro e w9 ⟨r,rfl,hb9,hr⟩;obtain⟨y,hy⟩:∃ y,wf t o.frm o.path=y:=⟨_,rfl⟩
 rw[hy]at hr ⊢;obtain⟨y,ye⟩:=y;simp only at hr ⊢;obtain⟨a5,a6,c5,c6,rfl⟩:=hr.form;have LU:=af hb9 (jI w _ _ _);obtain⟨x0,x1,x2,x3,x4,y0,y1,y2,y3,y4⟩:=ag.c LU;have Z:Ll (_/\_):=aN (g:=w.heap.size+2) hr (ab (B3.o _ _ _) hb9) (by omega) (by simp);have ZB:Ll _:=aa (LH (ag.set LU) y a5 c5 a6 c6);have HA:=aa hy;clear hy hr hb9 LU;go_wp2_with fail
 have z0_:=ZB.o.c;refine MM (v:=.tuple #[.agg (KV y a5 c5 a6 c6),.int .i64 ye]) ?_ rfl ?_
 ·simp only[ar]at z0_;simp[results,results137,go_sem,z0_]
 ·exact⟨_,by rw[HA.o],Z.o.1,by rw[HA.o];exact Z.o.2⟩
theorem FH(o:jf)(t)(hk:o.kind=5):kZ (gS t o.frm o.path) o t:=by
 intro w ok v ov h ho hM;have H:=aa h.low;have HMM:=aa hM;obtain⟨l1,l2,l3⟩:=h.lens;obtain⟨a1,a2,c1,c2,rfl⟩:=h.form;obtain⟨o1,o2,o3,a7,a8,c7,c8,rfl,hx⟩:=ho;have HX:=aa hx.low;have q1:(o.kind == 1)=false:=by rw[hk];rfl
 have q2:(o.kind == 2)=false:=by rw[hk];rfl
 have q3:(o.kind == 3)=false:=by rw[hk];rfl
 have q4:(o.kind == 4)=false:=by rw[hk];rfl
 have q5:(o.kind == 5)=true:=by rw[hk];rfl
 clear h hM hx hk;have B3:Ll (∀ o1 o2 o3,La w (((w.alloc o1).alloc o2).alloc o3)):=fun o1 o2 o3=>ab (ab (ae _ _) (ae _ _)) (ae _ _);go_enter func137,ntmps137;go_wp2_with fail
 refine(DE _ (Lj ok w) t _ o.frm o.path (by exact H.o.bel (B3.o _ _ _)) o3 o2 (by exact HMM.o.bel (B3.o _ _ _))).mono ?_;rintro e w9 ⟨r,rfl,hb9,hr⟩;obtain⟨y,hy⟩:∃ y,gS t o.frm o.path=y:=⟨_,rfl⟩
 rw[hy]at hr ⊢;obtain⟨y,ye⟩:=y;simp only at hr ⊢;obtain⟨a5,a6,c5,c6,rfl⟩:=hr.form;have LU:=af hb9 (jI w _ _ _);obtain⟨x0,x1,x2,x3,x4,y0,y1,y2,y3,y4⟩:=ag.c LU;have Z:Ll (_/\_):=aN (g:=w.heap.size+2) hr (ab (B3.o _ _ _) hb9) (by omega) (by simp);have ZB:Ll _:=aa (LH (ag.set LU) y a5 c5 a6 c6);have HA:=aa hy;clear hy hr hb9 LU;go_wp2_with fail
 have z0_:=ZB.o.c;refine MM (v:=.tuple #[.agg (KV y a5 c5 a6 c6),.int .i64 ye]) ?_ rfl ?_
 ·simp only[ar]at z0_;simp[results,results137,go_sem,z0_]
 ·exact⟨_,by rw[HA.o],Z.o.1,by rw[HA.o];exact Z.o.2⟩
theorem Dj(o:jf)(t)(hk:∀ i:Int,1<=i->i<=6->o.kind≠i):kZ (t,9) o t:=by
 intro w ok v ov h ho hM;have H:=aa h.low;obtain⟨l1,l2,l3⟩:=h.lens;obtain⟨a1,a2,c1,c2,rfl⟩:=h.form;obtain⟨o1,o2,o3,a7,a8,c7,c8,rfl,hx⟩:=ho;have q:∀ i:Int,1<=i->i<=6->(o.kind == i)=false:=fun i h1 h2=>by rw[MO];exact hk i h1 h2
 have q1:=q 1 (by omega) (by omega);have q2:=q 2 (by omega) (by omega);have q3:=q 3 (by omega) (by omega);have q4:=q 4 (by omega) (by omega);have q5:=q 5 (by omega) (by omega);have q6:=q 6 (by omega) (by omega);have HB:Ll (La w (((w.alloc (.cells (KV t a1 c1 a2 c2) 39)).alloc (.cells (Lg o a7 c7 a8 c8) 173)).alloc (.cells (KV t a1 c1 a2 c2) 39))):=ab (ab (ae _ _) (ae _ _)) (ae _ _);have K:=aa ((H.o.bel HB.o).weak (oH));clear h hM hx hk q;go_enter func137,ntmps137;go_wp2_with fail
 refine MM (v:=.tuple #[.agg (KV t a1 c1 a2 c2),.int .i64 9]) ?_ rfl ?_
 ·simp[results,results137,go_sem]
 ·exact⟨_,rfl,HB.o,K.o⟩
variable {k:Nat}
def lF (f:V->jf->V × Int):List jf->V->V × Int
 | [],t=>(t,0)
 | o :: os,t=>if (f t o).2≠0 then (t,(f t o).2) else lF f os (f t o).1
def qU (f:V->jf->V × Int) (os:List jf) (t:V):V × Int:=
 if 20 < os.length then (t,2) else if (lF f os t).2≠0 then (t,(lF f os t).2) else ((lF f os t).1,0)
def qb (f:V->jf->V × Int):List jf->V->Prop
 | [],_=>True
 | o :: os,t=>kZ (f t o) o t/\((f t o).2=0->qb f os (f t o).1)
def Jr (w:LC) (ok:Nat->Prop) (f:V->jf->V × Int) (os:List jf) (t:V) (a1 a2:Option Addr) (c1 c2 k:Nat) (wr:LC):Prop:=
 ∃ (y:V) (a5 a6:Option Addr) (c5 c6:Nat),lF f os t=lF f (os.drop k) y/\qb f (os.drop k) y/\KY wr w.heap.size t a1 c1 a2 c2/\Lc wr (w.heap.size+1)/\KY wr (w.heap.size+2) y a5 c5 a6 c6/\La w wr/\In wr (bg ok w.heap.size (w.heap.size+3)) y (.agg (KV y a5 c5 a6 c6))
theorem eX.item{os:List jf}{a m}(h:eX w ok os (.slice a m c))(hk:k < os.length):∃ (b off:Nat) (a7 a8:Option Addr) (c7 c8:Nat),a=some ⟨b,off,none⟩/\os.length<=c/\c<=9223372036854775807 /\
 w.cell? ⟨b,off+k * 8,none⟩=some (.int .i64 os[k].kind)/\w.cell? ⟨b,off+k * 8+1,none⟩=some (.string ⟨os[k].path.toArray⟩)/\w.cell? ⟨b,off+k * 8+2,none⟩=some (.string ⟨os[k].frm.toArray⟩)/\w.cell? ⟨b,off+k * 8+3,none⟩=some (.int .i64 os[k].value.kind) /\
 w.cell? ⟨b,off+k * 8+4,none⟩=some (.int .i64 os[k].value.n)/\w.cell? ⟨b,off+k * 8+5,none⟩=some (.string ⟨os[k].value.s.toArray⟩)/\w.cell? ⟨b,off+k * 8+6,none⟩=some (.slice a7 os[k].value.keys.length c7)/\w.cell? ⟨b,off+k * 8+7,none⟩=some (.slice a8 os[k].value.l.length c8)/\od w ok os[k] (.agg #[.int .i64 os[k].kind,.string ⟨os[k].path.toArray⟩,.string ⟨os[k].frm.toArray⟩,.int .i64 os[k].value.kind,.int .i64 os[k].value.n,.string ⟨os[k].value.s.toArray⟩,.slice a7 os[k].value.keys.length c7,.slice a8 os[k].value.l.length c8]):=by
 rcases h.2 with⟨e,_⟩ | ⟨b,off,c',e,h1,h2,Mb⟩
 ·rw[e]at hk;simp at hk
 ·simp only[Value.slice.injEq]at e;obtain⟨rfl,-,rfl⟩:=e;obtain⟨v0,v1,v2,v3,v4,v5,v6,v7,-,g0,g1,g2,g3,g4,g5,g6,g7,g8⟩:=Mb k os[k] (Mw hk);have g9:=g8;obtain⟨o1,o2,o3,a7,a8,c7,c8,e,-⟩:=g8;simp only[Value.agg.injEq,Array.mk.injEq,List.cons.injEq,and_true]at e;obtain⟨rfl,rfl,rfl,rfl,rfl,rfl,rfl,rfl⟩:=e;exact⟨b,off,a7,a8,c7,c8,rfl,h1,h2,g0,g1,g2,g3,g4,g5,g6,g7,g9⟩
theorem JF(f:V->jf->V × Int)(w:LC)(ok t)(os:List jf)(v ov)(h:In w ok t v)(ho:eX w ok os ov)(hM:bj w)(hok:os.length<=20->qb f os t):Calls prog 104 #[v,ov] w fun e w'=>∃ r,e=.returned (.tuple #[r,.int .i64 (qU f os t).2])/\La w w'/\In w' (bQ ok w.heap.size) (qU f os t).1 r:=by
 have H:=aa h.low;have HMM:=aa hM;have HOS:=aa ho;have olen:=ho.1;obtain⟨l1,l2,l3⟩:=h.lens;obtain⟨a1,a2,c1,c2,rfl⟩:=h.form;obtain⟨oa,oc,rfl⟩:=ho.form;clear h hM ho;by_cases h20:20 < os.length
 ·have e0:(20:Int) < (os.length:Int):=by omega
  have HA:Ll (qU f os t=(t,2)):=aa (by unfold qU;rw[if_pos h20]);have HB:Ll (La w ((w.alloc (.cells (KV t a1 c1 a2 c2) 39)).alloc (.cells (KV t a1 c1 a2 c2) 39))):=ab (ae _ _) (ae _ _);have K:=aa ((H.o.bel HB.o).weak (oH));clear h20 hok;go_enter func104,ntmps104;go_wp2_with fail
  refine MM (v:=.tuple #[.agg (KV t a1 c1 a2 c2),.int .i64 2]) ?_ rfl ?_
  ·simp[results,results104,go_sem]
  ·refine⟨_,by rw[HA.o],HB.o,?_⟩;rw[HA.o];exact K.o
 ·have e0:¬((20:Int) < (os.length:Int)):=by omega
  have HR:Ll (qU f os t=if (lF f os t).2≠0 then (t,(lF f os t).2) else ((lF f os t).1,0)):=aa (by unfold qU;rw[if_neg h20]);have B3:Ll (∀ o1 o2 o3,La w (((w.alloc o1).alloc o2).alloc o3)):=fun o1 o2 o3=>ab (ab (ae _ _) (ae _ _)) (ae _ _);have S0:Ll (∀ W:LC,W=((w.alloc (.cells (KV t a1 c1 a2 c2) 39)).alloc (.cells Lb 39)).alloc (.cells (KV t a1 c1 a2 c2) 39)->Jr w ok f os t a1 a2 c1 c2 0 W):=by
   rintro W rfl;exact⟨t,a1,a2,c1,c2,rfl,hok (by omega),lI w _ _ _,mE w _ _ _,jI w _ _ _,B3.o _ _ _,(H.o.bel (B3.o _ _ _)).weak aO⟩
  clear hok h20;go_enter func104,ntmps104;go_wp2_with fail
  go_loopg [18] os.length (fun gk i wr=>∃ k:Nat,k<=os.length/\gk=os.length - k/\i=.int .i64 k/\Jr w ok f os t a1 a2 c1 c2 k wr)
  case atStart=>exact⟨0,Nat.zero_le _,rfl,rfl,S0.o _ rfl⟩
  case round=>
   obtain⟨k,hk,hgk,rfl,y,a5,a6,c5,c6,i1,i2,i3,i4,i5,i6,i7⟩:=hrel;have GK:=aa hgk;have I:Ll (lF f os t=lF f (os.drop k) y/\qb f (os.drop k) y/\KY wr w.heap.size t a1 c1 a2 c2/\Lc wr (w.heap.size+1)/\KY wr (w.heap.size+2) y a5 c5 a6 c6/\La w wr/\In wr (bg ok w.heap.size (w.heap.size+3)) y (.agg (KV y a5 c5 a6 c6))):=⟨i1,i2,i3,i4,i5,i6,i7⟩
   have hwsz:=i5.lt;clear hgk i1 i2 i3 i4 i5 i6 i7;by_cases hlt:k < os.length
   ·obtain⟨b,off,a7,a8,c7,c8,rfl,hc1,hc2,g0,g1,g2,g3,g4,g5,g6,g7,g8⟩:=HOS.o.item hlt;have OK:=aa (g8.low);replace g0:=ah I.o.2.2.2.2.2.1 g0;replace g1:=ah I.o.2.2.2.2.2.1 g1;replace g2:=ah I.o.2.2.2.2.2.1 g2;replace g3:=ah I.o.2.2.2.2.2.1 g3;replace g4:=ah I.o.2.2.2.2.2.1 g4;replace g5:=ah I.o.2.2.2.2.2.1 g5;replace g6:=ah I.o.2.2.2.2.2.1 g6;replace g7:=ah I.o.2.2.2.2.2.1 g7;have RS:Ll (lF f (os.drop k) y=if (f y os[k]).2≠0 then (y,(f y os[k]).2) else lF f (os.drop (k+1)) (f y os[k]).1):=aa (by rw[ME hlt,lF]);have AO:Ll (kZ (f y os[k]) os[k] y/\((f y os[k]).2=0->qb f (os.drop (k+1)) (f y os[k]).1)):=aa (by have:=I.o.2.1;rw[ME hlt,qb]at this;exact this);have hb8:=ae wr (.cells #[.int .i64 os[k].kind,.string ⟨os[k].path.toArray⟩,.string ⟨os[k].frm.toArray⟩,.int .i64 os[k].value.kind,.int .i64 os[k].value.n,.string ⟨os[k].value.s.toArray⟩,.slice a7 os[k].value.keys.length c7,.slice a8 os[k].value.l.length c8] 173);obtain⟨p0,p1,p2,p3,p4,-⟩:=(af hb8 I.o.2.2.2.2.1).c;clear g8;go_wp2_with fail
    refine(AO.o.1 _ (bg ok w.heap.size (w.heap.size+3)) _ _ (by exact I.o.2.2.2.2.2.2.bel (ae _ _)) (by exact(OK.o.bel (ab I.o.2.2.2.2.2.1 (ae _ _))).weak aO) (by exact HMM.o.bel (ab I.o.2.2.2.2.2.1 (ae _ _)))).mono ?_;rintro e w2 ⟨r,rfl,hb2,hr⟩;obtain⟨q,hq⟩:∃ q,f y os[k]=q:=⟨_,rfl⟩
    rw[hq]at hr AO RS ⊢;obtain⟨z,ze⟩:=q;simp only at hr AO RS ⊢;obtain⟨a3,a4,c3,c4,rfl⟩:=hr.form;have LW:=ab (ab hb8 hb2) (ae w2 (.cells (KV z a3 c3 a4 c4) 39));have hr':In (w2.alloc (.cells (KV z a3 c3 a4 c4) 39)) (bg ok w.heap.size (w.heap.size+3)) z (.agg (KV z a3 c3 a4 c4)):=(hr.bel (ae _ _)).weak (fun j hj=>by
     rcases hj with hj | hj
     ·exact hj
     ·have:=hb8.size;exact .inr (by omega))
    have K:Ll (KY (w2.alloc (.cells (KV z a3 c3 a4 c4) 39)) w.heap.size t a1 c1 a2 c2/\Lc (w2.alloc (.cells (KV z a3 c3 a4 c4) 39)) (w.heap.size+1)/\KY (w2.alloc (.cells (KV z a3 c3 a4 c4) 39)) (w.heap.size+2) y a5 c5 a6 c6/\La w (w2.alloc (.cells (KV z a3 c3 a4 c4) 39))/\In (w2.alloc (.cells (KV z a3 c3 a4 c4) 39)) (bg ok w.heap.size (w.heap.size+3)) z (.agg (KV z a3 c3 a4 c4))/\KY (w2.alloc (.cells (KV z a3 c3 a4 c4) 39)) w2.heap.size z a3 c3 a4 c4):=⟨af LW I.o.2.2.1,af LW I.o.2.2.2.1,af LW I.o.2.2.2.2.1,ab I.o.2.2.2.2.2.1 LW,hr',MN w2 _⟩
    clear hq hr hr' hb2 LW hb8 g0 g1 g2 g3 g4 g5 g6 g7;by_cases hze:ze=0
    ·subst hze;have FIN:Ll (Jr w ok f os t a1 a2 c1 c2 (k+1) (LG (w2.alloc (.cells (KV z a3 c3 a4 c4) 39)) (w.heap.size+2) z a3 c3 a4 c4)):=by
      have g1:=aI (w2.alloc (.cells (KV z a3 c3 a4 c4) 39)) (w.heap.size+2) (.int .i64 z.kind) (.int .i64 z.n) (.string ⟨z.s.toArray⟩) (.slice a3 z.keys.length c3) (.slice a4 z.l.length c4);refine⟨z,a3,a4,c3,c4,?_,AO.o.2 rfl,K.o.1.grown g1 (by simp),K.o.2.1.grown g1 (by simp),K.o.2.2.1.set _ _ _ _ _,aP K.o.2.2.2.1 (by omega) _ _ _ _ _,K.o.2.2.2.2.1.box (by omega) (by omega) _ _ _ _ _⟩;rw[I.o.1,RS.o];simp
     obtain⟨p0,p1,p2,p3,p4,p5,p6,p7,p8,p9⟩:=K.o.2.2.1.c;have q0_:=K.o.2.2.2.2.2.c;clear K;go_wp2_with fail
     go_roundg (os.length - (k+1))
     case measure=>rw[GK.o];omega
     case rel=>exact⟨k+1,hlt,rfl,by go_num,FIN.o⟩
    ·have e1:(ze != 0)=true:=by rw[bne_iff_ne];exact hze
     have e2:(ze == 0)=false:=by rw[MO];exact hze
     have HZE:=aa hze;clear hze;obtain⟨p0,p1,p2,p3,p4,-⟩:=(K.o.1).c;have x0_:=(K.o.2.1).c;have Z:Ll (_/\_):=aN (C:=((w2.alloc (.cells (KV z a3 c3 a4 c4) 39))).heap.size) (g:=w.heap.size+1) ((H.o.bel K.o.2.2.2.1).weak (aO (C:=((w2.alloc (.cells (KV z a3 c3 a4 c4) 39))).heap.size))) K.o.2.2.2.1 (by omega) (K.o.2.1).lt;have ZB:Ll _:=aa ((K.o.2.1).set (.int .i64 t.kind) (.int .i64 t.n) (.string ⟨t.s.toArray⟩) (.slice a1 t.keys.length c1) (.slice a2 t.l.length c2));have HA:Ll (qU f os t=(t,ze)):=aa (by rw[HR.o,I.o.1,RS.o,if_pos HZE.o];simp only;rw[if_pos HZE.o]);clear K;go_wp2_with fail
     have z0_:=ZB.o.c;refine MM (v:=.tuple #[.agg (KV t a1 c1 a2 c2),.int .i64 ze]) ?_ rfl ?_
     ·simp only[ar]at z0_;simp[results,results104,go_sem,z0_]
     ·refine⟨_,by rw[HA.o],Z.o.1,?_⟩;rw[HA.o];exact Z.o.2
   ·have Mc:k=os.length:=by omega
    subst Mc;have HA:Ll (qU f os t=(y,0)):=aa (by rw[HR.o,I.o.1,List.drop_length];simp[lF]);obtain⟨p0,p1,p2,p3,p4,-⟩:=I.o.2.2.2.2.1.c;have x0_:=I.o.2.2.2.1.c;have Z:Ll (_/\_):=aN (g:=w.heap.size+1) I.o.2.2.2.2.2.2 I.o.2.2.2.2.2.1 (by omega) (by omega);have ZB:Ll _:=aa (LH I.o.2.2.2.1.set y a5 c5 a6 c6);go_wp2_with fail
    have z0_:=ZB.o.c;refine MM (v:=.tuple #[.agg (KV y a5 c5 a6 c6),.int .i64 0]) ?_ rfl ?_
    ·simp only[ar]at z0_;simp[results,results104,go_sem,z0_]
    ·refine⟨_,by rw[HA.o],Z.o.1,?_⟩;rw[HA.o];exact Z.o.2
theorem IB(w:LC)(ok x xv)(h:In w ok x xv)(hn:dz x):Calls prog 28 #[xv] w fun e w'=>∃ r,e=.returned r/\La w w'/\In w' (fun k=>w.heap.size<=k) x r/\∃ D,Sd w' (fun k=>w.heap.size<=k) D r:=by
 obtain⟨d,h⟩:=h;exact Lr _ (.inr rfl) d w ok x xv h hn
end Go.Proofs.YtgolnaencepejaaGreatDoor
