import Derived.Test.YtlhejphddjdgkaaGreatDoorG8
import Derived.Test.YtlhejphddjdgkaaGreatDoorG9
set_option maxRecDepth 100000
set_option maxHeartbeats 40000000
set_option linter.unusedSimpArgs false
set_option linter.unusedVariables false
namespace Go.Proofs.YtlhejphddjdgkaaGreatDoor
open Go.RowKit
open _root_.Go.Proofs.Tryz
variable {w W:World}
variable {ok:Nat->Prop}
variable {v:Value}
variable {n c:Nat}
def En (gh gx:Nat) (how:V->Lz->Option V) (w0:LC) (base:Nat->Prop):Prop:=∀ (W:LC) (ok:Nat->Prop) (t:V) (v:Value) (s:Lz),La w0 W->(∀ k,base k->ok k/\k < w0.heap.size)->In W ok t v->dz t->s.length<=9223372036854775807 ->
 Calls prog 232 #[v,aR s,.pointer (some ⟨gh,0,none⟩),.pointer (some ⟨gx,0,none⟩)] W fun e w'=>∃ r b,e=.returned (.tuple #[r,.bool b])/\La W w'/\cZ w' (bQ ok W.heap.size) (how t s) r b
def Lq (hv:Value) (how:V->Lz->Option V) (w0:LC) (base:Nat->Prop) (ns:List Lz):Prop:=∀ (W:LC) (ok oks:Nat->Prop) (t:V) (v nv:Value),La w0 W->(∀ k,base k->ok k/\k < w0.heap.size)->In W ok t v->dz t->ao W oks ns nv ->
 Calls prog 234 #[v,nv,hv] W fun e w'=>∃ r b,e=.returned (.tuple #[r,.bool b])/\La W w'/\cZ w' (bQ ok W.heap.size) (dM how ns t) r b
abbrev Aj (gh gx:Nat):=Lq (.func (.func 232) #[] #[.pointer (some ⟨gh,0,none⟩),.pointer (some ⟨gx,0,none⟩)])
theorem kD{o1 o2:Obj}(e1:W.heap=((w.alloc o1).alloc o2).heap)(e2:W.os=w.os)(e3:W.tape=w.tape)(e4:W.output=w.output):La w W:=by
 have:=ab (ae w o1) (ae _ o2);exact⟨e2,e3,e4,by rw[e1];exact this.size,fun k hk=>by rw[e1];exact this.block k hk⟩
theorem mn(e1:W.heap=w.heap)(e2:W.os=w.os)(e3:W.tape=w.tape)(e4:W.output=w.output):La w W:=⟨e2,e3,e4,by rw[e1];exact MG _,fun k _=>by rw[e1]⟩
theorem tS{o1 o2 o3:Obj}(e1:W.heap=(((w.alloc o1).alloc o2).alloc o3).heap)(e2:W.os=w.os)(e3:W.tape=w.tape)(e4:W.output=w.output):La w W:=by
 have:=ab (ab (ae w o1) (ae _ o2)) (ae _ o3);exact⟨e2,e3,e4,by rw[e1];exact this.size,fun k hk=>by rw[e1];exact this.block k hk⟩
theorem kF{s ns}(h:ao w ok (s :: ns) v):∃ b off c,v=.slice (some ⟨b,off,none⟩) (ns.length+1) c/\ns.length+1<=c/\c<=9223372036854775807/\s.length<=9223372036854775807/\w.cell? ⟨b,off,none⟩=some (.string ⟨s.toArray⟩):=by
 rcases h.2 with⟨e,_⟩ | ⟨b,off,c,e,h1,h2,Mb⟩
 ·cases e
 ·obtain⟨g1,-,g2⟩:=Mb 0 s rfl;exact⟨b,off,c,e,h1,h2,g1,g2⟩
theorem sH{s ns b off}(h:ao w ok (s :: ns) (.slice (some ⟨b,off,none⟩) n c)):ao w ok ns (.slice (some ⟨b,off+1,none⟩) ns.length (c - 1)):=by
 have hl:=h.1;simp only[My]at hl;refine⟨by omega,.inr ⟨b,off+1,c - 1,rfl,?_⟩⟩;rcases h.2 with⟨e,_⟩ | ⟨b',off',c',e,h1,h2,Mb⟩
 ·cases e
 ·simp only[Value.slice.injEq,Option.some.injEq,Addr.mk.injEq,My,and_true]at e h1;obtain⟨⟨rfl,rfl⟩,-,rfl⟩:=e;refine⟨by omega,by omega,fun i x hx=>?_⟩;obtain⟨g1,g2,g3⟩:=Mb (i+1) x (by simpa using hx);exact⟨g1,g2,by rw[show off+1+i=off+(i+1) by omega];exact g3⟩
theorem CQ(gh gx)(how:V->Lz->Option V)(w0 base)(hH:En gh gx how w0 base)(s):Aj gh gx how w0 base [s]:=by
 intro w ok oks t v nv hw0 hbase h hn hnv;obtain⟨nb,no,nc,rfl,n1,n2,n3,n4⟩:=kF hnv;simp only[List.length_nil,Nat.zero_add]at n1 ⊢;have H:=aa h.low;have HN:=aa hn;have HW:=aa hw0;have HB:=aa hbase;have HH:=aa hH;obtain⟨l1,l2,l3⟩:=h.lens;obtain⟨a1,a2,c1,c2,rfl⟩:=h.form;have B2:Ll (∀ o1 o2,La w ((w.alloc o1).alloc o2)):=fun o1 o2=>ab (ae _ _) (ae _ _);have g0:∀ o1 o2,((w.alloc o1).alloc o2).cell? ⟨nb,no,none⟩=some (.string ⟨s.toArray⟩):=fun o1 o2=>ah (B2.o o1 o2) n4;have con:Ll (∀ o1 W,W.heap=((w.alloc o1).alloc (.cells Lb 32)).heap->W.os=w.os->W.tape=w.tape->W.output=w.output->Calls prog 232 #[.agg (KV t a1 c1 a2 c2),.string ⟨s.toArray⟩,.pointer (some ⟨gh,0,none⟩),.pointer (some ⟨gx,0,none⟩)] W fun e w'=>∃ (y:V) (a5 a6:Option Addr) (c5 c6:Nat) (b:Bool),e=.returned (.tuple #[.agg (KV y a5 c5 a6 c6),.bool b])/\La w w'/\Lc w' (w.heap.size+1) /\
  b=(how t s).isSome/\In w' (bg ok w.heap.size (w.heap.size+2)) y (.agg (KV y a5 c5 a6 c6))/\∀ z,how t s=some z->y=z):=by
  intro o1 W e1 e2 e3 e4;have LY:=kD e1 e2 e3 e4;have L9:W.heap.size=w.heap.size+2:=by rw[e1];simp
  refine(HH.o W (Lj ok w) t _ s (HW.o.trans (LY.mono HW.o.size)) (fun k hk=>⟨⟨(HB.o k hk).1,by have:=(HB.o k hk).2;have:=HW.o.size;omega⟩,(HB.o k hk).2⟩) (H.o.bel LY) HN.o n3).mono ?_;rintro e w1 ⟨r,b,rfl,hb1,hb2,y,hy,hyz⟩;obtain⟨a5,a6,c5,c6,rfl⟩:=hy.form;rw[L9]at hy;exact⟨y,a5,a6,c5,c6,b,rfl,ab LY hb1,af hb1 (by unfold ag;rw[e1];exact et w _ _),hb2,hy,hyz⟩
 clear h hn hw0 hbase hH n4 hnv;unfold dM;go_enter func234,ntmps234;go_upto_region 2 with fail
 go_region_with ((go_at_call 232;refine(con.o _ _ (by rfl) (by rfl) (by rfl) (by rfl)).mono ?_;rintro e w1 ⟨y,a5,a6,c5,c6,b,rfl,r1,r2,hb2,hy,hyz⟩;have x0_:=r2.c;have Z:=aa (aN (g:=w.heap.size+1) hy r1 (by omega) (by omega));have ZB:=aa (LH r2.set y a5 c5 a6 c6);have R:Ll (b=(how t s).isSome/\∀ z,how t s=some z->y=z):=⟨hb2,hyz⟩;clear hb2 hy hyz r1 r2))
 all_goals
  go_wp2
  have z0_:=ZB.o.c;refine MM (v:=.tuple #[.agg (KV y a5 c5 a6 c6),.bool b]) ?_ rfl ?_
  ·simp only[ar]at z0_;simp[results,results234,go_sem,z0_]
  ·exact⟨_,_,rfl,Z.o.1,R.o.1,y,Z.o.2,R.o.2⟩
def DW (w:LC) (ok:Nat->Prop) (t:V) (s:Lz) (a1 a2:Option Addr) (c1 c2:Nat) (p q:Value) (wc:LC):Prop:=
 ∃ (y:V) (a5 a6:Option Addr) (c5 c6 g:Nat) (b:Bool),p=.pointer (some ⟨g,0,none⟩)/\q=.bool b/\b=(cg t s).isSome/\(∀ z,cg t s=some z->y=z)/\KY wc g y a5 c5 a6 c6/\w.heap.size+2<=g /\
  KY wc w.heap.size t a1 c1 a2 c2/\Lc wc (w.heap.size+1)/\La w wc/\In wc (Lj ok w) y (.agg (KV y a5 c5 a6 c6))
def IR (w:LC) (ok:Nat->Prop) (t:V) (m:Option V) (a1 a2:Option Addr) (c1 c2 g C:Nat) (q:Value) (wc:LC):Prop:=
 ∃ (y2:V) (b5 b6:Option Addr) (d5 d6:Nat) (b:Bool),q=.bool b/\b=m.isSome/\(∀ z,m=some z->y2=z)/\KY wc g y2 b5 d5 b6 d6 /\
  KY wc w.heap.size t a1 c1 a2 c2/\Lc wc (w.heap.size+1)/\La w wc/\In wc (bg ok w.heap.size C) y2 (.agg (KV y2 b5 d5 b6 d6))/\C<=wc.heap.size
theorem Lp(hv)(how:V->Lz->Option V)(w0 base s r rs)(ih:Lq hv how w0 base (r :: rs)):Lq hv how w0 base (s :: r :: rs):=by
 intro w ok oks t v nv hw0 hbase h hn hnv;have hnl:=hnv.1;obtain⟨nb,no,nc,rfl,n1,n2,n3,n4⟩:=kF hnv;simp only[My]at n1 hnl ⊢;obtain⟨m,rfl⟩:∃ m,nc=m+2:=⟨nc - 2,by omega⟩
 have NT:=aa (sH hnv);have H:=aa h.low;have HN:=aa hn;have HW:=aa hw0;have HB:=aa hbase;have IH:=aa ih;have hnl':(rs.length:Int)+1+1<=9223372036854775807:=by unfold maxLen at hnl;omega
 have e1:(((rs.length:Int)+1+1) == 1)=false:=by rw[MO];omega
 have e2:(rs.length:Int)+1+1<=(m:Int)+2:=by omega
 have e3:(1:Int)<=(rs.length:Int)+1+1:=by omega
 have e4:(0:Int) < (rs.length:Int)+1+1:=by omega
 obtain⟨l1,l2,l3⟩:=h.lens;obtain⟨a1,a2,c1,c2,rfl⟩:=h.form;have B2:Ll (∀ o1 o2,La w ((w.alloc o1).alloc o2)):=fun o1 o2=>ab (ae _ _) (ae _ _);have g0:∀ o1 o2,((w.alloc o1).alloc o2).cell? ⟨nb,no,none⟩=some (.string ⟨s.toArray⟩):=fun o1 o2=>ah (B2.o o1 o2) n4;have N4:=aa n4;have con3:Ll (∀ W,W.heap=((w.alloc (.cells (KV t a1 c1 a2 c2) 32)).alloc (.cells Lb 32)).heap->W.os=w.os->W.tape=w.tape->W.output=w.output->Calls prog 235 #[.agg (KV t a1 c1 a2 c2),.string ⟨s.toArray⟩] W fun e w'=>∃ (y:V) (a5 a6:Option Addr) (c5 c6:Nat) (b:Bool),e=.returned (.tuple #[.agg (KV y a5 c5 a6 c6),.bool b]) /\
  ∀ wc,wc=w'.alloc (.cells (KV y a5 c5 a6 c6) 32)->DW w ok t s a1 a2 c1 c2 (.pointer (some ⟨w'.heap.size,0,none⟩)) (.bool b) wc):=by
  intro W e1 e2 e3 e4;have LY:=kD e1 e2 e3 e4;have L9:W.heap.size=w.heap.size+2:=by rw[e1];simp
  refine(eI W (Lj ok w) t _ s (H.o.bel LY) n3).mono ?_;rintro e w1 ⟨r,b,rfl,hb1,hb2,y,hy,hyz⟩;obtain⟨a5,a6,c5,c6,rfl⟩:=hy.form;refine⟨y,a5,a6,c5,c6,b,rfl,?_⟩;rintro wc rfl;have LW:=ab hb1 (ae w1 (.cells (KV y a5 c5 a6 c6) 32));refine⟨y,a5,a6,c5,c6,w1.heap.size,b,rfl,rfl,hb2,hyz,MN w1 _,by have:=hb1.size;omega,?_,?_,ab LY LW,hy.bel (ae _ _)⟩
  ·exact af LW (by unfold ag;rw[e1];exact fb w _ _)
  ·exact af LW (by unfold ag;rw[e1];exact et w _ _)
 have con3b:Ll (∀ W,W.heap=(((w.alloc (.cells (KV t a1 c1 a2 c2) 32)).alloc (.cells Lb 32)).alloc (.cells Lb 32)).heap->W.os=w.os->W.tape=w.tape->W.output=w.output->Calls prog 235 #[.agg (KV t a1 c1 a2 c2),.string ⟨s.toArray⟩] W fun e w'=>∃ (y:V) (a5 a6:Option Addr) (c5 c6:Nat) (b:Bool),e=.returned (.tuple #[.agg (KV y a5 c5 a6 c6),.bool b])/\Lc w' (w.heap.size+1+1) /\
  ∀ wc,wc=ar w' (w.heap.size+1+1) (.int .i64 y.kind) (.int .i64 y.n) (.string ⟨y.s.toArray⟩) (.slice a5 y.keys.length c5) (.slice a6 y.l.length c6)->DW w ok t s a1 a2 c1 c2 (.pointer (some ⟨w.heap.size+1+1,0,none⟩)) (.bool b) wc):=by
  intro W e1 e2 e3 e4;have LY:=tS e1 e2 e3 e4;have L9:W.heap.size=w.heap.size+3:=by rw[e1];simp
  refine(eI W (Lj ok w) t _ s (H.o.bel LY) n3).mono ?_;rintro e w1 ⟨r,b,rfl,hb1,hb2,y,hy,hyz⟩;obtain⟨a5,a6,c5,c6,rfl⟩:=hy.form;have LU:Lc w1 (w.heap.size+1+1):=af hb1 (by unfold ag;rw[e1];exact jI w _ _ _);refine⟨y,a5,a6,c5,c6,b,rfl,LU,?_⟩;rintro wc rfl;have g1:=aI w1 (w.heap.size+1+1) (.int .i64 y.kind) (.int .i64 y.n) (.string ⟨y.s.toArray⟩) (.slice a5 y.keys.length c5) (.slice a6 y.l.length c6);refine⟨y,a5,a6,c5,c6,w.heap.size+1+1,b,rfl,rfl,hb2,hyz,LU.set _ _ _ _ _,by omega,?_,?_,aP (ab LY hb1) (by omega) _ _ _ _ _,hy.grown g1 (fun k hk=>by omega)⟩
  ·exact(af hb1 (by unfold ag;rw[e1];exact lI w _ _ _)).grown g1 (by simp;omega)
  ·exact(af hb1 (by unfold ag;rw[e1];exact mE w _ _ _)).grown g1 (by simp)
 have g1:∀ o1 o2 o3,(((w.alloc o1).alloc o2).alloc o3).cell? ⟨nb,no,none⟩=some (.string ⟨s.toArray⟩):=fun o1 o2 o3=>ah (ab (B2.o o1 o2) (ae _ o3)) n4;clear h hn hw0 hbase ih n4 hnv;go_enter func234,ntmps234;go_upto_region 3 with fail
 go_cut [8,9] (fun p q wc=>DW w ok t s a1 a2 c1 c2 p q wc)
 case first=>
  go_region_with (first
   |(go_at_call 235;refine(con3.o _ (by rfl) (by rfl) (by rfl) (by rfl)).mono ?_;rintro e w1 ⟨y,a5,a6,c5,c6,b,rfl,hfin⟩;have FIN:=aa hfin;clear hfin)
   |(go_at_call 235;refine(con3b.o _ (by rfl) (by rfl) (by rfl) (by rfl)).mono ?_;rintro e w1 ⟨y,a5,a6,c5,c6,b,rfl,LU,hfin⟩;obtain⟨x0,x1,x2,x3,x4,y0,y1,y2',y3,y4⟩:=LU.c;have FIN:=aa hfin;clear hfin LU))
  all_goals
   go_wp2
   go_meet
   case rel=>exact FIN.o _ rfl
 case rest=>
  obtain⟨wa,hwa⟩:∃ wa,wa=wc:=⟨_,rfl⟩
  subst hwa;obtain⟨y,a5,a6,c5,c6,g,b,rfl,rfl,hb2,hyz,k1,k2,k3,k4,k5,k6⟩:=hcut;have K:Ll (KY wa g y a5 c5 a6 c6/\KY wa w.heap.size t a1 c1 a2 c2/\Lc wa (w.heap.size+1)/\La w wa/\In wa (Lj ok w) y (.agg (KV y a5 c5 a6 c6))):=⟨k1,k3,k4,k5,k6⟩
  have hgl:=k1.lt;clear con3 con3b g0 g1;cases hm:cg t s with
  | none=>
   rw[hm]at hb2;simp only[Option.isSome_none]at hb2;subst hb2;have p0_:=k3.c;obtain⟨x0,x1,x2,x3,x4,y0,y1,y2,y3,y4⟩:=k4.c;have Z:Ll (_/\_):=aN (C:=wa.heap.size) (g:=w.heap.size+1) ((H.o.bel k5).weak (aO (C:=wa.heap.size))) k5 (by omega) k4.lt;have ZB:Ll _:=aa (LH k4.set t a1 c1 a2 c2);have HA:Ll (dM how (s :: r :: rs) t=none):=aa (by rw[dM,hm];rfl);clear k1 k3 k4 k5 k6 hm hyz;go_wp2
   have z0_:=ZB.o.c;refine MM (v:=.tuple #[.agg (KV t a1 c1 a2 c2),.bool false]) ?_ rfl ?_
   ·simp only[ar]at z0_;simp[results,results234,go_sem,z0_]
   ·refine⟨_,_,rfl,Z.o.1,?_⟩;rw[HA.o];exact cZ.none Z.o.2
  | some y9=>
   rw[hm]at hb2;simp only[Option.isSome_some]at hb2;subst hb2;obtain rfl:=hyz y9 hm;have HM:=aa hm;obtain⟨f0,f1,f2,f3,f4,f5,f6,f7,f8,f9⟩:=k1.c;have con6:Ll (∀ W,W.heap=wa.heap->W.os=wa.os->W.tape=wa.tape->W.output=wa.output->Calls prog 234 #[.agg (KV y a5 c5 a6 c6),.slice (some ⟨nb,no+1,none⟩) (rs.length+1) (m+1),hv] W fun e w'=>∃ (y2:V) (b5 b6:Option Addr) (d5 d6:Nat) (b:Bool),e=.returned (.tuple #[.agg (KV y2 b5 d5 b6 d6),.bool b])/\KY w' g y a5 c5 a6 c6 /\
    ∀ W',W'=ar w' g (.int .i64 y2.kind) (.int .i64 y2.n) (.string ⟨y2.s.toArray⟩) (.slice b5 y2.keys.length d5) (.slice b6 y2.l.length d6)->IR w ok t (dM how (r :: rs) y) a1 a2 c1 c2 g wa.heap.size (.bool b) W'):=by
    intro W e1 e2 e3 e4;have LY:=mn e1 e2 e3 e4;have L9:W.heap.size=wa.heap.size:=by rw[e1]
    have LW:=ab K.o.2.2.2.1 LY;refine(IH.o W (Lj ok w) oks y _ _ (HW.o.trans (LW.mono HW.o.size)) (fun k hk=>⟨⟨(HB.o k hk).1,by have:=(HB.o k hk).2;have:=HW.o.size;omega⟩,(HB.o k hk).2⟩) (K.o.2.2.2.2.bel LY) (lu HN.o HM.o) (NT.o.bel LW)).mono ?_;rintro e w1 ⟨r9,b,rfl,hb1,hb2,y2,hy,hyz⟩;obtain⟨b5,b6,d5,d6,rfl⟩:=hy.form;rw[L9]at hy;have hb3:=ab LY hb1;refine⟨y2,b5,b6,d5,d6,b,rfl,af hb3 K.o.1,?_⟩;rintro W' rfl;have g1:=aI w1 g (.int .i64 y2.kind) (.int .i64 y2.n) (.string ⟨y2.s.toArray⟩) (.slice b5 y2.keys.length d5) (.slice b6 y2.l.length d6);refine⟨y2,b5,b6,d5,d6,b,rfl,hb2,hyz,(af hb3 K.o.1).set _ _ _ _ _,(af hb3 K.o.2.1).grown g1 (by simp;omega),(af hb3 K.o.2.2.1).grown g1 (by simp;omega),aP (ab K.o.2.2.2.1 hb3) (by omega) _ _ _ _ _,In.box hy (by omega) hgl _ _ _ _ _,MH hb3.size g1.size⟩
   clear k1 k3 k4 k5 k6 hm hyz;go_upto_region 6 with fail
   go_cut [10] (fun q wc'=>IR w ok t (dM how (r :: rs) y) a1 a2 c1 c2 g wa.heap.size q wc')
   case first=>
    go_region_with ((go_at_call 234;refine(con6.o _ (by rfl) (by rfl) (by rfl) (by rfl)).mono ?_;rintro e w1 ⟨y2,b5,b6,d5,d6,b,rfl,LU,hfin⟩;obtain⟨x0,x1,x2,x3,x4,y0,y1,y2',y3,y4⟩:=LU.c;have FIN:=aa hfin;clear hfin LU))
    all_goals
     go_wp2
     go_meet
     case rel=>exact FIN.o _ rfl
   case rest=>
    obtain⟨y2,b5,b6,d5,d6,b,rfl,hb2,hyz,k1,k3,k4,k5,k6,k7⟩:=hcut;clear con6;cases hd:dM how (r :: rs) y with
    | none=>
     rw[hd]at hb2;simp only[Option.isSome_none]at hb2;subst hb2;have p0_:=k3.c;obtain⟨x0,x1,x2,x3,x4,y0,y1,y2',y3,y4⟩:=k4.c;have Z:Ll (_/\_):=aN (C:=wc.heap.size) (g:=w.heap.size+1) ((H.o.bel k5).weak (aO (C:=wc.heap.size))) k5 (by omega) k4.lt;have ZB:Ll _:=aa (LH k4.set t a1 c1 a2 c2);have HA:Ll (dM how (s :: r :: rs) t=none):=aa (by rw[dM,HM.o,Option.bind_some,hd];rfl);clear k1 k3 k4 k5 k6 hd hyz;go_wp2
     have z0_:=ZB.o.c;refine MM (v:=.tuple #[.agg (KV t a1 c1 a2 c2),.bool false]) ?_ rfl ?_
     ·simp only[ar]at z0_;simp[results,results234,go_sem,z0_]
     ·refine⟨_,_,rfl,Z.o.1,?_⟩;rw[HA.o];exact cZ.none Z.o.2
    | some y9=>
     rw[hd]at hb2;simp only[Option.isSome_some]at hb2;subst hb2;obtain rfl:=hyz y9 hd;have HA:Ll (dM how (s :: r :: rs) t=aY y2 t s):=aa (by rw[dM,HM.o,Option.bind_some,hd];rfl);have K2:Ll (KY wc w.heap.size t a1 c1 a2 c2/\Lc wc (w.heap.size+1)/\La w wc/\In wc (bg ok w.heap.size wa.heap.size) y2 (.agg (KV y2 b5 d5 b6 d6))):=⟨k3,k4,k5,k6⟩
     obtain⟨f0,f1,f2,f3,f4,-⟩:=k1.c;have p0_:=k3.c;have g0:=ah k5 N4.o;have con9:Ll (∀ W,W.heap=wc.heap->W.os=wc.os->W.tape=wc.tape->W.output=wc.output->Calls prog 204 #[.agg (KV t a1 c1 a2 c2),.string ⟨s.toArray⟩,.agg (KV y2 b5 d5 b6 d6)] W fun e w'=>∃ (y3:V) (b7 b8:Option Addr) (d7 d8:Nat) (b:Bool),e=.returned (.tuple #[.agg (KV y3 b7 d7 b8 d8),.bool b])/\Lc w' (w.heap.size+1) /\
      ∀ W',W'=ar w' (w.heap.size+1) (.int .i64 y3.kind) (.int .i64 y3.n) (.string ⟨y3.s.toArray⟩) (.slice b7 y3.keys.length d7) (.slice b8 y3.l.length d8)->La w W'/\cZ W' (bQ ok w.heap.size) (dM how (s :: r :: rs) t) (.agg (KV y3 b7 d7 b8 d8)) b/\KY W' (w.heap.size+1) y3 b7 d7 b8 d8):=by
      intro W e1 e2 e3 e4;have LY:=mn e1 e2 e3 e4;have L9:W.heap.size=wc.heap.size:=by rw[e1]
      have LW:=ab K2.o.2.2.1 LY;refine(kn W (bg ok w.heap.size wa.heap.size) t y2 _ _ s ((H.o.bel LW).weak aO) (K2.o.2.2.2.bel LY) HN.o n3).mono ?_;rintro e w1 ⟨r9,b,rfl,hb1,hb2,y3,hy,hyz⟩;obtain⟨b7,b8,d7,d8,rfl⟩:=hy.form;have hb3:=ab LY hb1;have LU:=af hb3 K2.o.2.1;refine⟨y3,b7,b8,d7,d8,b,rfl,LU,?_⟩;rintro W' rfl;have g1:=aI w1 (w.heap.size+1) (.int .i64 y3.kind) (.int .i64 y3.n) (.string ⟨y3.s.toArray⟩) (.slice b7 y3.keys.length d7) (.slice b8 y3.l.length d8);refine⟨aP (ab K2.o.2.2.1 hb3) (by omega) _ _ _ _ _,⟨by rw[HA.o];exact hb2,y3,?_,by rw[HA.o];exact hyz⟩,LU.set _ _ _ _ _⟩;refine(hy.grown g1 ?_).weak ?_
      ·intro k hk e;rcases hk with hk | hk
       ·exact jB (by omega) (by omega) k hk e
       ·omega
      ·intro k hk;rcases hk with hk | hk
       ·exact ik (by omega) k hk
       ·exact .inr (by omega)
     clear k1 k3 k4 k5 k6 hd hyz;go_upto_region 9 with fail
     go_region_with ((go_at_call 204;refine(con9.o _ (by rfl) (by rfl) (by rfl) (by rfl)).mono ?_;rintro e w1 ⟨y3,b7,b8,d7,d8,b,rfl,LU,hfin⟩;obtain⟨x0,x1,x2,x3,x4,y0,y1,y2',y3',y4⟩:=LU.c;have FIN:=aa hfin;clear hfin LU))
     all_goals
      go_wp2
      obtain⟨r1,r2,r3⟩:=FIN.o _ rfl;have z0_:=r3.c;refine MM (v:=.tuple #[.agg (KV y3 b7 d7 b8 d8),.bool b]) ?_ rfl ?_
      ·simp only[ar]at z0_;simp[results,results234,go_sem,z0_]
      ·exact⟨_,_,rfl,r1,r2⟩
theorem Di(gh gx)(how:V->Lz->Option V)(w0 base)(hH:En gh gx how w0 base):∀ (s:Lz) (ns:List Lz),Aj gh gx how w0 base (s :: ns):=by
 intro s ns;induction ns generalizing s with
 | nil=>exact CQ gh gx how w0 base hH s
 | cons r rs ih=>exact Lp _ how w0 base s r rs (ih r)
def IA (how:V->Lz->Option V) (w0:LC) (base:Nat->Prop):Prop:=∀ (W:LC) (ok:Nat->Prop) (t:V) (v:Value) (s:Lz),La w0 W->(∀ k,base k->ok k/\k < w0.heap.size)->In W ok t v->dz t->s.length<=9223372036854775807 ->
 Calls prog 203 #[v,aR s] W fun e w'=>∃ r b,e=.returned (.tuple #[r,.bool b])/\La W w'/\cZ w' (bQ ok W.heap.size) (how t s) r b
abbrev Ar:=Lq (.func (.func 203) #[] #[])
theorem BU(how:V->Lz->Option V)(w0 base)(hH:IA how w0 base)(s):Ar how w0 base [s]:=by
 intro w ok oks t v nv hw0 hbase h hn hnv;obtain⟨nb,no,nc,rfl,n1,n2,n3,n4⟩:=kF hnv;simp only[List.length_nil,Nat.zero_add]at n1 ⊢;have H:=aa h.low;have HN:=aa hn;have HW:=aa hw0;have HB:=aa hbase;have HH:=aa hH;obtain⟨l1,l2,l3⟩:=h.lens;obtain⟨a1,a2,c1,c2,rfl⟩:=h.form;have B2:Ll (∀ o1 o2,La w ((w.alloc o1).alloc o2)):=fun o1 o2=>ab (ae _ _) (ae _ _);have g0:∀ o1 o2,((w.alloc o1).alloc o2).cell? ⟨nb,no,none⟩=some (.string ⟨s.toArray⟩):=fun o1 o2=>ah (B2.o o1 o2) n4;have con:Ll (∀ o1 W,W.heap=((w.alloc o1).alloc (.cells Lb 32)).heap->W.os=w.os->W.tape=w.tape->W.output=w.output->Calls prog 203 #[.agg (KV t a1 c1 a2 c2),.string ⟨s.toArray⟩] W fun e w'=>∃ (y:V) (a5 a6:Option Addr) (c5 c6:Nat) (b:Bool),e=.returned (.tuple #[.agg (KV y a5 c5 a6 c6),.bool b])/\La w w'/\Lc w' (w.heap.size+1) /\
  b=(how t s).isSome/\In w' (bg ok w.heap.size (w.heap.size+2)) y (.agg (KV y a5 c5 a6 c6))/\∀ z,how t s=some z->y=z):=by
  intro o1 W e1 e2 e3 e4;have LY:=kD e1 e2 e3 e4;have L9:W.heap.size=w.heap.size+2:=by rw[e1];simp
  refine(HH.o W (Lj ok w) t _ s (HW.o.trans (LY.mono HW.o.size)) (fun k hk=>⟨⟨(HB.o k hk).1,by have:=(HB.o k hk).2;have:=HW.o.size;omega⟩,(HB.o k hk).2⟩) (H.o.bel LY) HN.o n3).mono ?_;rintro e w1 ⟨r,b,rfl,hb1,hb2,y,hy,hyz⟩;obtain⟨a5,a6,c5,c6,rfl⟩:=hy.form;rw[L9]at hy;exact⟨y,a5,a6,c5,c6,b,rfl,ab LY hb1,af hb1 (by unfold ag;rw[e1];exact et w _ _),hb2,hy,hyz⟩
 clear h hn hw0 hbase hH n4 hnv;unfold dM;go_enter func234,ntmps234;go_upto_region 2 with fail
 go_region_with ((go_at_call 203;refine(con.o _ _ (by rfl) (by rfl) (by rfl) (by rfl)).mono ?_;rintro e w1 ⟨y,a5,a6,c5,c6,b,rfl,r1,r2,hb2,hy,hyz⟩;have x0_:=r2.c;have Z:=aa (aN (g:=w.heap.size+1) hy r1 (by omega) (by omega));have ZB:=aa (LH r2.set y a5 c5 a6 c6);have R:Ll (b=(how t s).isSome/\∀ z,how t s=some z->y=z):=⟨hb2,hyz⟩;clear hb2 hy hyz r1 r2))
 all_goals
  go_wp2
  have z0_:=ZB.o.c;refine MM (v:=.tuple #[.agg (KV y a5 c5 a6 c6),.bool b]) ?_ rfl ?_
  ·simp only[ar]at z0_;simp[results,results234,go_sem,z0_]
  ·exact⟨_,_,rfl,Z.o.1,R.o.1,y,Z.o.2,R.o.2⟩
theorem DH(how:V->Lz->Option V)(w0 base)(hH:IA how w0 base):∀ (s:Lz) (ns:List Lz),Ar how w0 base (s :: ns):=by
 intro s ns;induction ns generalizing s with
 | nil=>exact BU how w0 base hH s
 | cons r rs ih=>exact Lp _ how w0 base s r rs (ih r)
theorem Ls(hv)(how:V->Lz->Option V)(w0 base)(hH:∀ (s:Lz) (ns:List Lz),Lq hv how w0 base (s :: ns))(w ok t v p)(hw0:La w0 w)(hbase:∀ k,base k->ok k/\k < w0.heap.size)(h:In w ok t v)(hp:p.length<=140737488351232)(hM:bj w):Calls prog 202 #[v,aR p,hv] w fun e w'=>∃ r,e=.returned (.tuple #[r,.int .i64 (aX how (ax p) t).2])/\La w w'/\In w' (bQ ok w.heap.size) (aX how (ax p) t).1 r:=by
 have H:=aa h.low;have HW:=aa hw0;have HB:=aa hbase;have HH:=aa hH;have HMM:=aa hM;obtain⟨l1,l2,l3⟩:=h.lens;obtain⟨a1,a2,c1,c2,rfl⟩:=h.form;clear h hw0 hbase hH hM;go_enter func202,ntmps202;go_wp2_with fail
 refine(iO _ p hp (by exact HMM.o.bel (ab (ae _ _) (ae _ _)))).mono ?_;rintro e w1 ⟨ns,ee,na,nc,rfl,hsp,hns,hb1⟩;have SP:=aa hsp;have nlen:=hns.1;unfold maxLen at nlen;have K1:Ll (KY w1 w.heap.size t a1 c1 a2 c2/\Lc w1 (w.heap.size+1)/\La w w1/\ao w1 (fun k=>(((w.alloc _).alloc _).heap.size<=k)) ns (.slice na ns.length nc)):=⟨af hb1 (fb w _ _),af hb1 (et w _ _),ab (ab (ae _ _) (ae _ _)) hb1,hns⟩
 clear hb1 hns hsp;by_cases he:ee=0
 ·subst he;cases ns with
  | nil=>
   have p0_:=(K1.o.1).c;have x0_:=(K1.o.2.1).c;have Z:Ll (_/\_):=aN (C:=(w1).heap.size) (g:=w.heap.size+1) ((H.o.bel K1.o.2.2.1).weak (aO (C:=(w1).heap.size))) K1.o.2.2.1 (by omega) (K1.o.2.1).lt;have ZB:Ll _:=aa ((K1.o.2.1).set (.int .i64 t.kind) (.int .i64 t.n) (.string ⟨t.s.toArray⟩) (.slice a1 t.keys.length c1) (.slice a2 t.l.length c2));have HA:Ll (aX how (ax p) t=(t,1)):=aa (by rw[SP.o];rfl);clear K1;go_wp2_with fail
   have z0_:=ZB.o.c;refine MM (v:=.tuple #[.agg (KV t a1 c1 a2 c2),.int .i64 1]) ?_ rfl ?_
   ·simp only[ar]at z0_;simp[results,results202,go_sem,z0_]
   ·refine⟨_,by rw[HA.o],Z.o.1,?_⟩;rw[HA.o];exact Z.o.2
  | cons s rs=>
   have e1:(((rs.length:Int)+1) == 0)=false:=by rw[MO];omega
   simp only[My]at nlen ⊢;have p0_:=K1.o.1.c;go_wp2_with fail
   refine Lk (bG _ (Lj ok w) t _ (by exact H.o.bel K1.o.2.2.1)) fun w2 hb2=>?_;have K2:Ll (KY w2 w.heap.size t a1 c1 a2 c2/\Lc w2 (w.heap.size+1)/\La w w2/\ao w2 (fun k=>(((w.alloc (.cells #[] 0)).alloc (.cells #[] 0)).heap.size<=k)) (s :: rs) (.slice na (rs.length+1) nc)):=⟨af hb2 K1.o.1,af hb2 K1.o.2.1,ab K1.o.2.2.1 hb2,by have:=K1.o.2.2.2.bel hb2;simpa using this⟩
   clear hb2 K1;cases hg:aE t with
   | false=>
    have p0_:=(K2.o.1).c;have x0_:=(K2.o.2.1).c;have Z:Ll (_/\_):=aN (C:=(w2).heap.size) (g:=w.heap.size+1) ((H.o.bel K2.o.2.2.1).weak (aO (C:=(w2).heap.size))) K2.o.2.2.1 (by omega) (K2.o.2.1).lt;have ZB:Ll _:=aa ((K2.o.2.1).set (.int .i64 t.kind) (.int .i64 t.n) (.string ⟨t.s.toArray⟩) (.slice a1 t.keys.length c1) (.slice a2 t.l.length c2));have HA:Ll (aX how (ax p) t=(t,1)):=aa (by rw[SP.o];unfold aX;rw[if_neg (by simp),if_pos (.inr hg)]);clear K2 hg;go_wp2_with fail
    have z0_:=ZB.o.c;refine MM (v:=.tuple #[.agg (KV t a1 c1 a2 c2),.int .i64 1]) ?_ rfl ?_
    ·simp only[ar]at z0_;simp[results,results202,go_sem,z0_]
    ·refine⟨_,by rw[HA.o],Z.o.1,?_⟩;rw[HA.o];exact Z.o.2
   | true=>
    have HG:=aa hg;have p0_:=K2.o.1.c;clear hg;go_wp2_with fail
    refine(HH.o s rs _ (Lj ok w) _ t _ _ (by exact HW.o.trans (K2.o.2.2.1.mono HW.o.size)) (fun k hk=>⟨⟨(HB.o k hk).1,by have:=(HB.o k hk).2;have:=HW.o.size;omega⟩,(HB.o k hk).2⟩) (by exact H.o.bel K2.o.2.2.1) (dQ HG.o) (by exact K2.o.2.2.2)).mono ?_;rintro e w3 ⟨r,b,rfl,hb3,hb,y,hy,hyz⟩;obtain⟨a5,a6,c5,c6,rfl⟩:=hy.form;have L9:=K2.o.2.1.lt;have LW:=ab hb3 (ae w3 (.cells (KV y a5 c5 a6 c6) 32));have K3:Ll (KY (w3.alloc (.cells (KV y a5 c5 a6 c6) 32)) w.heap.size t a1 c1 a2 c2/\Lc (w3.alloc (.cells (KV y a5 c5 a6 c6) 32)) (w.heap.size+1)/\La w (w3.alloc (.cells (KV y a5 c5 a6 c6) 32))/\KY (w3.alloc (.cells (KV y a5 c5 a6 c6) 32)) w3.heap.size y a5 c5 a6 c6/\In (w3.alloc (.cells (KV y a5 c5 a6 c6) 32)) (bg ok w.heap.size w2.heap.size) y (.agg (KV y a5 c5 a6 c6))/\w2.heap.size<=w3.heap.size):=⟨af LW K2.o.1,af LW K2.o.2.1,ab K2.o.2.2.1 LW,MN w3 _,hy.bel (ae _ _),hb3.size⟩
    clear hb3 LW hy K2;cases hd:dM how (s :: rs) t with
    | none=>
     rw[hd]at hb;simp only[Option.isSome_none]at hb;subst hb;have p0_:=(K3.o.1).c;have x0_:=(K3.o.2.1).c;have Z:Ll (_/\_):=aN (C:=(w3.alloc (.cells (KV y a5 c5 a6 c6) 32)).heap.size) (g:=w.heap.size+1) ((H.o.bel K3.o.2.2.1).weak (aO (C:=(w3.alloc (.cells (KV y a5 c5 a6 c6) 32)).heap.size))) K3.o.2.2.1 (by omega) (K3.o.2.1).lt;have ZB:Ll _:=aa ((K3.o.2.1).set (.int .i64 t.kind) (.int .i64 t.n) (.string ⟨t.s.toArray⟩) (.slice a1 t.keys.length c1) (.slice a2 t.l.length c2));have HA:Ll (aX how (ax p) t=(t,3)):=aa (by rw[SP.o];unfold aX;rw[if_neg (by simp),if_neg (by simp[HG.o])];simp only[hd]);clear hd hyz;go_wp2_with fail
     have z0_:=ZB.o.c;refine MM (v:=.tuple #[.agg (KV t a1 c1 a2 c2),.int .i64 3]) ?_ rfl ?_
     ·simp only[ar]at z0_;simp[results,results202,go_sem,z0_]
     ·refine⟨_,by rw[HA.o],Z.o.1,?_⟩;rw[HA.o];exact Z.o.2
    | some y9=>
     rw[hd]at hb;simp only[Option.isSome_some]at hb;subst hb;obtain rfl:=hyz y9 hd;have q0_:=K3.o.2.2.2.1.c;have HD:=aa hd;clear hd hyz;go_wp2_with fail
     refine Lk (bG _ _ y _ (by exact K3.o.2.2.2.2.1)) fun w4 hb4=>?_;have hsz3:w3.heap.size < (w3.alloc (.cells (KV y a5 c5 a6 c6) 32)).heap.size:=by simp
     have K4:Ll (KY w4 w.heap.size t a1 c1 a2 c2/\Lc w4 (w.heap.size+1)/\La w w4/\KY w4 w3.heap.size y a5 c5 a6 c6/\In w4 (bg ok w.heap.size w2.heap.size) y (.agg (KV y a5 c5 a6 c6))):=⟨af hb4 K3.o.1,af hb4 K3.o.2.1,ab K3.o.2.2.1 hb4,af hb4 K3.o.2.2.2.1,K3.o.2.2.2.2.1.bel hb4⟩
     clear hb4 K3;cases hg:aE y with
     | false=>
      have p0_:=(K4.o.1).c;have x0_:=(K4.o.2.1).c;have Z:Ll (_/\_):=aN (C:=(w4).heap.size) (g:=w.heap.size+1) ((H.o.bel K4.o.2.2.1).weak (aO (C:=(w4).heap.size))) K4.o.2.2.1 (by omega) (K4.o.2.1).lt;have ZB:Ll _:=aa ((K4.o.2.1).set (.int .i64 t.kind) (.int .i64 t.n) (.string ⟨t.s.toArray⟩) (.slice a1 t.keys.length c1) (.slice a2 t.l.length c2));have HA:Ll (aX how (ax p) t=(t,2)):=aa (by rw[SP.o];unfold aX;rw[if_neg (by simp),if_neg (by simp[HG.o])];simp only[HD.o,hg];rfl);clear hg;go_wp2_with fail
      have z0_:=ZB.o.c;refine MM (v:=.tuple #[.agg (KV t a1 c1 a2 c2),.int .i64 2]) ?_ rfl ?_
      ·simp only[ar]at z0_;simp[results,results202,go_sem,z0_]
      ·refine⟨_,by rw[HA.o],Z.o.1,?_⟩;rw[HA.o];exact Z.o.2
     | true=>
      have q0_:=K4.o.2.2.2.1.c;have x0_:=K4.o.2.1.c;have Z:Ll (_/\_):=aN (g:=w.heap.size+1) K4.o.2.2.2.2 K4.o.2.2.1 (by omega) L9;have ZB:Ll _:=aa (LH K4.o.2.1.set y a5 c5 a6 c6);have HA:Ll (aX how (ax p) t=(y,0)):=aa (by rw[SP.o];unfold aX;rw[if_neg (by simp),if_neg (by simp[HG.o])];simp only[HD.o,hg];rfl);clear hg K4;go_wp2_with fail
      have z0_:=ZB.o.c;refine MM (v:=.tuple #[.agg (KV y a5 c5 a6 c6),.int .i64 0]) ?_ rfl ?_
      ·simp only[ar]at z0_;simp[results,results202,go_sem,z0_]
      ·refine⟨_,by rw[HA.o],Z.o.1,?_⟩;rw[HA.o];exact Z.o.2
 ·have e1:(ee != 0)=true:=by rw[bne_iff_ne];exact he
  have e2:(ee == 0)=false:=by rw[MO];exact he
  have HE:=aa he;clear he;have p0_:=(K1.o.1).c;have x0_:=(K1.o.2.1).c;have Z:Ll (_/\_):=aN (C:=(w1).heap.size) (g:=w.heap.size+1) ((H.o.bel K1.o.2.2.1).weak (aO (C:=(w1).heap.size))) K1.o.2.2.1 (by omega) (K1.o.2.1).lt;have ZB:Ll _:=aa ((K1.o.2.1).set (.int .i64 t.kind) (.int .i64 t.n) (.string ⟨t.s.toArray⟩) (.slice a1 t.keys.length c1) (.slice a2 t.l.length c2));have HA:Ll (aX how (ax p) t=(t,ee)):=aa (by rw[SP.o];unfold aX;rw[if_pos HE.o]);clear K1;go_wp2_with fail
  have z0_:=ZB.o.c;refine MM (v:=.tuple #[.agg (KV t a1 c1 a2 c2),.int .i64 ee]) ?_ rfl ?_
  ·simp only[ar]at z0_;simp[results,results202,go_sem,z0_]
  ·refine⟨_,by rw[HA.o],Z.o.1,?_⟩;rw[HA.o];exact Z.o.2
theorem oC(gh gx)(how:V->Lz->Option V)(w0:LC)(base)(hH:En gh gx how w0 base)(w:LC)(ok t v p)(hw0:La w0 w)(hbase:∀ k,base k->ok k/\k < w0.heap.size)(h:In w ok t v)(hp:p.length<=140737488351232)(hM:bj w):Calls prog 202 #[v,aR p,.func (.func 232) #[] #[.pointer (some ⟨gh,0,none⟩),.pointer (some ⟨gx,0,none⟩)]] w fun e w'=>∃ r,e=.returned (.tuple #[r,.int .i64 (aX how (ax p) t).2])/\La w w'/\In w' (bQ ok w.heap.size) (aX how (ax p) t).1 r:=
 Ls _ how w0 base (Di gh gx how w0 base hH) w ok t v p hw0 hbase h hp hM
theorem Ha(how:V->Lz->Option V)(w0:LC)(base)(hH:IA how w0 base)(w:LC)(ok t v p)(hw0:La w0 w)(hbase:∀ k,base k->ok k/\k < w0.heap.size)(h:In w ok t v)(hp:p.length<=140737488351232)(hM:bj w):Calls prog 202 #[v,aR p,.func (.func 203) #[] #[]] w fun e w'=>∃ r,e=.returned (.tuple #[r,.int .i64 (aX how (ax p) t).2])/\La w w'/\In w' (bQ ok w.heap.size) (aX how (ax p) t).1 r:=
 Ls _ how w0 base (DH how w0 base hH) w ok t v p hw0 hbase h hp hM
variable {x:V}
variable {B:Nat}
theorem Ky(w:LC)(o1 o2 o3 o4:Obj):((((w.alloc o1).alloc o2).alloc o3).alloc o4).heap[w.heap.size]?=some o1:=by
 rw[(ae _ o4).block _ (by simp;omega)];exact lI w o1 o2 o3
theorem Kz(w:LC)(o1 o2 o3 o4:Obj):((((w.alloc o1).alloc o2).alloc o3).alloc o4).heap[w.heap.size+1]?=some o2:=by
 rw[(ae _ o4).block _ (by simp)];exact mE w o1 o2 o3
theorem KI(w:LC)(o1 o2 o3 o4:Obj):((((w.alloc o1).alloc o2).alloc o3).alloc o4).heap[w.heap.size+2]?=some o3:=by
 rw[(ae _ o4).block _ (by simp)];exact jI w o1 o2 o3
theorem KG(w:LC)(o1 o2 o3 o4:Obj):((((w.alloc o1).alloc o2).alloc o3).alloc o4).heap[w.heap.size+3]?=some o4:=by
 have:=MN (((w.alloc o1).alloc o2).alloc o3) o4;simpa using this
theorem rW{W0:LC}{gh gx:Nat}{a7 a8:Option Addr}{c7 c8:Nat}{tf:TypeId}(bx:KY W0 gx x a7 c7 a8 c8)(bh:W0.heap[gh]?=some (.cells #[.func (.func 201) #[] #[]] tf))(hx:In W0 (fun k=>ok k/\k < B) x (.agg (KV x a7 c7 a8 c8)))(hB:B<=W0.heap.size):En gh gx (bL x) W0 (fun k=>ok k/\k < B):=by
 intro W ok' t v s hW hk h hn hs;exact C3 W ok' t x v s gh gx a7 a8 c7 c8 tf h ((hx.bel hW).weak fun k hk'=>(hk k hk').1) (af hW bx) (by rw[hW.block _ (MF.1 bh).1];exact bh) hn hs
theorem mt{W0:LC}{gh gx:Nat}{a7 a8:Option Addr}{c7 c8:Nat}{tf:TypeId}(bx:KY W0 gx x a7 c7 a8 c8)(bh:W0.heap[gh]?=some (.cells #[.func (.func 204) #[] #[]] tf))(hx:In W0 (fun k=>ok k/\k < B) x (.agg (KV x a7 c7 a8 c8)))(hB:B<=W0.heap.size):En gh gx (aY x) W0 (fun k=>ok k/\k < B):=by
 intro W ok' t v s hW hk h hn hs;exact tx W ok' t x v s gh gx a7 a8 c7 c8 tf h ((hx.bel hW).weak fun k hk'=>(hk k hk').1) (af hW bx) (by rw[hW.block _ (MF.1 bh).1];exact bh) hn hs
def Lo (f:FuncId) (how:V->V->Lz->Option V):Prop:=∀ {W0:LC} {ok:Nat->Prop} {B gh gx:Nat} {x:V} {a7 a8:Option Addr} {c7 c8:Nat} {tf:TypeId},KY W0 gx x a7 c7 a8 c8->W0.heap[gh]?=some (.cells #[.func (.func f) #[] #[]] tf)->In W0 (fun k=>ok k/\k < B) x (.agg (KV x a7 c7 a8 c8))->B<=W0.heap.size->En gh gx (how x) W0 (fun k=>ok k/\k < B)
theorem Ln(f:FuncId)(how:V->V->Lz->Option V)(hf:Lo f how)(w ok t x v xv p)(h:In w ok t v)(hx:In w ok x xv)(hp:p.length<=140737488351232)(hM:bj w):Calls prog 200 #[v,aR p,xv,.func (.func f) #[] #[]] w fun e w'=>∃ r,e=.returned (.tuple #[r,.int .i64 (ep how p (ax p) t x).2])/\La w w'/\In w' (bQ ok w.heap.size) (ep how p (ax p) t x).1 r:=by
 have HF:Ll (Lo f how):=@hf;clear hf;have H:=aa h.low;have HX:=aa hx.low;have HMM:=aa hM;obtain⟨l1,l2,l3⟩:=h.lens;obtain⟨a1,a2,c1,c2,rfl⟩:=h.form;obtain⟨a7,a8,c7,c8,rfl⟩:=hx.form;clear h hx hM;have B4:Ll (∀ o1 o2 o3 o4,La w ((((w.alloc o1).alloc o2).alloc o3).alloc o4)):=fun o1 o2 o3 o4=>ab (ab (ab (ae _ _) (ae _ _)) (ae _ _)) (ae _ _);go_enter func200,ntmps200;go_wp2_with fail
 refine Lk (bG _ (Lj ok w) x _ (by exact HX.o.bel (B4.o _ _ _ _))) fun w1 hb1=>?_;have K:Ll (KY w1 w.heap.size t a1 c1 a2 c2/\KY w1 (w.heap.size+1) x a7 c7 a8 c8/\w1.heap[w.heap.size+2]?=some (.cells #[.func (.func f) #[] #[]] 258)/\Lc w1 (w.heap.size+3)/\La w w1):=⟨af hb1 (Ky w _ _ _ _),af hb1 (Kz w _ _ _ _),by rw[hb1.block _ (by simp)];exact KI w _ _ _ _,af hb1 (KG w _ _ _ _),ab (B4.o _ _ _ _) hb1⟩
 clear hb1;cases hgx:aE x with
 | false=>
  have p0_:=K.o.1.c;have x0_:=K.o.2.2.2.1.c;have Z:Ll (_/\_):=aN (C:=w1.heap.size) (g:=w.heap.size+3) ((H.o.bel K.o.2.2.2.2).weak (aO (C:=w1.heap.size))) K.o.2.2.2.2 (by omega) K.o.2.2.2.1.lt;have ZB:Ll _:=aa (LH K.o.2.2.2.1.set t a1 c1 a2 c2);have HA:Ll (ep how p (ax p) t x=(t,1)):=aa (by unfold ep;rw[if_pos hgx]);clear hgx;go_wp2_with fail
  have z0_:=ZB.o.c;refine MM (v:=.tuple #[.agg (KV t a1 c1 a2 c2),.int .i64 1]) ?_ rfl ?_
  ·simp only[ar]at z0_;simp[results,results200,go_sem,z0_]
  ·refine⟨_,by rw[HA.o],Z.o.1,?_⟩;rw[HA.o];exact Z.o.2
 | true=>
  have GX:=aa hgx;clear hgx;obtain⟨o0,o1,o2,o3,o4,-⟩:=K.o.1.c;by_cases hpe:p=[]
  ·have q1:(p == [])=true:=by rw[hpe];rfl
   have q2:p.isEmpty=true:=by rw[hpe];rfl
   have PE:=aa hpe;clear hpe;unfold aR;go_wp2_with fail
   refine Lk (bG _ (Lj ok w) t _ (by exact H.o.bel K.o.2.2.2.2)) fun w2 hb2=>?_;have K2:Ll (KY w2 w.heap.size t a1 c1 a2 c2/\KY w2 (w.heap.size+1) x a7 c7 a8 c8/\w2.heap[w.heap.size+2]?=some (.cells #[.func (.func f) #[] #[]] 258)/\Lc w2 (w.heap.size+3)/\La w w2):=⟨af hb2 K.o.1,af hb2 K.o.2.1,by rw[hb2.block _ (by have:=K.o.2.2.2.1.lt;omega)];exact K.o.2.2.1,af hb2 K.o.2.2.2.1,ab K.o.2.2.2.2 hb2⟩
   clear hb2 K;cases hgt:aE t with
   | true=>
    have p0_:=K2.o.2.1.c;have x0_:=K2.o.2.2.2.1.c;have Z:Ll (_/\_):=aN (C:=w2.heap.size) (g:=w.heap.size+3) ((HX.o.bel K2.o.2.2.2.2).weak (aO (C:=w2.heap.size))) K2.o.2.2.2.2 (by omega) K2.o.2.2.2.1.lt;have ZB:Ll _:=aa (LH K2.o.2.2.2.1.set x a7 c7 a8 c8);have HA:Ll (ep how p (ax p) t x=(x,0)):=aa (by unfold ep;rw[if_neg (by simp[GX.o]),if_pos ⟨PE.o,hgt⟩]);clear hgt;go_wp2_with fail
    have z0_:=ZB.o.c;refine MM (v:=.tuple #[.agg (KV x a7 c7 a8 c8),.int .i64 0]) ?_ rfl ?_
    ·simp only[ar]at z0_;simp[results,results200,go_sem,z0_]
    ·refine⟨_,by rw[HA.o],Z.o.1,?_⟩;rw[HA.o];exact Z.o.2
   | false=>
    have GT:=aa hgt;clear hgt;obtain⟨o0,o1,o2,o3,o4,-⟩:=K2.o.1.c;go_wp2_with fail
    refine(oC (w.heap.size+2) (w.heap.size+1) (how x) w2 (Lj ok w) (HF.o (K2.o.2.1) (K2.o.2.2.1) (HX.o.bel K2.o.2.2.2.2) (by have:=K2.o.2.2.2.1.lt;omega)) _ (Lj ok w) t _ p (by exact MK _ _) (fun k hk=>⟨hk,by have:=K2.o.2.2.2.1.lt;omega⟩) (by exact H.o.bel K2.o.2.2.2.2) hp (by exact HMM.o.bel K2.o.2.2.2.2)).mono ?_;rintro e w9 ⟨r,rfl,hb9,hr⟩;obtain⟨y,hy⟩:∃ y,aX (how x) (ax p) t=y:=⟨_,rfl⟩
    rw[hy]at hr ⊢;obtain⟨y,ye⟩:=y;simp only at hr ⊢;have HA:Ll (ep how p (ax p) t x=(y,ye)):=aa (by unfold ep;rw[if_neg (by simp[GX.o]),if_neg (by simp[GT.o])];exact hy);obtain⟨a5,a6,c5,c6,rfl⟩:=hr.form;have LU:=af hb9 K2.o.2.2.2.1;have x0_:=LU.c;have Z:Ll (_/\_):=aN (g:=w.heap.size+3) hr (ab K2.o.2.2.2.2 hb9) (by omega) K2.o.2.2.2.1.lt;have ZB:Ll _:=aa (LH LU.set y a5 c5 a6 c6);clear hy hr hb9 LU;go_wp2_with fail
    have z0_:=ZB.o.c;refine MM (v:=.tuple #[.agg (KV y a5 c5 a6 c6),.int .i64 ye]) ?_ rfl ?_
    ·simp only[ar]at z0_;simp[results,results200,go_sem,z0_]
    ·refine⟨_,by rw[HA.o],Z.o.1,?_⟩;rw[HA.o];exact Z.o.2
  ·have q1:(p == [])=false:=by rw[MO];exact hpe
   have q2:p.isEmpty=false:=by cases p with | nil=>exact absurd rfl hpe | cons _ _=>rfl
   have PE:=aa hpe;clear hpe;unfold aR;go_wp2_with fail
   refine(oC (w.heap.size+2) (w.heap.size+1) (how x) w1 (Lj ok w) (HF.o (K.o.2.1) (K.o.2.2.1) (HX.o.bel K.o.2.2.2.2) (by have:=K.o.2.2.2.1.lt;omega)) _ (Lj ok w) t _ p (by exact MK _ _) (fun k hk=>⟨hk,by have:=K.o.2.2.2.1.lt;omega⟩) (by exact H.o.bel K.o.2.2.2.2) hp (by exact HMM.o.bel K.o.2.2.2.2)).mono ?_;rintro e w9 ⟨r,rfl,hb9,hr⟩;obtain⟨y,hy⟩:∃ y,aX (how x) (ax p) t=y:=⟨_,rfl⟩
   rw[hy]at hr ⊢;obtain⟨y,ye⟩:=y;simp only at hr ⊢;have HA:Ll (ep how p (ax p) t x=(y,ye)):=aa (by unfold ep;rw[if_neg (by simp[GX.o]),if_neg (fun h=>PE.o h.1)];exact hy);obtain⟨a5,a6,c5,c6,rfl⟩:=hr.form;have LU:=af hb9 K.o.2.2.2.1;have x0_:=LU.c;have Z:Ll (_/\_):=aN (g:=w.heap.size+3) hr (ab K.o.2.2.2.2 hb9) (by omega) K.o.2.2.2.1.lt;have ZB:Ll _:=aa (LH LU.set y a5 c5 a6 c6);clear hy hr hb9 LU;go_wp2_with fail
   have z0_:=ZB.o.c;refine MM (v:=.tuple #[.agg (KV y a5 c5 a6 c6),.int .i64 ye]) ?_ rfl ?_
   ·simp only[ar]at z0_;simp[results,results200,go_sem,z0_]
   ·refine⟨_,by rw[HA.o],Z.o.1,?_⟩;rw[HA.o];exact Z.o.2
theorem yi(w:LC)(ok t x v xv p)(h:In w ok t v)(hx:In w ok x xv)(hp:p.length<=140737488351232)(hM:bj w):Calls prog 178 #[v,aR p,xv] w fun e w'=>∃ r,e=.returned (.tuple #[r,.int .i64 (ep bL p (ax p) t x).2])/\La w w'/\In w' (bQ ok w.heap.size) (ep bL p (ax p) t x).1 r:=by
 have H:=aa h.low;have HX:=aa hx.low;have HMM:=aa hM;obtain⟨l1,l2,l3⟩:=h.lens;obtain⟨a1,a2,c1,c2,rfl⟩:=h.form;obtain⟨a7,a8,c7,c8,rfl⟩:=hx.form;clear h hx hM;have B3:Ll (∀ o1 o2 o3,La w (((w.alloc o1).alloc o2).alloc o3)):=fun o1 o2 o3=>ab (ab (ae _ _) (ae _ _)) (ae _ _);go_enter func178,ntmps178;go_wp2_with fail
 refine(Ln _ bL rW _ (Lj ok w) t x _ _ p (by exact H.o.bel (B3.o _ _ _)) (by exact HX.o.bel (B3.o _ _ _)) hp (by exact HMM.o.bel (B3.o _ _ _))).mono ?_;rintro e w9 ⟨r,rfl,hb9,hr⟩;obtain⟨y,hy⟩:∃ y,ep bL p (ax p) t x=y:=⟨_,rfl⟩
 rw[hy]at hr ⊢;obtain⟨y,ye⟩:=y;simp only at hr ⊢;obtain⟨a5,a6,c5,c6,rfl⟩:=hr.form;have LU:=af hb9 (jI w _ _ _);obtain⟨x0,x1,x2,x3,x4,y0,y1,y2,y3,y4⟩:=ag.c LU;have Z:Ll (_/\_):=aN (g:=w.heap.size+2) hr (ab (B3.o _ _ _) hb9) (by omega) (by simp);have ZB:Ll _:=aa (LH (ag.set LU) y a5 c5 a6 c6);have HA:=aa hy;clear hy hr hb9 LU;go_wp2_with fail
 have z0_:=ZB.o.c;refine MM (v:=.tuple #[.agg (KV y a5 c5 a6 c6),.int .i64 ye]) ?_ rfl ?_
 ·simp only[ar]at z0_;simp[results,results178,go_sem,z0_]
 ·exact⟨_,by rw[HA.o],Z.o.1,by rw[HA.o];exact Z.o.2⟩
theorem JE(w:LC)(ok t x v xv p)(h:In w ok t v)(hx:In w ok x xv)(hp:p.length<=140737488351232)(hM:bj w):Calls prog 180 #[v,aR p,xv] w fun e w'=>∃ r,e=.returned (.tuple #[r,.int .i64 (ep aY p (ax p) t x).2])/\La w w'/\In w' (bQ ok w.heap.size) (ep aY p (ax p) t x).1 r:=by
 have H:=aa h.low;have HX:=aa hx.low;have HMM:=aa hM;obtain⟨l1,l2,l3⟩:=h.lens;obtain⟨a1,a2,c1,c2,rfl⟩:=h.form;obtain⟨a7,a8,c7,c8,rfl⟩:=hx.form;clear h hx hM;have B3:Ll (∀ o1 o2 o3,La w (((w.alloc o1).alloc o2).alloc o3)):=fun o1 o2 o3=>ab (ab (ae _ _) (ae _ _)) (ae _ _);go_enter func180,ntmps180;go_wp2_with fail
 refine(Ln _ aY mt _ (Lj ok w) t x _ _ p (by exact H.o.bel (B3.o _ _ _)) (by exact HX.o.bel (B3.o _ _ _)) hp (by exact HMM.o.bel (B3.o _ _ _))).mono ?_;rintro e w9 ⟨r,rfl,hb9,hr⟩;obtain⟨y,hy⟩:∃ y,ep aY p (ax p) t x=y:=⟨_,rfl⟩
 rw[hy]at hr ⊢;obtain⟨y,ye⟩:=y;simp only at hr ⊢;obtain⟨a5,a6,c5,c6,rfl⟩:=hr.form;have LU:=af hb9 (jI w _ _ _);obtain⟨x0,x1,x2,x3,x4,y0,y1,y2,y3,y4⟩:=ag.c LU;have Z:Ll (_/\_):=aN (g:=w.heap.size+2) hr (ab (B3.o _ _ _) hb9) (by omega) (by simp);have ZB:Ll _:=aa (LH (ag.set LU) y a5 c5 a6 c6);have HA:=aa hy;clear hy hr hb9 LU;go_wp2_with fail
 have z0_:=ZB.o.c;refine MM (v:=.tuple #[.agg (KV y a5 c5 a6 c6),.int .i64 ye]) ?_ rfl ?_
 ·simp only[ar]at z0_;simp[results,results180,go_sem,z0_]
 ·exact⟨_,by rw[HA.o],Z.o.1,by rw[HA.o];exact Z.o.2⟩
theorem ws(W0:LC):IA ch W0 (fun _=>False):=by
 intro W ok t v s _ _ h hn hs;exact zz W ok t v s h hn hs
theorem sD(w:LC)(ok t v p)(h:In w ok t v)(hp:p.length<=140737488351232)(hM:bj w):Calls prog 179 #[v,aR p] w fun e w'=>∃ r,e=.returned (.tuple #[r,.int .i64 (aX ch (ax p) t).2])/\La w w'/\In w' (bQ ok w.heap.size) (aX ch (ax p) t).1 r:=by
 have H:=aa h.low;have HMM:=aa hM;obtain⟨l1,l2,l3⟩:=h.lens;obtain⟨a1,a2,c1,c2,rfl⟩:=h.form;clear h hM;have B2:Ll (∀ o1 o2,La w ((w.alloc o1).alloc o2)):=fun o1 o2=>ab (ae _ _) (ae _ _);go_enter func179,ntmps179;go_wp2_with fail
 refine(Ha ch w (fun _=>False) (ws w) _ (Lj ok w) t _ p (by exact B2.o _ _) (fun k hk=>hk.elim) (by exact H.o.bel (B2.o _ _)) hp (by exact HMM.o.bel (B2.o _ _))).mono ?_;rintro e w9 ⟨r,rfl,hb9,hr⟩;obtain⟨y,hy⟩:∃ y,aX ch (ax p) t=y:=⟨_,rfl⟩
 rw[hy]at hr ⊢;obtain⟨y,ye⟩:=y;simp only at hr ⊢;obtain⟨a5,a6,c5,c6,rfl⟩:=hr.form;have LU:=af hb9 (et w _ _);obtain⟨x0,x1,x2,x3,x4,y0,y1,y2,y3,y4⟩:=ag.c LU;have Z:Ll (_/\_):=aN (g:=w.heap.size+1) hr (ab (B2.o _ _) hb9) (by omega) (by simp);have ZB:Ll _:=aa (LH (ag.set LU) y a5 c5 a6 c6);have HA:=aa hy;clear hy hr hb9 LU;go_wp2_with fail
 have z0_:=ZB.o.c;refine MM (v:=.tuple #[.agg (KV y a5 c5 a6 c6),.int .i64 ye]) ?_ rfl ?_
 ·simp only[ar]at z0_;simp[results,results179,go_sem,z0_]
 ·exact⟨_,by rw[HA.o],Z.o.1,by rw[HA.o];exact Z.o.2⟩
section
def Lu (f:FuncId) (d:Nat):Prop:=∀ (w:LC) (ok:Nat->Prop) (x:V) (xv:Value),bu w ok d x xv->dz x ->
 Calls prog f #[xv] w fun e w'=>∃ r,e=.returned r/\La w w'/\In w' (fun k=>w.heap.size<=k) x r
def JX (w:LC) (x:V) (cs:List Value) (ka' la':Option Addr) (kc' lc' k:Nat) (wr:LC):Prop:=
 ∃ ns:List Value,KY wr w.heap.size x ka' kc' la' lc'/\Lc wr (w.heap.size+1)/\La w wr/\wr.ownsRow (w.heap.size+2) 9 1 (.slice ka' x.keys.length kc') x.keys.length (x.keys.map aR)/\wr.ownsRow (w.heap.size+2) 32 5 (.slice la' x.l.length lc') x.l.length (ns++cs.drop (k * 5))/\cA (In wr (fun j=>w.heap.size+2<=j/\la'≠some ⟨j,0,none⟩)) (x.l.take k) ns
def Ks (w:LC) (x:V) (cs:List Value) (wc:LC):Prop:=
 ∃ (ka' la':Option Addr) (kc' lc':Nat),KY wc w.heap.size x ka' kc' la' lc'/\Lc wc (w.heap.size+1)/\La w wc/\wc.ownsRow (w.heap.size+2) 9 1 (.slice ka' x.keys.length kc') x.keys.length (x.keys.map aR)/\wc.ownsRow (w.heap.size+2) 32 5 (.slice la' x.l.length lc') x.l.length cs/\(∀ g,ka'=some ⟨g,0,none⟩->la'≠some ⟨g,0,none⟩)
attribute [local go_sem ↓] Go.wp_at_zero Go.wp_at_succ
theorem Lt(f:FuncId)(hf:f=206\/f=21)(d)(ih:Lu f d):Lu f (d+1):=by
 intro w ok x xv h hn;have LT:=hU hn;have hklen:x.keys.length<=120:=nG (fp hn) LT;obtain⟨ks,ls,rfl,h1,h2,h3,h4,h5⟩:=h;have sk:=sY h4 (by omega);obtain⟨cs,hrow,sl⟩:=AF h5 (by omega);obtain⟨ka,kc,rfl⟩:=h4.form;obtain⟨la,lc,rfl⟩:=h5.form;have KK:Ll (dW x.kind/\dW x.n/\x.s.length<=maxLen/\(∀ y∈x.keys,y.length<=maxLen)):=⟨h1,h2,h3,fun y hy=>h4.mem y hy⟩
 have RW:=aa hrow;have SK:=aa sk;have SL:=aa sl;have IH:=aa ih;have HN:=aa hn;clear h1 h2 h3 h4 h5 hrow sk sl ih hn;unfold aR;have bx0:Ll (∀ W,W.heap=((w.alloc (.cells (KV x ka kc la lc) 32)).alloc (.cells Lb 32)).heap->W.os=w.os->W.tape=w.tape->W.output=w.output->KY W w.heap.size x ka kc la lc/\Lc W (w.heap.size+1)/\La w W/\w.heap.size+2<=W.heap.size):=by
  intro W e1 e2 e3 e4;exact⟨(congrArg (fun h=>h[w.heap.size]?) e1).trans (fb w _ _),(congrArg (fun h=>h[w.heap.size+1]?) e1).trans (et w _ _),kD e1 e2 e3 e4,by rw[e1];simp⟩
 have conS1:Ll (∀ W,(KY W w.heap.size x ka kc la lc/\Lc W (w.heap.size+1)/\La w W/\w.heap.size+2<=W.heap.size)->Calls prog 23 #[(.slice ka x.keys.length kc)] W fun e w'=>∃ ka' kc',e=.returned (.slice ka' x.keys.length kc')/\(KY w' w.heap.size x ka kc la lc/\Lc w' (w.heap.size+1)/\La w w'/\w.heap.size+2<=w'.heap.size)/\w'.ownsRow (w.heap.size+2) 9 1 (.slice ka' x.keys.length kc') x.keys.length (x.keys.map aR)):=by
  intro W hW;refine(pB W _ _ _ (SK.o.bel hW.2.2.1)).mono ?_;rintro e w' ⟨v',rfl,ho,hb⟩;obtain⟨a,c,rfl,-⟩:=ej ho;exact⟨a,c,rfl,⟨af hb hW.1,af hb hW.2.1,ab hW.2.2.1 hb,MH hW.2.2.2 hb.size⟩,cV ho hW.2.2.2⟩
 have conV1:Ll (∀ W,(KY W w.heap.size x ka kc la lc/\Lc W (w.heap.size+1)/\La w W/\w.heap.size+2<=W.heap.size)->Calls prog 40 #[(.slice la x.l.length lc)] W fun e w'=>∃ la' lc',e=.returned (.slice la' x.l.length lc')/\(KY w' w.heap.size x ka kc la lc/\Lc w' (w.heap.size+1)/\La w w'/\w.heap.size+2<=w'.heap.size)/\w'.ownsRow (w.heap.size+2) 32 5 (.slice la' x.l.length lc') x.l.length cs):=by
  intro W hW;refine(tD W _ _ _ (SL.o.bel hW.2.2.1)).mono ?_;rintro e w' ⟨v',rfl,ho,hb⟩;obtain⟨a,c,rfl,-⟩:=ej ho;exact⟨a,c,rfl,⟨af hb hW.1,af hb hW.2.1,ab hW.2.2.1 hb,MH hW.2.2.2 hb.size⟩,cV ho hW.2.2.2⟩
 have nB:Ll (∀ W ka' kc',((KY W w.heap.size x ka kc la lc/\Lc W (w.heap.size+1)/\La w W/\w.heap.size+2<=W.heap.size)/\W.ownsRow (w.heap.size+2) 9 1 (.slice ka' x.keys.length kc') x.keys.length (x.keys.map aR))->Calls prog 40 #[(.slice la x.l.length lc)] W fun e w'=>∃ la' lc',e=.returned (.slice la' x.l.length lc')/\(KY w' w.heap.size x ka kc la lc/\Lc w' (w.heap.size+1)/\La w w'/\w.heap.size+2<=w'.heap.size)/\w'.ownsRow (w.heap.size+2) 9 1 (.slice ka' x.keys.length kc') x.keys.length (x.keys.map aR)/\w'.ownsRow (w.heap.size+2) 32 5 (.slice la' x.l.length lc') x.l.length cs/\(∀ g,ka'=some ⟨g,0,none⟩->la'≠some ⟨g,0,none⟩)):=by
  intro W ka' kc' hW;refine(tD W _ _ _ (SL.o.bel hW.1.2.2.1)).mono ?_;rintro e w' ⟨v',rfl,ho,hb⟩;obtain⟨a,c,rfl,-,-,-,hg⟩:=ej ho;refine⟨a,c,rfl,⟨af hb hW.1.1,af hb hW.1.2.1,ab hW.1.2.2.1 hb,MH hW.1.2.2.2 hb.size⟩,fD hW.2 hb,cV ho hW.1.2.2.2,fun g e1 e2=>?_⟩;have:=(hg g e2).1;have:=(hW.2.lt g (by rw[e1];rfl)).2;omega
 have pK:Ll (∀ W la' lc',((KY W w.heap.size x ka kc la lc/\Lc W (w.heap.size+1)/\La w W/\w.heap.size+2<=W.heap.size)/\W.ownsRow (w.heap.size+2) 32 5 (.slice la' x.l.length lc') x.l.length cs)->Calls prog 23 #[(.slice ka x.keys.length kc)] W fun e w'=>∃ ka' kc',e=.returned (.slice ka' x.keys.length kc')/\(KY w' w.heap.size x ka kc la lc/\Lc w' (w.heap.size+1)/\La w w'/\w.heap.size+2<=w'.heap.size)/\w'.ownsRow (w.heap.size+2) 9 1 (.slice ka' x.keys.length kc') x.keys.length (x.keys.map aR)/\w'.ownsRow (w.heap.size+2) 32 5 (.slice la' x.l.length lc') x.l.length cs/\(∀ g,ka'=some ⟨g,0,none⟩->la'≠some ⟨g,0,none⟩)):=by
  intro W la' lc' hW;refine(pB W _ _ _ (SK.o.bel hW.1.2.2.1)).mono ?_;rintro e w' ⟨v',rfl,ho,hb⟩;obtain⟨a,c,rfl,-,-,-,hg⟩:=ej ho;refine⟨a,c,rfl,⟨af hb hW.1.1,af hb hW.1.2.1,ab hW.1.2.2.1 hb,MH hW.1.2.2.2 hb.size⟩,cV ho hW.1.2.2.2,fD hW.2 hb,fun g e1 e2=>?_⟩;have:=(hg g e1).1;have:=(hW.2.lt g (by rw[e2];rfl)).2;omega
 have midI:Ll (∀ (wb:LC) (ka' la':Option Addr) (kc' lc':Nat),((KY wb w.heap.size x ka kc la lc/\Lc wb (w.heap.size+1)/\La w wb/\w.heap.size+2<=wb.heap.size)/\wb.ownsRow (w.heap.size+2) 9 1 (.slice ka' x.keys.length kc') x.keys.length (x.keys.map aR)/\wb.ownsRow (w.heap.size+2) 32 5 (.slice la' x.l.length lc') x.l.length cs/\(∀ g,ka'=some ⟨g,0,none⟩->la'≠some ⟨g,0,none⟩))->∀ W,(W=(wb.setCell ⟨w.heap.size,3,none⟩ (.slice ka' x.keys.length kc')).setCell ⟨w.heap.size,4,none⟩ (.slice la' x.l.length lc')\/W=(wb.setCell ⟨w.heap.size,4,none⟩ (.slice la' x.l.length lc')).setCell ⟨w.heap.size,3,none⟩ (.slice ka' x.keys.length kc'))->Ks w x cs W):=by
  intro wb ka' la' kc' lc' hw W hW;have g1:∀ (i j:Nat) (u v:Value),wb.grownBy ((wb.setCell ⟨w.heap.size,i,none⟩ u).setCell ⟨w.heap.size,j,none⟩ v) (some w.heap.size):=fun i j u v=>ap (ap (az _ _) _ _) _ _;refine⟨ka',la',kc',lc',?_⟩;rcases hW with rfl | rfl
  ·exact⟨ak (ak hw.1.1 3 _) 4 _,hw.1.2.1.grown (g1 _ _ _ _) (by simp),bS (bi (bi (aq hw.1.2.2.1) (MG _) _ _) (MG _) _ _),aW hw.2.1 (g1 _ _ _ _) (by omega),aW hw.2.2.1 (g1 _ _ _ _) (by omega),hw.2.2.2⟩
  ·exact⟨ak (ak hw.1.1 4 _) 3 _,hw.1.2.1.grown (g1 _ _ _ _) (by simp),bS (bi (bi (aq hw.1.2.2.1) (MG _) _ _) (MG _) _ _),aW hw.2.1 (g1 _ _ _ _) (by omega),aW hw.2.2.1 (g1 _ _ _ _) (by omega),hw.2.2.2⟩
 rcases hf with hf | hf
 all_goals
  have HF:=aa hf;rw[hf];clear hf;first
   | go_enter func206,ntmps206
   | go_enter func21,ntmps21
  go_upto_region 1 with fail
  go_cut [] (fun wc=>Ks w x cs wc)
  case first=>
   go_region_with (first
    |(go_at_call 23;refine(conS1.o _ (bx0.o _ (by rfl) (by rfl) (by rfl) (by rfl))).mono ?_;rintro e wa ⟨ka',kc',rfl,hka⟩;obtain⟨p0,p1,p2,p3,p4,p5,p6,p7,p8,p9⟩:=hka.1.1.c;have KA:=aa hka;clear hka)
    |(go_at_call 40;refine(conV1.o _ (bx0.o _ (by rfl) (by rfl) (by rfl) (by rfl))).mono ?_;rintro e wa ⟨la',lc',rfl,hka⟩;obtain⟨p0,p1,p2,p3,p4,p5,p6,p7,p8,p9⟩:=hka.1.1.c;have KA:=aa hka;clear hka)
    |(go_at_call 23;refine(pK.o _ la' lc' (by exact KA.o)).mono ?_;rintro e wb ⟨ka',kc',rfl,hkb⟩;obtain⟨p0,p1,p2,p3,p4,p5,p6,p7,p8,p9⟩:=hkb.1.1.c;have KB:=aa hkb;clear hkb)
    |(go_at_call 40;refine(nB.o _ ka' kc' (by exact KA.o)).mono ?_;rintro e wb ⟨la',lc',rfl,hkb⟩;obtain⟨p0,p1,p2,p3,p4,p5,p6,p7,p8,p9⟩:=hkb.1.1.c;have KB:=aa hkb;clear hkb))
   all_goals
    go_wp2
    go_meet
    case rel=>first | exact midI.o _ ka' la' kc' lc' KB.o _ (.inl rfl) | exact midI.o _ ka' la' kc' lc' KB.o _ (.inr rfl)
  case rest=>
   obtain⟨ka',la',kc',lc',k1,k2,k3,k4,k5,k6⟩:=hcut;have Mb:=RW.o.length;have KF:=aa k6;have TL0:Ll (JX w x cs ka' la' kc' lc' 0 wc):=⟨[],k1,k2,k3,k4,by simpa using k5,rfl⟩
   obtain⟨a9,c9,e9,hla,hlc1,hlc2,hlg⟩:=ej k5;simp only[Value.slice.injEq]at e9;obtain⟨rfl,-,rfl⟩:=e9;obtain⟨p0,p1,p2,p3,p4,-⟩:=k1.c;clear k1 k2 k3 k4 k5 k6 conS1 pK conV1 nB midI bx0 hlg;go_wp2
   go_loopg [16] x.l.length (fun gk i wr=>∃ k:Nat,k<=x.l.length/\gk=x.l.length - k/\i=.int .i64 k/\JX w x cs ka' la' kc' lc' k wr)
   case atStart=>exact⟨0,Nat.zero_le _,rfl,rfl,TL0.o⟩
   case round=>
    obtain⟨k,hk,hgk,rfl,ns,i1,i2,i3,i4,i5,i6⟩:=hrel;have GK:=aa hgk;have I:Ll (KY wr w.heap.size x ka' kc' la' lc'/\Lc wr (w.heap.size+1)/\La w wr/\wr.ownsRow (w.heap.size+2) 9 1 (.slice ka' x.keys.length kc') x.keys.length (x.keys.map aR)/\wr.ownsRow (w.heap.size+2) 32 5 (.slice la' x.l.length lc') x.l.length (ns++cs.drop (k * 5))/\cA (In wr (fun j=>w.heap.size+2<=j/\la'≠some ⟨j,0,none⟩)) (x.l.take k) ns):=⟨i1,i2,i3,i4,i5,i6⟩
    clear hgk i1 i2 i3 i4 i5 i6;by_cases hlt:k < x.l.length
    ·obtain⟨gl,rfl⟩:∃ gl,la'=some ⟨gl,0,none⟩:=by
      rcases hla with h0 | h0
      ·omega
      ·exact h0
     obtain⟨v0,v1,v2,v3,v4,g0,g1,g2,g3,g4,g5⟩:=RW.o.get k x.l[k] (Mw hlt);have hns:ns.length=k * 5:=by have:=I.o.2.2.2.2.2.length;rw[MC,Nat.min_eq_left hk]at this;exact this
     have G5:=aa g5;have hdrop:cs.drop (k * 5)=v0 :: v1 :: v2 :: v3 :: v4 :: cs.drop ((k+1) * 5):=Jc g0 g1 g2 g3 g4;obtain⟨rfl,rfl,rfl,⟨a5,c5,rfl⟩,⟨a6,c6,rfl⟩⟩:=g5.agg;have DR:=aa hdrop;have hgl:=(I.o.2.2.2.2.1.lt gl rfl)
     have cel:=lE (by rw[<-hdrop];exact I.o.2.2.2.2.1) hns;obtain⟨m0,m1,m2,m3,m4⟩:=cel;obtain⟨p0,p1,p2,p3,p4,-⟩:=I.o.1.c;have p4':=(af (ae wr (.cells #[.int .i64 x.l[k].kind,.int .i64 x.l[k].n,.string ⟨x.l[k].s.toArray⟩,.slice a5 x.l[k].keys.length c5,.slice a6 x.l[k].l.length c6] 32)) I.o.1).c.2.2.2.2.1;have con5:Ll (∀ W,W.heap=(wr.alloc (.cells #[.int .i64 x.l[k].kind,.int .i64 x.l[k].n,.string ⟨x.l[k].s.toArray⟩,.slice a5 x.l[k].keys.length c5,.slice a6 x.l[k].l.length c6] 32)).heap->W.os=wr.os->W.tape=wr.tape->W.output=wr.output->Calls prog f #[.agg #[.int .i64 x.l[k].kind,.int .i64 x.l[k].n,.string ⟨x.l[k].s.toArray⟩,.slice a5 x.l[k].keys.length c5,.slice a6 x.l[k].l.length c6]] W fun e w'=>∃ (b5 b6:Option Addr) (d5 d6:Nat),e=.returned (.agg #[.int .i64 x.l[k].kind,.int .i64 x.l[k].n,.string ⟨x.l[k].s.toArray⟩,.slice b5 x.l[k].keys.length d5,.slice b6 x.l[k].l.length d6])/\w'.cell? ⟨w.heap.size,4,none⟩=some (.slice (some ⟨gl,0,none⟩) x.l.length lc') /\
      (Jn w' gl (k * 5))/\∀ W',W'=vr w' gl (k * 5) (.int .i64 x.l[k].kind) (.int .i64 x.l[k].n) (.string ⟨x.l[k].s.toArray⟩) (.slice b5 x.l[k].keys.length d5) (.slice b6 x.l[k].l.length d6)->JX w x cs ka' (some ⟨gl,0,none⟩) kc' lc' (k+1) W'):=by
      intro W e1 e2 e3 e4;have LY:La wr W:=by
       have:=ae wr (.cells #[.int .i64 x.l[k].kind,.int .i64 x.l[k].n,.string ⟨x.l[k].s.toArray⟩,.slice a5 x.l[k].keys.length c5,.slice a6 x.l[k].l.length c6] 32);exact⟨e2,e3,e4,by rw[e1];exact this.size,fun j hj=>by rw[e1];exact this.block j hj⟩
      refine(IH.o W ok x.l[k] _ (G5.o.bel (ab I.o.2.2.1 LY)) (gC HN.o (List.getElem_mem _))).mono ?_;rintro e w' ⟨r,rfl,hb,hr⟩;obtain⟨b5,b6,d5,d6,rfl⟩:=hr.form;have hb3:=ab LY hb;have oL:=fD I.o.2.2.2.2.1 hb3;rw[DR.o]at oL;have hWs:wr.heap.size<=W.heap.size:=LY.size;refine⟨b5,b6,d5,d6,rfl,(af hb3 I.o.1).c.2.2.2.2.1,AC oL hns,?_⟩;rintro W' rfl;have gs:=us w' gl (k * 5) (.int .i64 x.l[k].kind) (.int .i64 x.l[k].n) (.string ⟨x.l[k].s.toArray⟩) (.slice b5 x.l[k].keys.length d5) (.slice b6 x.l[k].l.length d6);refine⟨ns++[.int .i64 x.l[k].kind,.int .i64 x.l[k].n,.string ⟨x.l[k].s.toArray⟩,.slice b5 x.l[k].keys.length d5,.slice b6 x.l[k].l.length d6],(af hb3 I.o.1).grown gs (by simp;omega),(af hb3 I.o.2.1).grown gs (by simp;omega),sK (ab I.o.2.2.1 hb3) (by omega) _ _ _ _ _ _,?_,?_,?_⟩
      ·refine(fD I.o.2.2.2.1 hb3).kept gs ?_;rcases ry I.o.2.2.2.1 with e | ⟨g,e⟩
       ·rw[e];exact .inl rfl
       ·rw[e];refine .inr fun e9=>KF.o g e ?_;simp only[Value.ownBlock,Option.some.injEq]at e9;rw[e9]
      ·have:=Ad (d0:=.int .i64 x.l[k].kind) (d1:=.int .i64 x.l[k].n) (d2:=.string ⟨x.l[k].s.toArray⟩) (d3:=.slice b5 x.l[k].keys.length d5) (d4:=.slice b6 x.l[k].l.length d6) oL;rw[hns]at this;rw[List.append_assoc];exact this
      ·rw[List.take_add_one,Mw hlt];refine cA.append (ys:=[x.l[k]]) ⟨_,_,_,_,_,[],rfl,(hr.weak (ok':=fun j=>w.heap.size+2<=j/\some ⟨gl,0,none⟩≠some (⟨j,0,none⟩:Addr)) (fun j hj=>⟨by omega,fun e=>by simp only[Option.some.injEq,Addr.mk.injEq,and_true]at e;omega⟩)).grown gs (fun j hj e=>hj.2 (by rw[e])),rfl⟩ (I.o.2.2.2.2.2.imp fun y v hy=>(hy.bel hb3).grown gs (fun j hj e=>hj.2 (by rw[e])))
     rw[HF.o]at con5;clear g0 g1 g2 g3 g4 g5 hdrop;go_upto_region 5 with fail
     go_region_with (((first | go_at_call 206 | go_at_call 21);refine(con5.o _ (by rfl) (by rfl) (by rfl) (by rfl)).mono ?_;rintro e w2 ⟨b5,b6,d5,d6,rfl,hp4,hown,hfin⟩;obtain⟨⟨t0,n0⟩,⟨t1,n1⟩,⟨t2,n2⟩,⟨t3,n3⟩,⟨t4,n4⟩,f0,f1,f2,f3,f4⟩:=hown;have FIN:=aa hfin;clear hfin))
     all_goals
      go_wp2
      go_roundg (x.l.length - (k+1))
      case measure=>rw[GK.o];omega
      case rel=>exact⟨k+1,hlt,rfl,by go_num,FIN.o _ rfl⟩
    ·have Mc:k=x.l.length:=by omega
     subst Mc;obtain⟨D,hD⟩:=mQ I.o.2.2.2.2.2;rw[List.take_length]at hD;have oL:=I.o.2.2.2.2.1;rw[<-Mb,List.drop_length,List.append_nil]at oL;have hin:In wr (fun j=>w.heap.size+2<=j) x (.agg (KV x ka' kc' la' lc')):=⟨D+1,_,_,rfl,KK.o.1,KK.o.2.1,KK.o.2.2.1,kf rfl I.o.2.2.2.1 KK.o.2.2.2 (fun j hj=>hj) (by unfold maxLen;omega),fJ rfl oL (hD.imp fun _ _ h=>h.weak fun j hj=>hj.1) (fun j hj=>hj) (by unfold maxLen;omega)⟩
     obtain⟨p0,p1,p2,p3,p4,-⟩:=I.o.1.c;have x0_:=I.o.2.1.c;have ZI:=aa ((hin.grown (LH (aI wr (w.heap.size+1)) x ka' kc' la' lc') (fun j hj e=>by omega)).weak (ok':=fun j=>w.heap.size<=j) (fun j hj=>by omega));have ZW:=aa (LH (aP I.o.2.2.1 (Nat.le_succ w.heap.size)) x ka' kc' la' lc');have ZB:=aa (LH I.o.2.1.set x ka' kc' la' lc');clear hin oL hD;go_wp2
     have z0_:=ZB.o.c;refine MM (v:=.agg (KV x ka' kc' la' lc')) ?_ rfl ?_
     ·simp only[ar]at z0_;simp[results,results206,results21,go_sem,z0_]
     ·exact⟨_,rfl,ZW.o,ZI.o⟩
theorem Lr(f:FuncId)(hf:f=206\/f=21)(d):Lu f d:=by
 induction d with
 | zero=>exact fun _ _ _ _ h _=>h.elim
 | succ d ih=>exact Lt f hf d ih
theorem IG(w:LC)(ok x xv)(h:In w ok x xv)(hn:dz x):Calls prog 206 #[xv] w fun e w'=>∃ r,e=.returned r/\La w w'/\In w' (fun k=>w.heap.size<=k) x r:=by
 obtain⟨d,h⟩:=h;exact Lr _ (.inl rfl) d w ok x xv h hn
theorem pU:∀ (ns:List Lz) (t y:V),dz t->mh ns t=some y->dz y
 | [],t,y,ht,h=>by rw[mh]at h;cases h;exact ht
 | s :: ns,t,y,ht,h=>by
  rw[mh,Option.bind_eq_some_iff]at h;obtain⟨u,h1,h2⟩:=h;exact pU ns u y (lu ht h1) h2
end
theorem IB(w:LC)(ok x xv)(h:In w ok x xv)(hn:dz x):Calls prog 21 #[xv] w fun e w'=>∃ r,e=.returned r/\La w w'/\In w' (fun k=>w.heap.size<=k) x r:=by
 obtain⟨d,h⟩:=h;exact Lr _ (.inr rfl) d w ok x xv h hn
variable {w':World}
variable {k:Nat}
def gT (w w':LC) (ok:Nat->Prop) (A:V × List aL × List (Lz × Lz) × Int) (e:Ending):Prop:=∃ r ro rc,e=.returned (.tuple #[r,ro,rc,.int .i64 A.2.2.2])/\In w' (bQ ok w.heap.size) A.1 r/\aB w' (bQ ok w.heap.size) A.2.1 ro/\w'.ownsRow w.heap.size 174 2 rc A.2.2.1.length (jV A.2.2.1)/\La w w'
theorem aB.belB{xs}(h:aB w ok xs v)(hok:∀ k,ok k->k < B)(hb:Below B w w'):aB w' ok xs v:=
 h.imp fun a x h1 h2=>⟨h1,(World.cell?_of_block (hb.block _ (hok _ h1))).trans h2⟩
theorem H6(w:LC)(o1 o2 o3 o4:Obj){o:Obj}(h:(((w.alloc o1).alloc o2).alloc o3).heap[k]?=some o):((((w.alloc o1).alloc o2).alloc o3).alloc o4).heap[k]?=some o:=bR (ae _ _) h
theorem JD(w:LC)(o1 o2 o3 o4:Obj):((((w.alloc o1).alloc o2).alloc o3).alloc o4).heap[w.heap.size+3]?=some o4:=by
 have:=MN (((w.alloc o1).alloc o2).alloc o3) o4;simpa using this
theorem kO(w ok t want l who force vt vl vw)(ht:In w ok t vt)(hl:aB w ok l vl)(hw:In w ok want vw)(hM:bj w)(hN:(bA l).length<=4000000)(hP:∀ o∈l,∀ x∈o.paths,x.length<=140737488351232)(hwho:who.length<=9223372036854775807)(hbad:¬((decide (t.kind=5)&&aE t)=true/\(decide (want.kind=5)&&aE want)=true/\bp l=true/\bT who=true)):Calls prog 84 #[vt,vl,.string ⟨who.toArray⟩,vw,.bool force] w fun e w'=>gT w w' ok (eC t l who want force) e:=by
 have R:Ll (eC t l who want force=(t,l,[],1)):=aa (by unfold eC;rw[if_neg (by intro h;obtain⟨⟨h1,h2⟩,⟨h3,h4⟩,h5,h6⟩:=h;exact hbad ⟨by simp[h1,h2],by simp[h3,h4],h5,h6⟩)]);have HT:=aa ht.low;have HL:=aa hl.low;have HW:=aa hw.low;have HM:=aa hM;have HN:=aa hN;have HP:=aa hP;obtain⟨b1,b2,d1,d2,rfl⟩:=ht.form;obtain⟨a1,a2,c1,c2,rfl⟩:=hw.form;obtain⟨la,lc,rfl⟩:=hl.form;have ll:=hl.1;unfold maxLen at ll;clear ht hl hw hM hN hP;obtain⟨W3,hW3⟩:∃ W,W=(((w.alloc (.cells (KV t b1 d1 b2 d2) 32)).alloc (.cells #[.string ⟨who.toArray⟩] 9)).alloc (.cells (KV want a1 c1 a2 c2) 32)).alloc (.cells Lb 32):=⟨_,rfl⟩
 have BW:Ll (La w W3):=aa (by rw[hW3];exact ab (ab (ab (ae _ _) (ae _ _)) (ae _ _)) (ae _ _));have X1:Ll (KY W3 w.heap.size t b1 d1 b2 d2):=aa (by rw[hW3];exact H6 _ _ _ _ _ (lI _ _ _ _));have X2:Ll (W3.heap[w.heap.size+1]?=some (.cells #[.string ⟨who.toArray⟩] 9)):=aa (by rw[hW3];exact H6 _ _ _ _ _ (mE _ _ _ _));have X3:Ll (KY W3 (w.heap.size+2) want a1 c1 a2 c2):=aa (by rw[hW3];exact H6 _ _ _ _ _ (jI _ _ _ _));have X4:Ll (Lc W3 (w.heap.size+3)):=aa (by rw[hW3];exact JD _ _ _ _ _);have HW3:=aa hW3;clear hW3;have G1:Ll (∀ W,La w W->Calls prog 101 #[.agg (KV t b1 d1 b2 d2)] W fun e w'=>e=.returned (.bool (decide (t.kind=5)&&aE t))/\La W w'):=fun W hW=>dq W _ t _ (HT.o.bel hW);have G2:Ll (∀ W,La w W->Calls prog 101 #[.agg (KV want a1 c1 a2 c2)] W fun e w'=>e=.returned (.bool (decide (want.kind=5)&&aE want))/\La W w'):=fun W hW=>dq W _ want _ (HW.o.bel hW);have G3:Ll (∀ W,La w W->Calls prog 102 #[.slice la l.length lc] W fun e w'=>e=.returned (.bool (bp l))/\La W w'):=fun W hW=>eZ W _ l _ (HL.o.bel hW) HP.o (HM.o.bel hW);have G4:Ll (∀ W,La w W->Calls prog 10 #[.string ⟨who.toArray⟩] W fun e w'=>e=.returned (.bool (bT who))/\La W w'):=fun W _=>(lR W who hwho).mono fun e w' h=>⟨h.1,h.2 ▸ MK _ _⟩;obtain⟨g1,hg1⟩:∃ b,(decide (t.kind=5)&&aE t)=b:=⟨_,rfl⟩
 rw[hg1]at G1 hbad;obtain⟨g2,hg2⟩:∃ b,(decide (want.kind=5)&&aE want)=b:=⟨_,rfl⟩
 rw[hg2]at G2 hbad;obtain⟨g3,hg3⟩:∃ b,bp l=b:=⟨_,rfl⟩
 rw[hg3]at G3 hbad;obtain⟨g4,hg4⟩:∃ b,bT who=b:=⟨_,rfl⟩
 rw[hg4]at G4 hbad;have gg:g1=false\/g1=true/\g2=false\/g1=true/\g2=true/\g3=false\/g1=true/\g2=true/\g3=true/\g4=false:=by
  cases g1 <;> cases g2 <;> cases g3 <;> cases g4 <;> simp_all
 clear hbad hg1 hg2 hg3 hg4;have o0_:=X1.o.c;rcases gg with rfl | ⟨rfl,rfl⟩ | ⟨rfl,rfl,rfl⟩ | ⟨rfl,rfl,rfl,rfl⟩
 all_goals
  go_enter func84,ntmps84;go_upto_region 1 with fail
  rw[<-HW3.o];go_upto_region 2 with (first
   |(go_at_call 10;refine Lk (G4.o _ B3.o) fun w4 hb=>?_;have B4:=aa (ab B3.o hb);have Y4:=aa (ab Y3.o hb);clear hb;have BQ:=B4;have YQ:=Y4;skip)
   |(go_at_call 102;refine Lk (G3.o _ B2.o) fun w3 hb=>?_;have B3:=aa (ab B2.o hb);have Y3:=aa (ab Y2.o hb);clear hb;have BQ:=B3;have YQ:=Y3;have u0:w3.cell? ⟨w.heap.size+1,0,none⟩=some (.string ⟨who.toArray⟩):=(by have h9:=bR Y3.o X2.o;simp[World.cell?,h9]);skip)
   |(go_at_call 101;refine Lk (G2.o _ B1.o) fun w2 hb=>?_;have B2:=aa (ab B1.o hb);have Y2:=aa (ab Y1.o hb);clear hb;have BQ:=B2;have YQ:=Y2;skip)
   |(go_at_call 101;refine Lk (G1.o _ BW.o) fun w1 hb=>?_;have B1:=aa (ab BW.o hb);have Y1:=aa hb;clear hb;have BQ:=B1;have YQ:=Y1;have p0_:=(af Y1.o X3.o).c;skip))
  have v0_:=(af YQ.o X1.o).c;have n0_:=(af YQ.o X4.o).c;have ZB:=aa ((af YQ.o X4.o).set (.int .i64 t.kind) (.int .i64 t.n) (.string ⟨t.s.toArray⟩) (.slice b1 t.keys.length d1) (.slice b2 t.l.length d2));have BF:=aa (aP (g:=w.heap.size+3) BQ.o (by omega) (.int .i64 t.kind) (.int .i64 t.n) (.string ⟨t.s.toArray⟩) (.slice b1 t.keys.length d1) (.slice b2 t.l.length d2));go_wp2
  have z0_:=ZB.o.c;refine MM (v:=.tuple #[.agg (KV t b1 d1 b2 d2),.slice la l.length lc,.slice none 0 0,.int .i64 1]) ?_ rfl ?_
  ·simp only[ar]at z0_;simp[results,results84,go_sem,z0_]
  ·rw[gT,R.o];exact⟨_,_,_,rfl,(HT.o.belB (fun k h=>h.2) BF.o).weak fun k h=>.inl h.1,(HL.o.belB (fun k h=>h.2) BF.o).weak fun k h=>.inl h.1,World.ownsRow_nil _ _ _ _,BF.o⟩
theorem xC(w:LC)(ok t want l who force vt vl vw)(ht:In w ok t vt)(hl:aB w ok l vl)(hw:In w ok want vw)(hM:bj w)(hN:(bA l).length<=4000000)(hP:∀ o∈l,∀ x∈o.paths,x.length<=140737488351232)(hwho:who.length<=9223372036854775807)(hg1:(decide (t.kind=5)&&aE t)=true)(hg2:(decide (want.kind=5)&&aE want)=true)(hg3:bp l=true)(hg4:bT who=true)(hf:eu (aV want t (au want)) who l≠[])(hfo:force=false):Calls prog 84 #[vt,vl,.string ⟨who.toArray⟩,vw,.bool force] w fun e w'=>gT w w' ok (eC t l who want force) e:=by
 have CC:Ll (ld t l who want=eu (aV want t (au want)) who l):=aa (by rw[ld,if_pos ⟨by simpa using (Bool.and_eq_true_iff.1 hg1).2,hg3⟩]);obtain⟨nf,hnf⟩:∃ nf,(eu (aV want t (au want)) who l).length=nf:=⟨_,rfl⟩
 have NF:=aa hnf;have R:Ll (eC t l who want force=(t,l,eu (aV want t (au want)) who l,5)):=aa (by unfold eC;rw[if_pos ⟨by simpa using hg1,by simpa using hg2,hg3,hg4⟩,if_pos ⟨hf,hfo⟩]);have q0:(0:Int) < (nf:Int):=by
  have:nf≠0:=fun e=>hf (List.length_eq_zero_iff.1 (hnf.trans e));omega
 subst hfo;clear hf hnf;have HT:=aa ht.low;have HL:=aa hl.low;have HW:=aa hw.low;have HM:=aa hM;have HN:=aa hN;have HP:=aa hP;obtain⟨b1,b2,d1,d2,rfl⟩:=ht.form;obtain⟨a1,a2,c1,c2,rfl⟩:=hw.form;obtain⟨la,lc,rfl⟩:=hl.form;have ll:=hl.1;unfold maxLen at ll;clear ht hl hw hM hN hP;obtain⟨W3,hW3⟩:∃ W,W=(((w.alloc (.cells (KV t b1 d1 b2 d2) 32)).alloc (.cells #[.string ⟨who.toArray⟩] 9)).alloc (.cells (KV want a1 c1 a2 c2) 32)).alloc (.cells Lb 32):=⟨_,rfl⟩
 have BW:Ll (La w W3):=aa (by rw[hW3];exact ab (ab (ab (ae _ _) (ae _ _)) (ae _ _)) (ae _ _));have X1:Ll (KY W3 w.heap.size t b1 d1 b2 d2):=aa (by rw[hW3];exact H6 _ _ _ _ _ (lI _ _ _ _));have X2:Ll (W3.heap[w.heap.size+1]?=some (.cells #[.string ⟨who.toArray⟩] 9)):=aa (by rw[hW3];exact H6 _ _ _ _ _ (mE _ _ _ _));have X3:Ll (KY W3 (w.heap.size+2) want a1 c1 a2 c2):=aa (by rw[hW3];exact H6 _ _ _ _ _ (jI _ _ _ _));have X4:Ll (Lc W3 (w.heap.size+3)):=aa (by rw[hW3];exact JD _ _ _ _ _);have HW3:=aa hW3;clear hW3;have G1:Ll (∀ W,La w W->Calls prog 101 #[.agg (KV t b1 d1 b2 d2)] W fun e w'=>e=.returned (.bool (decide (t.kind=5)&&aE t))/\La W w'):=fun W hW=>dq W _ t _ (HT.o.bel hW);have G2:Ll (∀ W,La w W->Calls prog 101 #[.agg (KV want a1 c1 a2 c2)] W fun e w'=>e=.returned (.bool (decide (want.kind=5)&&aE want))/\La W w'):=fun W hW=>dq W _ want _ (HW.o.bel hW);have G3:Ll (∀ W,La w W->Calls prog 102 #[.slice la l.length lc] W fun e w'=>e=.returned (.bool (bp l))/\La W w'):=fun W hW=>eZ W _ l _ (HL.o.bel hW) HP.o (HM.o.bel hW);have G4:Ll (∀ W,La w W->Calls prog 10 #[.string ⟨who.toArray⟩] W fun e w'=>e=.returned (.bool (bT who))/\La W w'):=fun W _=>(lR W who hwho).mono fun e w' h=>⟨h.1,h.2 ▸ MK _ _⟩;have SW:Ll (w.heap.size+4<=W3.heap.size):=aa (by have:=(MF.1 X4.o).1;omega);rw[hg1]at G1;rw[hg2]at G2;rw[hg3]at G3;rw[hg4]at G4;clear hg1 hg2 hg3 hg4;have o0_:=X1.o.c;go_enter func84,ntmps84;go_upto_region 1 with fail
 rw[<-HW3.o];go_upto_region 3 with (first
  |(go_at_call 10;refine Lk (G4.o _ B3.o) fun w4 hb=>?_;have B4:=aa (ab B3.o hb);have Y4:=aa (ab Y3.o hb);clear hb;skip)
  |(go_at_call 102;refine Lk (G3.o _ B2.o) fun w3 hb=>?_;have B3:=aa (ab B2.o hb);have Y3:=aa (ab Y2.o hb);clear hb;have u0:w3.cell? ⟨w.heap.size+1,0,none⟩=some (.string ⟨who.toArray⟩):=(by have h9:=bR Y3.o X2.o;simp[World.cell?,h9]);skip)
  |(go_at_call 101;refine Lk (G2.o _ B1.o) fun w2 hb=>?_;have B2:=aa (ab B1.o hb);have Y2:=aa (ab Y1.o hb);clear hb;skip)
  |(go_at_call 101;refine Lk (G1.o _ BW.o) fun w1 hb=>?_;have B1:=aa (ab BW.o hb);have Y1:=aa hb;clear hb;have p0_:=(af Y1.o X3.o).c;skip))
 clear u0;have o0_:=(af Y4.o X1.o).c;have p0_:=(af Y4.o X3.o).c;have u0:w4.cell? ⟨w.heap.size+1,0,none⟩=some (.string ⟨who.toArray⟩):=(by have h9:=bR Y4.o X2.o;simp[World.cell?,h9])
 have CF:Ll (Calls prog 103 #[.agg (KV t b1 d1 b2 d2),.slice la l.length lc,.string ⟨who.toArray⟩,.agg (KV want a1 c1 a2 c2)] w4 fun e w'=>∃ ra rc,e=.returned (.slice ra nf rc)/\w'.ownsRow w4.heap.size 174 2 (.slice ra nf rc) (eu (aV want t (au want)) who l).length (jV (eu (aV want t (au want)) who l))/\La w4 w'):=aa (by
  refine(lJ w4 _ _ _ t want l who _ _ _ (HT.o.bel B4.o) (HL.o.bel B4.o) (HW.o.bel B4.o) (HM.o.bel B4.o) HN.o HP.o).mono ?_;rintro e w' ⟨r,rfl,h1,h2⟩;rw[CC.o]at h1;rcases h1.2 with⟨rfl,h9⟩ | ⟨g,cap,cur,rfl,h9⟩
  ·exact⟨none,0,by rw[<-NF.o,h9],by rw[<-NF.o];rw[h9]at h1 ⊢;exact h1,h2⟩
  ·exact⟨_,_,by rw[NF.o],by rw[<-NF.o];exact h1,h2⟩)
 go_upto_region 5 with (go_at_call 103;refine CF.o.mono ?_;rintro e w5 ⟨ra,rc,rfl,hrow,hb⟩;have B5:=aa (ab B4.o hb);have Y5:=aa (ab Y4.o hb);have ROW:=aa hrow;have S4:=aa (MH (show w.heap.size+4<=W3.heap.size from SW.o) Y4.o.size);clear hb hrow)
 clear u0;have v0_:=(af Y5.o X1.o).c;have n0_:=(af Y5.o X4.o).c;have ZB:=aa ((af Y5.o X4.o).set (.int .i64 t.kind) (.int .i64 t.n) (.string ⟨t.s.toArray⟩) (.slice b1 t.keys.length d1) (.slice b2 t.l.length d2));have BF:=aa (aP (g:=w.heap.size+3) B5.o (by omega) (.int .i64 t.kind) (.int .i64 t.n) (.string ⟨t.s.toArray⟩) (.slice b1 t.keys.length d1) (.slice b2 t.l.length d2));go_wp2
 have z0_:=ZB.o.c;refine MM (v:=.tuple #[.agg (KV t b1 d1 b2 d2),.slice la l.length lc,.slice ra nf rc,.int .i64 5]) ?_ rfl ?_
 ·simp only[ar]at z0_;simp[results,results84,go_sem,z0_]
 ·rw[gT,R.o];exact⟨_,_,_,rfl,(HT.o.belB (fun k h=>h.2) BF.o).weak fun k h=>.inl h.1,(HL.o.belB (fun k h=>h.2) BF.o).weak fun k h=>.inl h.1,cV (bM ROW.o fun g hg=>(aI _ _ _ _ _ _ _).block g (bY ROW.o hg).2 (by have h8:=(bY ROW.o hg).1;have h9:=S4.o;intro e;cases e;omega)) (by have h9:=S4.o;omega),BF.o⟩
variable {t:V}
variable {g S:Nat}
section
structure AQ (t want:V) (l:List aL) (who:Lz):Prop where
 rises:bD (l.map aL.name)
 len:l.length<=6
 obT:fL t
 obW:fL want
 k5:t.kind=5
 cT:fa t<=20000
 had:∀ p∈cq l who,p.length<=140737488351232/\aw p≠[]
 lv:∀ p∈au want,p.length<=140737488351232/\aw p≠[]/\(aw p).length+fa ((dr (aw p) want).getD aM)<=300
 lvn:(au want).length<=200
 named:∀ o∈cG t want l who,o.name.length<=maxLen
 risesO:bD ((cG t want l who).map aL.name)
 lenO:(cG t want l who).length<=4000000
theorem GA{a:LC}(_:La a W):Lc (W.alloc (.cells Lb 32)) W.heap.size:=MN _ _
theorem Ii{W1 W2:LC}{N z0 z1 z2 z3 z4}(nb:ag W1 g z0 z1 z2 z3 z4)(h:In W2 (bQ (fun k=>bQ ok S k/\k < N) W1.heap.size) t v)(hN:N<=g)(hS:S<=W1.heap.size):In W2 (fun k=>bQ ok S k/\k≠g) t v:=
 h.weak fun k hk=>by
  have hl:=(MF.1 nb).1;rcases hk with hk | hk
  ·exact⟨hk.1,by have:=hk.2;omega⟩
  ·exact⟨.inr (MH hS hk),by omega⟩
theorem Ea{W2:LC}{N}(h:In W2 (bQ (fun k=>bQ ok S k/\k < N) B) t v)(hS:S<=B):In W2 (bQ ok S) t v:=
 h.weak fun k hk=>by
  rcases hk with hk | hk
  ·exact hk.1
  ·exact .inr (MH hS hk)
theorem JU(h:In W ok t v)(ob:Obj):In (W.alloc ob) (fun k=>ok k/\k≠W.heap.size) t v:=
 (h.low.bel (ae W ob)).weak fun k hk=>⟨hk.1,by have:=hk.2;omega⟩
theorem E5{W1 W2:LC}{z0 z1 z2 z3 z4}(nb:ag W1 g z0 z1 z2 z3 z4)(h:In W2 (bQ (fun k=>bQ ok S k/\k≠g) W1.heap.size) t v)(hS:S<=W1.heap.size):In W2 (fun k=>bQ ok S k/\k≠g) t v:=
 h.weak fun k hk=>by
  have hl:=(MF.1 nb).1;rcases hk with hk | hk
  ·exact hk
  ·exact⟨.inr (MH hS hk),by omega⟩
theorem Bp{W2:LC}(h:In W2 (bQ (bQ ok S) B) t v)(hS:S<=B):In W2 (bQ ok S) t v:=
 h.weak fun k hk=>by
  rcases hk with hk | hk
  ·exact hk
  ·exact .inr (MH hS hk)
theorem JM{a:LC}{res a9 b9 c9 d9}(h:La a W)(hi:In W ok res (.agg (KV res a9 c9 b9 d9))):KY (W.alloc (.cells (KV res a9 c9 b9 d9) 32)) W.heap.size res a9 c9 b9 d9/\a.heap.size<=W.heap.size/\La a (W.alloc (.cells (KV res a9 c9 b9 d9) 32))/\In (W.alloc (.cells (KV res a9 c9 b9 d9) 32)) ok res (.agg (KV res a9 c9 b9 d9)):=
 ⟨MN _ _,h.size,ab h (ae _ _),hi.bel (ae _ _)⟩
theorem Js{a:LC}{res a9 b9 c9 d9 e0 e1 e2 e3 e4}(h:La a W)(hg:a.heap.size<=g)(hb:ag W g e0 e1 e2 e3 e4)(hi:In W (fun k=>ok k/\k≠g) res (.agg (KV res a9 c9 b9 d9))):KY (LG W g res a9 c9 b9 d9) g res a9 c9 b9 d9/\a.heap.size<=g/\La a (LG W g res a9 c9 b9 d9)/\In (LG W g res a9 c9 b9 d9) ok res (.agg (KV res a9 c9 b9 d9)):=
 ⟨hb.set _ _ _ _ _,hg,aP h hg _ _ _ _ _,(hi.grown (aI W g _ _ _ _ _) (fun k h9=>by have:=h9.2;simp;omega)).weak fun k h9=>h9.1⟩
theorem Ht{w8:LC}{L}(h:dB w8 (fun k=>bQ ok S k/\k < w8.heap.size) t L v)(hb:La w8 W):dB W (bQ ok S) t L v:=(h.bel hb).weak fun k hk=>hk.1
theorem EC{w8:LC}{L}(h:dB w8 (fun k=>bQ ok S k/\k < w8.heap.size) t L v)(hb:La w8 W)(hg:w8.heap.size<=g):dB W (fun k=>bQ ok S k/\k≠g) t L v:=(h.bel hb).weak fun k hk=>⟨hk.1,by have:=hk.2;omega⟩
attribute [local go_sem ↓] Go.wp_at_zero Go.wp_at_succ
theorem In.grownR{r}(h:In w ok t v)(hg:w.grownBy w' r)(hr:∀ k,ok k->some k≠r):In w' ok t v:=by
 obtain⟨d,h⟩:=h;exact⟨d,h.grown hg hr⟩
theorem aB.grownR{r l}(h:aB w ok l v)(hg:w.grownBy w' r)(hr:∀ k,ok k->some k≠r):aB w' ok l v:=h.imp (eJ hg hr)
theorem fA.bel{os r}(h:fA w B os r)(hb:La w w'):fA w' B os r:=by
 obtain⟨pvs,h1,h2,h3⟩:=h;exact⟨pvs,h1,bM h2 fun g hg=>hb.block g (bY h2 hg).2,fun i o v q1 q2=>⟨(h3 i o v q1 q2).1,(h3 i o v q1 q2).2.bel hb⟩⟩
theorem fA.lt{os r}(h:fA w B os r):∀ g,r.ownBlock=some g->B<=g/\g < w.heap.size:=by
 obtain⟨pvs,h1,h2,h3⟩:=h;exact fun g hg=>bY h2 hg
theorem Bx{L v0 v1 v2 v3 v4 v5}(h:dB w ok t L (.agg #[v0,v1,v2,v3,v4,v5])):ao w ok L v5:=by
 obtain⟨a1,a2,a3,c1,c2,c3,e,-,h2⟩:=h;simp only[Value.agg.injEq,Array.mk.injEq,List.cons.injEq,and_true]at e;rw[e.2.2.2.2.2];exact h2
theorem DL{L}(h:dB w ok t L v):dB w (Lj ok w) t L v:=by
 obtain⟨a1,a2,a3,c1,c2,c3,rfl,h1,h2⟩:=h;exact⟨a1,a2,a3,c1,c2,c3,rfl,h1.low,h2.imp fun a x q1 q2=>⟨⟨q1,World.block_lt_of_cell? _ _ q2⟩,q2⟩⟩
theorem uh(w ok t want l who force vt vl vw)(ht:In w ok t vt)(hl:aB w ok l vl)(hw:In w ok want vw)(hM:bj w)(hN:(bA l).length<=4000000)(hP:∀ o∈l,∀ x∈o.paths,x.length<=140737488351232)(hwho:who.length<=9223372036854775807)(hg1:(decide (t.kind=5)&&aE t)=true)(hg2:(decide (want.kind=5)&&aE want)=true)(hg3:bp l=true)(hg4:bT who=true)(hf:eu (aV want t (au want)) who l=[]\/force=true)(hao:AQ t want l who):Calls prog 84 #[vt,vl,.string ⟨who.toArray⟩,vw,.bool force] w fun e w'=>gT w w' ok (eC t l who want force) e:=by
 have AO:=aa hao;have CC:Ll (ld t l who want=eu (aV want t (au want)) who l):=aa (by rw[ld,if_pos ⟨by simpa using (Bool.and_eq_true_iff.1 hg1).2,hg3⟩]);obtain⟨nf,hnf⟩:∃ nf,(eu (aV want t (au want)) who l).length=nf:=⟨_,rfl⟩
 have NF:=aa hnf;obtain⟨A,hA⟩:∃ A,eC t l who want force=A:=⟨_,rfl⟩
 have RA:Ll (A=if aE (gO t want l who)=true/\(bP (cG t want l who) ⟨who,au want⟩).length<=6 then (gO t want l who,bP (cG t want l who) ⟨who,au want⟩,[],0) else (t,l,[],2)):=aa (by
  rw[<-hA];unfold eC;rw[if_pos ⟨by simpa using hg1,by simpa using hg2,hg3,hg4⟩,if_neg (by rintro⟨h1,h2⟩;rcases hf with e | e;exact h1 e;rw[e]at h2;exact absurd h2 (by simp))])
 rw[hA];clear hA;have qq:¬(0:Int) < (nf:Int)\/(0:Int) < (nf:Int)/\force=true:=by
  by_cases h0:nf=0
  ·exact .inl (by omega)
  ·exact .inr ⟨by omega,hf.resolve_left fun e=>h0 (by rw[<-hnf,e];rfl)⟩
 clear hnf hao hf;have HT:=aa ht.low;have HL:=aa hl.low;have HW:=aa hw.low;have HM:=aa hM;have HN:=aa hN;have HP:=aa hP;obtain⟨b1,b2,d1,d2,rfl⟩:=ht.form;obtain⟨a1,a2,c1,c2,rfl⟩:=hw.form;obtain⟨la,lc,rfl⟩:=hl.form;have ll:=hl.1;unfold maxLen at ll;clear ht hl hw hM hN hP;obtain⟨W3,hW3⟩:∃ W,W=(((w.alloc (.cells (KV t b1 d1 b2 d2) 32)).alloc (.cells #[.string ⟨who.toArray⟩] 9)).alloc (.cells (KV want a1 c1 a2 c2) 32)).alloc (.cells Lb 32):=⟨_,rfl⟩
 have BW:Ll (La w W3):=aa (by rw[hW3];exact ab (ab (ab (ae _ _) (ae _ _)) (ae _ _)) (ae _ _));have X1:Ll (KY W3 w.heap.size t b1 d1 b2 d2):=aa (by rw[hW3];exact H6 _ _ _ _ _ (lI _ _ _ _));have X2:Ll (W3.heap[w.heap.size+1]?=some (.cells #[.string ⟨who.toArray⟩] 9)):=aa (by rw[hW3];exact H6 _ _ _ _ _ (mE _ _ _ _));have X3:Ll (KY W3 (w.heap.size+2) want a1 c1 a2 c2):=aa (by rw[hW3];exact H6 _ _ _ _ _ (jI _ _ _ _));have X4:Ll (Lc W3 (w.heap.size+3)):=aa (by rw[hW3];exact JD _ _ _ _ _);have HW3:=aa hW3;clear hW3;have G1:Ll (∀ W,La w W->Calls prog 101 #[.agg (KV t b1 d1 b2 d2)] W fun e w'=>e=.returned (.bool (decide (t.kind=5)&&aE t))/\La W w'):=aa (fun W hW=>dq W _ t _ (HT.o.bel hW));have G2:Ll (∀ W,La w W->Calls prog 101 #[.agg (KV want a1 c1 a2 c2)] W fun e w'=>e=.returned (.bool (decide (want.kind=5)&&aE want))/\La W w'):=aa (fun W hW=>dq W _ want _ (HW.o.bel hW));have G3:Ll (∀ W,La w W->Calls prog 102 #[.slice la l.length lc] W fun e w'=>e=.returned (.bool (bp l))/\La W w'):=aa (fun W hW=>eZ W _ l _ (HL.o.bel hW) HP.o (HM.o.bel hW));have G4:Ll (∀ W,La w W->Calls prog 10 #[.string ⟨who.toArray⟩] W fun e w'=>e=.returned (.bool (bT who))/\La W w'):=aa (fun W _=>(lR W who hwho).mono fun e w' h=>⟨h.1,h.2 ▸ MK _ _⟩);have SW:Ll (w.heap.size+4<=W3.heap.size):=aa (by have:=(MF.1 X4.o).1;omega);rw[hg1]at G1;rw[hg2]at G2;rw[hg3]at G3;rw[hg4]at G4;clear hg1 hg2 hg3 hg4;have o0_:=X1.o.c;rcases qq with q0 | ⟨q0,rfl⟩
 all_goals
  go_enter func84,ntmps84;go_upto_region 1 with fail
  rw[<-HW3.o];go_upto_region 3 with (first
   |(go_at_call 10;refine Lk (G4.o _ B3.o) fun w4 hb=>?_;have B4:=aa (ab B3.o hb);have Y4:=aa (ab Y3.o hb);clear hb;skip)
   |(go_at_call 102;refine Lk (G3.o _ B2.o) fun w3 hb=>?_;have B3:=aa (ab B2.o hb);have Y3:=aa (ab Y2.o hb);clear hb;have u0:w3.cell? ⟨w.heap.size+1,0,none⟩=some (.string ⟨who.toArray⟩):=(by have h9:=bR Y3.o X2.o;simp[World.cell?,h9]);skip)
   |(go_at_call 101;refine Lk (G2.o _ B1.o) fun w2 hb=>?_;have B2:=aa (ab B1.o hb);have Y2:=aa (ab Y1.o hb);clear hb;skip)
   |(go_at_call 101;refine Lk (G1.o _ BW.o) fun w1 hb=>?_;have B1:=aa (ab BW.o hb);have Y1:=aa hb;clear hb;have p0_:=(af Y1.o X3.o).c;skip))
  have o0_:=(af Y4.o X1.o).c;have p0_:=(af Y4.o X3.o).c;have u0:w4.cell? ⟨w.heap.size+1,0,none⟩=some (.string ⟨who.toArray⟩):=(by have h9:=bR Y4.o X2.o;simp[World.cell?,h9])
  have CF:Ll (Calls prog 103 #[.agg (KV t b1 d1 b2 d2),.slice la l.length lc,.string ⟨who.toArray⟩,.agg (KV want a1 c1 a2 c2)] w4 fun e w'=>∃ ra rc,e=.returned (.slice ra nf rc)/\w'.ownsRow w4.heap.size 174 2 (.slice ra nf rc) (eu (aV want t (au want)) who l).length (jV (eu (aV want t (au want)) who l))/\La w4 w'):=aa (by
   refine(lJ w4 _ _ _ t want l who _ _ _ (HT.o.bel B4.o) (HL.o.bel B4.o) (HW.o.bel B4.o) (HM.o.bel B4.o) HN.o HP.o).mono ?_;rintro e w' ⟨r,rfl,h1,h2⟩;rw[CC.o]at h1;rcases h1.2 with⟨rfl,h9⟩ | ⟨g,cap,cur,rfl,h9⟩
   ·exact⟨none,0,by rw[<-NF.o,h9],by rw[<-NF.o];rw[h9]at h1 ⊢;exact h1,h2⟩
   ·exact⟨_,_,by rw[NF.o],by rw[<-NF.o];exact h1,h2⟩)
  go_upto_region 6 with (go_at_call 103;refine CF.o.mono ?_;rintro e w5 ⟨ra,rc,rfl,hrow,hb⟩;have B5:=aa (ab B4.o hb);have Y5:=aa (ab Y4.o hb);have ROW:=aa hrow;have S4:=aa (MH (show w.heap.size+4<=W3.heap.size from SW.o) Y4.o.size);clear hb hrow)
  have p0_:=(af Y5.o X3.o).c;have WO:=aa (rQ w5 (Lj ok w) want _ (by exact HW.o.bel B5.o) (HM.o.bel B5.o));go_upto_region 7 with (go_at_call 104;refine WO.o.mono ?_;rintro e w6 ⟨r,rfl,hwi,hb⟩;have B6:=aa (ab B5.o hb);have Y6:=aa (ab Y5.o hb);have WI:=aa hwi;have Y56:=aa hb;clear hb;obtain⟨x1,x2,x3,y1,y2,y3,rfl,-,-⟩:=hwi)
  obtain⟨W7,hW7⟩:∃ W,W=w6.alloc (.cells #[.int .i64 want.kind,.int .i64 want.n,.string ⟨want.s.toArray⟩,.slice x1 want.keys.length y1,.slice x2 want.l.length y2,.slice x3 (au want).length y3] 149):=⟨_,rfl⟩
  have Y7:Ll (La w6 W7):=aa (by rw[hW7];exact ae _ _);have X7:Ll (W7.heap[w6.heap.size]?=some (.cells #[.int .i64 want.kind,.int .i64 want.n,.string ⟨want.s.toArray⟩,.slice x1 want.keys.length y1,.slice x2 want.l.length y2,.slice x3 (au want).length y3] 149)):=aa (by rw[hW7];exact MN _ _);have B7:=aa (ab B6.o Y7.o);rw[<-hW7];clear hW7;have CAP:Ll (ri W7 (bQ (Lj ok w) w5.heap.size) (Lj ok w) who want t (au want) (w.heap.size+1) w6.heap.size w.heap.size x1 x2 x3 b1 b2 y1 y2 y3 d1 d2):=aa ⟨by
   have h9:=bR (ab Y6.o Y7.o) X2.o;simp[World.cell?,h9],X7.o,af (ab Y6.o Y7.o) X1.o,WI.o.bel Y7.o,HT.o.bel B7.o,HM.o.bel B7.o,by have:=AO.o.cT;omega,(fq want).1,(fq want).2⟩
  have WI7:Ll (dB W7 (fun k=>bQ (Lj ok w) w5.heap.size k/\k < W7.heap.size) want (au want) (.agg #[.int .i64 want.kind,.int .i64 want.n,.string ⟨want.s.toArray⟩,.slice x1 want.keys.length y1,.slice x2 want.l.length y2,.slice x3 (au want).length y3])):=aa (DL (WI.o.bel Y7.o));have KEPT:=aa (Am W7 (Lj ok w) l _ 106 #[.pointer (some ⟨w.heap.size+1,0,none⟩),.pointer (some ⟨w6.heap.size,0,none⟩),.pointer (some ⟨w.heap.size,0,none⟩)] (fun n p=>n != who&&!aV want t (au want) p) qT
   (fun W n p hW hnp=>DD W _ _ who want t (au want) _ _ _ _ _ _ _ _ _ _ _ _ _ n p (CAP.o.bel hW) (by obtain⟨o,ho,-,hx⟩:=kL hnp;exact HP.o o ho _ hx)) (HL.o.bel B7.o) AO.o.rises HN.o (fun o ho x hx=>by have:=HP.o o ho x hx;unfold maxLen;omega))
  rw[show dV (fun n p=>n != who&&!aV want t (au want) p) l=cG t want l who from rfl]at KEPT;go_upto_region 8 with (go_at_call 105;refine KEPT.o.mono ?_;rintro e w8 ⟨oa,oc,rfl,hrow,hb⟩;have Y8:=aa (ab (ab Y6.o Y7.o) hb);have B8:=aa (ab B7.o hb);have ORW:=aa hrow;have B78:=aa hb;clear hb hrow)
  have VB8:=aa (af Y8.o X1.o);have RB8:=aa (af Y8.o X4.o);have XW8:=aa (bR B78.o X7.o);have NC8:Ll (w8.cell? ⟨w.heap.size+1,0,none⟩=some (.string ⟨who.toArray⟩)):=aa (by have h9:=bR Y8.o X2.o;simp[World.cell?,h9]);have OW8:=aa (ORW.o.owns AO.o.named);have WI8:Ll (dB w8 (fun k=>bQ (fun k=>bQ (Lj ok w) w5.heap.size k/\k < W7.heap.size) w8.heap.size k/\k < w8.heap.size) want (au want) (.agg #[.int .i64 want.kind,.int .i64 want.n,.string ⟨want.s.toArray⟩,.slice x1 want.keys.length y1,.slice x2 want.l.length y2,.slice x3 (au want).length y3])):=aa ((WI7.o.bel B78.o).weak fun k hk=>⟨.inl hk,MI hk.2 B78.o.size⟩);obtain⟨cl,hcl⟩:∃ cl,dj (au want) (cG t want l who) (cq l who) t=cl:=⟨_,rfl⟩
  have HCL:=aa hcl;obtain⟨res,hres⟩:∃ res,ed want (au want) cl=res:=⟨_,rfl⟩
  have HRES:=aa hres;have HRF:Ll (gO t want l who=res):=aa (by rw[<-hres,<-hcl];rfl);clear hcl hres;go_cut [17] (fun pv wc=>∃ (g7:Nat) (a9 b9:Option Addr) (c9 d9:Nat),pv=.pointer (some ⟨g7,0,none⟩)/\(KY wc g7 res a9 c9 b9 d9/\w8.heap.size<=g7/\La w8 wc/\In wc (bQ (fun k=>bQ (Lj ok w) w5.heap.size k/\k < W7.heap.size) w8.heap.size) res (.agg (KV res a9 c9 b9 d9))))
  case first=>
   refine aD (fun wS=>La w8 wS) [10] (by kernel_rfl) (aC _ 1) (fun LI=>?_);refine WT.out ?_;iterate 6
    first
     | refine OJ 0 ?_ [8,10] LI ?_ ?_
     | refine OJ 1 ?_ [7,8,10] LI ?_ ?_
     | refine OJ 2 ?_ [7,8,10] LI ?_ ?_
     | refine OJ 3 ?_ [5,7,8,10] LI ?_ ?_
     | refine OJ 4 ?_ [5,7,8,10] LI ?_ ?_
     | refine OJ 6 ?_ [7,8,10] LI ?_ ?_
    rotate_left
    ·intro wS LN;obtain⟨u0,u1,u2,u3,u4,-⟩:=(af LN VB8.o).c;obtain⟨e0,e1,e2,e3,e4,e5⟩:=lr (bR LN XW8.o);have nm:=ah LN NC8.o;go_simp;all_goals with_reducible rfl
    simp only[av,List.set]
   repeat' (first
    | exact nl
    |(refine ON 5 (fun K hK=>?_) ?_
      go_simp;refine(xU _ (Lj ok w) l _ who (by exact(HL.o.bel B8.o).bel LI) AO.o.rises (by have:=AO.o.len;omega)).mono ?_;rintro e w5q ⟨pa,pc,rfl,hst,hb5⟩;refine hK.out _ _ (ab LI hb5) (fun LJ=>?_);have HADS:=aa hst;try replace NB:=aa (af hb5 NB.o)
      clear hb5 hst;clear hK K;replace LI:=LJ;clear LJ;try simp only[Act.put,Mt,Mu,Mv])
    |(refine ON 7 (fun K hK=>?_) ?_
      go_simp;refine(yY _ (fun k=>bQ (fun k=>bQ (Lj ok w) w5.heap.size k/\k < W7.heap.size) w8.heap.size k/\k < w8.heap.size) (Lj ok w) (fun k=>W7.heap.size<=k) want t (au want) (cq l who) (cG t want l who) _ _ _ _ (by exact WI8.o.bel LI) (by exact((HT.o.bel B8.o).bel LI).weak fun k hk=>⟨.inl ⟨.inl hk,MI hk.2 B7.o.size⟩,MI hk.2 B8.o.size⟩) (by exact HADS.o) (by exact OW8.o.bel LI) (by exact(HM.o.bel B8.o).bel LI) AO.o.obT AO.o.k5 AO.o.had (fq want).1 (fq want).2 AO.o.cT).mono ?_;rintro e w7q ⟨rv,rfl,hr5,hb5,ho5,hc5,-⟩;rw[HCL.o]at hr5 ho5 hc5;obtain⟨a6,b6,c6,d6,rfl⟩:=hr5.form;have CLO:=aa ho5;have CLC:=aa hc5;have hS5:=LI.size;refine hK.out _ _ (ab LI hb5) (fun LJ=>?_);first | (have CLI:=aa (Ii NB.o hr5 HG.o hS5)) | (have CLI:=aa (Ea hr5 hS5))
      try replace NB:=aa (af hb5 NB.o)
      clear hb5 hr5 ho5 hc5 hS5;clear hK K;replace LI:=LJ;clear LJ;try simp only[Act.put,Mt,Mu,Mv])
    |(refine ON 8 (fun K hK=>?_) ?_
      go_simp;refine(uz _ _ want cl (au want) _ _ (by first | exact EC WI8.o LI HG.o | exact Ht WI8.o LI) CLI.o (by exact(HM.o.bel B8.o).bel LI) CLO.o AO.o.obW AO.o.lv AO.o.lvn CLC.o).mono ?_;rintro e w8q ⟨rv,rfl,hr5,hb5⟩;rw[HRES.o]at hr5;obtain⟨a9,b9,c9,d9,rfl⟩:=hr5.form;have hS5:=LI.size;refine hK.out _ _ (ab LI hb5) (fun LJ=>?_);first | (have RI:=aa (E5 NB.o hr5 hS5)) | (have RI:=aa (Bp hr5 hS5))
      try replace NB:=aa (af hb5 NB.o)
      have Ma:Ll True:=aa trivial;clear hb5 hr5 hS5;clear hK K;replace LI:=LJ;clear LJ;try simp only[Act.put,Mt,Mu,Mv])
    |(refine ON 9 (fun K hK=>?_) ?_
      go_simp;refine hK.out _ _ (ab LI (ae _ _)) (fun LJ=>?_);have NB:=aa (GA LI);have HG:=aa LI.size;try replace HADS:=aa (HADS.o.bel (ae _ (.cells Lb 32)))
      first | (have c9:=Ma.o;clear c9;have FINA:=aa (JM LI RI.o)) | (replace CLI:=aa (JU CLI.o (.cells Lb 32))) | skip
      clear hK K;replace LI:=LJ;clear LJ;try simp only[Act.put,Mt,Mu,Mv])
    |(refine OO 10 (fun K hK=>?_)
      try rw[show (World.drew w8).heap.size=w8.heap.size from rfl]at NB
      have n0_:=NB.o.c;first | (have c9:=FINA.o;clear c9) | (have FINB:=aa (Js LI HG.o NB.o RI.o))
      go_simp;refine hK.out _ _ ?_;clear hK K;try simp only[Act.put,Mt,Mu,Mv])
    | refine OL [5,9] ?_
    | refine OL [7,9] ?_
    | refine OL [8,9] ?_
    | refine OL [9] ?_
    | refine OL [8] ?_
    | refine OL [7] ?_
    | refine OL [5] ?_
    | fail)
   all_goals
    refine dn (by kernel_rfl) ?_;go_wp2
    go_meet
    case rel=>first | exact⟨_,_,_,_,_,rfl,FINA.o⟩ | exact⟨_,_,_,_,_,rfl,FINB.o⟩
  case rest=>
   obtain⟨g7,a9,b9,c9,d9,rfl,hcW,hcG,hcB,hcI⟩:=hcut;have BC:=aa (ab B8.o hcB);have YC:=aa (ab Y8.o hcB);have CI:=aa hcI;have CW:=aa hcW;have CB:=aa hcB;have CG:=aa hcG;clear hcW hcG hcB hcI;have S7:Ll (w.heap.size+4<=w5.heap.size/\w5.heap.size<=W7.heap.size/\W7.heap.size<=w8.heap.size):=aa ⟨MH SW.o Y5.o.size,MH Y56.o.size Y7.o.size,B78.o.size⟩;obtain⟨nw,hnw⟩:∃ nw,(bP (cG t want l who) ⟨who,au want⟩).length=nw:=⟨_,rfl⟩
   have WOW:Ll (Calls prog 111 #[.slice oa (cG t want l who).length oc,.agg #[.string ⟨who.toArray⟩,.slice x3 (au want).length y3]] wc fun e w'=>∃ a c,e=.returned (.slice a nw c)/\aB w' (fun k=>W7.heap.size<=k\/(fun k=>bQ (Lj ok w) w5.heap.size k/\k < W7.heap.size) k) (bP (cG t want l who) ⟨who,au want⟩) (.slice a nw c)/\wc.grownBy w' (Value.ownBlock (.slice oa (cG t want l who).length oc))):=aa (by
    have hq:=ue wc W7.heap.size (cG t want l who) (.slice oa (cG t want l who).length oc) ⟨who,au want⟩ x3 y3 (fun k=>bQ (Lj ok w) w5.heap.size k/\k < W7.heap.size) (ORW.o.bel CB.o) AO.o.named AO.o.risesO AO.o.lenO (MH B78.o.size CB.o.size) (by unfold maxLen;show who.length<=_;omega) ((Bx WI7.o).bel B78.o |>.bel CB.o) (fun k hk e=>by have h9:=(ORW.o.lt k e.symm).1;have h8:=hk.2;omega);rw[hnw]at hq;exact hq)
   have HNW:=aa hnw;clear hnw;obtain⟨q0,q1,q2,q3,q4,q5⟩:=lr (bR CB.o XW8.o);have u0:=ah CB.o NC8.o;go_upto_region 10 with (go_at_call 111;refine WOW.o.mono ?_;rintro e w9 ⟨wa,wk,rfl,how,hgw⟩;have OW9:=aa how;have GW:=aa hgw;clear how hgw)
   clear q5;have FAR:Ll (∀ g,Value.ownBlock (.slice oa (cG t want l who).length oc)=some g->W7.heap.size<=g/\g < w8.heap.size):=aa (fun g hg=>ORW.o.lt g hg);have Y9:Ll (La W3 w9):=aa (Jv YC.o GW.o fun g hg=>by have h9:=(FAR.o g hg).1;have h8:=S7.o;have h7:=Y5.o.size;omega);have B9:=aa (ab BW.o Y9.o);have RB9:Ll (KY w9 g7 res a9 c9 b9 d9):=aa (by
    have h9:=(MF.1 CW.o).1;exact(GW.o.block g7 h9 fun e=>by have h8:=(FAR.o g7 e.symm).2;have h7:=CG.o;omega).trans CW.o)
   have RI9:Ll (In w9 (bQ (fun k=>bQ (Lj ok w) w5.heap.size k/\k < W7.heap.size) w8.heap.size) res (.agg (KV res a9 c9 b9 d9))):=aa (CI.o.grownR GW.o fun k hk e=>by
    have h8:=FAR.o k e.symm;rcases hk with hk | hk
    ·have:=hk.2;omega
    ·omega)
   have OKF:Ll (∀ k,(bQ (fun k=>bQ (Lj ok w) w5.heap.size k/\k < W7.heap.size) w8.heap.size) k->k≠w.heap.size+3):=aa (fun k hk=>by
    have h8:=S7.o;rcases hk with⟨hk | hk,-⟩ | hk
    ·have:=hk.2;omega
    ·omega
    ·omega)
   have OKS:Ll (∀ k,(bQ (fun k=>bQ (Lj ok w) w5.heap.size k/\k < W7.heap.size) w8.heap.size) k->bQ ok w.heap.size k):=aa (fun k hk=>by
    have h8:=S7.o;rcases hk with⟨hk | hk,-⟩ | hk
    ·exact .inl hk.1
    ·exact .inr (by omega)
    ·exact .inr (by omega))
   have OKF2:Ll (∀ k,(W7.heap.size<=k\/(fun k=>bQ (Lj ok w) w5.heap.size k/\k < W7.heap.size) k)->k≠w.heap.size+3):=aa (fun k hk=>by
    have h8:=S7.o;rcases hk with hk | ⟨hk | hk,-⟩
    ·omega
    ·have:=hk.2;omega
    ·omega)
   have OKS2:Ll (∀ k,(W7.heap.size<=k\/(fun k=>bQ (Lj ok w) w5.heap.size k/\k < W7.heap.size) k)->bQ ok w.heap.size k):=aa (fun k hk=>by
    have h8:=S7.o;rcases hk with hk | ⟨hk | hk,-⟩
    ·exact .inr (by omega)
    ·exact .inl hk.1
    ·exact .inr (by omega))
   have GR:Ll (Calls prog 19 #[.agg (KV res a9 c9 b9 d9)] w9 fun e w'=>e=.returned (.bool (aE res))/\La w9 w'):=aa (bG w9 _ res _ RI9.o);obtain⟨q0,q1,q2,q3,q4,-⟩:=RB9.o.c;have HRR:Ll (A=if aE res=true/\nw<=6 then (res,bP (cG t want l who) ⟨who,au want⟩,[],0) else (t,l,[],2)):=aa (by
    rw[RA.o,HRF.o,HNW.o])
   cases hgv:aE res with
   | false=>
    have R:Ll (A=(t,l,[],2)):=aa (by rw[HRR.o,if_neg (by rw[hgv];simp)]);rw[hgv]at GR;clear hgv;go_upto_region 11 with (go_at_call 19;refine GR.o.mono ?_;rintro e w10 ⟨rfl,hb⟩;have Y10:=aa (ab Y9.o hb);have B10:=aa (ab B9.o hb);clear hb)
    have v0_:=(af Y10.o X1.o).c;have n0_:=(af Y10.o X4.o).c;have ZB:=aa ((af Y10.o X4.o).set (.int .i64 t.kind) (.int .i64 t.n) (.string ⟨t.s.toArray⟩) (.slice b1 t.keys.length d1) (.slice b2 t.l.length d2));have BF:=aa (aP (g:=w.heap.size+3) B10.o (by omega) (.int .i64 t.kind) (.int .i64 t.n) (.string ⟨t.s.toArray⟩) (.slice b1 t.keys.length d1) (.slice b2 t.l.length d2));go_wp2
    have z0_:=ZB.o.c;refine MM (v:=.tuple #[.agg (KV t b1 d1 b2 d2),.slice la l.length lc,.slice none 0 0,.int .i64 2]) ?_ rfl ?_
    ·simp only[ar]at z0_;simp[results,results84,go_sem,z0_]
    ·rw[gT,R.o];exact⟨_,_,_,rfl,(HT.o.belB (fun k h=>h.2) BF.o).weak fun k h=>.inl h.1,(HL.o.belB (fun k h=>h.2) BF.o).weak fun k h=>.inl h.1,World.ownsRow_nil _ _ _ _,BF.o⟩
   | true=>
    rw[hgv]at GR;by_cases h6:nw<=6
    ·have RR:Ll (A=(res,bP (cG t want l who) ⟨who,au want⟩,[],0)):=aa (by rw[HRR.o,if_pos ⟨hgv,h6⟩]);have q6:¬(6:Int) < (nw:Int):=by omega
     clear hgv h6;go_upto_region 12 with (go_at_call 19;refine GR.o.mono ?_;rintro e w10 ⟨rfl,hb⟩;have Y10:=aa (ab Y9.o hb);have B10:=aa (ab B9.o hb);have RB10:=aa (af hb RB9.o);have RI10:=aa (RI9.o.bel hb);have OW10:=aa (OW9.o.bel hb);clear hb)
     clear q6;have v0_:=RB10.o.c;have n0_:=(af Y10.o X4.o).c;have ZB:=aa ((af Y10.o X4.o).set (.int .i64 res.kind) (.int .i64 res.n) (.string ⟨res.s.toArray⟩) (.slice a9 res.keys.length c9) (.slice b9 res.l.length d9));have BF:=aa (aP (g:=w.heap.size+3) B10.o (by omega) (.int .i64 res.kind) (.int .i64 res.n) (.string ⟨res.s.toArray⟩) (.slice a9 res.keys.length c9) (.slice b9 res.l.length d9));have GF:=aa (LH (aI w10 (w.heap.size+3)) res a9 c9 b9 d9);go_wp2
     have z0_:=ZB.o.c;refine MM (v:=.tuple #[.agg (KV res a9 c9 b9 d9),.slice wa nw wk,.slice none 0 0,.int .i64 0]) ?_ rfl ?_
     ·simp only[ar]at z0_;simp[results,results84,go_sem,z0_]
     ·rw[gT,RR.o];refine⟨_,_,_,rfl,(RI10.o.grownR GF.o fun k hk e=>?_).weak fun k hk=>?_,(OW10.o.grownR GF.o fun k hk e=>?_).weak fun k hk=>?_,World.ownsRow_nil _ _ _ _,BF.o⟩
      ·cases e;exact OKF.o _ hk rfl
      ·exact OKS.o _ hk
      ·cases e;exact OKF2.o _ hk rfl
      ·exact OKS2.o _ hk
    ·have R:Ll (A=(t,l,[],2)):=aa (by rw[HRR.o,if_neg (by intro h;exact h6 h.2)]);have q6:(6:Int) < (nw:Int):=by omega
     clear hgv h6;go_upto_region 11 with (go_at_call 19;refine GR.o.mono ?_;rintro e w10 ⟨rfl,hb⟩;have Y10:=aa (ab Y9.o hb);have B10:=aa (ab B9.o hb);clear hb)
     clear q6;have v0_:=(af Y10.o X1.o).c;have n0_:=(af Y10.o X4.o).c;have ZB:=aa ((af Y10.o X4.o).set (.int .i64 t.kind) (.int .i64 t.n) (.string ⟨t.s.toArray⟩) (.slice b1 t.keys.length d1) (.slice b2 t.l.length d2));have BF:=aa (aP (g:=w.heap.size+3) B10.o (by omega) (.int .i64 t.kind) (.int .i64 t.n) (.string ⟨t.s.toArray⟩) (.slice b1 t.keys.length d1) (.slice b2 t.l.length d2));go_wp2
     have z0_:=ZB.o.c;refine MM (v:=.tuple #[.agg (KV t b1 d1 b2 d2),.slice la l.length lc,.slice none 0 0,.int .i64 2]) ?_ rfl ?_
     ·simp only[ar]at z0_;simp[results,results84,go_sem,z0_]
     ·rw[gT,R.o];exact⟨_,_,_,rfl,(HT.o.belB (fun k h=>h.2) BF.o).weak fun k h=>.inl h.1,(HL.o.belB (fun k h=>h.2) BF.o).weak fun k h=>.inl h.1,World.ownsRow_nil _ _ _ _,BF.o⟩
end
theorem uQ:∀ (ns:List Lz) (v x:V),dr ns v=some x->ns.length+fa x<=fa v
 | [],v,x,h=>by cases h;simp
 | n :: ns,v,x,h=>by
  obtain⟨-,z,hm,hz⟩:=gB h;have h1:=uQ ns z x hz;have h2:=pC (lG hm);have h3:=df v;rw[My];omega
theorem zw{p}(h:oh p=true):p.length<=140737488351232/\aw p≠[]:=by
 simp only[oh,MJ,decide_eq_true_eq,Bool.not_eq_true']at h;refine⟨?_,fun e=>by rw[e]at h;simp at h⟩;have:=(mO (p:=p) (b:=(ax p).1) (by rw[<-h.1])).1;omega
theorem sh{s}(h:bT s=true):s.length<=12:=by
 simp only[bT,MJ,decide_eq_true_eq]at h;exact h.1.2
theorem Ay{want l}(who)(h1:t.kind=5)(h2:aE t=true)(h3:want.kind=5)(h4:aE want=true)(h5:bp l=true):AQ t want l who:=by
 obtain⟨g1,g2,g3⟩:=gz h5;obtain⟨k1,k2⟩:=kI (stays:=fun n p=>n != who&&!aV want t (au want) p) h5;have lo:=mM h3 h4;have c1:=gE (dQ h2);have c2:=gE (dQ h4);refine⟨g3,g1,kg h2,kg h4,h1,by omega,fun p hp=>zw (lB h5 who p hp),fun p hp=>?_,?_,fun o ho=>?_,k2,?_⟩
 ·obtain⟨q1,q2⟩:=zw (lo.good p hp);refine⟨q1,q2,?_⟩;obtain⟨x,hx,-⟩:=AM 12 want (aw p) ((fh h4).ho) h3 ((lo.names _).1 (List.mem_map.2 ⟨p,hp,rfl⟩));rw[hx,Option.getD_some];have:=uQ _ _ _ hx;omega
 ·have e:au want=ix ((jK 12 want).map aU):=if_pos ⟨h3,h4⟩;rw[e,(fU _).length_eq,List.length_map];have q1:=mB 12 want;have q2:=df want;omega
 ·have:=sh (k1 o ho).1;unfold maxLen;omega
 ·have:=(qB (fun n p=>n != who&&!aV want t (au want) p) l).length_le;simp only[List.length_map]at this;show (dV _ l).length<=_;omega
theorem Fl(w:LC)(ok t want l who force vt vl vw)(ht:In w ok t vt)(hl:aB w ok l vl)(hw:In w ok want vw)(hM:bj w)(hN:(bA l).length<=4000000)(hP:∀ o∈l,∀ x∈o.paths,x.length<=140737488351232)(hwho:who.length<=9223372036854775807):Calls prog 84 #[vt,vl,.string ⟨who.toArray⟩,vw,.bool force] w fun e w'=>gT w w' ok (eC t l who want force) e:=by
 cases hg1:(decide (t.kind=5)&&aE t) with
 | false=>exact kO w ok t want l who force vt vl vw ht hl hw hM hN hP hwho (fun h=>by rw[hg1]at h;simp at h)
 | true=>
  cases hg2:(decide (want.kind=5)&&aE want) with
  | false=>exact kO w ok t want l who force vt vl vw ht hl hw hM hN hP hwho (fun h=>by rw[hg2]at h;simp at h)
  | true=>
   cases hg3:bp l with
   | false=>exact kO w ok t want l who force vt vl vw ht hl hw hM hN hP hwho (fun h=>by rw[hg3]at h;simp at h)
   | true=>
    cases hg4:bT who with
    | false=>exact kO w ok t want l who force vt vl vw ht hl hw hM hN hP hwho (fun h=>by rw[hg4]at h;simp at h)
    | true=>
     have a1:=Bool.and_eq_true_iff.1 hg1;have a2:=Bool.and_eq_true_iff.1 hg2;have AO:=Ay who (of_decide_eq_true a1.1) a1.2 (of_decide_eq_true a2.1) a2.2 hg3;by_cases hf:eu (aV want t (au want)) who l=[]
     ·exact uh w ok t want l who force vt vl vw ht hl hw hM hN hP hwho hg1 hg2 hg3 hg4 (.inl hf) AO
     ·cases hfo:force with
      | false=>exact xC w ok t want l who false vt vl vw ht hl hw hM hN hP hwho hg1 hg2 hg3 hg4 hf rfl
      | true=>exact uh w ok t want l who true vt vl vw ht hl hw hM hN hP hwho hg1 hg2 hg3 hg4 (.inr rfl) AO
theorem F0(w:LC)(ok t v frm dst)(h:In w ok t v)(hf:frm.length<=140737488351232)(hd:dst.length<=140737488351232)(hM:bj w):Calls prog 181 #[v,aR frm,aR dst] w fun e w'=>∃ r,e=.returned (.tuple #[r,.int .i64 (wf t frm dst).2])/\La w w'/\In w' (bQ ok w.heap.size) (wf t frm dst).1 r:=by
 have H:=aa h.low;have HMM:=aa hM;obtain⟨l1,l2,l3⟩:=h.lens;obtain⟨a1,a2,c1,c2,rfl⟩:=h.form;clear h hM;have B2:Ll (∀ o1 o2,La w ((w.alloc o1).alloc o2)):=fun o1 o2=>ab (ae _ _) (ae _ _);unfold aR;go_enter func181,ntmps181;go_wp2_with fail
 refine(zD _ (Lj ok w) t _ frm (by exact H.o.bel (B2.o _ _)) hf (by exact HMM.o.bel (B2.o _ _))).mono ?_;rintro e w1 ⟨r,rfl,hb1,hr⟩;obtain⟨g,hg⟩:∃ g,fP (ax frm) t=g:=⟨_,rfl⟩
 rw[hg]at hr ⊢;obtain⟨x,xe⟩:=g;simp only at hr ⊢;obtain⟨a7,a8,c7,c8,rfl⟩:=hr.form;have HG:=aa hg;have LW:=ab hb1 (ae w1 (.cells (KV x a7 c7 a8 c8) 32));have K:Ll (KY (w1.alloc (.cells (KV x a7 c7 a8 c8) 32)) w.heap.size t a1 c1 a2 c2/\Lc (w1.alloc (.cells (KV x a7 c7 a8 c8) 32)) (w.heap.size+1)/\La w (w1.alloc (.cells (KV x a7 c7 a8 c8) 32))/\KY (w1.alloc (.cells (KV x a7 c7 a8 c8) 32)) w1.heap.size x a7 c7 a8 c8/\In (w1.alloc (.cells (KV x a7 c7 a8 c8) 32)) (Lj ok w) x (.agg (KV x a7 c7 a8 c8))):=⟨af LW (fb w _ _),af LW (et w _ _),ab (B2.o _ _) LW,MN w1 _,hr.bel (ae _ _)⟩
 clear hg hr hb1 LW;by_cases hxe:xe=0
 ·subst hxe;cases hpre:Lib.hasPrefix dst (frm++[47]) with
  | true=>
   have HPRE:=aa hpre;clear hpre;go_wp2_with fail
   have hpx:=Tryz.strings_HasPrefix ⟨dst.toArray⟩ ⟨(frm++[47]).toArray⟩ (w1.alloc (.cells (KV x a7 c7 a8 c8) 32));simp only[List.toList_toArray]at hpx;rw[HPRE.o,<-yR]at hpx;refine hpx.mono ?_;rintro e w2 ⟨rfl,hw2⟩;have K2:Ll (KY w2 w.heap.size t a1 c1 a2 c2/\Lc w2 (w.heap.size+1)/\La w w2):=by rw[hw2];exact⟨K.o.1,K.o.2.1,K.o.2.2.1⟩
   clear hw2 K hpx;have p0_:=(K2.o.1).c;obtain⟨x0,x1,x2,x3,x4,y0,y1,y2,y3,y4⟩:=(K2.o.2.1).c;have Z:Ll (_/\_):=aN (C:=(w2).heap.size) (g:=w.heap.size+1) ((H.o.bel K2.o.2.2).weak (aO (C:=(w2).heap.size))) K2.o.2.2 (by omega) (K2.o.2.1).lt;have ZB:Ll _:=aa ((K2.o.2.1).set (.int .i64 t.kind) (.int .i64 t.n) (.string ⟨t.s.toArray⟩) (.slice a1 t.keys.length c1) (.slice a2 t.l.length c2));have HA:Ll (wf t frm dst=(t,1)):=aa (by unfold wf;rw[HG.o];simp only[ne_eq,not_true_eq_false,if_false,HPRE.o,if_true]);clear K2;go_wp2_with fail
   have z0_:=ZB.o.c;refine MM (v:=.tuple #[.agg (KV t a1 c1 a2 c2),.int .i64 1]) ?_ rfl ?_
   ·simp only[ar]at z0_;simp[results,results181,go_sem,z0_]
   ·refine⟨_,by rw[HA.o],Z.o.1,?_⟩;rw[HA.o];exact Z.o.2
  | false=>
   have HPRE:=aa hpre;clear hpre;go_wp2_with fail
   have hpx:=Tryz.strings_HasPrefix ⟨dst.toArray⟩ ⟨(frm++[47]).toArray⟩ (w1.alloc (.cells (KV x a7 c7 a8 c8) 32));simp only[List.toList_toArray]at hpx;rw[HPRE.o,<-yR]at hpx;refine hpx.mono ?_;rintro e w2 ⟨rfl,hw2⟩;have K2:Ll (KY w2 w.heap.size t a1 c1 a2 c2/\Lc w2 (w.heap.size+1)/\La w w2/\KY w2 w1.heap.size x a7 c7 a8 c8/\In w2 (Lj ok w) x (.agg (KV x a7 c7 a8 c8))):=by rw[hw2];exact K.o
   clear hw2 K hpx;by_cases hdf:dst=frm
   ·have q1:(dst == frm)=true:=by rw[hdf];simp
    have HDF:=aa hdf;clear hdf;have p0_:=(K2.o.1).c;obtain⟨x0,x1,x2,x3,x4,y0,y1,y2,y3,y4⟩:=(K2.o.2.1).c;have Z:Ll (_/\_):=aN (C:=(w2).heap.size) (g:=w.heap.size+1) ((H.o.bel K2.o.2.2.1).weak (aO (C:=(w2).heap.size))) K2.o.2.2.1 (by omega) (K2.o.2.1).lt;have ZB:Ll _:=aa ((K2.o.2.1).set (.int .i64 t.kind) (.int .i64 t.n) (.string ⟨t.s.toArray⟩) (.slice a1 t.keys.length c1) (.slice a2 t.l.length c2));have HA:Ll (wf t frm dst=(t,0)):=aa (by unfold wf;rw[HG.o];simp only[ne_eq,not_true_eq_false,if_false,HPRE.o];rw[if_neg (by simp),if_pos HDF.o]);clear K2;go_wp2_with fail
    have z0_:=ZB.o.c;refine MM (v:=.tuple #[.agg (KV t a1 c1 a2 c2),.int .i64 0]) ?_ rfl ?_
    ·simp only[ar]at z0_;simp[results,results181,go_sem,z0_]
    ·refine⟨_,by rw[HA.o],Z.o.1,?_⟩;rw[HA.o];exact Z.o.2
   ·have q1:(dst == frm)=false:=by rw[MO];exact hdf
    have HDF:=aa hdf;clear hdf;have p0_:=K2.o.1.c;go_wp2_with fail
    refine(sD _ (Lj ok w) t _ frm (by exact H.o.bel K2.o.2.2.1) hf (by exact HMM.o.bel K2.o.2.2.1)).mono ?_;rintro e w3 ⟨r,rfl,hb3,hr⟩;obtain⟨g,hg⟩:∃ g,aX ch (ax frm) t=g:=⟨_,rfl⟩
    rw[hg]at hr ⊢;obtain⟨y,ye⟩:=g;simp only at hr ⊢;obtain⟨a5,a6,c5,c6,rfl⟩:=hr.form;have HC:=aa hg;have LW:=ab hb3 (ae w3 (.cells (KV y a5 c5 a6 c6) 32));have hsz2:=K2.o.2.1.lt;have hsz2b:=K2.o.2.2.2.1.lt;have hsz3:=hb3.size;have K3:Ll (KY (w3.alloc (.cells (KV y a5 c5 a6 c6) 32)) w.heap.size t a1 c1 a2 c2/\Lc (w3.alloc (.cells (KV y a5 c5 a6 c6) 32)) (w.heap.size+1)/\La w (w3.alloc (.cells (KV y a5 c5 a6 c6) 32))/\KY (w3.alloc (.cells (KV y a5 c5 a6 c6) 32)) w1.heap.size x a7 c7 a8 c8/\In (w3.alloc (.cells (KV y a5 c5 a6 c6) 32)) (fun k=>bg ok w.heap.size w2.heap.size k/\k < w3.heap.size) x (.agg (KV x a7 c7 a8 c8))/\KY (w3.alloc (.cells (KV y a5 c5 a6 c6) 32)) w3.heap.size y a5 c5 a6 c6/\In (w3.alloc (.cells (KV y a5 c5 a6 c6) 32)) (fun k=>bg ok w.heap.size w2.heap.size k/\k < w3.heap.size) y (.agg (KV y a5 c5 a6 c6))):=⟨af LW K2.o.1,af LW K2.o.2.1,ab K2.o.2.2.1 LW,af LW K2.o.2.2.2.1,(K2.o.2.2.2.2.bel LW).weak (fun k hk=>⟨aO k hk,by omega⟩),MN w3 _,hr.low.bel (ae _ _)⟩
    clear hg hr hb3 LW K2;by_cases hye:ye=0
    ·subst hye;have r0_:=K3.o.2.2.2.1.c;obtain⟨s0,s1,s2,s3,s4,-⟩:=K3.o.2.2.2.2.2.1.c;go_wp2_with fail
     refine(yi _ (fun k=>bg ok w.heap.size w2.heap.size k/\k < w3.heap.size) y x _ _ dst (by exact K3.o.2.2.2.2.2.2) (by exact K3.o.2.2.2.2.1) hd (by exact HMM.o.bel K3.o.2.2.1)).mono ?_;rintro e w4 ⟨r,rfl,hb4,hr⟩;obtain⟨g,hg⟩:∃ g,ep bL dst (ax dst) y x=g:=⟨_,rfl⟩
     rw[hg]at hr ⊢;obtain⟨z,ze⟩:=g;simp only at hr ⊢;obtain⟨a3,a4,c3,c4,rfl⟩:=hr.form;have HL:=aa hg;have hsz4:=hb4.size;have hszA:(w3.alloc (.cells (KV y a5 c5 a6 c6) 32)).heap.size=w3.heap.size+1:=by simp
     have bx4:=af hb4 K3.o.2.2.2.2.2.1;obtain⟨s0,s1,s2,s3,s4,s5,s6,s7,s8,s9⟩:=bx4.c;have g4:=aI w4 w3.heap.size (.int .i64 z.kind) (.int .i64 z.n) (.string ⟨z.s.toArray⟩) (.slice a3 z.keys.length c3) (.slice a4 z.l.length c4);have K4:Ll (KY (LG w4 w3.heap.size z a3 c3 a4 c4) w.heap.size t a1 c1 a2 c2/\Lc (LG w4 w3.heap.size z a3 c3 a4 c4) (w.heap.size+1)/\La w (LG w4 w3.heap.size z a3 c3 a4 c4)/\KY (LG w4 w3.heap.size z a3 c3 a4 c4) w3.heap.size z a3 c3 a4 c4/\In (LG w4 w3.heap.size z a3 c3 a4 c4) (bQ (fun k=>bg ok w.heap.size w2.heap.size k/\k < w3.heap.size) (w3.heap.size+1)) z (.agg (KV z a3 c3 a4 c4))):=by
      have hne:∀ k,bQ (fun k=>bg ok w.heap.size w2.heap.size k/\k < w3.heap.size) (w3.heap.size+1) k->k≠w3.heap.size:=by
       intro k hk e;rcases hk with hk | hk <;> omega
      exact⟨(af hb4 K3.o.1).grown g4 (by simp;omega),(af hb4 K3.o.2.1).grown g4 (by simp;omega),aP (ab K3.o.2.2.1 hb4) (by omega) _ _ _ _ _,bx4.set _ _ _ _ _,(hr.weak (fun k hk=>by rw[hszA]at hk;exact hk)).grown g4 hne⟩
     clear hg hr hb4 bx4 g4 K3;by_cases hze:ze=0
     ·subst hze;have HA:Ll (wf t frm dst=(z,0)):=aa (by unfold wf;rw[HG.o,HC.o];simp only[ne_eq,not_true_eq_false,if_false,HPRE.o,HL.o];rw[if_neg (by simp),if_neg HDF.o]);have n0_:=K4.o.2.2.2.1.c;obtain⟨x0,x1,x2,x3,x4,y0,y1,y2,y3,y4⟩:=K4.o.2.1.c;have ZI:=aa ((K4.o.2.2.2.2.grown (aI (LG w4 w3.heap.size z a3 c3 a4 c4) (w.heap.size+1) (.int .i64 z.kind) (.int .i64 z.n) (.string ⟨z.s.toArray⟩) (.slice a3 z.keys.length c3) (.slice a4 z.l.length c4)) (fun k hk e=>by
       rcases hk with hk | hk
       ·exact jB (by omega) hsz2 k hk.1 e
       ·omega)).weak (ok':=bQ ok w.heap.size) (fun k hk=>by
       rcases hk with hk | hk
       ·exact ik (by omega) k hk.1
       ·exact .inr (by omega)))
      have ZW:=aa (LH (aP K4.o.2.2.1 (Nat.le_succ w.heap.size)) z a3 c3 a4 c4);have ZB:=aa (LH K4.o.2.1.set z a3 c3 a4 c4);clear K4;simp only[ar]at n0_ x0 x1 x2 x3 x4 y0 y1 y2 y3 y4;go_wp2_with fail
      have z0_:=ZB.o.c;refine MM (v:=.tuple #[.agg (KV z a3 c3 a4 c4),.int .i64 0]) ?_ rfl ?_
      ·simp only[ar]at z0_;simp[results,results181,go_sem,z0_]
      ·refine⟨_,by rw[HA.o],ZW.o,?_⟩;rw[HA.o];exact ZI.o
     ·have e3:(ze != 0)=true:=by rw[bne_iff_ne];exact hze
      have e4:(ze == 0)=false:=by rw[MO];exact hze
      have HZE:=aa hze;clear hze;have p0_:=(K4.o.1).c;obtain⟨x0,x1,x2,x3,x4,y0,y1,y2,y3,y4⟩:=(K4.o.2.1).c;have Z:Ll (_/\_):=aN (C:=((LG w4 w3.heap.size z a3 c3 a4 c4)).heap.size) (g:=w.heap.size+1) ((H.o.bel K4.o.2.2.1).weak (aO (C:=((LG w4 w3.heap.size z a3 c3 a4 c4)).heap.size))) K4.o.2.2.1 (by omega) (K4.o.2.1).lt;have ZB:Ll _:=aa ((K4.o.2.1).set (.int .i64 t.kind) (.int .i64 t.n) (.string ⟨t.s.toArray⟩) (.slice a1 t.keys.length c1) (.slice a2 t.l.length c2));have HA:Ll (wf t frm dst=(t,ze)):=aa (by unfold wf;rw[HG.o,HC.o];simp only[ne_eq,not_true_eq_false,if_false,HPRE.o,HL.o];rw[if_neg (by simp),if_neg HDF.o,if_pos HZE.o]);clear K4;simp only[ar]at p0_ x0 x1 x2 x3 x4 y0 y1 y2 y3 y4;go_wp2_with fail
      have z0_:=ZB.o.c;refine MM (v:=.tuple #[.agg (KV t a1 c1 a2 c2),.int .i64 ze]) ?_ rfl ?_
      ·simp only[ar]at z0_;simp[results,results181,go_sem,z0_]
      ·refine⟨_,by rw[HA.o],Z.o.1,?_⟩;rw[HA.o];exact Z.o.2
    ·have e3:(ye != 0)=true:=by rw[bne_iff_ne];exact hye
     have e4:(ye == 0)=false:=by rw[MO];exact hye
     have HYE:=aa hye;clear hye;have p0_:=(K3.o.1).c;obtain⟨x0,x1,x2,x3,x4,y0,y1,y2,y3,y4⟩:=(K3.o.2.1).c;have Z:Ll (_/\_):=aN (C:=((w3.alloc (.cells (KV y a5 c5 a6 c6) 32))).heap.size) (g:=w.heap.size+1) ((H.o.bel K3.o.2.2.1).weak (aO (C:=((w3.alloc (.cells (KV y a5 c5 a6 c6) 32))).heap.size))) K3.o.2.2.1 (by omega) (K3.o.2.1).lt;have ZB:Ll _:=aa ((K3.o.2.1).set (.int .i64 t.kind) (.int .i64 t.n) (.string ⟨t.s.toArray⟩) (.slice a1 t.keys.length c1) (.slice a2 t.l.length c2));have HA:Ll (wf t frm dst=(t,ye)):=aa (by unfold wf;rw[HG.o,HC.o];simp only[ne_eq,not_true_eq_false,if_false,HPRE.o];rw[if_neg (by simp),if_neg HDF.o,if_pos HYE.o]);clear K3;go_wp2_with fail
     have z0_:=ZB.o.c;refine MM (v:=.tuple #[.agg (KV t a1 c1 a2 c2),.int .i64 ye]) ?_ rfl ?_
     ·simp only[ar]at z0_;simp[results,results181,go_sem,z0_]
     ·refine⟨_,by rw[HA.o],Z.o.1,?_⟩;rw[HA.o];exact Z.o.2
 ·have e1:(xe != 0)=true:=by rw[bne_iff_ne];exact hxe
  have e2:(xe == 0)=false:=by rw[MO];exact hxe
  have HXE:=aa hxe;clear hxe;have p0_:=(K.o.1).c;obtain⟨x0,x1,x2,x3,x4,y0,y1,y2,y3,y4⟩:=(K.o.2.1).c;have Z:Ll (_/\_):=aN (C:=((w1.alloc (.cells (KV x a7 c7 a8 c8) 32))).heap.size) (g:=w.heap.size+1) ((H.o.bel K.o.2.2.1).weak (aO (C:=((w1.alloc (.cells (KV x a7 c7 a8 c8) 32))).heap.size))) K.o.2.2.1 (by omega) (K.o.2.1).lt;have ZB:Ll _:=aa ((K.o.2.1).set (.int .i64 t.kind) (.int .i64 t.n) (.string ⟨t.s.toArray⟩) (.slice a1 t.keys.length c1) (.slice a2 t.l.length c2));have HA:Ll (wf t frm dst=(t,xe)):=aa (by unfold wf;rw[HG.o,if_pos HXE.o]);clear K;go_wp2_with fail
  have z0_:=ZB.o.c;refine MM (v:=.tuple #[.agg (KV t a1 c1 a2 c2),.int .i64 xe]) ?_ rfl ?_
  ·simp only[ar]at z0_;simp[results,results181,go_sem,z0_]
  ·refine⟨_,by rw[HA.o],Z.o.1,?_⟩;rw[HA.o];exact Z.o.2
theorem DE(w:LC)(ok t v frm dst)(h:In w ok t v)(hf:frm.length<=140737488351232)(hd:dst.length<=140737488351232)(hM:bj w):Calls prog 182 #[v,aR frm,aR dst] w fun e w'=>∃ r,e=.returned (.tuple #[r,.int .i64 (gS t frm dst).2])/\La w w'/\In w' (bQ ok w.heap.size) (gS t frm dst).1 r:=by
 have H:=aa h.low;have HMM:=aa hM;obtain⟨l1,l2,l3⟩:=h.lens;obtain⟨a1,a2,c1,c2,rfl⟩:=h.form;clear h hM;have B2:Ll (∀ o1 o2,La w ((w.alloc o1).alloc o2)):=fun o1 o2=>ab (ae _ _) (ae _ _);unfold aR;go_enter func182,ntmps182;go_wp2_with fail
 refine(zD _ (Lj ok w) t _ frm (by exact H.o.bel (B2.o _ _)) hf (by exact HMM.o.bel (B2.o _ _))).mono ?_;rintro e w1 ⟨r,rfl,hb1,hr⟩;obtain⟨g,hg⟩:∃ g,fP (ax frm) t=g:=⟨_,rfl⟩
 rw[hg]at hr ⊢;obtain⟨x,xe⟩:=g;simp only at hr ⊢;have HG:=aa hg;obtain⟨a7,a8,c7,c8,rfl⟩:=hr.form;have LW:=ab hb1 (ae w1 (.cells (KV x a7 c7 a8 c8) 32));have K:Ll (KY (w1.alloc (.cells (KV x a7 c7 a8 c8) 32)) w.heap.size t a1 c1 a2 c2/\Lc (w1.alloc (.cells (KV x a7 c7 a8 c8) 32)) (w.heap.size+1)/\La w (w1.alloc (.cells (KV x a7 c7 a8 c8) 32))/\KY (w1.alloc (.cells (KV x a7 c7 a8 c8) 32)) w1.heap.size x a7 c7 a8 c8/\In (w1.alloc (.cells (KV x a7 c7 a8 c8) 32)) (Lj ok w) x (.agg (KV x a7 c7 a8 c8))):=⟨af LW (fb w _ _),af LW (et w _ _),ab (B2.o _ _) LW,MN w1 _,hr.bel (ae _ _)⟩
 clear hr hb1 LW hg;by_cases hxe:xe=0
 ·subst hxe;have hnice:Ll (dz x):=aa (by obtain⟨q1,q2,q3⟩:=uu HG.o;exact pU _ _ _ (dQ q1) q3);have hszA:=K.o.2.1.lt;have conT:Ll (∀ W,W.heap=(w1.alloc (.cells (KV x a7 c7 a8 c8) 32)).heap->W.os=(w1.alloc (.cells (KV x a7 c7 a8 c8) 32)).os->W.tape=(w1.alloc (.cells (KV x a7 c7 a8 c8) 32)).tape->W.output=(w1.alloc (.cells (KV x a7 c7 a8 c8) 32)).output->Calls prog 206 #[.agg (KV x a7 c7 a8 c8)] W fun e w'=>∃ b7 b8 d7 d8,e=.returned (.agg (KV x b7 d7 b8 d8))/\(In w' (fun k=>(w1.alloc (.cells (KV x a7 c7 a8 c8) 32)).heap.size<=k) x (.agg (KV x b7 d7 b8 d8)))/\KY w' w.heap.size t a1 c1 a2 c2/\Lc w' (w.heap.size+1)/\La w w'):=by
   intro W e1 e2 e3 e4;have LY:=mn e1 e2 e3 e4;have L9:W.heap.size=(w1.alloc (.cells (KV x a7 c7 a8 c8) 32)).heap.size:=by rw[e1]
   refine(IG W _ x _ (K.o.2.2.2.2.bel LY) hnice.o).mono ?_;rintro e w' ⟨r,rfl,hb,hr⟩;obtain⟨b7,b8,d7,d8,rfl⟩:=hr.form;rw[L9]at hr;have hb':=ab LY hb;exact⟨b7,b8,d7,d8,rfl,hr,af hb' K.o.1,af hb' K.o.2.1,ab K.o.2.2.1 hb'⟩
  have conA:Ll (∀ W b7 b8 d7 d8,In W (fun k=>(w1.alloc (.cells (KV x a7 c7 a8 c8) 32)).heap.size<=k) x (.agg (KV x b7 d7 b8 d8))->(KY W w.heap.size t a1 c1 a2 c2/\Lc W (w.heap.size+1)/\La w W)->Calls prog 178 #[.agg (KV t a1 c1 a2 c2),.string ⟨dst.toArray⟩,.agg (KV x b7 d7 b8 d8)] W fun e w'=>∃ (z:V) (a3 a4:Option Addr) (c3 c4:Nat) (ze:Int),e=.returned (.tuple #[.agg (KV z a3 c3 a4 c4),.int .i64 ze])/\Lc w' (w.heap.size+1) /\
   (gS t frm dst=(z,ze))/\La w (LG w' (w.heap.size+1) z a3 c3 a4 c4)/\In (LG w' (w.heap.size+1) z a3 c3 a4 c4) (bQ ok w.heap.size) z (.agg (KV z a3 c3 a4 c4))/\KY (LG w' (w.heap.size+1) z a3 c3 a4 c4) (w.heap.size+1) z a3 c3 a4 c4):=by
   intro W b7 b8 d7 d8 he hW;refine(yi W (bg ok w.heap.size (w1.alloc (.cells (KV x a7 c7 a8 c8) 32)).heap.size) t x _ _ dst ((H.o.bel hW.2.2).weak aO) (he.weak fun k hk=>.inr hk) hd (HMM.o.bel hW.2.2)).mono ?_;rintro e w' ⟨r,rfl,hb,hr⟩;obtain⟨g,hg⟩:∃ g,ep bL dst (ax dst) t x=g:=⟨_,rfl⟩
   rw[hg]at hr ⊢;obtain⟨z,ze⟩:=g;simp only at hr ⊢;obtain⟨a3,a4,c3,c4,rfl⟩:=hr.form;have LU:=af hb hW.2.1;have hszW:=hW.2.1.lt;have hgs:=aI w' (w.heap.size+1) (.int .i64 z.kind) (.int .i64 z.n) (.string ⟨z.s.toArray⟩) (.slice a3 z.keys.length c3) (.slice a4 z.l.length c4);refine⟨z,a3,a4,c3,c4,ze,rfl,LU,by unfold gS;rw[HG.o];simp only[ne_eq,not_true_eq_false,if_false];exact hg,aP (ab hW.2.2 hb) (Nat.le_succ _) _ _ _ _ _,?_,LU.set _ _ _ _ _⟩;refine(hr.grown hgs ?_).weak ?_
   ·intro k hk e;rcases hk with hk | hk
    ·exact jB (by omega) hszA k hk e
    ·omega
   ·intro k hk;rcases hk with hk | hk
    ·exact ik (by omega) k hk
    ·exact .inr (by omega)
  have p0_:=K.o.1.c;obtain⟨q0,q1,q2,q3,q4,-⟩:=K.o.2.2.2.1.c;go_upto_region 4 with fail
  go_region_with (first
   |(go_at_call 206;refine(conT.o _ (by rfl) (by rfl) (by rfl) (by rfl)).mono ?_;rintro e wt ⟨b7,b8,d7,d8,rfl,hem,hkt⟩;have p0_:=hkt.1.c;have EM:=aa hem;have KT:=aa hkt;clear hem hkt)
   |(go_at_call 178;refine(conA.o _ b7 b8 d7 d8 EM.o KT.o).mono ?_;rintro e wz ⟨z,a3,a4,c3,c4,ze,rfl,LU,hR,hq1,hq2,hq3⟩;have x0_:=LU.c;have HA:=aa hR;have FIN:Ll (_/\_/\_):=⟨hq1,hq2,hq3⟩;clear hR hq1 hq2 hq3 LU))
  all_goals
   go_wp2_with fail
   have z0_:=FIN.o.2.2.c;refine MM (v:=.tuple #[.agg (KV z a3 c3 a4 c4),.int .i64 ze]) ?_ rfl ?_
   ·simp only[ar]at z0_;simp[results,results182,go_sem,z0_]
   ·refine⟨_,by rw[HA.o],FIN.o.1,?_⟩;rw[HA.o];exact FIN.o.2.1
 ·have e1:(xe != 0)=true:=by rw[bne_iff_ne];exact hxe
  have e2:(xe == 0)=false:=by rw[MO];exact hxe
  have HXE:=aa hxe;clear hxe;have p0_:=(K.o.1).c;have x0_:=(K.o.2.1).c;have Z:Ll (_/\_):=aN (C:=((w1.alloc (.cells (KV x a7 c7 a8 c8) 32))).heap.size) (g:=w.heap.size+1) ((H.o.bel K.o.2.2.1).weak (aO (C:=((w1.alloc (.cells (KV x a7 c7 a8 c8) 32))).heap.size))) K.o.2.2.1 (by omega) (K.o.2.1).lt;have ZB:Ll _:=aa ((K.o.2.1).set (.int .i64 t.kind) (.int .i64 t.n) (.string ⟨t.s.toArray⟩) (.slice a1 t.keys.length c1) (.slice a2 t.l.length c2));have HA:Ll (gS t frm dst=(t,xe)):=aa (by unfold gS;rw[HG.o,if_pos HXE.o]);clear K;go_wp2_with fail
  have z0_:=ZB.o.c;refine MM (v:=.tuple #[.agg (KV t a1 c1 a2 c2),.int .i64 xe]) ?_ rfl ?_
  ·simp only[ar]at z0_;simp[results,results182,go_sem,z0_]
  ·refine⟨_,by rw[HA.o],Z.o.1,?_⟩;rw[HA.o];exact Z.o.2
def kZ (f:V × Int) (o:jf) (t:V):Prop:=∀ (W:LC) (ok:Nat->Prop) (v ov:Value),In W ok t v->od W ok o ov->bj W ->
 Calls prog 148 #[v,ov] W fun e w'=>∃ r,e=.returned (.tuple #[r,.int .i64 f.2])/\La W w'/\In w' (bQ ok W.heap.size) f.1 r
theorem GQ(o:jf)(t)(hk:o.kind=1):kZ (ep bL o.path (ax o.path) t o.value) o t:=by
 intro w ok v ov h ho hM;have H:=aa h.low;have HMM:=aa hM;obtain⟨l1,l2,l3⟩:=h.lens;obtain⟨a1,a2,c1,c2,rfl⟩:=h.form;obtain⟨o1,o2,o3,a7,a8,c7,c8,rfl,hx⟩:=ho;have HX:=aa hx.low;have q1:(o.kind == 1)=true:=by rw[hk];rfl
 clear h hM hx hk;have B3:Ll (∀ o1 o2 o3,La w (((w.alloc o1).alloc o2).alloc o3)):=fun o1 o2 o3=>ab (ab (ae _ _) (ae _ _)) (ae _ _);go_enter func148,ntmps148;go_wp2_with fail
 refine(yi _ (Lj ok w) t o.value _ _ o.path (by exact H.o.bel (B3.o _ _ _)) (by exact HX.o.bel (B3.o _ _ _)) o2 (by exact HMM.o.bel (B3.o _ _ _))).mono ?_;rintro e w9 ⟨r,rfl,hb9,hr⟩;obtain⟨y,hy⟩:∃ y,ep bL o.path (ax o.path) t o.value=y:=⟨_,rfl⟩
 rw[hy]at hr ⊢;obtain⟨y,ye⟩:=y;simp only at hr ⊢;obtain⟨a5,a6,c5,c6,rfl⟩:=hr.form;have LU:=af hb9 (jI w _ _ _);obtain⟨x0,x1,x2,x3,x4,y0,y1,y2,y3,y4⟩:=ag.c LU;have Z:Ll (_/\_):=aN (g:=w.heap.size+2) hr (ab (B3.o _ _ _) hb9) (by omega) (by simp);have ZB:Ll _:=aa (LH (ag.set LU) y a5 c5 a6 c6);have HA:=aa hy;clear hy hr hb9 LU;go_wp2_with fail
 have z0_:=ZB.o.c;refine MM (v:=.tuple #[.agg (KV y a5 c5 a6 c6),.int .i64 ye]) ?_ rfl ?_
 ·simp only[ar]at z0_;simp[results,results148,go_sem,z0_]
 ·exact⟨_,by rw[HA.o],Z.o.1,by rw[HA.o];exact Z.o.2⟩
theorem xM(o:jf)(t)(hk:o.kind=2):kZ (aX ch (ax o.path) t) o t:=by
 intro w ok v ov h ho hM;have H:=aa h.low;have HMM:=aa hM;obtain⟨l1,l2,l3⟩:=h.lens;obtain⟨a1,a2,c1,c2,rfl⟩:=h.form;obtain⟨o1,o2,o3,a7,a8,c7,c8,rfl,hx⟩:=ho;have HX:=aa hx.low;have q1:(o.kind == 1)=false:=by rw[hk];rfl
 have q2:(o.kind == 2)=true:=by rw[hk];rfl
 clear h hM hx hk;have B3:Ll (∀ o1 o2 o3,La w (((w.alloc o1).alloc o2).alloc o3)):=fun o1 o2 o3=>ab (ab (ae _ _) (ae _ _)) (ae _ _);go_enter func148,ntmps148;go_wp2_with fail
 refine(sD _ (Lj ok w) t _ o.path (by exact H.o.bel (B3.o _ _ _)) o2 (by exact HMM.o.bel (B3.o _ _ _))).mono ?_;rintro e w9 ⟨r,rfl,hb9,hr⟩;obtain⟨y,hy⟩:∃ y,aX ch (ax o.path) t=y:=⟨_,rfl⟩
 rw[hy]at hr ⊢;obtain⟨y,ye⟩:=y;simp only at hr ⊢;obtain⟨a5,a6,c5,c6,rfl⟩:=hr.form;have LU:=af hb9 (jI w _ _ _);obtain⟨x0,x1,x2,x3,x4,y0,y1,y2,y3,y4⟩:=ag.c LU;have Z:Ll (_/\_):=aN (g:=w.heap.size+2) hr (ab (B3.o _ _ _) hb9) (by omega) (by simp);have ZB:Ll _:=aa (LH (ag.set LU) y a5 c5 a6 c6);have HA:=aa hy;clear hy hr hb9 LU;go_wp2_with fail
 have z0_:=ZB.o.c;refine MM (v:=.tuple #[.agg (KV y a5 c5 a6 c6),.int .i64 ye]) ?_ rfl ?_
 ·simp only[ar]at z0_;simp[results,results148,go_sem,z0_]
 ·exact⟨_,by rw[HA.o],Z.o.1,by rw[HA.o];exact Z.o.2⟩
theorem uE(o:jf)(t)(hk:o.kind=3):kZ (ep aY o.path (ax o.path) t o.value) o t:=by
 intro w ok v ov h ho hM;have H:=aa h.low;have HMM:=aa hM;obtain⟨l1,l2,l3⟩:=h.lens;obtain⟨a1,a2,c1,c2,rfl⟩:=h.form;obtain⟨o1,o2,o3,a7,a8,c7,c8,rfl,hx⟩:=ho;have HX:=aa hx.low;have q1:(o.kind == 1)=false:=by rw[hk];rfl
 have q2:(o.kind == 2)=false:=by rw[hk];rfl
 have q3:(o.kind == 3)=true:=by rw[hk];rfl
 clear h hM hx hk;have B3:Ll (∀ o1 o2 o3,La w (((w.alloc o1).alloc o2).alloc o3)):=fun o1 o2 o3=>ab (ab (ae _ _) (ae _ _)) (ae _ _);go_enter func148,ntmps148;go_wp2_with fail
 refine(JE _ (Lj ok w) t o.value _ _ o.path (by exact H.o.bel (B3.o _ _ _)) (by exact HX.o.bel (B3.o _ _ _)) o2 (by exact HMM.o.bel (B3.o _ _ _))).mono ?_;rintro e w9 ⟨r,rfl,hb9,hr⟩;obtain⟨y,hy⟩:∃ y,ep aY o.path (ax o.path) t o.value=y:=⟨_,rfl⟩
 rw[hy]at hr ⊢;obtain⟨y,ye⟩:=y;simp only at hr ⊢;obtain⟨a5,a6,c5,c6,rfl⟩:=hr.form;have LU:=af hb9 (jI w _ _ _);obtain⟨x0,x1,x2,x3,x4,y0,y1,y2,y3,y4⟩:=ag.c LU;have Z:Ll (_/\_):=aN (g:=w.heap.size+2) hr (ab (B3.o _ _ _) hb9) (by omega) (by simp);have ZB:Ll _:=aa (LH (ag.set LU) y a5 c5 a6 c6);have HA:=aa hy;clear hy hr hb9 LU;go_wp2_with fail
 have z0_:=ZB.o.c;refine MM (v:=.tuple #[.agg (KV y a5 c5 a6 c6),.int .i64 ye]) ?_ rfl ?_
 ·simp only[ar]at z0_;simp[results,results148,go_sem,z0_]
 ·exact⟨_,by rw[HA.o],Z.o.1,by rw[HA.o];exact Z.o.2⟩
theorem Fx(o:jf)(t)(hk:o.kind=4):kZ (wf t o.frm o.path) o t:=by
 intro w ok v ov h ho hM;have H:=aa h.low;have HMM:=aa hM;obtain⟨l1,l2,l3⟩:=h.lens;obtain⟨a1,a2,c1,c2,rfl⟩:=h.form;obtain⟨o1,o2,o3,a7,a8,c7,c8,rfl,hx⟩:=ho;have HX:=aa hx.low;have q1:(o.kind == 1)=false:=by rw[hk];rfl
 have q2:(o.kind == 2)=false:=by rw[hk];rfl
 have q3:(o.kind == 3)=false:=by rw[hk];rfl
 have q4:(o.kind == 4)=true:=by rw[hk];rfl
 clear h hM hx hk;have B3:Ll (∀ o1 o2 o3,La w (((w.alloc o1).alloc o2).alloc o3)):=fun o1 o2 o3=>ab (ab (ae _ _) (ae _ _)) (ae _ _);go_enter func148,ntmps148;go_wp2_with fail
 refine(F0 _ (Lj ok w) t _ o.frm o.path (by exact H.o.bel (B3.o _ _ _)) o3 o2 (by exact HMM.o.bel (B3.o _ _ _))).mono ?_;rintro e w9 ⟨r,rfl,hb9,hr⟩;obtain⟨y,hy⟩:∃ y,wf t o.frm o.path=y:=⟨_,rfl⟩
 rw[hy]at hr ⊢;obtain⟨y,ye⟩:=y;simp only at hr ⊢;obtain⟨a5,a6,c5,c6,rfl⟩:=hr.form;have LU:=af hb9 (jI w _ _ _);obtain⟨x0,x1,x2,x3,x4,y0,y1,y2,y3,y4⟩:=ag.c LU;have Z:Ll (_/\_):=aN (g:=w.heap.size+2) hr (ab (B3.o _ _ _) hb9) (by omega) (by simp);have ZB:Ll _:=aa (LH (ag.set LU) y a5 c5 a6 c6);have HA:=aa hy;clear hy hr hb9 LU;go_wp2_with fail
 have z0_:=ZB.o.c;refine MM (v:=.tuple #[.agg (KV y a5 c5 a6 c6),.int .i64 ye]) ?_ rfl ?_
 ·simp only[ar]at z0_;simp[results,results148,go_sem,z0_]
 ·exact⟨_,by rw[HA.o],Z.o.1,by rw[HA.o];exact Z.o.2⟩
theorem FH(o:jf)(t)(hk:o.kind=5):kZ (gS t o.frm o.path) o t:=by
 intro w ok v ov h ho hM;have H:=aa h.low;have HMM:=aa hM;obtain⟨l1,l2,l3⟩:=h.lens;obtain⟨a1,a2,c1,c2,rfl⟩:=h.form;obtain⟨o1,o2,o3,a7,a8,c7,c8,rfl,hx⟩:=ho;have HX:=aa hx.low;have q1:(o.kind == 1)=false:=by rw[hk];rfl
 have q2:(o.kind == 2)=false:=by rw[hk];rfl
 have q3:(o.kind == 3)=false:=by rw[hk];rfl
 have q4:(o.kind == 4)=false:=by rw[hk];rfl
 have q5:(o.kind == 5)=true:=by rw[hk];rfl
 clear h hM hx hk;have B3:Ll (∀ o1 o2 o3,La w (((w.alloc o1).alloc o2).alloc o3)):=fun o1 o2 o3=>ab (ab (ae _ _) (ae _ _)) (ae _ _);go_enter func148,ntmps148;go_wp2_with fail
 refine(DE _ (Lj ok w) t _ o.frm o.path (by exact H.o.bel (B3.o _ _ _)) o3 o2 (by exact HMM.o.bel (B3.o _ _ _))).mono ?_;rintro e w9 ⟨r,rfl,hb9,hr⟩;obtain⟨y,hy⟩:∃ y,gS t o.frm o.path=y:=⟨_,rfl⟩
 rw[hy]at hr ⊢;obtain⟨y,ye⟩:=y;simp only at hr ⊢;obtain⟨a5,a6,c5,c6,rfl⟩:=hr.form;have LU:=af hb9 (jI w _ _ _);obtain⟨x0,x1,x2,x3,x4,y0,y1,y2,y3,y4⟩:=ag.c LU;have Z:Ll (_/\_):=aN (g:=w.heap.size+2) hr (ab (B3.o _ _ _) hb9) (by omega) (by simp);have ZB:Ll _:=aa (LH (ag.set LU) y a5 c5 a6 c6);have HA:=aa hy;clear hy hr hb9 LU;go_wp2_with fail
 have z0_:=ZB.o.c;refine MM (v:=.tuple #[.agg (KV y a5 c5 a6 c6),.int .i64 ye]) ?_ rfl ?_
 ·simp only[ar]at z0_;simp[results,results148,go_sem,z0_]
 ·exact⟨_,by rw[HA.o],Z.o.1,by rw[HA.o];exact Z.o.2⟩
theorem Dj(o:jf)(t)(hk:∀ i:Int,1<=i->i<=6->o.kind≠i):kZ (t,9) o t:=by
 intro w ok v ov h ho hM;have H:=aa h.low;obtain⟨l1,l2,l3⟩:=h.lens;obtain⟨a1,a2,c1,c2,rfl⟩:=h.form;obtain⟨o1,o2,o3,a7,a8,c7,c8,rfl,hx⟩:=ho;have q:∀ i:Int,1<=i->i<=6->(o.kind == i)=false:=fun i h1 h2=>by rw[MO];exact hk i h1 h2
 have q1:=q 1 (by omega) (by omega);have q2:=q 2 (by omega) (by omega);have q3:=q 3 (by omega) (by omega);have q4:=q 4 (by omega) (by omega);have q5:=q 5 (by omega) (by omega);have q6:=q 6 (by omega) (by omega);have HB:Ll (La w (((w.alloc (.cells (KV t a1 c1 a2 c2) 32)).alloc (.cells (Lg o a7 c7 a8 c8) 186)).alloc (.cells (KV t a1 c1 a2 c2) 32))):=ab (ab (ae _ _) (ae _ _)) (ae _ _);have K:=aa ((H.o.bel HB.o).weak (oH));clear h hM hx hk q;go_enter func148,ntmps148;go_wp2_with fail
 refine MM (v:=.tuple #[.agg (KV t a1 c1 a2 c2),.int .i64 9]) ?_ rfl ?_
 ·simp[results,results148,go_sem]
 ·exact⟨_,rfl,HB.o,K.o⟩
def lF (f:V->jf->V × Int):List jf->V->V × Int
 | [],t=>(t,0)
 | o :: os,t=>if (f t o).2≠0 then (t,(f t o).2) else lF f os (f t o).1
def qU (f:V->jf->V × Int) (os:List jf) (t:V):V × Int:=
 if 20 < os.length then (t,2) else if (lF f os t).2≠0 then (t,(lF f os t).2) else ((lF f os t).1,0)
def qb (f:V->jf->V × Int):List jf->V->Prop
 | [],_=>True
 | o :: os,t=>kZ (f t o) o t/\((f t o).2=0->qb f os (f t o).1)
def Jr (w:LC) (ok:Nat->Prop) (f:V->jf->V × Int) (os:List jf) (t:V) (a1 a2:Option Addr) (c1 c2 k:Nat) (wr:LC):Prop:=
 ∃ (y:V) (a5 a6:Option Addr) (c5 c6:Nat),lF f os t=lF f (os.drop k) y/\qb f (os.drop k) y/\KY wr w.heap.size t a1 c1 a2 c2/\Lc wr (w.heap.size+1)/\KY wr (w.heap.size+2) y a5 c5 a6 c6/\La w wr/\In wr (bg ok w.heap.size (w.heap.size+3)) y (.agg (KV y a5 c5 a6 c6))
theorem eX.item{os:List jf}{a m}(h:eX w ok os (.slice a m c))(hk:k < os.length):∃ (b off:Nat) (a7 a8:Option Addr) (c7 c8:Nat),a=some ⟨b,off,none⟩/\os.length<=c/\c<=9223372036854775807 /\
 w.cell? ⟨b,off+k * 8,none⟩=some (.int .i64 os[k].kind)/\w.cell? ⟨b,off+k * 8+1,none⟩=some (.string ⟨os[k].path.toArray⟩)/\w.cell? ⟨b,off+k * 8+2,none⟩=some (.string ⟨os[k].frm.toArray⟩)/\w.cell? ⟨b,off+k * 8+3,none⟩=some (.int .i64 os[k].value.kind) /\
 w.cell? ⟨b,off+k * 8+4,none⟩=some (.int .i64 os[k].value.n)/\w.cell? ⟨b,off+k * 8+5,none⟩=some (.string ⟨os[k].value.s.toArray⟩)/\w.cell? ⟨b,off+k * 8+6,none⟩=some (.slice a7 os[k].value.keys.length c7)/\w.cell? ⟨b,off+k * 8+7,none⟩=some (.slice a8 os[k].value.l.length c8)/\od w ok os[k] (.agg #[.int .i64 os[k].kind,.string ⟨os[k].path.toArray⟩,.string ⟨os[k].frm.toArray⟩,.int .i64 os[k].value.kind,.int .i64 os[k].value.n,.string ⟨os[k].value.s.toArray⟩,.slice a7 os[k].value.keys.length c7,.slice a8 os[k].value.l.length c8]):=by
 rcases h.2 with⟨e,_⟩ | ⟨b,off,c',e,h1,h2,Mb⟩
 ·rw[e]at hk;simp at hk
 ·simp only[Value.slice.injEq]at e;obtain⟨rfl,-,rfl⟩:=e;obtain⟨v0,v1,v2,v3,v4,v5,v6,v7,-,g0,g1,g2,g3,g4,g5,g6,g7,g8⟩:=Mb k os[k] (Mw hk);have g9:=g8;obtain⟨o1,o2,o3,a7,a8,c7,c8,e,-⟩:=g8;simp only[Value.agg.injEq,Array.mk.injEq,List.cons.injEq,and_true]at e;obtain⟨rfl,rfl,rfl,rfl,rfl,rfl,rfl,rfl⟩:=e;exact⟨b,off,a7,a8,c7,c8,rfl,h1,h2,g0,g1,g2,g3,g4,g5,g6,g7,g9⟩
theorem JF(f:V->jf->V × Int)(w:LC)(ok t)(os:List jf)(v ov)(h:In w ok t v)(ho:eX w ok os ov)(hM:bj w)(hok:os.length<=20->qb f os t):Calls prog 114 #[v,ov] w fun e w'=>∃ r,e=.returned (.tuple #[r,.int .i64 (qU f os t).2])/\La w w'/\In w' (bQ ok w.heap.size) (qU f os t).1 r:=by
 have H:=aa h.low;have HMM:=aa hM;have HOS:=aa ho;have olen:=ho.1;obtain⟨l1,l2,l3⟩:=h.lens;obtain⟨a1,a2,c1,c2,rfl⟩:=h.form;obtain⟨oa,oc,rfl⟩:=ho.form;clear h hM ho;by_cases h20:20 < os.length
 ·have e0:(20:Int) < (os.length:Int):=by omega
  have HA:Ll (qU f os t=(t,2)):=aa (by unfold qU;rw[if_pos h20]);have HB:Ll (La w ((w.alloc (.cells (KV t a1 c1 a2 c2) 32)).alloc (.cells (KV t a1 c1 a2 c2) 32))):=ab (ae _ _) (ae _ _);have K:=aa ((H.o.bel HB.o).weak (oH));clear h20 hok;go_enter func114,ntmps114;go_wp2_with fail
  refine MM (v:=.tuple #[.agg (KV t a1 c1 a2 c2),.int .i64 2]) ?_ rfl ?_
  ·simp[results,results114,go_sem]
  ·refine⟨_,by rw[HA.o],HB.o,?_⟩;rw[HA.o];exact K.o
 ·have e0:¬((20:Int) < (os.length:Int)):=by omega
  have HR:Ll (qU f os t=if (lF f os t).2≠0 then (t,(lF f os t).2) else ((lF f os t).1,0)):=aa (by unfold qU;rw[if_neg h20]);have B3:Ll (∀ o1 o2 o3,La w (((w.alloc o1).alloc o2).alloc o3)):=fun o1 o2 o3=>ab (ab (ae _ _) (ae _ _)) (ae _ _);have S0:Ll (∀ W:LC,W=((w.alloc (.cells (KV t a1 c1 a2 c2) 32)).alloc (.cells Lb 32)).alloc (.cells (KV t a1 c1 a2 c2) 32)->Jr w ok f os t a1 a2 c1 c2 0 W):=by
   rintro W rfl;exact⟨t,a1,a2,c1,c2,rfl,hok (by omega),lI w _ _ _,mE w _ _ _,jI w _ _ _,B3.o _ _ _,(H.o.bel (B3.o _ _ _)).weak aO⟩
  clear hok h20;go_enter func114,ntmps114;go_wp2_with fail
  go_loopg [18] os.length (fun gk i wr=>∃ k:Nat,k<=os.length/\gk=os.length - k/\i=.int .i64 k/\Jr w ok f os t a1 a2 c1 c2 k wr)
  case atStart=>exact⟨0,Nat.zero_le _,rfl,rfl,S0.o _ rfl⟩
  case round=>
   obtain⟨k,hk,hgk,rfl,y,a5,a6,c5,c6,i1,i2,i3,i4,i5,i6,i7⟩:=hrel;have GK:=aa hgk;have I:Ll (lF f os t=lF f (os.drop k) y/\qb f (os.drop k) y/\KY wr w.heap.size t a1 c1 a2 c2/\Lc wr (w.heap.size+1)/\KY wr (w.heap.size+2) y a5 c5 a6 c6/\La w wr/\In wr (bg ok w.heap.size (w.heap.size+3)) y (.agg (KV y a5 c5 a6 c6))):=⟨i1,i2,i3,i4,i5,i6,i7⟩
   have hwsz:=i5.lt;clear hgk i1 i2 i3 i4 i5 i6 i7;by_cases hlt:k < os.length
   ·obtain⟨b,off,a7,a8,c7,c8,rfl,hc1,hc2,g0,g1,g2,g3,g4,g5,g6,g7,g8⟩:=HOS.o.item hlt;have OK:=aa (g8.low);replace g0:=ah I.o.2.2.2.2.2.1 g0;replace g1:=ah I.o.2.2.2.2.2.1 g1;replace g2:=ah I.o.2.2.2.2.2.1 g2;replace g3:=ah I.o.2.2.2.2.2.1 g3;replace g4:=ah I.o.2.2.2.2.2.1 g4;replace g5:=ah I.o.2.2.2.2.2.1 g5;replace g6:=ah I.o.2.2.2.2.2.1 g6;replace g7:=ah I.o.2.2.2.2.2.1 g7;have RS:Ll (lF f (os.drop k) y=if (f y os[k]).2≠0 then (y,(f y os[k]).2) else lF f (os.drop (k+1)) (f y os[k]).1):=aa (by rw[ME hlt,lF]);have AO:Ll (kZ (f y os[k]) os[k] y/\((f y os[k]).2=0->qb f (os.drop (k+1)) (f y os[k]).1)):=aa (by have:=I.o.2.1;rw[ME hlt,qb]at this;exact this);have hb8:=ae wr (.cells #[.int .i64 os[k].kind,.string ⟨os[k].path.toArray⟩,.string ⟨os[k].frm.toArray⟩,.int .i64 os[k].value.kind,.int .i64 os[k].value.n,.string ⟨os[k].value.s.toArray⟩,.slice a7 os[k].value.keys.length c7,.slice a8 os[k].value.l.length c8] 186);obtain⟨p0,p1,p2,p3,p4,-⟩:=(af hb8 I.o.2.2.2.2.1).c;clear g8;go_wp2_with fail
    refine(AO.o.1 _ (bg ok w.heap.size (w.heap.size+3)) _ _ (by exact I.o.2.2.2.2.2.2.bel (ae _ _)) (by exact(OK.o.bel (ab I.o.2.2.2.2.2.1 (ae _ _))).weak aO) (by exact HMM.o.bel (ab I.o.2.2.2.2.2.1 (ae _ _)))).mono ?_;rintro e w2 ⟨r,rfl,hb2,hr⟩;obtain⟨q,hq⟩:∃ q,f y os[k]=q:=⟨_,rfl⟩
    rw[hq]at hr AO RS ⊢;obtain⟨z,ze⟩:=q;simp only at hr AO RS ⊢;obtain⟨a3,a4,c3,c4,rfl⟩:=hr.form;have LW:=ab (ab hb8 hb2) (ae w2 (.cells (KV z a3 c3 a4 c4) 32));have hr':In (w2.alloc (.cells (KV z a3 c3 a4 c4) 32)) (bg ok w.heap.size (w.heap.size+3)) z (.agg (KV z a3 c3 a4 c4)):=(hr.bel (ae _ _)).weak (fun j hj=>by
     rcases hj with hj | hj
     ·exact hj
     ·have:=hb8.size;exact .inr (by omega))
    have K:Ll (KY (w2.alloc (.cells (KV z a3 c3 a4 c4) 32)) w.heap.size t a1 c1 a2 c2/\Lc (w2.alloc (.cells (KV z a3 c3 a4 c4) 32)) (w.heap.size+1)/\KY (w2.alloc (.cells (KV z a3 c3 a4 c4) 32)) (w.heap.size+2) y a5 c5 a6 c6/\La w (w2.alloc (.cells (KV z a3 c3 a4 c4) 32))/\In (w2.alloc (.cells (KV z a3 c3 a4 c4) 32)) (bg ok w.heap.size (w.heap.size+3)) z (.agg (KV z a3 c3 a4 c4))/\KY (w2.alloc (.cells (KV z a3 c3 a4 c4) 32)) w2.heap.size z a3 c3 a4 c4):=⟨af LW I.o.2.2.1,af LW I.o.2.2.2.1,af LW I.o.2.2.2.2.1,ab I.o.2.2.2.2.2.1 LW,hr',MN w2 _⟩
    clear hq hr hr' hb2 LW hb8 g0 g1 g2 g3 g4 g5 g6 g7;by_cases hze:ze=0
    ·subst hze;have FIN:Ll (Jr w ok f os t a1 a2 c1 c2 (k+1) (LG (w2.alloc (.cells (KV z a3 c3 a4 c4) 32)) (w.heap.size+2) z a3 c3 a4 c4)):=by
      have g1:=aI (w2.alloc (.cells (KV z a3 c3 a4 c4) 32)) (w.heap.size+2) (.int .i64 z.kind) (.int .i64 z.n) (.string ⟨z.s.toArray⟩) (.slice a3 z.keys.length c3) (.slice a4 z.l.length c4);refine⟨z,a3,a4,c3,c4,?_,AO.o.2 rfl,K.o.1.grown g1 (by simp),K.o.2.1.grown g1 (by simp),K.o.2.2.1.set _ _ _ _ _,aP K.o.2.2.2.1 (by omega) _ _ _ _ _,K.o.2.2.2.2.1.box (by omega) (by omega) _ _ _ _ _⟩;rw[I.o.1,RS.o];simp
     obtain⟨p0,p1,p2,p3,p4,p5,p6,p7,p8,p9⟩:=K.o.2.2.1.c;have q0_:=K.o.2.2.2.2.2.c;clear K;go_wp2_with fail
     go_roundg (os.length - (k+1))
     case measure=>rw[GK.o];omega
     case rel=>exact⟨k+1,hlt,rfl,by go_num,FIN.o⟩
    ·have e1:(ze != 0)=true:=by rw[bne_iff_ne];exact hze
     have e2:(ze == 0)=false:=by rw[MO];exact hze
     have HZE:=aa hze;clear hze;obtain⟨p0,p1,p2,p3,p4,-⟩:=(K.o.1).c;have x0_:=(K.o.2.1).c;have Z:Ll (_/\_):=aN (C:=((w2.alloc (.cells (KV z a3 c3 a4 c4) 32))).heap.size) (g:=w.heap.size+1) ((H.o.bel K.o.2.2.2.1).weak (aO (C:=((w2.alloc (.cells (KV z a3 c3 a4 c4) 32))).heap.size))) K.o.2.2.2.1 (by omega) (K.o.2.1).lt;have ZB:Ll _:=aa ((K.o.2.1).set (.int .i64 t.kind) (.int .i64 t.n) (.string ⟨t.s.toArray⟩) (.slice a1 t.keys.length c1) (.slice a2 t.l.length c2));have HA:Ll (qU f os t=(t,ze)):=aa (by rw[HR.o,I.o.1,RS.o,if_pos HZE.o];simp only;rw[if_pos HZE.o]);clear K;go_wp2_with fail
     have z0_:=ZB.o.c;refine MM (v:=.tuple #[.agg (KV t a1 c1 a2 c2),.int .i64 ze]) ?_ rfl ?_
     ·simp only[ar]at z0_;simp[results,results114,go_sem,z0_]
     ·refine⟨_,by rw[HA.o],Z.o.1,?_⟩;rw[HA.o];exact Z.o.2
   ·have Mc:k=os.length:=by omega
    subst Mc;have HA:Ll (qU f os t=(y,0)):=aa (by rw[HR.o,I.o.1,List.drop_length];simp[lF]);obtain⟨p0,p1,p2,p3,p4,-⟩:=I.o.2.2.2.2.1.c;have x0_:=I.o.2.2.2.1.c;have Z:Ll (_/\_):=aN (g:=w.heap.size+1) I.o.2.2.2.2.2.2 I.o.2.2.2.2.2.1 (by omega) (by omega);have ZB:Ll _:=aa (LH I.o.2.2.2.1.set y a5 c5 a6 c6);go_wp2_with fail
    have z0_:=ZB.o.c;refine MM (v:=.tuple #[.agg (KV y a5 c5 a6 c6),.int .i64 0]) ?_ rfl ?_
    ·simp only[ar]at z0_;simp[results,results114,go_sem,z0_]
    ·refine⟨_,by rw[HA.o],Z.o.1,?_⟩;rw[HA.o];exact Z.o.2
def vE:Prop:=∀ (w:LC) (ok ok':Nat->Prop) (a b:V) (va vb:Value),In w ok a va->In w ok' b vb->dz a ->
 Calls prog 32 #[va,vb] w fun e w'=>∃ r,e=.returned (.bool r)/\(r=true↔a=b)/\La w w'
open Classical in
noncomputable def j8 (t:V) (p:Lz) (x:V):Int:=if (fP (ax p) t).2≠0 then (fP (ax p) t).2 else if (fP (ax p) t).1=x then 0 else 4
theorem Hdq(hS:vE)(w:LC)(ok t x v xv p)(h:In w ok t v)(hx:In w ok x xv)(hp:p.length<=140737488351232)(hM:bj w):Calls prog 183 #[v,aR p,xv] w fun e w'=>e=.returned (.int .i64 (j8 t p x))/\La w w':=by
 have H:=aa h;have HX:=aa hx;have HS:=aa hS;have HMM:=aa hM;obtain⟨l1,l2,l3⟩:=h.lens;obtain⟨a1,a2,c1,c2,rfl⟩:=h.form;obtain⟨a7,a8,c7,c8,rfl⟩:=hx.form;clear h hx hM hS;have B2:Ll (∀ o1 o2,La w ((w.alloc o1).alloc o2)):=fun o1 o2=>ab (ae _ _) (ae _ _);go_enter func183,ntmps183;go_wp2_with fail
 refine(zD _ ok t _ p (by exact H.o.bel (B2.o _ _)) hp (by exact HMM.o.bel (B2.o _ _))).mono ?_;rintro e w1 ⟨r,rfl,hb1,hr⟩;obtain⟨g,hg⟩:∃ g,fP (ax p) t=g:=⟨_,rfl⟩
 rw[hg]at hr ⊢;obtain⟨y,ye⟩:=g;simp only at hr ⊢;obtain⟨a5,a6,c5,c6,rfl⟩:=hr.form;have HG:=aa hg;have LW:=ab hb1 (ae w1 (.cells (KV y a5 c5 a6 c6) 32));have K:Ll (KY (w1.alloc (.cells (KV y a5 c5 a6 c6) 32)) (w.heap.size+1) x a7 c7 a8 c8/\KY (w1.alloc (.cells (KV y a5 c5 a6 c6) 32)) w1.heap.size y a5 c5 a6 c6/\In (w1.alloc (.cells (KV y a5 c5 a6 c6) 32)) ok y (.agg (KV y a5 c5 a6 c6))/\La w (w1.alloc (.cells (KV y a5 c5 a6 c6) 32))):=⟨af LW (et w _ _),MN w1 _,hr.bel (ae _ _),ab (B2.o _ _) LW⟩
 clear hg hr hb1 LW;by_cases hye:ye=0
 ·subst hye;have hnice:Ll (dz y):=aa (by obtain⟨q1,q2,q3⟩:=uu HG.o;exact pU _ _ _ (dQ q1) q3);have p0_:=K.o.1.c;have r0_:=K.o.2.1.c;go_wp2_with fail
  refine(HS.o _ ok ok y x _ _ (by exact K.o.2.2.1) (by exact HX.o.bel K.o.2.2.2) hnice.o).mono ?_;rintro e w2 ⟨b,rfl,hbi,hb2⟩;have B3:=aa (ab K.o.2.2.2 hb2);clear hb2 K;cases b with
  | true=>
   have HR:Ll (j8 t p x=0):=aa (by unfold j8;rw[HG.o];simp[hbi.1 rfl]);clear hbi;go_wp2_with fail
   go_ret;exact⟨by rw[HR.o];rfl,B3.o⟩
  | false=>
   have HR:Ll (j8 t p x=4):=aa (by
    have:¬y=x:=fun e=>by have:=hbi.2 e;cases this
    unfold j8;rw[HG.o];simp[this])
   clear hbi;go_wp2_with fail
   go_ret;exact⟨by rw[HR.o];rfl,B3.o⟩
 ·have e1:(ye != 0)=true:=by rw[bne_iff_ne];exact hye
  have e2:(ye == 0)=false:=by rw[MO];exact hye
  have HR:Ll (j8 t p x=ye):=aa (by unfold j8;rw[HG.o];simp[hye]);clear hye;go_wp2_with fail
  go_ret;exact⟨by rw[HR.o];rfl,K.o.2.2.2⟩
theorem E7(hS:vE)(o:jf)(t)(hk:o.kind=6):kZ (t,j8 t o.path o.value) o t:=by
 intro w ok v ov h ho hM;have H:=aa h.low;have HMM:=aa hM;have HS:=aa hS;obtain⟨l1,l2,l3⟩:=h.lens;obtain⟨a1,a2,c1,c2,rfl⟩:=h.form;obtain⟨o1,o2,o3,a7,a8,c7,c8,rfl,hx⟩:=ho;have HX:=aa hx.low;have q1:(o.kind == 1)=false:=by rw[hk];rfl
 have q2:(o.kind == 2)=false:=by rw[hk];rfl
 have q3:(o.kind == 3)=false:=by rw[hk];rfl
 have q4:(o.kind == 4)=false:=by rw[hk];rfl
 have q5:(o.kind == 5)=false:=by rw[hk];rfl
 have q6:(o.kind == 6)=true:=by rw[hk];rfl
 clear h hM hx hk hS;have con:Ll (∀ W,W.heap=(((w.alloc (.cells (KV t a1 c1 a2 c2) 32)).alloc (.cells (Lg o a7 c7 a8 c8) 186)).alloc (.cells Lb 32)).heap->W.os=w.os->W.tape=w.tape->W.output=w.output ->
  Calls prog 183 #[.agg (KV t a1 c1 a2 c2),.string ⟨o.path.toArray⟩,.agg (KV o.value a7 c7 a8 c8)] W fun e w'=>e=.returned (.int .i64 (j8 t o.path o.value))/\KY w' w.heap.size t a1 c1 a2 c2/\Lc w' (w.heap.size+2)/\La w w'):=by
  intro W e1 e2 e3 e4;have LY:=tS e1 e2 e3 e4;refine Lk (Hdq HS.o W (Lj ok w) t o.value _ _ o.path (H.o.bel LY) (HX.o.bel LY) o2 (HMM.o.bel LY)) fun w' hb=>?_;exact⟨rfl,af hb (by unfold ag;rw[e1];exact lI w _ _ _),af hb (by unfold ag;rw[e1];exact jI w _ _ _),ab LY hb⟩
 go_enter func148,ntmps148;go_upto_region 13 with fail
 go_region_with ((go_at_call 183;refine(con.o _ (by rfl) (by rfl) (by rfl) (by rfl)).mono ?_;rintro e w2 ⟨rfl,k1,k2,k3⟩;have p0_:=k1.c;have x0_:=k2.c;have Z:=aa (aN (C:=w2.heap.size) (g:=w.heap.size+2) ((H.o.bel k3).weak (aO (C:=w2.heap.size))) k3 (by omega) k2.lt);have ZB:=aa (LH k2.set t a1 c1 a2 c2);clear k1 k2 k3))
 all_goals
  go_wp2_with fail
  have z0_:=ZB.o.c;refine MM (v:=.tuple #[.agg (KV t a1 c1 a2 c2),.int .i64 (j8 t o.path o.value)]) ?_ rfl ?_
  ·simp only[ar]at z0_;simp[results,results148,go_sem,z0_]
  ·exact⟨_,rfl,Z.o.1,Z.o.2⟩
noncomputable def Ce (t:V) (o:jf):V × Int:=
 if o.kind=1 then ep bL o.path (ax o.path) t o.value else if o.kind=2 then aX ch (ax o.path) t else if o.kind=3 then ep aY o.path (ax o.path) t o.value
 else if o.kind=4 then wf t o.frm o.path else if o.kind=5 then gS t o.frm o.path else if o.kind=6 then (t,j8 t o.path o.value) else (t,9)
theorem Jl(hS:vE)(t)(o:jf):kZ (Ce t o) o t:=by
 unfold Ce;split
 ·exact GQ o t (by assumption)
 split
 ·exact xM o t (by assumption)
 split
 ·exact uE o t (by assumption)
 split
 ·exact Fx o t (by assumption)
 split
 ·exact FH o t (by assumption)
 split
 ·exact E7 hS o t (by assumption)
 ·refine Dj o t fun i h1 h2=>?_;rcases (show i=1\/i=2\/i=3\/i=4\/i=5\/i=6 by omega) with rfl | rfl | rfl | rfl | rfl | rfl <;> assumption
theorem Er(hS:vE):∀ (os:List jf) (t:V),qb Ce os t
 | [],_=>trivial
 | o :: os,t=>⟨Jl hS t o,fun _=>Er hS os _⟩
structure Th where
 name:Lz
 value:V
 owners:List aL
 ver:Int
 gen:Int
 st:dI
abbrev Ld (t:Th) (a:Option Addr) (c:Nat) (b:Option Addr) (d:Nat) (oa:Option Addr) (oc:Nat):Array Value:=#[.string ⟨t.name.toArray⟩,.int .i64 t.value.kind,.int .i64 t.value.n,.string ⟨t.value.s.toArray⟩,.slice a t.value.keys.length c,.slice b t.value.l.length d,.slice oa t.owners.length oc,.int .i64 t.ver,.int .i64 t.gen,.string ⟨t.st.a.toArray⟩,.string ⟨t.st.c.toArray⟩,.int .i64 t.st.ph,.int .i64 t.st.st,.int .i64 t.st.we,.int .i64 t.st.si]
structure Nu where
 ths:List Th
 time:Int
 ver:Int
 acts:Int
structure cm where
 kind:Int
 name:Lz
 who:Lz
 body:Lz
 version:Int
 n:Int
 order:Int
 force:Bool
abbrev Lf (t:cm):Array Value:=#[.int .i64 t.kind,.string ⟨t.name.toArray⟩,.string ⟨t.who.toArray⟩,.string ⟨t.body.toArray⟩,.int .i64 t.version,.int .i64 t.n,.int .i64 t.order,.bool t.force]
structure uf where
 code:Int
 n:Int
 body:Lz
def bz (e:Int):uf:=⟨e,0,[]⟩
def vm:Nu:=⟨[],0,0,0⟩
noncomputable def bW (v:V) (kind:Int) (body:V):V × Int:=
 if kind=3 then ge v body
 else if kind=4 then (if (cU body).2≠0 then (v,(cU body).2) else qU Ce (cU body).1 v)
 else (body,0)
noncomputable def aJ (t:Th) (a:cm):V × List aL × Int:=
 if (cW a.body).2≠0 then (t.value,t.owners,(cW a.body).2)
 else if a.kind=5 then ((eC t.value t.owners a.who (cW a.body).1 a.force).1,(eC t.value t.owners a.who (cW a.body).1 a.force).2.1,(eC t.value t.owners a.who (cW a.body).1 a.force).2.2.2)
 else if (bW t.value a.kind (cW a.body).1).2≠0 then (t.value,t.owners,(bW t.value a.kind (cW a.body).1).2)
 else ((bW t.value a.kind (cW a.body).1).1,ir (bW t.value a.kind (cW a.body).1).1 t.owners,0)
def dA (time:Int) (t:Th) (order:Int):dI × Int:=ij (bE t.value).1 (bE t.value).2 t.st time order
open Classical in
noncomputable def jw (time ver:Int) (t:Th) (v:V) (os:List aL):Th × Int:=
 let other:=t.gen=0\/v≠t.value
 let ver':=if other\/os≠t.owners then ver+1 else ver
 let st0:=if t.gen=0 then (fV (bE v).1 (bE v).2).1 else t.st
 (⟨t.name,v,os,if other\/os≠t.owners then ver+1 else t.ver,if other then t.gen+1 else t.gen,(ij (bE v).1 (bE v).2 st0 time 0).1⟩,ver')
noncomputable def al (time ver:Int) (t:Th) (a:cm):Th × Int × Int:=
 if (aJ t a).2.2≠0 then (t,ver,(aJ t a).2.2)
 else if cI (aJ t a).1≠0 then (t,ver,cI (aJ t a).1)
 else ((jw time ver t (aJ t a).1 (aJ t a).2.1).1,(jw time ver t (aJ t a).1 (aJ t a).2.1).2,0)
def ci (l:List Th) (n:Lz):Nat:=l.countP fun t=>Op.bytesLess t.name n
def dR (l:List Th) (n:Lz):Bool:=l.any fun t=>t.name == n
def cj (len:Nat) (kind:Int) (there:Bool):Int:=
 let begins:=kind=1\/kind=5/\there=false
 if begins/\there=true then 6 else if begins/\len=8 then 10 else if ¬begins/\there=false then 3 else 0
def eT (n:Lz):Th:=⟨n,jM,[],0,0,⟨[],[],0,0,0,0⟩⟩
noncomputable def dD (s:Nu) (a:cm):Nu × uf:=
 let i:=ci s.ths a.name
 let e:=cj s.ths.length a.kind (dR s.ths a.name)
 if e≠0 then (s,bz e)
 else match s.ths[i]? with
  | some t=>
   if dR s.ths a.name=false then
    (if (al s.time s.ver (eT a.name) a).2.2≠0 then (s,bz (al s.time s.ver (eT a.name) a).2.2)
    else ({ s with ths:=s.ths.take i++(al s.time s.ver (eT a.name) a).1 :: s.ths.drop i,ver:=(al s.time s.ver (eT a.name) a).2.1 },⟨0,(al s.time s.ver (eT a.name) a).1.ver,[]⟩))
   else if a.kind=6 then ({ s with ths:=s.ths.eraseIdx i },⟨0,t.ver,[]⟩)
   else if a.kind=7 then
    (if (dA s.time t a.order).2≠0 then (s,bz (dA s.time t a.order).2) else ({ s with ths:=s.ths.set i { t with st:=(dA s.time t a.order).1 } },⟨0,(dA s.time t a.order).1.ph,[]⟩))
   else if a.kind=9 then (s,if (eP 12 t.value).2≠0 then bz (eP 12 t.value).2 else ⟨0,t.ver,(eP 12 t.value).1⟩)
   else if a.kind≠5/\a.version≠0/\a.version≠t.ver then (s,bz 7)
   else if (al s.time s.ver t a).2.2≠0 then (s,bz (al s.time s.ver t a).2.2)
   else ({ s with ths:=s.ths.set i (al s.time s.ver t a).1,ver:=(al s.time s.ver t a).2.1 },⟨0,(al s.time s.ver t a).1.ver,[]⟩)
  | none=>
   (if (al s.time s.ver (eT a.name) a).2.2≠0 then (s,bz (al s.time s.ver (eT a.name) a).2.2)
   else ({ s with ths:=s.ths++[(al s.time s.ver (eT a.name) a).1],ver:=(al s.time s.ver (eT a.name) a).2.1 },⟨0,(al s.time s.ver (eT a.name) a).1.ver,[]⟩))
def iz (s:Nu) (n:Int):Nu × uf:=
 if n < 1\/1099511627776 - s.time < n then (s,bz 8)
 else ({ s with time:=s.time+n,ths:=s.ths.map fun t=>{ t with st:=(dA (s.time+n) t 0).1 } },⟨0,0,[]⟩)
noncomputable def je (s:Nu) (a:cm):Nu × uf:=
 if s.acts=300 then (s,bz 10)
 else
  let s':Nu:={ s with acts:=s.acts+1 }
  if a.kind < 1\/9 < a.kind then (s',bz 9)
  else if a.kind=8 then iz s' a.n
  else if bT a.name=false then (s',bz 1)
  else dD s' a
variable {i:Nat}
def fT (l:List aL):Prop:=∀ o∈l,o.paths.length<=200
theorem sx:∀ (l:List aL),fT l->(bA l).length<=l.length * 200
 | [],_=>by simp[bA]
 | o :: l,h=>by
  have h1:=sx l fun x hx=>h x (by simp[hx]);have h2:=h o (by simp);have e:bA (o :: l)=o.paths.map (fun p=>(o.name,p))++bA l:=by simp[bA]
  rw[e,Mx,List.length_map,My];omega
theorem wM{stays:Lz->Lz->Bool}{l}(h:fT l):fT (dV stays l):=by
 intro o ho;obtain⟨x,hx,rfl,-⟩:=oE ho;exact MH (List.length_filter_le _ _) (h x hx)
theorem Gr{l o}(h:fT l)(ho:o.paths.length<=200):fT (bP l o):=by
 intro x hx;unfold bP at hx;split at hx
 ·exact h x hx
 ·rw[List.mem_append,List.mem_cons]at hx;rcases hx with hx | rfl | hx
  ·exact h x (List.mem_of_mem_take hx)
  ·exact ho
  ·exact h x (List.mem_of_mem_drop hx)
theorem Cs{v l}(h:bp l=true)(hl:fT l):bp (ir v l)=true/\fT (ir v l):=by
 unfold ir;split
 ·obtain⟨k1,k2⟩:=kI (stays:=fun _ p=>(dr (aw p) v).isSome) h;refine⟨?_,wM hl⟩;unfold bp;rw[MJ,MJ,decide_eq_true_eq,List.all_eq_true,gZ];refine⟨⟨?_,fun o ho=>?_⟩,k2⟩
  ·have h6:=(gz h).1;unfold dV;exact MH (List.length_filter_le _ _) (by simpa using h6)
  ·unfold ol;rw[MJ];exact k1 o ho
 ·exact⟨rfl,by intro o ho;cases ho⟩
theorem uT{t}{a:cm}(h:bp t.owners=true)(hl:fT t.owners)(he:(aJ t a).2.2=0):bp (aJ t a).2.1=true/\fT (aJ t a).2.1:=by
 by_cases h1:(cW a.body).2≠0
 ·exfalso;unfold aJ at he;rw[if_pos h1]at he;exact h1 he
 ·by_cases h5:a.kind=5
  ·obtain⟨w,m,c,e,hap⟩:∃ w m c e,eC t.value t.owners a.who (cW a.body).1 a.force=(w,m,c,e):=⟨_,_,_,_,rfl⟩
   have R:aJ t a=(w,m,e):=by unfold aJ;rw[if_neg h1,if_pos h5,hap]
   rw[R]at he ⊢;simp only at he ⊢;subst he;obtain⟨g,-,-⟩:=yZ hap;obtain⟨A,-,hm,-⟩:=ug hap;have O:=Ay a.who A.vk A.vg A.wk A.wg A.lg;exact⟨g,by rw[hm];exact Gr (wM hl) O.lvn⟩
  ·by_cases h2:(bW t.value a.kind (cW a.body).1).2≠0
   ·exfalso;unfold aJ at he;rw[if_neg h1,if_neg h5,if_pos h2]at he;exact h2 he
   ·have R:aJ t a=((bW t.value a.kind (cW a.body).1).1,ir (bW t.value a.kind (cW a.body).1).1 t.owners,0):=by unfold aJ;rw[if_neg h1,if_neg h5,if_neg h2]
    rw[R];exact Cs h hl
theorem lq{v}(h:cI v=0):aE v=true:=by
 unfold cI eY at h;cases hg:aE v with
 | true=>rfl
 | false=>rw[hg]at h;simp at h
structure jA (ver:Int) (t:Th):Prop where
 name:bT t.name=true
 rd:cI t.value=0
 own:bp t.owners=true
 lim:fT t.owners
 gen:0 < t.gen/\t.gen<=t.ver
 ver:t.ver<=ver
structure dP (s:Nu):Prop where
 time:0<=s.time/\s.time<=1099511627776
 ver:0<=s.ver/\s.ver<=s.acts
 acts:s.acts<=300
 len:s.ths.length<=8
 rise:bD (s.ths.map Th.name)
 ths:∀ t∈s.ths,jA s.ver t
theorem AW:dP vm:=⟨by decide,by decide,by decide,by decide,List.Pairwise.nil,by intro t ht;cases ht⟩
theorem jA.more{ver ver' t}(h:jA ver t)(hv:ver<=ver'):jA ver' t:=⟨h.name,h.rd,h.own,h.lim,h.gen,Int.le_trans h.ver hv⟩
theorem jA.sta{ver t}(h:jA ver t)(s):jA ver { t with st:=s }:=⟨h.name,h.rd,h.own,h.lim,h.gen,h.ver⟩
theorem mC{time ver t}{a:cm}(hn:bT t.name=true)(ho:bp t.owners=true)(hl:fT t.owners)(hv:0<=ver)(hg:t.gen=0\/0 < t.gen/\t.gen<=t.ver/\t.ver<=ver)(he:(al time ver t a).2.2=0):(al time ver t a).1.name=t.name/\jA (al time ver t a).2.1 (al time ver t a).1/\ver<=(al time ver t a).2.1/\(al time ver t a).2.1<=ver+1:=by
 by_cases h1:(aJ t a).2.2≠0
 ·exfalso;unfold al at he;rw[if_pos h1]at he;exact h1 he
 ·by_cases h2:cI (aJ t a).1≠0
  ·exfalso;unfold al at he;rw[if_neg h1,if_pos h2]at he;exact h2 he
  ·have R:al time ver t a=((jw time ver t (aJ t a).1 (aJ t a).2.1).1,(jw time ver t (aJ t a).1 (aJ t a).2.1).2,0):=by unfold al;rw[if_neg h1,if_neg h2]
   have h2':cI (aJ t a).1=0:=by simpa using h2
   obtain⟨g1,g2⟩:=uT (a:=a) ho hl (by simpa using h1);rw[R];simp only[jw];by_cases ho:t.gen=0\/(aJ t a).1≠t.value
   ·have ho2:(t.gen=0\/(aJ t a).1≠t.value)\/(aJ t a).2.1≠t.owners:=.inl ho;simp only[if_pos ho,if_pos ho2];exact⟨trivial,⟨hn,h2',g1,g2,by simp only;omega,by simp only;omega⟩,by omega,by omega⟩
   ·by_cases ho3:(aJ t a).2.1≠t.owners
    ·have ho2:(t.gen=0\/(aJ t a).1≠t.value)\/(aJ t a).2.1≠t.owners:=.inr ho3;simp only[if_neg ho,if_pos ho2];exact⟨trivial,⟨hn,h2',g1,g2,by simp only;omega,by simp only;omega⟩,by omega,by omega⟩
    ·have ho2:¬((t.gen=0\/(aJ t a).1≠t.value)\/(aJ t a).2.1≠t.owners):=by rintro (h | h) <;> contradiction
     simp only[if_neg ho,if_neg ho2];exact⟨trivial,⟨hn,h2',g1,g2,by simp only;omega,by simp only;omega⟩,by omega,by omega⟩
theorem sI(l n):ci l n<=l.length:=List.countP_le_length
theorem AZ(l n):dR l n=(l.map Th.name).contains n:=by
 unfold dR;induction l with
 | nil=>rfl
 | cons t l ih=>rw[List.any_cons,List.map_cons,List.contains_cons,ih,Bool.beq_comm]
theorem xQ:∀ (l:List Th) (t:Th),bD (l.map Th.name)->dR l t.name=false->bD ((l.take (ci l t.name)++t :: l.drop (ci l t.name)).map Th.name):=by
 intro l t h hn;have hne:∀ x∈l,x.name≠t.name:=by
  intro x hx e;unfold dR at hn;rw[List.any_eq_false]at hn;exact hn x hx (by simp[e])
 have h2:=qd (l:=l.map fun x=>(⟨x.name,[]⟩:aL)) (o:=⟨t.name,[[]]⟩) (by simpa [Function.comp_def] using h) (by
  intro x hx;obtain⟨y,hy,rfl⟩:=List.mem_map.1 hx;exact hne y hy)
 have e:bB (l.map fun x=>(⟨x.name,[]⟩:aL)) t.name=ci l t.name:=by
  unfold bB ci;rw[List.countP_map];rfl
 unfold bP at h2;simp only[e]at h2;simpa [List.map_take,List.map_drop,Function.comp_def] using h2
theorem AH(n):bp (eT n).owners=true/\fT (eT n).owners:=⟨rfl,by intro o ho;cases ho⟩
theorem lD{len kind}(hl:len<=8)(h:cj len kind false=0):len < 8/\(kind=1\/kind=5):=by
 unfold cj at h;simp only[Bool.false_eq_true,and_false,if_false,and_true]at h;split at h
 ·cases h
 ·rename_i h1;split at h
  ·cases h
  ·rename_i h2;by_cases hb:kind=1\/kind=5
   ·exact⟨by
     have:¬len=8:=fun e=>h1 ⟨hb,e⟩;omega,hb⟩
   ·exact absurd hb h2
theorem vu{s:Nu}{a:cm}(h:dP s)(hs:s.ver+1<=s.acts)(hn:bT a.name=true)(ht:dR s.ths a.name=false)(hl:s.ths.length < 8)(he:(al s.time s.ver (eT a.name) a).2.2=0):dP { s with ths:=s.ths.take (ci s.ths a.name)++(al s.time s.ver (eT a.name) a).1 :: s.ths.drop (ci s.ths a.name),ver:=(al s.time s.ver (eT a.name) a).2.1 }:=by
 obtain⟨g1,g2,g3,g4⟩:=mC (t:=eT a.name) hn (AH _).1 (AH _).2 h.ver.1 (.inl rfl) he;have g1':(al s.time s.ver (eT a.name) a).1.name=a.name:=g1;refine⟨h.time,⟨Int.le_trans h.ver.1 g3,Int.le_trans g4 hs⟩,h.acts,?_,?_,?_⟩
 ·have:=sI s.ths a.name;simp only[Mx,MC,My,MB];omega
 ·have:=xQ s.ths (al s.time s.ver (eT a.name) a).1 h.rise (by rw[g1'];exact ht);rw[g1']at this;exact this
 ·intro t hm;simp only[List.mem_append,List.mem_cons]at hm;rcases hm with hm | rfl | hm
  ·exact(h.ths t (List.mem_of_mem_take hm)).more g3
  ·exact g2
  ·exact(h.ths t (List.mem_of_mem_drop hm)).more g3
theorem xp{s:Nu}{t u ver}(h:dP s)(hi:s.ths[i]?=some t)(hu:u.name=t.name)(hg:jA ver u)(h1:s.ver<=ver)(h2:ver<=s.acts):dP { s with ths:=s.ths.set i u,ver:=ver }:=by
 refine⟨h.time,⟨Int.le_trans h.ver.1 h1,h2⟩,h.acts,by simpa using h.len,?_,fun x hx=>?_⟩
 ·have e:(s.ths.set i u).map Th.name=s.ths.map Th.name:=by
   rw[List.map_set,hu];obtain⟨hl,rfl⟩:=Mz.1 hi;apply List.ext_getElem?;intro k;rw[List.getElem?_set];split
   ·rename_i hk;subst hk;rw[if_pos (by simpa using hl),List.getElem?_map,Mw hl];rfl
   ·rfl
  simp only[e];exact h.rise
 ·rcases List.mem_or_eq_of_mem_set hx with hx | rfl
  ·exact(h.ths x hx).more h1
  ·exact hg
theorem xF{s:Nu}{a:cm}(h:dP s)(hs:s.ver+1<=s.acts)(hn:bT a.name=true):dP (dD s a).1:=by
 unfold dD;simp only;split
 ·exact h
 ·rename_i hb;have hb':cj s.ths.length a.kind (dR s.ths a.name)=0:=by simpa using hb
  split
  ·rename_i t ht;have htm:t∈s.ths:=List.mem_of_getElem? ht;have gt:=h.ths t htm;split
   ·rename_i hth;split
    ·exact h
    ·rename_i he;rw[hth]at hb';exact vu h hs hn hth (lD h.len hb').1 (by simpa using he)
   ·split
    ·refine⟨h.time,h.ver,h.acts,?_,?_,fun x hx=>h.ths x (List.mem_of_mem_eraseIdx hx)⟩
     ·exact MH (List.length_eraseIdx_le _ _) h.len
     ·exact nr ((List.eraseIdx_sublist _ _).map _) h.rise
    ·split
     ·split
      ·exact h
      ·exact xp h ht rfl (gt.sta _) (Int.le_refl _) h.ver.2
     ·split
      ·exact h
      ·split
       ·exact h
       ·split
        ·exact h
        ·rename_i he;obtain⟨g1,g2,g3,g4⟩:=mC (time:=s.time) (a:=a) gt.name gt.own gt.lim h.ver.1 (.inr ⟨gt.gen.1,gt.gen.2,gt.ver⟩) (by simpa using he);exact xp h ht g1 g2 g3 (Int.le_trans g4 hs)
  ·rename_i ht;have hle:s.ths.length<=ci s.ths a.name:=by simpa using ht
   split
   ·exact h
   ·rename_i he;have hth:dR s.ths a.name=false:=by
     rw[Bool.eq_false_iff];intro h9;unfold dR at h9;rw[List.any_eq_true]at h9;obtain⟨x,hx,e⟩:=h9;have h8:ci s.ths a.name < s.ths.length:=by
      unfold ci;have h7:=List.countP_le_length (p:=fun t:Th=>Op.bytesLess t.name a.name) (l:=s.ths);rcases Nat.lt_or_ge (s.ths.countP fun t:Th=>Op.bytesLess t.name a.name) s.ths.length with h6 | h6
      ·exact h6
      ·have h5:=List.countP_eq_length.1 (Nat.le_antisymm h7 h6) x hx;rw[show x.name=a.name by simpa using e,cd]at h5;cases h5
     omega
    rw[hth]at hb';have g:=vu h hs hn hth (lD h.len hb').1 (by simpa using he);rw[MD hle,List.drop_eq_nil_of_le hle]at g;exact g
theorem Ib{s:Nu}{a:cm}(h:dP s):dP (je s a).1:=by
 unfold je;split
 ·exact h
 ·rename_i h3;have hs:dP { s with acts:=s.acts+1 }:=⟨h.time,⟨h.ver.1,by have:=h.ver.2;simp only;omega⟩,by have:=h.acts;simp only;omega,h.len,h.rise,h.ths⟩
  simp only;split
  ·exact hs
  ·split
   ·unfold iz;split
    ·exact hs
    ·rename_i hn;refine⟨?_,hs.ver,hs.acts,by simpa using h.len,?_,fun x hx=>?_⟩
     ·have:=h.time;simp only at hn ⊢;omega
     ·simp only[List.map_map];exact h.rise
     ·obtain⟨y,hy,rfl⟩:=List.mem_map.1 hx;exact(h.ths y hy).sta _
   ·split
    ·exact hs
    ·rename_i hn;exact xF hs (by have:=h.ver.2;simp only;omega) (by simpa using hn)
theorem Ge(W:LC)(ok t)(g:Nat)(a1 b1)(c1 d1:Nat)(n p:Lz)(hb:KY W g t a1 c1 b1 d1)(ht:In W ok t (.agg (KV t a1 c1 b1 d1)))(hp:p.length<=140737488351232)(hM:bj W):Calls prog 115 #[.string ⟨n.toArray⟩,.string ⟨p.toArray⟩,.pointer (some ⟨g,0,none⟩)] W fun e w'=>e=.returned (.bool (dr (aw p) t).isSome)/\La W w':=by
 have ST:Ll (Calls prog 116 #[.agg (KV t a1 c1 b1 d1),.string ⟨p.toArray⟩] W fun e w'=>∃ r,e=.returned (.tuple #[r,.bool (dr (aw p) t).isSome])/\La W w'/\In w' ok ((dr (aw p) t).getD aM) r):=gD W ok t _ p ht hp hM;have v0_:=hb.c;generalize (dr (aw p) t).isSome=o at ST ⊢;generalize (dr (aw p) t).getD aM=z at ST;clear hb ht hp hM;go_enter func115,ntmps115;go_wp2_with (go_at_call 116;refine ST.o.mono ?_;rintro e w1 ⟨r,rfl,hb,hr⟩;obtain⟨a2,b2,c2,d2,rfl⟩:=hr.form;have B1:=aa hb;clear hb hr)
 go_ret;exact⟨rfl,ab B1.o (ae _ _)⟩
theorem sT:∀ args w,(callFunc 115 args).run prog w=.ok (.enter 115 args) w:=enters_of func115 (by kernel_rfl) rfl
theorem Hz(w:LC)(ok t l vt vl)(ht:In w ok t vt)(hl:aB w ok l vl)(hM:bj w)(hN:(bA l).length<=4000000)(hP:∀ o∈l,∀ x∈o.paths,x.length<=140737488351232):Calls prog 86 #[vt,vl] w fun e w'=>∃ a c,e=.returned (.slice a (ir t l).length c)/\aB w' (fun k=>w.heap.size<=k) (ir t l) (.slice a (ir t l).length c)/\La w w':=by
 have HT:=aa ht;have HL:=aa hl;have HM:=aa hM;have HP:=aa hP;have HN:=aa hN;obtain⟨a1,b1,c1,d1,rfl⟩:=ht.form;obtain⟨la,lc,rfl⟩:=hl.form;obtain⟨W1,hW1⟩:∃ W,W=w.alloc (.cells (KV t a1 c1 b1 d1) 32):=⟨_,rfl⟩
 have Y1:Ll (La w W1):=aa (by rw[hW1];exact ae _ _);have VB:Ll (KY W1 w.heap.size t a1 c1 b1 d1):=aa (by rw[hW1];exact MN _ _);have HW1:=aa hW1;have JG:Ll (∀ W,La w W->Calls prog 19 #[.agg (KV t a1 c1 b1 d1)] W fun e w'=>e=.returned (.bool (aE t))/\La W w'):=fun W hW=>bG W _ t _ (HT.o.bel hW);have OG:Ll (∀ W,La w W->Calls prog 102 #[.slice la l.length lc] W fun e w'=>e=.returned (.bool (bp l))/\La W w'):=fun W hW=>eZ W _ l _ (HL.o.bel hW) HP.o (HM.o.bel hW);clear ht hl hM hN hP hW1;have v0_:=VB.o.c;go_enter func86,ntmps86;go_upto_region 1 with fail
 rw[<-HW1.o];cases hg:aE t with
 | false=>
  have R:Ll (ir t l=[]):=if_neg (by rw[hg];simp);rw[hg]at JG;clear hg;go_wp2_with (go_at_call 19;refine Lk (JG.o _ Y1.o) fun w2 hb=>?_;have B2:=aa hb;clear hb)
  go_ret;exact⟨none,0,by rw[R.o];rfl,by rw[R.o];exact aB.nil _ _,ab Y1.o B2.o⟩
 | true=>
 rw[hg]at JG;cases hq:bp l with
 | false=>
  have R:Ll (ir t l=[]):=if_neg (by rw[hq];simp);rw[hq]at OG;clear hg hq;go_wp2_with (first
   |(go_at_call 102;refine Lk (OG.o _ (ab Y1.o B2.o)) fun w3 hb=>?_;have B3:=aa hb;clear hb)
   |(go_at_call 19;refine Lk (JG.o _ Y1.o) fun w2 hb=>?_;have B2:=aa hb;clear hb))
  go_ret;exact⟨none,0,by rw[R.o];rfl,by rw[R.o];exact aB.nil _ _,ab (ab Y1.o B2.o) B3.o⟩
 | true=>
 rw[hq]at OG;have R:Ll (ir t l=dV (fun _ p=>(dr (aw p) t).isSome) l):=if_pos ⟨hg,hq⟩;obtain⟨g1,g2,g3⟩:=gz hq;have GR:=aa g3;have GN:=aa (kI (stays:=fun _ p=>(dr (aw p) t).isSome) hq).1;clear hg hq g1 g2 g3;go_upto_region 3 with (first
  |(go_at_call 102;refine Lk (OG.o _ (ab Y1.o B2.o)) fun w3 hb=>?_;have B3:=aa hb;clear hb)
  |(go_at_call 19;refine Lk (JG.o _ Y1.o) fun w2 hb=>?_;have B2:=aa hb;clear hb))
 have Y3:=aa (ab (ab Y1.o B2.o) B3.o);have KP:=Am w3 ok l _ 115 #[.pointer (some ⟨w.heap.size,0,none⟩)] (fun _ p=>(dr (aw p) t).isSome) sT
  (fun W n p hW hnp=>Ge W ok t w.heap.size a1 b1 c1 d1 n p (af (ab (ab B2.o B3.o) hW) VB.o) (HT.o.bel (ab Y3.o hW)) (by obtain⟨o,ho,-,hx⟩:=kL hnp;exact HP.o o ho _ hx) (HM.o.bel (ab Y3.o hW)))
  (HL.o.bel Y3.o) GR.o HN.o (fun o ho x hx=>by have:=HP.o o ho x hx;unfold maxLen;omega)
 rw[<-R.o]at KP;have KPT:=aa KP;rw[<-R.o]at GN;clear KP R;go_wp2_with (go_at_call 105;refine KPT.o.mono ?_;rintro e w4 ⟨oa,oc,rfl,hrow,hb⟩;have B4:=aa hb;have ORW:=aa hrow;clear hb hrow)
 go_ret;exact⟨oa,oc,rfl,(ORW.o.owns (fun o ho=>by have:=sh (GN.o o ho).1;unfold maxLen;omega)).weak fun k hk=>MH Y3.o.size hk,ab Y3.o B4.o⟩
theorem Kj:vE:=fun w ok ok' a b va vb ha hb hn=>(lP w ok ok' a b va vb ha hb (by have:=gE hn;omega)).mono fun _ _ h=>h
theorem xN{C z}(h:In W (fun k=>ok k/\k < B) z v):In W (bg ok B C) z v:=h.weak fun k hk=>.inl hk
theorem zc(w:LC)(ok v b kind vv bv)(hv:In w ok v vv)(hb:In w ok b bv)(hM:bj w)(hW:di w):Calls prog 85 #[vv,.int .i64 kind,bv] w fun e w'=>∃ r,e=.returned (.tuple #[r,.int .i64 (bW v kind b).2])/\In w' (bQ ok w.heap.size) (bW v kind b).1 r/\La w w':=by
 obtain⟨a1,b1,c1,d1,rfl⟩:=hv.form;obtain⟨a2,b2,c2,d2,rfl⟩:=hb.form;have HV:=aa hv.low;have HB:=aa hb.low;have HM:=aa hM;have HW:=aa hW;obtain⟨W3,hW3⟩:∃ W,W=((w.alloc (.cells (KV v a1 c1 b1 d1) 32)).alloc (.cells (KV b a2 c2 b2 d2) 32)).alloc (.cells Lb 32):=⟨_,rfl⟩
 have Y3:Ll (La w W3):=aa (by rw[hW3];exact ab (ab (ae _ _) (ae _ _)) (ae _ _));have X1:Ll (KY W3 w.heap.size v a1 c1 b1 d1):=aa (by rw[hW3];exact lI _ _ _ _);have X2:Ll (KY W3 (w.heap.size+1) b a2 c2 b2 d2):=aa (by rw[hW3];exact mE _ _ _ _);have X3:Ll (Lc W3 (w.heap.size+2)):=aa (by rw[hW3];exact jI _ _ _ _);have HW3:=aa hW3;clear hv hb hM hW hW3;have o0_:=X1.o.c;have p0_:=X2.o.c;go_enter func85,ntmps85;go_upto_region 1 with fail
 rw[<-HW3.o];by_cases h3:kind=3
 ·have e3:(kind == 3)=true:=by simp[h3]
  have H3:=aa h3;clear h3;have CC:=Fn W3 (Lj ok w) v b _ _ (HV.o.bel Y3.o) (HB.o.bel Y3.o);obtain⟨y,ye,hy⟩:∃ y ye,ge v b=(y,ye):=⟨_,_,rfl⟩
  rw[hy]at CC;have CALL:=aa CC;have HY:=aa hy;clear CC hy;go_wp2_with (go_at_call 112;refine CALL.o.mono ?_;rintro e w4 ⟨r,rfl,hb,hr⟩;obtain⟨a3,b3,c3,d3,rfl⟩:=hr.form;have B4:=aa hb;have R4:=aa hr;clear hb hr;have n0_:=(af B4.o X3.o).c;have Z:=aa (cY (w:=w) (ok:=ok) (C:=w.heap.size+3) (g:=w.heap.size+2) (R4.o.weak fun k hk=>by rcases hk with hk | hk;exact .inl hk;exact .inr (by have:=X3.o.lt;omega)) (ab Y3.o B4.o) (by omega) (by omega));have ZB:=aa ((af B4.o X3.o).set (.int .i64 y.kind) (.int .i64 y.n) (.string ⟨y.s.toArray⟩) (.slice a3 y.keys.length c3) (.slice b3 y.l.length d3));have HA:Ll (bW v kind b=(y,ye)):=aa (by unfold bW;rw[if_pos H3.o];exact HY.o))
  have z0_:=ZB.o.c;refine MM (v:=.tuple #[.agg (KV y a3 c3 b3 d3),.int .i64 ye]) ?_ rfl ?_
  ·simp only[ar]at z0_;simp[results,results85,go_sem,z0_]
  ·rw[HA.o];exact⟨_,rfl,Z.o.2,Z.o.1⟩
 ·have e3:(kind == 3)=false:=by rw[MO];exact h3
  have H3:=aa h3;clear h3;by_cases h4:kind=4
  ·have e4:(kind == 4)=true:=by simp[h4]
   have H4:=aa h4;clear h4;obtain⟨ops,oe,hops⟩:∃ ops oe,cU b=(ops,oe):=⟨_,_,rfl⟩
   have RR:=Gu W3 (Lj ok w) b _ (HB.o.bel Y3.o) (HW.o.bel Y3.o);rw[hops]at RR;have HOPS:=aa hops;have READ:Ll (Calls prog 113 #[.agg (KV b a2 c2 b2 d2)] W3 fun e w'=>∃ oa oc,e=.returned (.tuple #[.slice oa ops.length oc,.int .i64 oe])/\eX w' (bQ (Lj ok w) W3.heap.size) ops (.slice oa ops.length oc)/\La W3 w'):=RR.mono fun e w' h=>by
    obtain⟨sl,rfl,h1,h2⟩:=h;obtain⟨oa,oc,rfl⟩:∃ oa oc,sl=.slice oa ops.length oc:=by
     rcases h1.2 with⟨rfl,a,rfl⟩ | ⟨b9,off,c9,rfl,-⟩
     ·exact⟨_,_,rfl⟩
     ·exact⟨_,_,rfl⟩
    exact⟨oa,oc,rfl,h1,h2⟩
   clear RR hops;go_upto_region 6 with (go_at_call 113;refine READ.o.mono ?_;rintro e w5 ⟨oa,oc,rfl,h1,hb⟩;have B5:=aa hb;have O5:=aa h1;clear h1 hb)
   have o0_:=(af B5.o X1.o).c;by_cases he:oe=0
   ·subst he;have CC:=JF Ce w5 (bQ (Lj ok w) W3.heap.size) v ops _ _ (((HV.o.bel Y3.o).bel B5.o).weak fun k hk=>.inl hk) O5.o (HM.o.bel (ab Y3.o B5.o)) (fun _=>Er Kj _ _);obtain⟨y,ye,hy⟩:∃ y ye,qU Ce ops v=(y,ye):=⟨_,_,rfl⟩
    rw[hy]at CC;have CALL:=aa CC;have HY:=aa hy;clear CC hy;go_wp2_with (go_at_call 114;refine CALL.o.mono ?_;rintro e w4 ⟨r,rfl,hb,hr⟩;obtain⟨a3,b3,c3,d3,rfl⟩:=hr.form;have B4:=aa hb;have R4:=aa hr;clear hb hr;have n0_:=(af (ab B5.o B4.o) X3.o).c;have Z:=aa (cY (w:=w) (ok:=ok) (C:=w.heap.size+3) (g:=w.heap.size+2) (R4.o.weak fun k hk=>by rcases hk with (hk | hk) | hk;exact .inl hk;exact .inr (by have:=X3.o.lt;omega);exact .inr (by have:=X3.o.lt;have:=B5.o.size;omega)) (ab (ab Y3.o B5.o) B4.o) (by omega) (by omega));have ZB:=aa ((af (ab B5.o B4.o) X3.o).set (.int .i64 y.kind) (.int .i64 y.n) (.string ⟨y.s.toArray⟩) (.slice a3 y.keys.length c3) (.slice b3 y.l.length d3));have HA:Ll (bW v kind b=(y,ye)):=aa (by unfold bW;rw[if_neg H3.o,if_pos H4.o,HOPS.o,if_neg (by simp)];exact HY.o))
    have z0_:=ZB.o.c;refine MM (v:=.tuple #[.agg (KV y a3 c3 b3 d3),.int .i64 ye]) ?_ rfl ?_
    ·simp only[ar]at z0_;simp[results,results85,go_sem,z0_]
    ·rw[HA.o];exact⟨_,rfl,Z.o.2,Z.o.1⟩
   ·have e0:(oe != 0)=true:=by simpa using he
    have e1:(oe == 0)=false:=by rw[MO];exact he
    have HE:=aa he;clear he;have n0_:=(af B5.o X3.o).c;have Z:=aa (cY (w:=w) (ok:=ok) (C:=w.heap.size+3) (g:=w.heap.size+2) (xN ((HV.o.bel Y3.o).bel B5.o)) (ab Y3.o B5.o) (by omega) (by omega));have ZB:=aa ((af B5.o X3.o).set (.int .i64 v.kind) (.int .i64 v.n) (.string ⟨v.s.toArray⟩) (.slice a1 v.keys.length c1) (.slice b1 v.l.length d1));have HA:Ll (bW v kind b=(v,oe)):=aa (by unfold bW;rw[if_neg H3.o,if_pos H4.o,HOPS.o,if_pos HE.o]);go_wp2
    have z0_:=ZB.o.c;refine MM (v:=.tuple #[.agg (KV v a1 c1 b1 d1),.int .i64 oe]) ?_ rfl ?_
    ·simp only[ar]at z0_;simp[results,results85,go_sem,z0_]
    ·rw[HA.o];exact⟨_,rfl,Z.o.2,Z.o.1⟩
  ·have e4:(kind == 4)=false:=by rw[MO];exact h4
   have H4:=aa h4;clear h4;have n0_:=(af (MK _ _) X3.o).c;have Z:=aa (cY (w:=w) (ok:=ok) (C:=w.heap.size+3) (g:=w.heap.size+2) (xN (HB.o.bel Y3.o)) (Y3.o) (by omega) (by omega));have ZB:=aa ((af (MK _ _) X3.o).set (.int .i64 b.kind) (.int .i64 b.n) (.string ⟨b.s.toArray⟩) (.slice a2 b.keys.length c2) (.slice b2 b.l.length d2));have HA:Ll (bW v kind b=(b,0)):=aa (by unfold bW;rw[if_neg H3.o,if_neg H4.o]);go_wp2
   have z0_:=ZB.o.c;refine MM (v:=.tuple #[.agg (KV b a2 c2 b2 d2),.int .i64 0]) ?_ rfl ?_
   ·simp only[ar]at z0_;simp[results,results85,go_sem,z0_]
   ·rw[HA.o];exact⟨_,rfl,Z.o.2,Z.o.1⟩
end Go.Proofs.YtlhejphddjdgkaaGreatDoor
namespace Go.Proofs.YtlhejphddjdgkaaGreatDoor
open Go.RowKit
open _root_.Go.Proofs.Tryz
def cu (t:Th) (a b:Option Addr) (c d:Nat) (oa:Option Addr) (oc:Nat):List Value:=[.string ⟨t.name.toArray⟩,.int .i64 t.value.kind,.int .i64 t.value.n,.string ⟨t.value.s.toArray⟩,.slice a t.value.keys.length c,.slice b t.value.l.length d,.slice oa t.owners.length oc,.int .i64 t.ver,.int .i64 t.gen,.string ⟨t.st.a.toArray⟩,.string ⟨t.st.c.toArray⟩,.int .i64 t.st.ph,.int .i64 t.st.st,.int .i64 t.st.we,.int .i64 t.st.si]
structure cQ (w:World) (ok:Nat->Prop) (t:Th) (a b:Option Addr) (c d:Nat) (oa:Option Addr) (oc:Nat):Prop where
 name:t.name.length<=9223372036854775807
 val:In w ok t.value (.agg (KV t.value a c b d))
 own:aB w ok t.owners (.slice oa t.owners.length oc)
theorem cQ.imp{w w':World}{ok ok' t a b c d oa oc}(h:cQ w ok t a b c d oa oc)(hc:∀ k x,ok k.block->w.cell? k=some x->ok' k.block/\w'.cell? k=some x):cQ w' ok' t a b c d oa oc:=
 ⟨h.name,by obtain⟨d9,h9⟩:=h.val;exact⟨d9,h9.imp hc⟩,h.own.imp hc⟩
theorem cQ.bel{w w':World}{ok t a b c d oa oc}(h:cQ w ok t a b c d oa oc)(hb:La w w'):cQ w' ok t a b c d oa oc:=⟨h.name,h.val.bel hb,h.own.bel hb⟩
theorem cQ.weak{w:World}{ok ok' t a b c d oa oc}(h:cQ w ok t a b c d oa oc)(hk:∀ k,ok k->ok' k):cQ w ok' t a b c d oa oc:=⟨h.name,h.val.weak hk,h.own.weak hk⟩
theorem cQ.low{w:World}{ok t a b c d oa oc}(h:cQ w ok t a b c d oa oc):cQ w (Lj ok w) t a b c d oa oc:=⟨h.name,h.val.low,h.own.low⟩
theorem jS(t a b c d oa oc):∀ u∈cu t a b c d oa oc,u.oneCell'=true:=by
 intro u hu;simp only[cu,List.mem_cons,List.not_mem_nil,or_false]at hu;rcases hu with rfl | rfl | rfl | rfl | rfl | rfl | rfl | rfl | rfl | rfl | rfl | rfl | rfl | rfl | rfl <;> rfl
def cO (w:World) (ok:Nat->Prop) (xs:List Th) (v:Value):Prop:=
 xs.length<=9223372036854775807/\(xs=[]/\(∃ a,v=.slice a 0 0)\/∃ g off c,v=.slice (some ⟨g,off,none⟩) xs.length c/\xs.length<=c/\c<=9223372036854775807 /\
  ∀ i x,xs[i]?=some x->ok g/\∃ (a b:Option Addr) (c d:Nat) (oa:Option Addr) (oc:Nat),(∀ j u,(cu x a b c d oa oc)[j]?=some u->w.cell? ⟨g,off+i * 15+j,none⟩=some u)/\cQ w ok x a b c d oa oc)
theorem cO.imp{w w' ok ok' xs v}(h:cO w ok xs v)(hc:∀ k x,ok k.block->w.cell? k=some x->ok' k.block/\w'.cell? k=some x):cO w' ok' xs v:=by
 refine⟨h.1,?_⟩;rcases h.2 with h | ⟨g,off,c,e,h1,h2,h3⟩
 ·exact .inl h
 ·refine .inr ⟨g,off,c,e,h1,h2,fun i x hx=>?_⟩;obtain⟨q1,a,b,c,d,oa,oc,q2,q3⟩:=h3 i x hx;exact⟨(hc ⟨g,off+i * 15+0,none⟩ _ q1 (q2 0 _ rfl)).1,a,b,c,d,oa,oc,fun j u hu=>(hc ⟨g,off+i * 15+j,none⟩ _ q1 (q2 j u hu)).2,q3.imp hc⟩
theorem cO.bel{w w' ok xs v}(h:cO w ok xs v)(hb:La w w'):cO w' ok xs v:=h.imp fun k x h1 h2=>⟨h1,ah hb h2⟩
theorem cO.weak{w ok ok' xs v}(h:cO w ok xs v)(hk:∀ k,ok k->ok' k):cO w ok' xs v:=h.imp fun k x h1 h2=>⟨hk _ h1,h2⟩
theorem cO.low{w ok xs v}(h:cO w ok xs v):cO w (Lj ok w) xs v:=h.imp fun k x h1 h2=>⟨⟨h1,World.block_lt_of_cell? w k h2⟩,h2⟩
theorem cO.form{w ok xs v}(h:cO w ok xs v):∃ a c,v=.slice a xs.length c:=by
 rcases h.2 with⟨rfl,a,rfl⟩ | ⟨g,off,c,rfl,-⟩
 ·exact⟨a,0,rfl⟩
 ·exact⟨_,_,rfl⟩
theorem cO.at{w:World}{ok xs p n k i}(h:cO w ok xs (.slice p n k))(hi:i < xs.length):∃ g off,p=some ⟨g,off,none⟩/\xs.length<=k/\k<=9223372036854775807/\ok g/\∃ (a b:Option Addr) (c d:Nat) (oa:Option Addr) (oc:Nat),(w.cell? ⟨g,off+i * 15,none⟩=some (.string ⟨xs[i].name.toArray⟩)/\w.cell? ⟨g,off+i * 15+1,none⟩=some (.int .i64 xs[i].value.kind)/\w.cell? ⟨g,off+i * 15+2,none⟩=some (.int .i64 xs[i].value.n)/\w.cell? ⟨g,off+i * 15+3,none⟩=some (.string ⟨xs[i].value.s.toArray⟩)/\w.cell? ⟨g,off+i * 15+4,none⟩=some (.slice a xs[i].value.keys.length c)/\w.cell? ⟨g,off+i * 15+5,none⟩=some (.slice b xs[i].value.l.length d)/\w.cell? ⟨g,off+i * 15+6,none⟩=some (.slice oa xs[i].owners.length oc)/\w.cell? ⟨g,off+i * 15+7,none⟩=some (.int .i64 xs[i].ver)/\w.cell? ⟨g,off+i * 15+8,none⟩=some (.int .i64 xs[i].gen)/\w.cell? ⟨g,off+i * 15+9,none⟩=some (.string ⟨xs[i].st.a.toArray⟩)/\w.cell? ⟨g,off+i * 15+10,none⟩=some (.string ⟨xs[i].st.c.toArray⟩)/\w.cell? ⟨g,off+i * 15+11,none⟩=some (.int .i64 xs[i].st.ph)/\w.cell? ⟨g,off+i * 15+12,none⟩=some (.int .i64 xs[i].st.st)/\w.cell? ⟨g,off+i * 15+13,none⟩=some (.int .i64 xs[i].st.we)/\w.cell? ⟨g,off+i * 15+14,none⟩=some (.int .i64 xs[i].st.si))/\cQ w ok xs[i] a b c d oa oc:=by
 rcases h.2 with⟨e,-⟩ | ⟨g,off,c',e,h1,h2,h3⟩
 ·rw[e]at hi;simp at hi
 ·simp only[Value.slice.injEq]at e;obtain⟨rfl,-,rfl⟩:=e;obtain⟨q1,a,b,c,d,oa,oc,q2,q3⟩:=h3 i xs[i] (Mw hi);exact⟨g,off,rfl,h1,h2,q1,a,b,c,d,oa,oc,⟨q2 0 _ rfl,q2 1 _ rfl,q2 2 _ rfl,q2 3 _ rfl,q2 4 _ rfl,q2 5 _ rfl,q2 6 _ rfl,q2 7 _ rfl,q2 8 _ rfl,q2 9 _ rfl,q2 10 _ rfl,q2 11 _ rfl,q2 12 _ rfl,q2 13 _ rfl,q2 14 _ rfl⟩,q3⟩
def fN (w:World) (g:Nat) (t:Th) (a b:Option Addr) (c d:Nat) (oa:Option Addr) (oc:Nat):Prop:=w.heap[g]?=some (.cells (Ld t a c b d oa oc) 37)
theorem fN.c{w g t a b c d oa oc}(h:fN w g t a b c d oa oc):w.cell? ⟨g,0,none⟩=some (.string ⟨t.name.toArray⟩)/\w.cell? ⟨g,1,none⟩=some (.int .i64 t.value.kind)/\w.cell? ⟨g,2,none⟩=some (.int .i64 t.value.n)/\w.cell? ⟨g,3,none⟩=some (.string ⟨t.value.s.toArray⟩)/\w.cell? ⟨g,4,none⟩=some (.slice a t.value.keys.length c)/\w.cell? ⟨g,5,none⟩=some (.slice b t.value.l.length d)/\w.cell? ⟨g,6,none⟩=some (.slice oa t.owners.length oc)/\w.cell? ⟨g,7,none⟩=some (.int .i64 t.ver)/\w.cell? ⟨g,8,none⟩=some (.int .i64 t.gen)/\w.cell? ⟨g,9,none⟩=some (.string ⟨t.st.a.toArray⟩)/\w.cell? ⟨g,10,none⟩=some (.string ⟨t.st.c.toArray⟩)/\w.cell? ⟨g,11,none⟩=some (.int .i64 t.st.ph)/\w.cell? ⟨g,12,none⟩=some (.int .i64 t.st.st)/\w.cell? ⟨g,13,none⟩=some (.int .i64 t.st.we)/\w.cell? ⟨g,14,none⟩=some (.int .i64 t.st.si):=by
 unfold fN at h;refine⟨?_,?_,?_,?_,?_,?_,?_,?_,?_,?_,?_,?_,?_,?_,?_⟩ <;> simp[World.cell?,h]
theorem fN.f{w g t a b c d oa oc}(h:fN w g t a b c d oa oc):w.frozen? ⟨g,0,none⟩=false/\w.frozen? ⟨g,1,none⟩=false/\w.frozen? ⟨g,2,none⟩=false/\w.frozen? ⟨g,3,none⟩=false/\w.frozen? ⟨g,4,none⟩=false/\w.frozen? ⟨g,5,none⟩=false/\w.frozen? ⟨g,6,none⟩=false/\w.frozen? ⟨g,7,none⟩=false/\w.frozen? ⟨g,8,none⟩=false/\w.frozen? ⟨g,9,none⟩=false/\w.frozen? ⟨g,10,none⟩=false/\w.frozen? ⟨g,11,none⟩=false/\w.frozen? ⟨g,12,none⟩=false/\w.frozen? ⟨g,13,none⟩=false/\w.frozen? ⟨g,14,none⟩=false:=by
 unfold fN at h;refine⟨?_,?_,?_,?_,?_,?_,?_,?_,?_,?_,?_,?_,?_,?_,?_⟩ <;> simp[World.frozen?,h]
theorem fN.bel{w w' g t a b c d oa oc}(h:fN w g t a b c d oa oc)(hb:La w w'):fN w' g t a b c d oa oc:=by
 unfold fN at h ⊢;rw[hb.block _ (MF.1 h).1];exact h
theorem fN.lt{w g t a b c d oa oc}(h:fN w g t a b c d oa oc):g < w.heap.size:=(MF.1 h).1
variable {w w':World}
variable {v:Value}
variable {g S:Nat}
section
def eF (w:LC) (S:Nat) (v:Value) (time ver acts:Int):Prop:=w.heap[S]?=some (.cells #[v,.int .i64 time,.int .i64 ver,.int .i64 acts] 54)
theorem eF.c{time ver acts}(h:eF w S v time ver acts):w.cell? ⟨S,0,none⟩=some v/\w.cell? ⟨S,1,none⟩=some (.int .i64 time)/\w.cell? ⟨S,2,none⟩=some (.int .i64 ver)/\w.cell? ⟨S,3,none⟩=some (.int .i64 acts):=by
 unfold eF at h;refine⟨?_,?_,?_,?_⟩ <;> simp[World.cell?,h]
theorem eF.f{time ver acts}(h:eF w S v time ver acts):w.frozen? ⟨S,0,none⟩=false/\w.frozen? ⟨S,1,none⟩=false/\w.frozen? ⟨S,2,none⟩=false/\w.frozen? ⟨S,3,none⟩=false:=by
 unfold eF at h;refine⟨?_,?_,?_,?_⟩ <;> simp[World.frozen?,h]
theorem eF.bel{time ver acts}(h:eF w S v time ver acts)(hb:La w w'):eF w' S v time ver acts:=(hb.block S (MF.1 h).1).trans h
theorem eF.lt{time ver acts}(h:eF w S v time ver acts):S < w.heap.size:=(MF.1 h).1
theorem fM.c2{i}(h:fM w g i v):w.cell? ⟨g,0,none⟩=some (.string ⟨i.toArray⟩)/\w.cell? ⟨g,1,none⟩=some v/\True:=⟨h.c.1,h.c.2,trivial⟩
theorem mH{l}(h:bk w l v):∃ a c,v=.slice a l.length c:=by
 rcases h.2 with⟨rfl,a,rfl⟩ | ⟨b,off,c,rfl,-⟩
 ·exact⟨_,_,rfl⟩
 ·exact⟨_,_,rfl⟩
theorem nz(t):(bE t).1.length<=9223372036854775807:=by
 unfold bE;cases h:eY t with
 | none=>simp
 | some x=>
  unfold eY at h;split at h
  ·cases h
  ·rename_i hg;have hg2:aE t=true:=by simpa using hg
   split at h
   ·cases h
   ·rename_i m hm;split at h
    ·cases h
    ·rename_i hk;have hk3:m.kind=3:=by
      apply Classical.byContradiction;intro h9;exact hk (.inl h9)
     have hn:=fp (gC (dQ hg2) (lG hm));unfold ce at hn;rw[hk3]at hn;simp[eK]at hn;have hs:x.1=m.s:=by
      split at h
      ·cases h;rfl
      ·split at h
       ·cases h
       ·cases h;rfl
     rw[Option.getD_some,hs];omega
theorem dh(w e):Calls prog 15 #[.int .i64 e] w fun r w'=>r=.returned (.agg #[.int .i64 e,.int .i64 0,.string ⟨#[]⟩])/\La w w':=by
 go_enter func15,ntmps15;go_wp2
 refine MM (v:=.agg #[.int .i64 e,.int .i64 0,.string ⟨#[]⟩]) ?_ rfl ?_
 ·simp[results,results15,go_sem]
 ·exact⟨rfl,ae _ _⟩
theorem DA(w S len c a time ver acts kind there)(h:eF w S (.slice a len c) time ver acts)(hl:len<=9223372036854775807):Calls prog 26 #[.pointer (some ⟨S,0,none⟩),.int .i64 kind,.bool there] w fun e w'=>e=.returned (.int .i64 (cj len kind there))/\w'=w:=by
 obtain⟨s0,-⟩:=h.c;clear h;by_cases k1:kind=1
 ·have e1:(kind == 1)=true:=by simp[k1]
  cases there
  ·by_cases h8:len=8
   ·have R:Ll (cj len kind false=10):=aa (by simp[cj,k1,h8]);have e8:((len:Int) == 8)=true:=by simp[h8]
    clear k1 h8;go_enter func26,ntmps26;go_wp2
    go_ret;exact⟨by rw[R.o];first | done | rfl | simp,rfl⟩
   ·have R:Ll (cj len kind false=0):=aa (by simp[cj,k1,h8]);have e8:((len:Int) == 8)=false:=by rw[MO];omega
    clear k1 h8;go_enter func26,ntmps26;go_wp2
    go_ret;exact⟨by rw[R.o];first | done | rfl | simp,rfl⟩
  ·have R:Ll (cj len kind true=6):=aa (by simp[cj,k1]);clear k1;go_enter func26,ntmps26;go_wp2
   go_ret;exact⟨by rw[R.o];first | done | rfl | simp,rfl⟩
 ·have e1:(kind == 1)=false:=by rw[MO];exact k1
  by_cases k5:kind=5
  ·have e5:(kind == 5)=true:=by simp[k5]
   cases there
   ·by_cases h8:len=8
    ·have R:Ll (cj len kind false=10):=aa (by simp[cj,k5,h8]);have e8:((len:Int) == 8)=true:=by simp[h8]
     clear k1 k5 h8;go_enter func26,ntmps26;go_wp2
     go_ret;exact⟨by rw[R.o];first | done | rfl | simp,rfl⟩
    ·have R:Ll (cj len kind false=0):=aa (by simp[cj,k5,h8]);have e8:((len:Int) == 8)=false:=by rw[MO];omega
     clear k1 k5 h8;go_enter func26,ntmps26;go_wp2
     go_ret;exact⟨by rw[R.o];first | done | rfl | simp,rfl⟩
   ·have R:Ll (cj len kind true=0):=aa (by simp[cj,k5]);clear k1 k5;go_enter func26,ntmps26;go_wp2
    go_ret;exact⟨by rw[R.o];first | done | rfl | simp,rfl⟩
  ·have e5:(kind == 5)=false:=by rw[MO];exact k5
   cases there
   ·have R:Ll (cj len kind false=3):=aa (by simp[cj,k1,k5]);clear k1 k5;go_enter func26,ntmps26;go_wp2
    go_ret;exact⟨by rw[R.o];first | done | rfl | simp,rfl⟩
   ·have R:Ll (cj len kind true=0):=aa (by simp[cj,k1,k5]);clear k1 k5;go_enter func26,ntmps26;go_wp2
    go_ret;exact⟨by rw[R.o];first | done | rfl | simp,rfl⟩
attribute [local go_sem ↓] Go.wp_at_zero Go.wp_at_succ
theorem uN(w:LC)(ok S v time ver acts order t a b c d oa oc)(hs:eF w S v time ver acts)(ht:cQ w ok t a b c d oa oc):Calls prog 24 #[.pointer (some ⟨S,0,none⟩),.agg (Ld t a c b d oa oc),.int .i64 order] w fun e w'=>e=.returned (.tuple #[.agg #[.string ⟨(dA time t order).1.a.toArray⟩,.string ⟨(dA time t order).1.c.toArray⟩,.int .i64 (dA time t order).1.ph,.int .i64 (dA time t order).1.st,.int .i64 (dA time t order).1.we,.int .i64 (dA time t order).1.si],.int .i64 (dA time t order).2])/\La w w':=by
 obtain⟨r,re,hr⟩:∃ r re,dA time t order=(r,re):=⟨_,_,rfl⟩
 rw[hr];obtain⟨W2,hW2⟩:∃ W,W=(w.alloc (.cells (Ld t a c b d oa oc) 37)).alloc (.cells #[.string ⟨#[]⟩,.string ⟨#[]⟩,.int .i64 0,.int .i64 0,.int .i64 0,.int .i64 0] 35):=⟨_,rfl⟩
 have Y2:Ll (La w W2):=aa (by rw[hW2];exact ab (ae _ _) (ae _ _));have TB2:Ll (fN W2 w.heap.size t a b c d oa oc):=aa (by rw[hW2];exact fb _ _ _);have ZB2:Ll (de W2 (w.heap.size+1) ⟨[],[],0,0,0,0⟩):=aa (by rw[hW2];exact et _ _ _);have HW2:=aa hW2;have SB2:=aa (hs.bel Y2.o);have RD:=Hx W2 ok t.value _ (ht.val.bel Y2.o);obtain⟨sp,hsp⟩:∃ sp,bE t.value=sp:=⟨_,rfl⟩
 obtain⟨se,hse⟩:∃ se,cI t.value=se:=⟨_,rfl⟩
 have LSP:Ll (sp.1.length<=9223372036854775807):=aa (by rw[<-hsp];exact nz _);rw[hsp,hse]at RD;obtain⟨im,sps⟩:=sp;have READ:=aa RD;have HNX:Ll (ij im sps t.st time order=(r,re)):=aa (by rw[<-hr];unfold dA;rw[hsp]);clear hW2 RD hr hs ht hsp hse;have t0_:=TB2.o.c;go_enter func24,ntmps24;go_upto_region 1 with fail
 rw[<-HW2.o];go_upto_region 2 with (go_at_call 41;refine READ.o.mono ?_;rintro e w3 ⟨sl,rfl,h1,hb⟩;obtain⟨sa,sc,rfl⟩:=mH h1;have B3:=aa hb;have SP3:=aa h1;clear h1 hb)
 obtain⟨W3,hW3⟩:∃ W,W=w3.alloc (.cells #[.string ⟨im.toArray⟩,.slice sa sps.length sc] 85):=⟨_,rfl⟩
 have A3:Ll (La w3 W3):=aa (by rw[hW3];exact ae _ _);have PB:Ll (fM W3 w3.heap.size im (.slice sa sps.length sc)):=aa (by rw[hW3];exact MN _ _);rw[<-hW3];clear hW3;have B23:=aa (ab B3.o A3.o);have Y3:=aa (ab Y2.o B23.o);have TB:=aa (TB2.o.bel B23.o);have ZB:=aa (ZB2.o.bel B23.o);have SB:=aa (SB2.o.bel B23.o);have NX:Ll (∀ W,La W3 W->Calls prog 42 #[.agg #[.string ⟨im.toArray⟩,.slice sa sps.length sc],.agg (Li t.st),.int .i64 time,.int .i64 order] W fun e w'=>e=.returned (.tuple #[.agg (Li r),.int .i64 re])/\La W w'):=fun W hW=>by
  have:=AK W im sps (.slice sa sps.length sc) t.st time order ((SP3.o.bel A3.o).bel hW) LSP.o;rw[HNX.o]at this;exact this
 clear HNX READ SP3;refine aD (fun wS=>La W3 wS) [11] (by kernel_rfl) (aC _ 1) (fun LI=>?_);refine WT.out ?_;iterate 8
  first
   | refine OJ 0 ?_ [8,9,10,11,12] LI ?_ ?_
   | refine OJ 1 ?_ [2,8,9,10,11,12] LI ?_ ?_
   | refine OJ 2 ?_ [8,9,10,11,12] LI ?_ ?_
   | refine OJ 3 ?_ [4,5,6,8,9,10,11,12] LI ?_ ?_
   | refine OJ 4 ?_ [5,6,8,9,10,11,12] LI ?_ ?_
   | refine OJ 5 ?_ [6,8,9,10,11,12] LI ?_ ?_
   | refine OJ 6 ?_ [8,9,10,11,12] LI ?_ ?_
   | refine OJ 7 ?_ [8,9,10,11,12] LI ?_ ?_
  rotate_left
  ·intro wS LN;obtain⟨u0,u1,-⟩:=(PB.o.bel LN).c2;have t0_:=(TB.o.bel LN).c;have s0_:=(SB.o.bel LN).c;go_simp;all_goals with_reducible rfl
  simp only[av,List.set]
 repeat' (first
  | exact nl
  |(refine ON 8 (fun K hK=>?_) ?_
    go_simp;refine Lk (NX.o _ LI) fun w8q hb5=>?_;refine hK.out _ _ (ab LI hb5) (fun LJ=>?_);have B5:=aa LJ;clear hb5;clear hK K;replace LI:=LJ;clear LJ;try simp only[Act.put,Mt,Mu,Mv])
  |(refine OO 11 (fun K hK=>?_)
    have n0_:=(ZB.o.bel LI).c;have Z9:=aa ((ZB.o.bel LI).set r);have BZ:=aa (bX (ab Y3.o LI) (show w.heap.size<=w.heap.size+1 by omega) r);go_simp;refine hK.out _ _ ?_;clear hK K;try simp only[Act.put,Mt,Mu,Mv])
  |(refine OO 12 (fun K hK=>?_)
    go_simp;refine hK.out _ _ ?_;clear hK K;try simp only[Act.put,Mt,Mu,Mv])
  |(first
     | refine OJ 9 ?_ [11,12] (by exact LI) ?_ ?_
     | refine OJ 10 ?_ [11,12] (by exact LI) ?_ ?_
    rotate_left
    ·intro wS LN;go_simp;all_goals with_reducible rfl
    simp only[av,List.set])
  | refine OL [8] ?_
  | fail)
 all_goals
  refine dn (by kernel_rfl) ?_;have z0_:=Z9.o.c;go_wp2
  refine MM (v:=.tuple #[.agg (Li r),.int .i64 re]) ?_ rfl ?_
  ·simp only[fR]at z0_;simp[results,results24,go_sem,z0_]
  ·exact⟨rfl,BZ.o⟩
end
variable {W:World}
variable {ok:Nat->Prop}
variable {t:V}
variable {B d:Nat}
section
def jC (w:LC) (g:Nat) (q:cm):Prop:=w.heap[g]?=some (.cells (Lf q) 45)
theorem jC.c{q:cm}(h:jC w g q):w.cell? ⟨g,0,none⟩=some (.int .i64 q.kind)/\w.cell? ⟨g,1,none⟩=some (.string ⟨q.name.toArray⟩)/\w.cell? ⟨g,2,none⟩=some (.string ⟨q.who.toArray⟩)/\w.cell? ⟨g,3,none⟩=some (.string ⟨q.body.toArray⟩)/\w.cell? ⟨g,4,none⟩=some (.int .i64 q.version)/\w.cell? ⟨g,5,none⟩=some (.int .i64 q.n)/\w.cell? ⟨g,6,none⟩=some (.int .i64 q.order)/\w.cell? ⟨g,7,none⟩=some (.bool q.force):=by
 unfold jC at h;refine⟨?_,?_,?_,?_,?_,?_,?_,?_⟩ <;> simp[World.cell?,h]
theorem jC.bel{q:cm}(h:jC w g q)(hb:La w w'):jC w' g q:=(hb.block g (MF.1 h).1).trans h
theorem fN.gr{t a b c oa oc r}(h:fN w g t a b c d oa oc)(hg:w.grownBy w' r)(hr:some g≠r):fN w' g t a b c d oa oc:=(hg.block g (MF.1 h).1 hr).trans h
theorem In.outN{w1:LC}{C}(h:In w1 (bg ok B C) t v)(hg:B<=g)(hC:g < C)(d0 d1 d2 d3 d4):In (ar w1 g d0 d1 d2 d3 d4) (bQ ok B) t v:=(h.box hg hC _ _ _ _ _).weak fun k hk=>by
 rcases hk with hk | hk
 ·exact .inl hk.1
 ·exact .inr (by omega)
theorem lT{w1:LC}{C l}(h:aB w1 (bg ok B C) l v)(hg:B<=g)(hC:g < C)(d0 d1 d2 d3 d4):aB (ar w1 g d0 d1 d2 d3 d4) (bQ ok B) l v:=(h.grownR (aI w1 g d0 d1 d2 d3 d4) (fun k hk e=>jB hg hC k hk (by cases e;rfl))).weak fun k hk=>by
 rcases hk with hk | hk
 ·exact .inl hk.1
 ·exact .inr (by omega)
theorem No{C D}(h:C<=D):∀ k,bQ (bg ok B C) D k->bg ok B C k:=fun k hk=>by
 rcases hk with hk | hk
 ·exact hk
 ·exact .inr (MH h hk)
attribute [local go_sem ↓] Go.wp_at_zero Go.wp_at_succ
theorem rN(w:LC)(ok t a b c d oa oc)(q:cm)(ht:cQ w ok t a b c d oa oc)(hG:cn w)(hM:bj w)(hW:di w)(hN:(bA t.owners).length<=4000000)(hP:∀ o∈t.owners,∀ x∈o.paths,x.length<=140737488351232)(hq:q.body.length<=9223372036854775807)(hw:q.who.length<=9223372036854775807):Calls prog 65 #[.agg (Ld t a c b d oa oc),.agg (Lf q)] w fun e w'=>∃ r ro,e=.returned (.tuple #[r,ro,.int .i64 (aJ t q).2.2])/\In w' (bQ ok w.heap.size) (aJ t q).1 r/\aB w' (bQ ok w.heap.size) (aJ t q).2.1 ro/\La w w':=by
 obtain⟨W3,hW3⟩:∃ W,W=((w.alloc (.cells (Ld t a c b d oa oc) 37)).alloc (.cells (Lf q) 45)).alloc (.cells Lb 32):=⟨_,rfl⟩
 have Y3:Ll (La w W3):=aa (by rw[hW3];exact ab (ab (ae _ _) (ae _ _)) (ae _ _));have X1:Ll (fN W3 w.heap.size t a b c d oa oc):=aa (by rw[hW3];exact lI _ _ _ _);have X2:Ll (jC W3 (w.heap.size+1) q):=aa (by rw[hW3];exact mE _ _ _ _);have X3:Ll (Lc W3 (w.heap.size+2)):=aa (by rw[hW3];exact jI _ _ _ _);have HW3:=aa hW3;have HM:=aa hM;have HW:=aa hW;have HN:=aa hN;have HP:=aa hP;have TI:Ll (In w (bg ok w.heap.size (w.heap.size+3)) t.value (.agg (KV t.value a c b d))):=aa (xN ht.val.low);have TO:Ll (aB w (bg ok w.heap.size (w.heap.size+3)) t.owners (.slice oa t.owners.length oc)):=aa (ht.own.low.weak fun k hk=>.inl hk);have PA0:=FJ W3 q.body (by unfold maxLen;omega) (hG.grown (r:=none) (aq Y3.o) (by simp));obtain⟨p,pe,hp⟩:∃ p pe,cW q.body=(p,pe):=⟨_,_,rfl⟩
 have HPA:=aa hp;have PARSE:Ll (Calls prog 83 #[.string ⟨q.body.toArray⟩] W3 fun e w'=>∃ (a1 b1:Option Addr) (c1 d1:Nat),e=.returned (.tuple #[.agg (KV p a1 c1 b1 d1),.int .i64 pe])/\In w' (bg ok w.heap.size (w.heap.size+3)) p (.agg (KV p a1 c1 b1 d1))/\La W3 w'):=aa (PA0.mono fun e w' h=>by
  obtain⟨p',pe',a7,a8,c7,c8,rfl,h1,h2,h3⟩:=h;rw[hp]at h1;simp only[Prod.mk.injEq]at h1;obtain⟨rfl,rfl⟩:=h1;exact⟨a7,a8,c7,c8,rfl,h2.is.weak fun k hk=>.inr (by have:=X3.o.lt;omega),h3⟩)
 have HQW:=aa hw;clear PA0 hp hW3 hM hW hN hP hq hw ht hG;have q0_:=X2.o.c;go_enter func65,ntmps65;go_upto_region 1 with fail
 rw[<-HW3.o];go_upto_region 2 with (go_at_call 83;refine PARSE.o.mono ?_;rintro e w4 ⟨a1,b1,c1,d1,rfl,h1,hb⟩;have B4:=aa hb;have P4:=aa h1;clear h1 hb)
 obtain⟨W5,hW5⟩:∃ W,W=w4.alloc (.cells (KV p a1 c1 b1 d1) 32):=⟨_,rfl⟩
 have A5:Ll (La w4 W5):=aa (by rw[hW5];exact ae _ _);have PB:Ll (KY W5 w4.heap.size p a1 c1 b1 d1):=aa (by rw[hW5];exact MN _ _);rw[<-hW5];clear hW5;have B35:=aa (ab B4.o A5.o);have Y5:=aa (ab Y3.o B35.o);have P5:=aa (P4.o.bel A5.o);have TB5:=aa (X1.o.bel B35.o);have AB5:=aa (X2.o.bel B35.o);have ZB5:=aa (af B35.o X3.o);have S5:Ll (w.heap.size+3<=W5.heap.size):=aa (by have:=ZB5.o.lt;omega);by_cases hpe:pe=0
 rotate_left
 ·have e0:(pe != 0)=true:=by simpa using hpe
  have e1:(pe == 0)=false:=by rw[MO];exact hpe
  have R:Ll (aJ t q=(t.value,t.owners,pe)):=aa (by unfold aJ;rw[HPA.o,if_pos hpe]);clear hpe;go_upto_region 3 with fail
  have t0_:=TB5.o.c;have NB:=aa ZB5.o;have n0_:=NB.o.c;rw[show w.heap.size+2=w.heap.size+1+1 from rfl]at n0_;have ZB:=aa (LH NB.o.set t.value a c b d);have BW:=aa (LH (aP (Y5.o) (show w.heap.size<=w.heap.size+2 by omega)) t.value a c b d);have RI:=aa ((TI.o.bel (Y5.o)).outN (g:=w.heap.size+2) (by omega) (by omega) (.int .i64 t.value.kind) (.int .i64 t.value.n) (.string ⟨t.value.s.toArray⟩) (.slice a t.value.keys.length c) (.slice b t.value.l.length d));have RO:=aa (lT (TO.o.bel (Y5.o)) (g:=w.heap.size+2) (by omega) (by omega) (.int .i64 t.value.kind) (.int .i64 t.value.n) (.string ⟨t.value.s.toArray⟩) (.slice a t.value.keys.length c) (.slice b t.value.l.length d));go_region
  go_wp2
  have z0_:=ZB.o.c;rw[show w.heap.size+2=w.heap.size+1+1 from rfl]at z0_;refine MM (v:=.tuple #[.agg (KV t.value a c b d),.slice oa t.owners.length oc,.int .i64 pe]) ?_ rfl ?_
  ·simp only[ar]at z0_;simp[results,results65,go_sem,z0_]
  ·rw[R.o];exact⟨_,_,rfl,RI.o.bel (aC _ 1),RO.o.bel (aC _ 1),ab BW.o (aC _ 1)⟩
 subst hpe;by_cases h5:q.kind=5
 ·have e5:(q.kind == 5)=true:=by simp[h5]
  obtain⟨y,yo,yc,ye,hy⟩:∃ y yo yc ye,eC t.value t.owners q.who p q.force=(y,yo,yc,ye):=⟨_,_,_,_,rfl⟩
  have R:Ll (aJ t q=(y,yo,ye)):=aa (by unfold aJ;rw[HPA.o,if_neg (by simp),if_pos h5,hy]);have AP:=Fl W5 (bg ok w.heap.size (w.heap.size+3)) t.value p t.owners q.who q.force _ _ _ (TI.o.bel Y5.o) (TO.o.bel Y5.o) P5.o (HM.o.bel Y5.o) HN.o HP.o HQW.o;rw[hy]at AP;have APC:Ll (Calls prog 84 #[.agg (KV t.value a c b d),.slice oa t.owners.length oc,.string ⟨q.who.toArray⟩,.agg (KV p a1 c1 b1 d1),.bool q.force] W5 fun e w'=>∃ (a2 b2:Option Addr) (c2 d2:Nat) (ma:Option Addr) (mc:Nat) (ca:Option Addr) (cc:Nat),e=.returned (.tuple #[.agg (KV y a2 c2 b2 d2),.slice ma yo.length mc,.slice ca yc.length cc,.int .i64 ye])/\In w' (bg ok w.heap.size (w.heap.size+3)) y (.agg (KV y a2 c2 b2 d2))/\aB w' (bg ok w.heap.size (w.heap.size+3)) yo (.slice ma yo.length mc)/\La W5 w'):=aa (AP.mono fun e w' h=>by
   obtain⟨r,ro,rc,rfl,h1,h2,h3,hb⟩:=h;obtain⟨a2,b2,c2,d2,rfl⟩:=h1.form;obtain⟨ma,mc,rfl⟩:=h2.form;obtain⟨ca,cc,rfl⟩:∃ a c,rc=.slice a yc.length c:=by
    rcases h3.2 with⟨rfl,h9⟩ | ⟨g,cap,cur,rfl,-⟩
    ·rw[h9];exact⟨_,_,rfl⟩
    ·exact⟨_,_,rfl⟩
   exact⟨a2,b2,c2,d2,ma,mc,ca,cc,rfl,h1.weak (No S5.o),h2.weak (No S5.o),hb⟩)
  clear AP hy h5;have t0_:=TB5.o.c;have q0_:=AB5.o.c;have p0_:=PB.o.c;go_upto_region 6 with (go_at_call 84;refine APC.o.mono ?_;rintro e w6 ⟨a2,b2,c2,d2,ma,mc,ca,cc,rfl,h1,h2,hb⟩;have B6:=aa hb;have I6:=aa h1;have O6:=aa h2;clear h1 h2 hb)
  obtain⟨W7,hW7⟩:∃ W,W=w6.alloc (.cells (KV y a2 c2 b2 d2) 32):=⟨_,rfl⟩
  have A7:Ll (La w6 W7):=aa (by rw[hW7];exact ae _ _);have RB:Ll (KY W7 w6.heap.size y a2 c2 b2 d2):=aa (by rw[hW7];exact MN _ _);rw[<-hW7];clear hW7;have B57:=aa (ab B6.o A7.o);have NB:=aa (af B57.o ZB5.o);have p0_:=RB.o.c;have n0_:=NB.o.c;have ZB:=aa (LH NB.o.set y a2 c2 b2 d2);have BW:=aa (LH (aP (ab Y5.o B57.o) (show w.heap.size<=w.heap.size+2 by omega)) y a2 c2 b2 d2);have RI:=aa ((I6.o.bel A7.o).outN (g:=w.heap.size+2) (by omega) (by omega) (.int .i64 y.kind) (.int .i64 y.n) (.string ⟨y.s.toArray⟩) (.slice a2 y.keys.length c2) (.slice b2 y.l.length d2));have RO:=aa (lT (O6.o.bel A7.o) (g:=w.heap.size+2) (by omega) (by omega) (.int .i64 y.kind) (.int .i64 y.n) (.string ⟨y.s.toArray⟩) (.slice a2 y.keys.length c2) (.slice b2 y.l.length d2));go_wp2
  have z0_:=ZB.o.c;rw[show w.heap.size+2=w.heap.size+1+1 from rfl]at z0_;refine MM (v:=.tuple #[.agg (KV y a2 c2 b2 d2),.slice ma yo.length mc,.int .i64 ye]) ?_ rfl ?_
  ·simp only[ar]at z0_;simp[results,results65,go_sem,z0_]
  ·rw[R.o];exact⟨_,_,rfl,RI.o,RO.o,BW.o⟩
 have e5:(q.kind == 5)=false:=by rw[MO];exact h5
 obtain⟨y,ye,hy⟩:∃ y ye,bW t.value q.kind p=(y,ye):=⟨_,_,rfl⟩
 have CH:=zc W5 (bg ok w.heap.size (w.heap.size+3)) t.value p q.kind _ _ (TI.o.bel Y5.o) P5.o (HM.o.bel Y5.o) (HW.o.bel Y5.o);rw[hy]at CH;have CHC:Ll (Calls prog 85 #[.agg (KV t.value a c b d),.int .i64 q.kind,.agg (KV p a1 c1 b1 d1)] W5 fun e w'=>∃ (a2 b2:Option Addr) (c2 d2:Nat),e=.returned (.tuple #[.agg (KV y a2 c2 b2 d2),.int .i64 ye])/\In w' (bg ok w.heap.size (w.heap.size+3)) y (.agg (KV y a2 c2 b2 d2))/\La W5 w'):=aa (CH.mono fun e w' h=>by
  obtain⟨r,rfl,h1,hb⟩:=h;obtain⟨a2,b2,c2,d2,rfl⟩:=h1.form;exact⟨a2,b2,c2,d2,rfl,h1.weak (No S5.o),hb⟩)
 have HY:=aa hy;have H5:=aa h5;clear CH hy h5;have t0_:=TB5.o.c;have q0_:=AB5.o.c;have p0_:=PB.o.c;go_upto_region 8 with (go_at_call 85;refine CHC.o.mono ?_;rintro e w6 ⟨a2,b2,c2,d2,rfl,h1,hb⟩;have B6:=aa hb;have I6:=aa h1;clear h1 hb)
 obtain⟨W7,hW7⟩:∃ W,W=w6.alloc (.cells (KV y a2 c2 b2 d2) 32):=⟨_,rfl⟩
 have A7:Ll (La w6 W7):=aa (by rw[hW7];exact ae _ _);have RB:Ll (KY W7 w6.heap.size y a2 c2 b2 d2):=aa (by rw[hW7];exact MN _ _);rw[<-hW7];clear hW7;have B57:=aa (ab B6.o A7.o);have Y7:=aa (ab Y5.o B57.o);have TB7:=aa (TB5.o.bel B57.o);have I7:=aa (I6.o.bel A7.o);have S7:Ll (w.heap.size+3<=w6.heap.size):=aa (MH S5.o B6.o.size);by_cases hye:ye=0
 rotate_left
 ·have e0:(ye != 0)=true:=by simpa using hye
  have e1:(ye == 0)=false:=by rw[MO];exact hye
  have R:Ll (aJ t q=(t.value,t.owners,ye)):=aa (by unfold aJ;rw[HPA.o,if_neg (by simp),if_neg H5.o,HY.o,if_pos hye]);clear hye;go_upto_region 9 with fail
  have t0_:=TB7.o.c;have NB:=aa (af B57.o ZB5.o);have n0_:=NB.o.c;rw[show w.heap.size+2=w.heap.size+1+1 from rfl]at n0_;have ZB:=aa (LH NB.o.set t.value a c b d);have BW:=aa (LH (aP (Y7.o) (show w.heap.size<=w.heap.size+2 by omega)) t.value a c b d);have RI:=aa ((TI.o.bel (Y7.o)).outN (g:=w.heap.size+2) (by omega) (by omega) (.int .i64 t.value.kind) (.int .i64 t.value.n) (.string ⟨t.value.s.toArray⟩) (.slice a t.value.keys.length c) (.slice b t.value.l.length d));have RO:=aa (lT (TO.o.bel (Y7.o)) (g:=w.heap.size+2) (by omega) (by omega) (.int .i64 t.value.kind) (.int .i64 t.value.n) (.string ⟨t.value.s.toArray⟩) (.slice a t.value.keys.length c) (.slice b t.value.l.length d));go_region
  go_wp2
  have z0_:=ZB.o.c;rw[show w.heap.size+2=w.heap.size+1+1 from rfl]at z0_;refine MM (v:=.tuple #[.agg (KV t.value a c b d),.slice oa t.owners.length oc,.int .i64 ye]) ?_ rfl ?_
  ·simp only[ar]at z0_;simp[results,results65,go_sem,z0_]
  ·rw[R.o];exact⟨_,_,rfl,RI.o.bel (aC _ 1),RO.o.bel (aC _ 1),ab BW.o (aC _ 1)⟩
 subst hye;obtain⟨ko,hko⟩:∃ ko,ir y t.owners=ko:=⟨_,rfl⟩
 have R:Ll (aJ t q=(y,ko,0)):=aa (by unfold aJ;rw[HPA.o,if_neg (by simp),if_neg H5.o,HY.o,if_neg (by simp),hko]);have KEEP:Ll (∀ W,La W7 W->Calls prog 86 #[.agg (KV y a2 c2 b2 d2),.slice oa t.owners.length oc] W fun e w'=>∃ ka kc,e=.returned (.slice ka ko.length kc)/\aB w' (fun k=>W.heap.size<=k) ko (.slice ka ko.length kc)/\La W w'):=aa (fun W hW=>by
  have:=Hz W (bg ok w.heap.size (w.heap.size+3)) y t.owners _ _ (I7.o.bel hW) ((TO.o.bel Y7.o).bel hW) (HM.o.bel (ab Y7.o hW)) HN.o HP.o;rw[hko]at this;exact this)
 clear hko;go_upto_region 10 with fail
 refine aD (fun wS=>La W7 wS) [5] (by kernel_rfl) (aC _ 1) (fun LI=>?_);refine WT.out ?_;iterate 4
  first
   | refine OJ 0 ?_ [5,6,7] LI ?_ ?_
   | refine OJ 1 ?_ [4,5,6,7] LI ?_ ?_
   | refine OJ 2 ?_ [3,4,5,6,7] LI ?_ ?_
   | refine OJ 3 ?_ [4,5,6,7] LI ?_ ?_
  rotate_left
  ·intro wS LN;have t0_:=(TB7.o.bel LN).c;have p0_:=(af LN RB.o).c;go_simp;all_goals with_reducible rfl
  simp only[av,List.set]
 repeat' (first
  | exact nl
  |(refine ON 4 (fun K hK=>?_) ?_
    go_simp;refine(KEEP.o _ LI).mono ?_;rintro e w4q ⟨ka,kc,rfl,h1,hb5⟩;refine hK.out _ _ (ab LI hb5) (fun LJ=>?_);have KO:Ll (aB w4q (bg ok w.heap.size (w.heap.size+3)) ko (.slice ka ko.length kc)):=aa (h1.weak fun k hk=>.inr (MH (MH S7.o (MH A7.o.size LI.size)) hk));clear hb5 h1;clear hK K;replace LI:=LJ;clear LJ;try simp only[Act.put,Mt,Mu,Mv])
  |(refine OO 5 (fun K hK=>?_)
    have NB:=aa (af LI (af B57.o ZB5.o));have n0_:=NB.o.c;rw[show w.heap.size+2=w.heap.size+1+1 from rfl]at n0_;have ZB:=aa (LH NB.o.set y a2 c2 b2 d2);have BW:=aa (LH (aP (ab Y7.o LI) (show w.heap.size<=w.heap.size+2 by omega)) y a2 c2 b2 d2);have RI:=aa ((I7.o.bel LI).outN (g:=w.heap.size+2) (by omega) (by omega) (.int .i64 y.kind) (.int .i64 y.n) (.string ⟨y.s.toArray⟩) (.slice a2 y.keys.length c2) (.slice b2 y.l.length d2));have RO:=aa (lT KO.o (g:=w.heap.size+2) (by omega) (by omega) (.int .i64 y.kind) (.int .i64 y.n) (.string ⟨y.s.toArray⟩) (.slice a2 y.keys.length c2) (.slice b2 y.l.length d2));go_simp;refine hK.out _ _ ?_;clear hK K;try simp only[Act.put,Mt,Mu,Mv])
  |(refine OO 6 (fun K hK=>?_)
    go_simp;refine hK.out _ _ ?_;clear hK K;try simp only[Act.put,Mt,Mu,Mv])
  |(refine OO 7 (fun K hK=>?_)
    go_simp;refine hK.out _ _ ?_;clear hK K;try simp only[Act.put,Mt,Mu,Mv])
  | refine OL [4] ?_
  | fail)
 all_goals
  refine dn (by kernel_rfl) ?_;have z0_:=ZB.o.c;rw[show w.heap.size+2=w.heap.size+1+1 from rfl]at z0_;go_wp2
  refine MM (v:=.tuple #[.agg (KV y a2 c2 b2 d2),.slice ka ko.length kc,.int .i64 0]) ?_ rfl ?_
  ·simp only[ar]at z0_;simp[results,results65,go_sem,z0_]
  ·rw[R.o];exact⟨_,_,rfl,RI.o,RO.o,BW.o⟩
end
variable {k:Nat}
theorem yC(w:LC)(ok ok')(x y:aL)(a b)(c d:Nat)(hx:ao w ok x.paths (.slice a x.paths.length c))(hy:ao w ok' y.paths (.slice b y.paths.length d)):Calls prog 88 #[.agg #[.string ⟨x.name.toArray⟩,.slice a x.paths.length c],.agg #[.string ⟨y.name.toArray⟩,.slice b y.paths.length d]] w fun e w'=>e=.returned (.bool (decide (x.name=y.name/\x.paths=y.paths)))/\La w w':=by
 obtain⟨W2,hW2⟩:∃ W,W=(w.alloc (.cells #[.string ⟨x.name.toArray⟩,.slice a x.paths.length c] 65)).alloc (.cells #[.string ⟨y.name.toArray⟩,.slice b y.paths.length d] 65):=⟨_,rfl⟩
 have Y2:Ll (La w W2):=aa (by rw[hW2];exact ab (ae _ _) (ae _ _));obtain⟨x0,x1⟩:W2.cell? ⟨w.heap.size,0,none⟩=some (.string ⟨x.name.toArray⟩)/\W2.cell? ⟨w.heap.size,1,none⟩=some (.slice a x.paths.length c):=by rw[hW2];exact rl (fb _ _ _)
 obtain⟨y0,y1⟩:W2.cell? ⟨w.heap.size+1,0,none⟩=some (.string ⟨y.name.toArray⟩)/\W2.cell? ⟨w.heap.size+1,1,none⟩=some (.slice b y.paths.length d):=by rw[hW2];exact rl (et _ _ _)
 have EQ:=aa (kM W2 ok ok' x.paths y.paths _ _ (hx.bel Y2.o) (hy.bel Y2.o));have HW2:=aa hW2;clear hW2 hx hy;by_cases hn:x.name=y.name
 ·have e9:(x.name == y.name)=true:=by simp[hn]
  have R:Ll (decide (x.name=y.name/\x.paths=y.paths)=decide (x.paths=y.paths)):=aa (by simp[hn]);obtain⟨o,ho⟩:∃ o,decide (x.paths=y.paths)=o:=⟨_,rfl⟩
  rw[ho]at EQ R;clear ho hn;go_enter func88,ntmps88;go_upto_region 1 with fail
  rw[<-HW2.o];go_wp2_with (go_at_call 70;refine EQ.o.mono ?_;rintro e w3 ⟨rfl,hb⟩;have B3:=aa hb;clear hb)
  go_ret;exact⟨by rw[R.o];first | done | rfl | simp,ab Y2.o B3.o⟩
 ·have e9:(x.name == y.name)=false:=by simpa using hn
  have R:Ll (decide (x.name=y.name/\x.paths=y.paths)=false):=aa (by simp[hn]);clear hn;go_enter func88,ntmps88;go_upto_region 1 with fail
  rw[<-HW2.o];go_wp2
  go_ret;exact⟨by rw[R.o];first | done | rfl | simp,Y2.o⟩
theorem Ex{x y:aL}:(x.name=y.name/\x.paths=y.paths)↔x=y:=by
 cases x;cases y;simp
theorem Ba{α:Type}{xs ys:List α}(h:xs.length=ys.length)(ht:xs.take xs.length=ys.take xs.length):xs=ys:=by
 rw[List.take_length,h,List.take_length]at ht;exact ht
theorem yT{xs ys:List aL}(h:xs.take k=ys.take k)(hx:k < xs.length)(hy:k < ys.length)(he:xs[k]=ys[k]):xs.take (k+1)=ys.take (k+1):=by
 rw[List.take_succ_eq_append_getElem hx,List.take_succ_eq_append_getElem hy,h,he]
open Classical in
theorem Cy(w ok ok' xs ys v u)(hx:aB w ok xs v)(hy:aB w ok' ys u):Calls prog 87 #[v,u,.func (.func 88) #[] #[]] w fun e w'=>e=.returned (.bool (decide (xs=ys)))/\La w w':=by
 obtain⟨xa,xc,rfl⟩:=hx.form;obtain⟨ya,yc,rfl⟩:=hy.form;have HX:=aa hx;have HY:=aa hy;have lx:=hx.1;have ly:=hy.1;unfold maxLen at lx ly;clear hx hy;by_cases hl:xs.length=ys.length
 rotate_left
 ·have e9:((xs.length:Int) == (ys.length:Int))=false:=by rw[MO];omega
  have e8:((xs.length:Int) != (ys.length:Int))=true:=by simp[bne,e9]
  have R:Ll (decide (xs=ys)=false):=decide_eq_false (fun h=>hl (by rw[h]));clear hl;go_enter func87,ntmps87;go_wp2
  go_ret;exact⟨by rw[R.o];first | done | rfl | simp,MK _ _⟩
 have e9:((xs.length:Int) == (ys.length:Int))=true:=by simp[hl]
 have e8:((xs.length:Int) != (ys.length:Int))=false:=by simp[hl]
 have HL:=aa hl;clear hl;go_enter func87,ntmps87;go_wp2
 go_loopg [17] xs.length (fun gk i wr=>∃ k:Nat,k<=xs.length/\gk=xs.length - k/\i=.int .i64 k/\Ll (xs.take k=ys.take k)/\Ll (La w wr))
 case atStart=>exact⟨0,Nat.zero_le _,rfl,rfl,aa (by simp),MK _ _⟩
 case round=>
  obtain⟨k,hk,hgk,rfl,TK,BL⟩:=hrel;have GK:=aa hgk;clear hgk;by_cases hlt:k < xs.length
  ·have hlt2:k < ys.length:=by rw[<-HL.o];exact hlt
   obtain⟨b1,o1,pa,pc,rfl,j1,j2,k1,k2,k3,-⟩:=HX.o.at hlt;obtain⟨b2,o2,qa,qc,rfl,i1,i2,l1,l2,l3,-⟩:=HY.o.at hlt2;have c1:=ah BL.o k1;have c2:=ah BL.o k2;have d1:=ah BL.o l1;have d2:=ah BL.o l2;have P3:=aa (k3.bel BL.o);have Q3:=aa (l3.bel BL.o);clear k1 k2 k3 l1 l2 l3;have w2:(k:Int) < (xs.length:Int):=by omega
   have w3:(0:Int)<=(k:Int):=by omega
   have w4:(k:Int) < (ys.length:Int):=by omega
   have STEP:Ll (xs[k]=ys[k]->xs.take (k+1)=ys.take (k+1)):=fun h=>yT TK.o hlt hlt2 h;have STOP:Ll (xs[k]≠ys[k]->decide (xs=ys)=false):=fun h=>decide_eq_false (fun e=>h (by subst e;rfl));obtain⟨x,hxk⟩:∃ x,xs[k]=x:=⟨_,rfl⟩
   obtain⟨y,hyk⟩:∃ y,ys[k]=y:=⟨_,rfl⟩
   rw[hxk]at c1 c2 P3 STEP STOP;rw[hyk]at d1 d2 Q3 STEP STOP;clear hxk hyk;obtain⟨W5,hW5⟩:∃ W,W=wr.alloc (.cells #[.string ⟨x.name.toArray⟩,.slice pa x.paths.length pc] 65):=⟨_,rfl⟩
   have A5:Ll (La wr W5):=aa (by rw[hW5];exact ae _ _);have X5:Ll (W5.heap[wr.heap.size]?=some (.cells #[.string ⟨x.name.toArray⟩,.slice pa x.paths.length pc] 65)):=aa (by rw[hW5];exact MN _ _);have HW5:=aa hW5;clear hW5;go_upto_region 6 with fail
   rw[<-HW5.o];clear c1 c2;replace d1:=ah A5.o d1;replace d2:=ah A5.o d2;obtain⟨W6,hW6⟩:∃ W,W=W5.alloc (.cells #[.string ⟨y.name.toArray⟩,.slice qa y.paths.length qc] 65):=⟨_,rfl⟩
   have A6:Ll (La W5 W6):=aa (by rw[hW6];exact ae _ _);obtain⟨y0,y1⟩:W6.cell? ⟨W5.heap.size,0,none⟩=some (.string ⟨y.name.toArray⟩)/\W6.cell? ⟨W5.heap.size,1,none⟩=some (.slice qa y.paths.length qc):=by rw[hW6];exact rl (MN _ _)
   obtain⟨x0,x1⟩:=rl (bR A6.o X5.o);have HW6:=aa hW6;clear hW6;go_upto_region 7 with fail
   rw[<-HW6.o];clear d1 d2;have B6:=aa (ab A5.o A6.o);have SO:=yC W6 ok ok' x y pa qa pc qc (P3.o.bel B6.o) (Q3.o.bel B6.o);by_cases he:x=y
   ·rw[decide_eq_true (Ex.2 he)]at SO;have SAME:=aa SO;have TK9:=aa (STEP.o he);clear SO he;go_wp2_with (go_at_call 88;refine SAME.o.mono ?_;rintro e w7 ⟨rfl,hb⟩;have B7:=aa (ab (ab BL.o B6.o) hb);clear hb)
    go_roundg (xs.length - (k+1))
    case measure=>rw[GK.o];omega
    case rel=>exact⟨k+1,hlt,rfl,by go_num,TK9,B7⟩
   ·rw[decide_eq_false (fun h=>he (Ex.1 h))]at SO;have SAME:=aa SO;have R:=aa (STOP.o he);clear SO he;go_wp2_with (go_at_call 88;refine SAME.o.mono ?_;rintro e w7 ⟨rfl,hb⟩;have B7:=aa (ab (ab BL.o B6.o) hb);clear hb)
    go_ret;exact⟨by rw[R.o];first | done | rfl | simp,B7.o⟩
  ·have d9:¬(k:Int) < (xs.length:Int):=by omega
   have Mc:k=xs.length:=by omega
   have R:Ll (decide (xs=ys)=true):=decide_eq_true (Ba HL.o (by have:=TK.o;rw[Mc]at this;exact this));clear Mc;go_wp2
   go_ret;exact⟨by rw[R.o];first | done | rfl | simp,BL.o⟩
open Classical in
theorem rh(w ok ok' xs ys v u)(hx:aB w ok xs v)(hy:aB w ok' ys u):Calls prog 66 #[v,u] w fun e w'=>e=.returned (.bool (decide (xs=ys)))/\La w w':=by
 have C:=Cy w ok ok' xs ys v u hx hy;obtain⟨xa,xc,rfl⟩:=hx.form;obtain⟨ya,yc,rfl⟩:=hy.form;generalize decide (xs=ys)=o at C ⊢;clear hx hy;go_enter func66,ntmps66;go_wp2_with (go_at_call 87;refine C.mono ?_;rintro e w1 ⟨rfl,hb⟩)
 go_ret;exact⟨rfl,hb⟩
def fX (r:uf):Value:=.agg #[.int .i64 r.code,.int .i64 r.n,.string ⟨r.body.toArray⟩]
def pj (t:Th):uf:=if (eP 12 t.value).2≠0 then bz (eP 12 t.value).2 else ⟨0,t.ver,(eP 12 t.value).1⟩
def dK (w:LC) (g:Nat) (c n:Int) (b:Lz):Prop:=w.heap[g]?=some (.cells #[.int .i64 c,.int .i64 n,.string ⟨b.toArray⟩] 42)
theorem dK.c{c n b}(h:dK w g c n b):w.cell? ⟨g,0,none⟩=some (.int .i64 c)/\w.cell? ⟨g,1,none⟩=some (.int .i64 n)/\w.cell? ⟨g,2,none⟩=some (.string ⟨b.toArray⟩)/\w.frozen? ⟨g,0,none⟩=false/\w.frozen? ⟨g,1,none⟩=false/\w.frozen? ⟨g,2,none⟩=false:=by
 unfold dK at h;refine⟨?_,?_,?_,?_,?_,?_⟩ <;> simp[World.cell?,World.frozen?,h]
theorem dK.bel{c n b}(h:dK w g c n b)(hb:La w w'):dK w' g c n b:=(hb.block g (MF.1 h).1).trans h
def fE (w:LC) (g:Nat) (r:uf):LC:=((w.setCell ⟨g,0,none⟩ (.int .i64 r.code)).setCell ⟨g,1,none⟩ (.int .i64 r.n)).setCell ⟨g,2,none⟩ (.string ⟨r.body.toArray⟩)
theorem dK.set{c n b}(h:dK w g c n b)(r:uf):dK (fE w g r) g r.code r.n r.body:=ak (ak (ak h 0 _) 1 _) 2 _
theorem pJ{a}(h:La a w)(hg:a.heap.size<=g)(r:uf):La a (fE w g r):=aQ (aQ (aQ h hg _ _) hg _ _) hg _ _
theorem fN.ver{t a b c oa oc}(h:fN w g t a b c d oa oc)(n):fN (w.setCell ⟨g,7,none⟩ (.int .i64 n)) g { t with ver:=n } a b c d oa oc:=ak h 7 _
theorem fN.gen{t a b c oa oc}(h:fN w g t a b c d oa oc)(n):fN (w.setCell ⟨g,8,none⟩ (.int .i64 n)) g { t with gen:=n } a b c d oa oc:=ak h 8 _
def mV (w:LC) (g o:Nat) (s:dI):LC:=(((((w.setCell ⟨g,o,none⟩ (.string ⟨s.a.toArray⟩)).setCell ⟨g,o+1,none⟩ (.string ⟨s.c.toArray⟩)).setCell ⟨g,o+2,none⟩ (.int .i64 s.ph)).setCell ⟨g,o+3,none⟩ (.int .i64 s.st)).setCell ⟨g,o+4,none⟩ (.int .i64 s.we)).setCell ⟨g,o+5,none⟩ (.int .i64 s.si)
theorem fN.sta{t a b c oa oc}(h:fN w g t a b c d oa oc)(s):fN (mV w g 9 s) g { t with st:=s } a b c d oa oc:=ak (ak (ak (ak (ak (ak h 9 _) 10 _) 11 _) 12 _) 13 _) 14 _
theorem fN.putV{t a b c oa oc}(h:fN w g t a b c d oa oc)(x l a' b' c' d' oa' oc'):fN ((((((w.setCell ⟨g,1,none⟩ (.int .i64 x.kind)).setCell ⟨g,2,none⟩ (.int .i64 x.n)).setCell ⟨g,3,none⟩ (.string ⟨x.s.toArray⟩)).setCell ⟨g,4,none⟩ (.slice a' x.keys.length c')).setCell ⟨g,5,none⟩ (.slice b' x.l.length d')).setCell ⟨g,6,none⟩ (.slice oa' l.length oc')) g { t with value:=x,owners:=l } a' b' c' d' oa' oc':=
 ak (ak (ak (ak (ak (ak h 1 _) 2 _) 3 _) 4 _) 5 _) 6 _
theorem Hn(w:LC)(ok t a b c d oa oc)(ht:cQ w ok t a b c d oa oc)(hG:cn w):Calls prog 29 #[.agg (Ld t a c b d oa oc)] w fun e w'=>e=.returned (fX (pj t))/\La w w':=by
 obtain⟨W2,hW2⟩:∃ W,W=(w.alloc (.cells (Ld t a c b d oa oc) 37)).alloc (.cells #[.int .i64 0,.int .i64 0,.string ⟨#[]⟩] 42):=⟨_,rfl⟩
 have Y2:Ll (La w W2):=aa (by rw[hW2];exact ab (ae _ _) (ae _ _));have TB:Ll (fN W2 w.heap.size t a b c d oa oc):=aa (by rw[hW2];exact fb _ _ _);have ZB:Ll (dK W2 (w.heap.size+1) 0 0 []):=aa (by rw[hW2];exact et _ _ _);have HW2:=aa hW2;have PR:=EP W2 ok t.value _ (ht.val.bel Y2.o) (hG.grown (r:=none) (aq Y2.o) (by simp));obtain⟨l,pe,hl⟩:∃ l pe,eP 12 t.value=(l,pe):=⟨_,_,rfl⟩
 rw[hl]at PR;have PRC:=aa PR;have HL:=aa hl;clear PR hl hW2 ht hG;have t0_:=TB.o.c;go_enter func29,ntmps29;go_upto_region 1 with fail
 rw[<-HW2.o];go_upto_region 2 with (go_at_call 11;refine PRC.o.mono ?_;rintro e w3 ⟨rfl,hb⟩;have B3:=aa hb;clear hb)
 by_cases hpe:pe=0
 ·subst hpe;have R:Ll (pj t=⟨0,t.ver,l⟩):=aa (by unfold pj;rw[HL.o,if_neg (by simp)]);have t0_:=(TB.o.bel B3.o).c;have n0_:=(ZB.o.bel B3.o).c;have Z9:=aa ((ZB.o.bel B3.o).set ⟨0,t.ver,l⟩);have BZ:=aa (pJ (ab Y2.o B3.o) (show w.heap.size<=w.heap.size+1 by omega) ⟨0,t.ver,l⟩);go_wp2
  have z0_:=Z9.o.c;refine MM (v:=.agg #[.int .i64 0,.int .i64 t.ver,.string ⟨l.toArray⟩]) ?_ rfl ?_
  ·simp only[fE]at z0_;simp[results,results29,go_sem,z0_]
  ·rw[R.o];exact⟨rfl,BZ.o⟩
 ·have e0:(pe != 0)=true:=by simpa using hpe
  have e1:(pe == 0)=false:=by rw[MO];exact hpe
  have R:Ll (pj t=bz pe):=aa (by unfold pj;rw[HL.o,if_pos hpe]);have RF:=aa (dh w3 pe);clear hpe;go_wp2_with (go_at_call 15;refine RF.o.mono ?_;rintro e w4 ⟨rfl,hb⟩;have B4:=aa (ab B3.o hb);clear hb;have n0_:=(ZB.o.bel B4.o).c;have Z9:=aa ((ZB.o.bel B4.o).set (bz pe));have BZ:=aa (pJ (ab Y2.o B4.o) (show w.heap.size<=w.heap.size+1 by omega) (bz pe)))
  have z0_:=Z9.o.c;refine MM (v:=.agg #[.int .i64 pe,.int .i64 0,.string ⟨#[]⟩]) ?_ rfl ?_
  ·simp only[fE,bz]at z0_;simp[results,results29,go_sem,z0_]
  ·rw[R.o];exact⟨rfl,BZ.o⟩
variable {wr:World}
variable {y:V}
variable {c:Nat}
def dT:Th:=⟨[],aM,[],0,0,⟨[],[],0,0,0,0⟩⟩
def jE (w:LC) (g:Nat) (t:Th) (a b:Option Addr) (c d:Nat) (oa:Option Addr) (oc:Nat):LC:=(((((((((((((((w.setCell ⟨g,0,none⟩ (.string ⟨t.name.toArray⟩)).setCell ⟨g,1,none⟩ (.int .i64 t.value.kind)).setCell ⟨g,2,none⟩ (.int .i64 t.value.n)).setCell ⟨g,3,none⟩ (.string ⟨t.value.s.toArray⟩)).setCell ⟨g,4,none⟩ (.slice a t.value.keys.length c)).setCell ⟨g,5,none⟩ (.slice b t.value.l.length d)).setCell ⟨g,6,none⟩ (.slice oa t.owners.length oc)).setCell ⟨g,7,none⟩ (.int .i64 t.ver)).setCell ⟨g,8,none⟩ (.int .i64 t.gen)).setCell ⟨g,9,none⟩ (.string ⟨t.st.a.toArray⟩)).setCell ⟨g,10,none⟩ (.string ⟨t.st.c.toArray⟩)).setCell ⟨g,11,none⟩ (.int .i64 t.st.ph)).setCell ⟨g,12,none⟩ (.int .i64 t.st.st)).setCell ⟨g,13,none⟩ (.int .i64 t.st.we)).setCell ⟨g,14,none⟩ (.int .i64 t.st.si))
theorem fN.put15{t0 a0 b0 c0 d0 oa0 oc0}(h:fN w g t0 a0 b0 c0 d0 oa0 oc0)(t a b c d oa oc):fN (jE w g t a b c d oa oc) g t a b c d oa oc:=by
 unfold fN at h ⊢;have h9:=ak (ak (ak (ak (ak (ak (ak (ak (ak (ak (ak (ak (ak (ak (ak (h) 0 (.string ⟨t.name.toArray⟩)) 1 (.int .i64 t.value.kind)) 2 (.int .i64 t.value.n)) 3 (.string ⟨t.value.s.toArray⟩)) 4 (.slice a t.value.keys.length c)) 5 (.slice b t.value.l.length d)) 6 (.slice oa t.owners.length oc)) 7 (.int .i64 t.ver)) 8 (.int .i64 t.gen)) 9 (.string ⟨t.st.a.toArray⟩)) 10 (.string ⟨t.st.c.toArray⟩)) 11 (.int .i64 t.st.ph)) 12 (.int .i64 t.st.st)) 13 (.int .i64 t.st.we)) 14 (.int .i64 t.st.si);unfold jE;rw[h9];simp only[Mt,Mu,Mv]
theorem mz{x:LC}{r}(h:x.grownBy w r)(hg:x.heap.size<=g)(t a b c d oa oc):x.grownBy (jE w g t a b c d oa oc) r:=bi (bi (bi (bi (bi (bi (bi (bi (bi (bi (bi (bi (bi (bi (bi (h) hg _ _) hg _ _) hg _ _) hg _ _) hg _ _) hg _ _) hg _ _) hg _ _) hg _ _) hg _ _) hg _ _) hg _ _) hg _ _) hg _ _) hg _ _
theorem eF.ver1{time ver acts}(h:eF w S v time ver acts)(n):eF (w.setCell ⟨S,2,none⟩ (.int .i64 n)) S v time n acts:=ak h 2 _
theorem eF.gr{time ver acts r}(h:eF w S v time ver acts)(hg:w.grownBy w' r)(hr:some S≠r):eF w' S v time ver acts:=(hg.block S (MF.1 h).1 hr).trans h
theorem fM.gr{i r}(h:fM w g i v)(hg:w.grownBy w' r)(hr:some g≠r):fM w' g i v:=(hg.block g (MF.1 h).1 hr).trans h
theorem lW(w:LC)(g o s):w.grownBy (mV w g o s) (some g):=ap (ap (ap (ap (ap (ap (az _ _) _ _) _ _) _ _) _ _) _ _) _ _
theorem Gx{l}(h:bk w l v)(hk:∀ a x,v.ownBlock=some a.block->w.cell? a=some x->w'.cell? a=some x):bk w' l v:=by
 refine⟨h.1,?_⟩;rcases h.2 with h | ⟨b,off,c,rfl,h1,h2,h3⟩
 ·exact .inl h
 ·exact .inr ⟨b,off,c,rfl,h1,h2,fun i x hx=>⟨hk _ _ rfl (h3 i x hx).1,hk _ _ rfl (h3 i x hx).2⟩⟩
structure kU (w:LC) (ok:Nat->Prop) (S:Nat) (v:Value) (time acts:Int) (y:V) (yo:List aL) (im:Lz) (sps:List dN) (vg pg:Nat) (a2 b2:Option Addr) (c2 d2:Nat) (ma sa:Option Addr) (mc sc:Nat) (t:Th) (a b:Option Addr) (c d:Nat) (oa:Option Addr) (oc:Nat) (ver:Int) (wr:LC):Prop where
 th:fN wr w.heap.size t a b c d oa oc
 res:fN wr (w.heap.size+2) dT none none 0 0 none 0
 val:KY wr vg y a2 c2 b2 d2
 spec:fM wr pg im (.slice sa sps.length sc)
 srv:eF wr S v time ver acts
 gb:w.grownBy wr (some S)
 inY:In wr (bg ok w.heap.size (w.heap.size+3)) y (.agg (KV y a2 c2 b2 d2))
 own:aB wr (bg ok w.heap.size (w.heap.size+3)) yo (.slice ma yo.length mc)
 stp:bk wr sps (.slice sa sps.length sc)
 new:∀ k,(Value.slice sa sps.length sc).ownBlock=some k->w.heap.size+3<=k
 low:S < w.heap.size
 nok:¬ok S
 vg3:w.heap.size+3<=vg
 pg3:w.heap.size+3<=pg
theorem kU.bel{time acts yo im sps vg pg a2 b2 c2 d2 ma sa mc sc t a b oa oc ver}{wr':LC}(h:kU w ok S v time acts y yo im sps vg pg a2 b2 c2 d2 ma sa mc sc t a b c d oa oc ver wr)(hb:La wr wr'):kU w ok S v time acts y yo im sps vg pg a2 b2 c2 d2 ma sa mc sc t a b c d oa oc ver wr':=
 ⟨h.th.bel hb,h.res.bel hb,af hb h.val,h.spec.bel hb,h.srv.bel hb,am h.gb (aq hb),h.inY.bel hb,h.own.bel hb,h.stp.bel hb,h.new,h.low,h.nok,h.vg3,h.pg3⟩
theorem kU.gr{time acts yo im sps vg pg a2 b2 c2 d2 ma sa mc sc t a b oa oc ver}{wr':LC}{r}(h:kU w ok S v time acts y yo im sps vg pg a2 b2 c2 d2 ma sa mc sc t a b c d oa oc ver wr)(hg:wr.grownBy wr' (some r))(hr:r=S\/r=w.heap.size){t' a9 b9 c9 d9 oa9 oc9 ver'}(ht:fN wr' w.heap.size t' a9 b9 c9 d9 oa9 oc9)(hs:eF wr' S v time ver' acts):kU w ok S v time acts y yo im sps vg pg a2 b2 c2 d2 ma sa mc sc t' a9 b9 c9 d9 oa9 oc9 ver' wr':=by
 have h1:=h.low;have h2:=h.vg3;have h3:=h.pg3;have hok:∀ k,bg ok w.heap.size (w.heap.size+3) k->some k≠some r:=by
  intro k hk e;cases e;rcases hk with hk | hk
  ·rcases hr with rfl | rfl
   ·exact h.nok hk.1
   ·exact Nat.lt_irrefl _ hk.2
  ·omega
 refine⟨ht,h.res.gr hg (fun e=>by cases e;omega),h.val.grown hg (fun e=>by cases e;omega),h.spec.gr hg (fun e=>by cases e;omega),hs,?_,h.inY.grownR hg hok,h.own.grownR hg hok,?_,h.new,h.low,h.nok,h.vg3,h.pg3⟩
 ·exact⟨hg.os.trans h.gb.os,hg.tape.trans h.gb.tape,hg.output.trans h.gb.output,MH h.gb.size hg.size,fun k hk hr'=>(hg.block k (MI hk h.gb.size) (fun e=>by
   cases e;rcases hr with rfl | rfl
   ·exact hr' rfl
   ·omega)).trans (h.gb.block k hk hr')⟩
 ·refine Gx h.stp fun a x e hx=>?_;have h4:=h.new _ e;rw[<-hx];have h5:a.block < wr.heap.size:=World.block_lt_of_cell? wr a hx;have h6:=hg.block a.block h5 (fun e=>by cases e;omega);simp only[World.cell?,h6]
theorem kU.verS{time acts yo im sps vg pg a2 b2 c2 d2 ma sa mc sc t a b oa oc ver}(h:kU w ok S v time acts y yo im sps vg pg a2 b2 c2 d2 ma sa mc sc t a b c d oa oc ver wr)(n):kU w ok S v time acts y yo im sps vg pg a2 b2 c2 d2 ma sa mc sc t a b c d oa oc n (wr.setCell ⟨S,2,none⟩ (.int .i64 n)):=
 h.gr (r:=S) (ap (az _ _) _ _) (.inl rfl) (h.th.gr (ap (az _ _) _ _) (fun e=>by cases e;exact Nat.lt_irrefl _ h.low)) (h.srv.ver1 n)
theorem kU.verT{time acts yo im sps vg pg a2 b2 c2 d2 ma sa mc sc t a b oa oc ver}(h:kU w ok S v time acts y yo im sps vg pg a2 b2 c2 d2 ma sa mc sc t a b c d oa oc ver wr)(n):kU w ok S v time acts y yo im sps vg pg a2 b2 c2 d2 ma sa mc sc { t with ver:=n } a b c d oa oc ver (wr.setCell ⟨w.heap.size,7,none⟩ (.int .i64 n)):=
 h.gr (r:=w.heap.size) (ap (az _ _) _ _) (.inr rfl) (h.th.ver n) (h.srv.gr (ap (az _ _) _ _) (fun e=>by cases e;exact Nat.lt_irrefl _ h.low))
theorem kU.genT{time acts yo im sps vg pg a2 b2 c2 d2 ma sa mc sc t a b oa oc ver}(h:kU w ok S v time acts y yo im sps vg pg a2 b2 c2 d2 ma sa mc sc t a b c d oa oc ver wr)(n):kU w ok S v time acts y yo im sps vg pg a2 b2 c2 d2 ma sa mc sc { t with gen:=n } a b c d oa oc ver (wr.setCell ⟨w.heap.size,8,none⟩ (.int .i64 n)):=
 h.gr (r:=w.heap.size) (ap (az _ _) _ _) (.inr rfl) (h.th.gen n) (h.srv.gr (ap (az _ _) _ _) (fun e=>by cases e;exact Nat.lt_irrefl _ h.low))
theorem kU.staT{time acts yo im sps vg pg a2 b2 c2 d2 ma sa mc sc t a b oa oc ver}(h:kU w ok S v time acts y yo im sps vg pg a2 b2 c2 d2 ma sa mc sc t a b c d oa oc ver wr)(s):kU w ok S v time acts y yo im sps vg pg a2 b2 c2 d2 ma sa mc sc { t with st:=s } a b c d oa oc ver (mV wr w.heap.size 9 s):=
 h.gr (r:=w.heap.size) (lW _ _ _ _) (.inr rfl) (h.th.sta s) (h.srv.gr (lW _ _ _ _) (fun e=>by cases e;exact Nat.lt_irrefl _ h.low))
theorem fY:∀ (L0:List (List Value)),(∀ c∈L0,c.length=15)->L0.flatten.length=L0.length * 15
 | [],_=>rfl
 | c :: r,h=>by
  rw[List.flatten_cons,Mx,fY r (fun x hx=>h x (by simp[hx])),h c (by simp),My];omega
theorem nd:∀ (L0:List (List Value)) (i:Nat),(∀ c∈L0,c.length=15)->L0.flatten.take (i * 15)=(L0.take i).flatten
 | [],i,_=>by simp
 | c :: r,0,_=>by simp
 | c :: r,i+1,h=>by
  rw[List.flatten_cons,List.take_succ_cons,List.flatten_cons,List.take_append,MD (by rw[h c (by simp)];omega),h c (by simp),show (i+1) * 15 - 15=i * 15 by omega,nd r i (fun x hx=>h x (by simp[hx]))]
theorem mF:∀ (L0:List (List Value)) (i:Nat),(∀ c∈L0,c.length=15)->L0.flatten.drop (i * 15)=(L0.drop i).flatten
 | [],i,_=>by simp
 | c :: r,0,_=>by simp
 | c :: r,i+1,h=>by
  rw[List.flatten_cons,List.drop_succ_cons,List.drop_append,List.drop_of_length_le (by rw[h c (by simp)];omega),h c (by simp),show (i+1) * 15 - 15=i * 15 by omega,mF r i (fun x hx=>h x (by simp[hx])),List.nil_append]
theorem oN:∀ (L0:List (List Value)) (i j:Nat) (c:List Value),(∀ c∈L0,c.length=15)->L0[i]?=some c->j < 15->L0.flatten[i * 15+j]?=c[j]?
 | [],i,j,c,_,h,_=>by simp at h
 | c' :: r,0,j,c,hl,h,hj=>by
  simp only[List.getElem?_cons_zero,Option.some.injEq]at h;subst h;rw[List.flatten_cons,List.getElem?_append_left (by rw[hl c' (by simp)];omega)];simp
 | c' :: r,i+1,j,c,hl,h,hj=>by
  simp only[List.getElem?_cons_succ]at h;rw[List.flatten_cons,List.getElem?_append_right (by rw[hl c' (by simp)];omega),hl c' (by simp),show (i+1) * 15+j - 15=i * 15+j by omega];exact oN r i j c (fun x hx=>hl x (by simp[hx])) h hj
theorem uX:∀ (L0:List (List Value)) (i j:Nat) (c:List Value) (v:Value),(∀ c∈L0,c.length=15)->L0[i]?=some c->j < 15->L0.flatten.set (i * 15+j) v=(L0.set i (c.set j v)).flatten
 | [],i,j,c,v,_,h,_=>by simp at h
 | c' :: r,0,j,c,v,hl,h,hj=>by
  simp only[List.getElem?_cons_zero,Option.some.injEq]at h;subst h;rw[List.flatten_cons,Mu,List.flatten_cons,Nat.zero_mul,Nat.zero_add,List.set_append_left _ _ (by rw[hl c' (by simp)];omega)]
 | c' :: r,i+1,j,c,v,hl,h,hj=>by
  simp only[List.getElem?_cons_succ]at h;rw[List.flatten_cons,Mv,List.flatten_cons,List.set_append_right _ _ (by rw[hl c' (by simp)];omega),hl c' (by simp),show (i+1) * 15+j - 15=i * 15+j by omega,uX r i j c v (fun x hx=>hl x (by simp[hx])) h hj]
def dm (w:LC) (B:Nat) (ok:Nat->Prop) (ths:List Th) (v:Value):Prop:=
 ∃ L0:List (List Value),L0.length=ths.length/\w.ownsRow B 37 15 v ths.length L0.flatten /\
  ∀ (i:Nat) (t:Th) (cs:List Value),ths[i]?=some t->L0[i]?=some cs->∃ a b c d oa oc,cs=cu t a b c d oa oc/\cQ w ok t a b c d oa oc
theorem dm.fifteen{ths:List Th}{L0:List (List Value)}(hl:L0.length=ths.length)(h:∀ (i:Nat) (t:Th) (cs:List Value),ths[i]?=some t->L0[i]?=some cs->∃ a b c d oa oc,cs=cu t a b c d oa oc/\cQ w ok t a b c d oa oc):∀ c∈L0,c.length=15:=by
 intro c hc;obtain⟨i,hi,rfl⟩:=List.getElem_of_mem hc;obtain⟨_,_,_,_,_,_,e,-⟩:=h i (ths[i]'(by omega)) L0[i] (Mw (by omega)) (Mw hi);rw[e];rfl
theorem dm.form{ths}(h:dm w B ok ths v):∃ a c,v=.slice a ths.length c:=by
 obtain⟨L0,-,h,-⟩:=h;rcases h.2 with⟨rfl,e⟩ | ⟨g,cap,cur,rfl,-⟩
 ·rw[e];exact⟨_,_,rfl⟩
 ·exact⟨_,_,rfl⟩
theorem dm.bel{ths}(h:dm w B ok ths v)(hb:La w w'):dm w' B ok ths v:=by
 obtain⟨L0,h1,h2,h3⟩:=h;refine⟨L0,h1,bM h2 fun g hg=>hb.block g (bY h2 hg).2,fun i t cs ht hc=>?_⟩;obtain⟨a,b,c,d,oa,oc,e,k⟩:=h3 i t cs ht hc;exact⟨a,b,c,d,oa,oc,e,k.bel hb⟩
theorem dm.ths{ths}(h:dm w B ok ths v):cO w (fun k=>ok k\/v.ownBlock=some k) ths v:=by
 obtain⟨L0,h1,h2,h3⟩:=h;have h15:=dm.fifteen h1 h3;rcases h2.2 with⟨rfl,e⟩ | ⟨g,cap,cur,rfl,k1,k2,k3,k4,k5,k6⟩
 ·have:ths=[]:=List.length_eq_zero_iff.1 e;subst this;exact⟨by simp,.inl ⟨rfl,none,rfl⟩⟩
 ·unfold maxLen at k4;refine⟨by omega,.inr ⟨g,0,cap,rfl,k3,k4,fun i t ht=>⟨.inr rfl,?_⟩⟩⟩;have hi:i < ths.length:=(Mz.1 ht).1;obtain⟨a,b,c,d,oa,oc,e,k⟩:=h3 i t (L0[i]'(by omega)) ht (Mw (by omega));refine⟨a,b,c,d,oa,oc,fun j u hu=>?_,k.weak fun k hk=>.inl hk⟩;have hj:j < 15:=(Mz.1 hu).1;have e1:=oN L0 i j _ h15 (Mw (by omega)) hj;rw[e,hu,<-k6,List.getElem?_take,if_pos (by omega)]at e1;rw[Nat.zero_add];simpa [World.cell?,k2] using e1
variable {ok':Nat->Prop}
variable {n i:Nat}
def uv (xs:List Value):Nat->List Value->List Value
 | _,[]=>xs
 | o,v :: r=>uv (xs.set o v) (o+1) r
theorem vO{cap size}{e:TypeId}(hn:0 < n):∀ (vs:List Value) (o:Nat) (w:LC) (xs:List Value),w.ownsRow B e size (.slice (some ⟨g,0,none⟩) n cap) n xs->(w.setCells g o vs).ownsRow B e size (.slice (some ⟨g,0,none⟩) n cap) n (uv xs o vs)
 | [],_,_,_,h=>h
 | v :: vs,o,w,xs,h=>vO hn vs (o+1) _ _ (jQ h hn o v)
theorem sJ:∀ (vs:List Value) (j:Nat) (L0:List (List Value)) (i:Nat) (c:List Value),(∀ c∈L0,c.length=15)->L0[i]?=some c->j+vs.length<=15->uv L0.flatten (i * 15+j) vs=(L0.set i (uv c j vs)).flatten
 | [],j,L0,i,c,_,hc,_=>by
  obtain⟨hl,rfl⟩:=Mz.1 hc;simp[uv]
 | v :: vs,j,L0,i,c,h15,hc,hj=>by
  obtain⟨hl,e⟩:=Mz.1 hc;have h15':∀ x∈L0.set i (c.set j v),x.length=15:=by
   intro x hx;rcases List.mem_or_eq_of_mem_set hx with hx | rfl
   ·exact h15 x hx
   ·rw[List.length_set];exact h15 c (by rw[<-e];exact List.getElem_mem hl)
  simp only[My]at hj;rw[uv,uv,uX L0 i j c v h15 hc (by omega),show i * 15+j+1=i * 15+(j+1) by omega,sJ vs (j+1) (L0.set i (c.set j v)) i (c.set j v) h15' (by rw[List.getElem?_set_self hl]) (by omega),List.set_set]
theorem jz(g):∀ (vs:List Value) (o:Nat) (w:LC),w.grownBy (w.setCells g o vs) (some g)
 | [],_,w=>az _ _
 | v :: vs,o,w=>am (ap (az _ _) _ _) (jz g vs (o+1) _)
theorem cQ.gr{t a b oa oc r}(h:cQ w ok t a b c d oa oc)(hg:w.grownBy w' r)(hr:∀ k,ok k->some k≠r):cQ w' ok t a b c d oa oc:=⟨h.name,h.val.grownR hg hr,h.own.grownR hg hr⟩
theorem dm.puts{ths cap j t t' vs}(h:dm w B ok ths (.slice (some ⟨g,0,none⟩) ths.length cap))(hg:¬ok g)(ht:ths[i]?=some t)(hj:j+vs.length<=15)(hs:∀ a b c d oa oc,cQ w ok t a b c d oa oc->∃ a' b' c' d' oa' oc',uv (cu t a b c d oa oc) j vs=cu t' a' b' c' d' oa' oc'/\cQ w ok t' a' b' c' d' oa' oc'):dm (w.setCells g (i * 15+j) vs) B ok (ths.set i t') (.slice (some ⟨g,0,none⟩) ths.length cap):=by
 obtain⟨L0,h1,h2,h3⟩:=h;have h15:=dm.fifteen h1 h3;obtain⟨hi,e⟩:=Mz.1 ht;have hk:∀ k,ok k->some k≠some g:=fun k hk e=>by cases e;exact hg hk
 have hci:L0[i]?=some (L0[i]'(by omega)):=Mw (by omega);obtain⟨a,b,c,d,oa,oc,e1,k1⟩:=h3 i t _ ht hci;obtain⟨a',b',c',d',oa',oc',e2,k2⟩:=hs a b c d oa oc k1;have h4:=vO (by omega) vs (i * 15+j) w _ h2;rw[sJ vs j L0 i _ h15 hci hj,e1,e2]at h4;refine⟨L0.set i (cu t' a' b' c' d' oa' oc'),by simpa using h1,by rw[List.length_set];exact h4,fun k x cs hx hc=>?_⟩;rw[List.getElem?_set]at hx hc;split at hx
 ·rename_i hik;subst hik;rw[if_pos rfl,if_pos (by omega)]at hc;try rw[if_pos hi]at hx
  cases hx;cases hc;exact⟨_,_,_,_,_,_,rfl,k2.gr (jz g vs _ w) hk⟩
 ·rename_i hik;rw[if_neg hik]at hc;obtain⟨a9,b9,c9,d9,oa9,oc9,e9,k9⟩:=h3 k x cs hx hc;exact⟨_,_,_,_,_,_,e9,k9.gr (jz g vs _ w) hk⟩
theorem dm.sta{ths cap t}(h:dm w B ok ths (.slice (some ⟨g,0,none⟩) ths.length cap))(hg:¬ok g)(ht:ths[i]?=some t)(s):dm (mV w g (i * 15+9) s) B ok (ths.set i { t with st:=s }) (.slice (some ⟨g,0,none⟩) ths.length cap):=
 h.puts (t':={ t with st:=s }) (vs:=[.string ⟨s.a.toArray⟩,.string ⟨s.c.toArray⟩,.int .i64 s.ph,.int .i64 s.st,.int .i64 s.we,.int .i64 s.si]) hg ht (by simp) fun a b c d oa oc k=>⟨a,b,c,d,oa,oc,rfl,⟨k.name,k.val,k.own⟩⟩
theorem dm.put{ths cap t}(h:dm w B ok ths (.slice (some ⟨g,0,none⟩) ths.length cap))(hg:¬ok g)(ht:ths[i]?=some t){t' a b oa oc}(k:cQ w ok t' a b c d oa oc):dm (w.setCells g (i * 15) (cu t' a b c d oa oc)) B ok (ths.set i t') (.slice (some ⟨g,0,none⟩) ths.length cap):=by
 have:=h.puts (j:=0) (t':=t') (vs:=cu t' a b c d oa oc) hg ht (by simp[cu]) fun a9 b9 c9 d9 oa9 oc9 _=>⟨a,b,c,d,oa,oc,rfl,k⟩
 rwa [Nat.add_zero]at this
theorem dm.gr{ths r}(h:dm w B ok ths v)(hg:w.grownBy w' r)(hr:∀ k,ok k->some k≠r)(hv:∀ k,v.ownBlock=some k->some k≠r):dm w' B ok ths v:=by
 obtain⟨L0,h1,h2,h3⟩:=h;refine⟨L0,h1,bM h2 fun g hg9=>hg.block g (bY h2 hg9).2 (hv g hg9),fun i t cs ht hc=>?_⟩;obtain⟨a,b,c,d,oa,oc,e,k⟩:=h3 i t cs ht hc;exact⟨a,b,c,d,oa,oc,e,k.gr hg hr⟩
theorem dm.weak{ths}(h:dm w B ok ths v)(hk:∀ k,ok k->ok' k):dm w B ok' ths v:=by
 obtain⟨L0,h1,h2,h3⟩:=h;refine⟨L0,h1,h2,fun i t cs ht hc=>?_⟩;obtain⟨a,b,c,d,oa,oc,e,k⟩:=h3 i t cs ht hc;exact⟨a,b,c,d,oa,oc,e,k.weak hk⟩
theorem dm.low{ths}(h:dm w B ok ths v):dm w B (Lj ok w) ths v:=by
 obtain⟨L0,h1,h2,h3⟩:=h;refine⟨L0,h1,h2,fun i t cs ht hc=>?_⟩;obtain⟨a,b,c,d,oa,oc,e,k⟩:=h3 i t cs ht hc;exact⟨a,b,c,d,oa,oc,e,k.low⟩
theorem dm.at{ths t}(h:dm w B ok ths v)(ht:ths[i]?=some t):∃ g cap,v=.slice (some ⟨g,0,none⟩) ths.length cap/\B<=g/\g < w.heap.size/\ths.length<=cap/\cap<=9223372036854775807/\(∀ j,w.frozen? ⟨g,j,none⟩=false)/\(∀ j,j < cap * 15->(w.cell? ⟨g,j,none⟩).isSome=true)/\∃ (a b:Option Addr) (c d:Nat) (oa:Option Addr) (oc:Nat),(∀ j u,(cu t a b c d oa oc)[j]?=some u->w.cell? ⟨g,i * 15+j,none⟩=some u)/\cQ w ok t a b c d oa oc:=by
 obtain⟨L0,h1,h2,h3⟩:=h;have h15:=dm.fifteen h1 h3;have hi:i < ths.length:=(Mz.1 ht).1;rcases h2.2 with⟨rfl,e⟩ | ⟨g,cap,cur,rfl,k1,k2,k3,k4,k5,k6⟩
 ·omega
 ·unfold maxLen at k4;obtain⟨a,b,c,d,oa,oc,e,k⟩:=h3 i t (L0[i]'(by omega)) ht (Mw (by omega));refine⟨g,cap,rfl,k1,(MF.1 k2).1,k3,k4,fun j=>by simp[World.frozen?,k2],fun j hj=>?_,a,b,c,d,oa,oc,fun j u hu=>?_,k⟩
  ·simp only[World.cell?,k2];rw[show (none:Option Nat)=none from rfl];simp[k5,hj]
  ·have hj:j < 15:=(Mz.1 hu).1;have e1:=oN L0 i j _ h15 (Mw (by omega)) hj;rw[e,hu,<-k6,List.getElem?_take,if_pos (by omega)]at e1;simpa [World.cell?,k2] using e1
def IT (S:Nat) (v:Value):Nat->Prop:=fun k=>k≠S/\v.ownBlock≠some k
structure bo (w:LC) (ok:Nat->Prop) (S:Nat) (v:Value) (st:Nu):Prop where
 blk:eF w S v st.time st.ver st.acts
 row:dm w (S+1) ok st.ths v
 no:∀ k,ok k->IT S v k
structure kS (w w':LC) (S:Nat) (v:Value):Prop where
 os:w'.os=w.os
 tape:w'.tape=w.tape
 output:w'.output=w.output
 size:w.heap.size<=w'.heap.size
 block:∀ k,k < w.heap.size->k≠S->v.ownBlock≠some k->w'.heap[k]?=w.heap[k]?
theorem eE(h:La w w'):kS w w' S v:=⟨h.os,h.tape,h.output,h.size,fun k hk _ _=>h.block k hk⟩
theorem kS.gb{a r}(k:kS a w S v)(h:w.grownBy w' (some r))(hr:r=S\/v.ownBlock=some r\/a.heap.size<=r):kS a w' S v:=⟨h.os.trans k.os,h.tape.trans k.tape,h.output.trans k.output,MH k.size h.size,fun j hj h1 h2=>(h.block j (MI hj k.size) fun e=>by
 cases e;rcases hr with hr | hr | hr
 ·exact h1 hr
 ·exact h2 hr
 ·omega).trans (k.block j hj h1 h2)⟩
theorem kS.bel{a}(k:kS a w S v)(h:La w w'):kS a w' S v:=⟨h.os.trans k.os,h.tape.trans k.tape,h.output.trans k.output,MH k.size h.size,fun j hj h1 h2=>(h.block j (MI hj k.size)).trans (k.block j hj h1 h2)⟩
theorem kS.trans{a b c v'}(h:kS a b S v)(k:kS b c S v')(hv:∀ g,v'.ownBlock=some g->v.ownBlock=some g\/a.heap.size<=g):kS a c S v:=⟨k.os.trans h.os,k.tape.trans h.tape,k.output.trans h.output,MH h.size k.size,fun g hg h1 h2=>(k.block g (MI hg h.size) h1 (fun e=>by
 rcases hv g e with e2 | e2
 ·exact h2 e2
 ·omega)).trans (h.block g hg h1 h2)⟩
theorem bo.bel{st:Nu}(h:bo w ok S v st)(hb:La w w'):bo w' ok S v st:=⟨h.blk.bel hb,h.row.bel hb,h.no⟩
theorem bo.low{st:Nu}(h:bo w ok S v st):bo w (Lj ok w) S v st:=⟨h.blk,h.row.low,fun k hk=>h.no k hk.1⟩
theorem bo.ne{st:Nu}(h:bo w ok S v st)(hg:v.ownBlock=some g):S < g/\g < w.heap.size:=by
 obtain⟨L0,-,h2,-⟩:=h.row;have:=bY h2 hg;omega
def Fa (ok:Nat->Prop) (B S:Nat) (v:Value):Nat->Prop:=fun k=>(ok k\/B<=k)/\IT S v k
theorem bo.imp{st:Nu}(h:bo w ok S v st)(hk:∀ k,ok k->ok' k)(hn:∀ k,ok' k->IT S v k):bo w ok' S v st:=⟨h.blk,h.row.weak hk,hn⟩
theorem bo.o{st:Nu}(h:bo w (fun k=>ok k/\k < B) S v st):bo w (Fa ok B S v) S v st:=h.imp (fun k hk=>⟨.inl hk.1,h.no k hk⟩) fun _ hk=>hk.2
theorem bo.gr{st:Nu}(h:bo w ok S v st)(hg:w.grownBy w' (some g))(h1:g≠S)(h2:v.ownBlock≠some g)(h3:∀ k,ok k->k≠g):bo w' ok S v st:=
 ⟨h.blk.gr hg (fun e=>by cases e;exact h1 rfl),h.row.gr hg (fun k hk e=>by cases e;exact h3 g hk rfl) (fun k hk e=>by cases e;exact h2 hk),h.no⟩
theorem bo.new{a:LC}{st:Nu}(h:bo w (fun k=>ok k/\k < a.heap.size) S v st)(hg:w.grownBy w' (some g))(hS:S < a.heap.size)(hv:∀ k,v.ownBlock=some k->k < a.heap.size)(ha:a.heap.size<=g):bo w' (fun k=>ok k/\k < a.heap.size) S v st:=
 h.gr hg (by omega) (fun e=>by have:=hv g e;omega) (fun k hk=>by have:=hk.2;omega)
theorem bo.grS{st:Nu}{time ver acts}(h:bo w ok S v st)(hg:w.grownBy w' (some S))(hb:eF w' S v time ver acts):bo w' ok S v { st with time:=time,ver:=ver,acts:=acts }:=
 ⟨hb,h.row.gr hg (fun k hk e=>by cases e;exact(h.no S hk).1 rfl) (fun k hk e=>by cases e;have:=h.ne hk;omega),h.no⟩
theorem bo.sta{cap}{st:Nu}{t}(h:bo w ok S (.slice (some ⟨g,0,none⟩) st.ths.length cap) st)(ht:st.ths[i]?=some t)(s):bo (mV w g (i * 15+9) s) ok S (.slice (some ⟨g,0,none⟩) st.ths.length cap) { st with ths:=st.ths.set i { t with st:=s } }:=by
 have hn:=h.ne (g:=g) rfl;exact⟨h.blk.gr (lW _ _ _ _) (fun e=>by cases e;omega),h.row.sta (fun hk=>(h.no g hk).2 rfl) ht s,h.no⟩
theorem cE(w:LC)(g)(r:uf):w.grownBy (fE w g r) (some g):=ap (ap (ap (az _ _) _ _) _ _) _ _
theorem zh(w:LC)(B n i vb r cells one)(h15:one.length=15)(hone:∀ u∈one,u.oneCell'=true)(h:w.ownsRow B 37 15 r n cells)(hv:w.heap[vb]?=some (.cells one.toArray 37))(hi:i<=n)(hn:n<=4000000)(hB:B<=w.heap.size)(hvb:∀ g,r.ownBlock=some g->vb≠g)(h1:∀ u∈cells,u.oneCell'=true):Calls prog 48 #[r,.int .i64 i,.slice (some ⟨vb,0,none⟩) 1 1] w fun e w'=>∃ g cap,e=.returned (.slice (some ⟨g,0,none⟩) (n+1) cap)/\w'.ownsRow B 37 15 (.slice (some ⟨g,0,none⟩) (n+1) cap) (n+1) (cells.take (i * 15)++one++cells.drop (i * 15))/\w.grownBy w' r.ownBlock/\(r.ownBlock=some g\/w.heap.size<=g):=by
 by_cases he:i=n
 ·subst he;refine(wI w B i vb r cells one h15 hone h hv hn hB).mono ?_;rintro e w' ⟨g,cap,rfl,h2,h3,h4⟩;refine⟨g,cap,rfl,?_,h3,h4.imp id fun e=>by omega⟩;rw[MD (by rw[h.1];omega),List.drop_eq_nil_of_le (by rw[h.1];omega),List.append_nil];exact h2
 ·rcases h.2 with⟨rfl,h0⟩ | ⟨g,c,cur,rfl,g1,g2,g3,g4,g5,g6⟩
  ·omega
  ·by_cases hroom:n+1<=c
   ·refine(tO w B g n c i vb cur cells one h15 hone (by omega) hroom g4 g1 g2 g5 g6 h.1 hv (hvb g rfl) h1).mono ?_;rintro e w' ⟨rfl,h2,h3⟩;exact⟨g,c,rfl,h2,h3,.inl rfl⟩
   ·refine(ts w B g n c i vb cur cells one h15 hone (by omega) g3 (by omega) hn hB g2 g6 h.1 hv h1).mono ?_;rintro e w' ⟨G,rfl,h2,h3⟩;exact⟨_,G,rfl,h2,⟨h3.os,h3.tape,h3.output,h3.size,fun k hk _=>h3.block k hk (by simp)⟩,.inr (MG _)⟩
theorem dm.ins(w:LC)(B ok ths v i vb t a b c d oa oc)(h:dm w B ok ths v)(hv:w.heap[vb]?=some (.cells (cu t a b c d oa oc).toArray 37))(ht:cQ w ok t a b c d oa oc)(hi:i<=ths.length)(hn:ths.length<=4000000)(hB:B<=w.heap.size)(hvb:∀ g,v.ownBlock=some g->vb≠g)(hok:∀ k,ok k->v.ownBlock≠some k):Calls prog 48 #[v,.int .i64 i,.slice (some ⟨vb,0,none⟩) 1 1] w fun e w'=>∃ g cap,e=.returned (.slice (some ⟨g,0,none⟩) (ths.length+1) cap)/\dm w' B ok (ths.take i++t :: ths.drop i) (.slice (some ⟨g,0,none⟩) (ths.length+1) cap)/\w.grownBy w' v.ownBlock/\(v.ownBlock=some g\/w.heap.size<=g):=by
 obtain⟨L0,h1,h2,h3⟩:=h;have h15:=dm.fifteen h1 h3;have hone:∀ u∈L0.flatten,u.oneCell'=true:=by
  intro u hu;obtain⟨c,hc,hu⟩:=List.mem_flatten.1 hu;obtain⟨k,hk,rfl⟩:=List.getElem_of_mem hc;obtain⟨_,_,_,_,_,_,e,-⟩:=h3 k (ths[k]'(by omega)) L0[k] (Mw (by omega)) (Mw hk);rw[e]at hu;exact jS _ _ _ _ _ _ _ u hu
 refine(zh w B ths.length i vb v L0.flatten (cu t a b c d oa oc) rfl (jS _ _ _ _ _ _ _) h2 hv hi hn hB hvb hone).mono ?_;rintro e w' ⟨g,cap,rfl,q1,q2,q3⟩;refine⟨g,cap,rfl,⟨L0.take i++cu t a b c d oa oc :: L0.drop i,?_,?_,?_⟩,q2,q3⟩
 ·simp only[Mx,My,MC,MB];omega
 ·have e1:(ths.take i++t :: ths.drop i).length=ths.length+1:=by simp only[Mx,My,MC,MB];omega
  rw[e1,List.flatten_append,List.flatten_cons,<-nd L0 i h15,<-mF L0 i h15,<-List.append_assoc];exact q1
 ·have hk9:∀ k,ok k->some k≠v.ownBlock:=fun k hk e=>hok k hk e.symm;intro j x cs hx hc;have e1:(ths.take i).length=i:=by rw[MC];omega
  have e2:(L0.take i).length=i:=by rw[MC];omega
  by_cases hj:j < i
  ·rw[List.getElem?_append_left (by omega),List.getElem?_take_of_lt hj]at hx hc;obtain⟨a,b,c,d,oa,oc,e,k⟩:=h3 j x cs hx hc;exact⟨a,b,c,d,oa,oc,e,k.gr q2 hk9⟩
  ·rw[List.getElem?_append_right (by omega)]at hx hc;rw[e1]at hx;rw[e2]at hc;by_cases hji:j=i
   ·subst hji;rw[Nat.sub_self]at hx hc;simp only[List.getElem?_cons_zero,Option.some.injEq]at hx hc;subst hx;subst hc;exact⟨a,b,c,d,oa,oc,rfl,ht.gr q2 hk9⟩
   ·obtain⟨m,hm⟩:∃ m,j - i=m+1:=⟨j - i - 1,by omega⟩
    rw[hm]at hx hc;simp only[List.getElem?_cons_succ,List.getElem?_drop]at hx hc;obtain⟨a,b,c,d,oa,oc,e,k⟩:=h3 _ x cs hx hc;exact⟨a,b,c,d,oa,oc,e,k.gr q2 hk9⟩
theorem nV(w n p v1 v2 v3 v4 v5 v6 v7 v8 v9 v10 v11 v12 v13 v14):Calls prog 44 #[.agg #[.string ⟨n.toArray⟩,v1,v2,v3,v4,v5,v6,v7,v8,v9,v10,v11,v12,v13,v14],.string ⟨p.toArray⟩] w fun e w'=>e=.returned (.int .i64 (Lib.compareBytes n p))/\La w w':=by
 have CALL:Ll (∀ W,Calls prog 45 #[.string ⟨n.toArray⟩,.string ⟨p.toArray⟩] W fun e w'=>e=.returned (.int .i64 (Lib.compareBytes n p))/\w'=W):=fun W=>by
  have:=Tryz.strCompare ⟨n.toArray⟩ ⟨p.toArray⟩ W;simpa only[List.toList_toArray] using this
 obtain⟨r,hr⟩:∃ r,Lib.compareBytes n p=r:=⟨_,rfl⟩
 rw[hr]at CALL ⊢;clear hr;go_enter func44,ntmps44;go_wp2_with (go_at_call 45;refine(CALL.o _).mono ?_;rintro e w' ⟨rfl,hw1⟩;have hw2:=hw1.symm;subst hw2;clear hw1)
 go_ret;exact⟨rfl,ae _ _⟩
theorem yx(w:LC)(ok xs v p)(h:cO w ok xs v)(hr:bD (xs.map Th.name))(hn:xs.length < 4611686018427387904):Calls prog 43 #[v,.string ⟨p.toArray⟩,.func (.func 44) #[] #[]] w fun e w'=>e=.returned (.tuple #[.int .i64 (ci xs p:Nat),.bool ((xs.map Th.name).contains p)])/\La w w':=by
 obtain⟨sa,sc,rfl⟩:=h.form;have H:=aa h;have HR:=aa hr;have LM:(xs.map Th.name).length=xs.length:=List.length_map _;have PL:Ll (ci xs p=(xs.map Th.name).countP (fun x=>Op.bytesLess x p)):=aa (by unfold ci;rw[List.countP_map];rfl);have LMH:=aa LM;clear h hr LM;go_enter func43,ntmps43;go_wp2
 go_loopg [9,10] xs.length (fun kx s9 s10 wr=>∃ lo hi:Nat,s9=.int .i64 lo/\s10=.int .i64 hi/\lo<=hi/\hi<=xs.length/\hi - lo<=kx/\Ll (gK (xs.map Th.name) p lo hi)/\Ll (La w wr))
 case atStart=>exact⟨0,xs.length,rfl,rfl,Nat.zero_le _,MG _,by omega,aa ⟨fun t x ht=>absurd ht (Nat.not_lt_zero _),fun t x ht hx=>by rw[List.getElem?_eq_none (by rw[LMH.o];exact ht)]at hx;cases hx⟩,MK _ _⟩
 case round=>
  obtain⟨lo,hi,rfl,rfl,hlh,hin,hg,I,BL⟩:=hrel;by_cases hlt:lo < hi
  ·have hm:(lo+hi) / 2 < xs.length:=by omega
   obtain⟨g,off,rfl,j1,j2,-,a,b,c,d,oa,oc,⟨k1,k2,k3,k4,k5,k6,k7,k8,k9,k10,k11,k12,k13,k14,k15⟩,-⟩:=H.o.at hm;have c1:=ah BL.o k1;have c2:=ah BL.o k2;have c3:=ah BL.o k3;have c4:=ah BL.o k4;have c5:=ah BL.o k5;have c6:=ah BL.o k6;have c7:=ah BL.o k7;have c8:=ah BL.o k8;have c9:=ah BL.o k9;have c10:=ah BL.o k10;have c11:=ah BL.o k11;have c12:=ah BL.o k12;have c13:=ah BL.o k13;have c14:=ah BL.o k14;have c15:=ah BL.o k15;clear k1 k2 k3 k4 k5 k6 k7 k8 k9 k10 k11 k12 k13 k14 k15;have UP:Ll (Lib.compareBytes xs[(lo+hi) / 2].name p < 0->gK (xs.map Th.name) p ((lo+hi) / 2+1) hi):=fun h9=>tR HR.o I.o (by rw[LMH.o];exact hm) (by rw[List.getElem_map];exact(ki _ _).1 h9);have DN:Ll (¬Lib.compareBytes xs[(lo+hi) / 2].name p < 0->gK (xs.map Th.name) p lo ((lo+hi) / 2)):=fun h9=>mK HR.o I.o (by rw[LMH.o];exact hm) (by rw[List.getElem_map,Bool.eq_false_iff];exact fun h8=>h9 ((ki _ _).2 h8));have CALL:Ll (∀ W,Calls prog 44 #[.agg #[.string ⟨xs[(lo+hi) / 2].name.toArray⟩,.int .i64 xs[(lo+hi) / 2].value.kind,.int .i64 xs[(lo+hi) / 2].value.n,.string ⟨xs[(lo+hi) / 2].value.s.toArray⟩,.slice a xs[(lo+hi) / 2].value.keys.length c,.slice b xs[(lo+hi) / 2].value.l.length d,.slice oa xs[(lo+hi) / 2].owners.length oc,.int .i64 xs[(lo+hi) / 2].ver,.int .i64 xs[(lo+hi) / 2].gen,.string ⟨xs[(lo+hi) / 2].st.a.toArray⟩,.string ⟨xs[(lo+hi) / 2].st.c.toArray⟩,.int .i64 xs[(lo+hi) / 2].st.ph,.int .i64 xs[(lo+hi) / 2].st.st,.int .i64 xs[(lo+hi) / 2].st.we,.int .i64 xs[(lo+hi) / 2].st.si],.string ⟨p.toArray⟩] W fun e w'=>e=.returned (.int .i64 (Lib.compareBytes xs[(lo+hi) / 2].name p))/\La W w'):=fun W=>nV W _ p _ _ _ _ _ _ _ _ _ _ _ _ _ _;obtain⟨r,hr⟩:∃ r,Lib.compareBytes xs[(lo+hi) / 2].name p=r:=⟨_,rfl⟩
   rw[hr]at CALL UP DN;clear hr;by_cases hyx:r < 0
   ·go_wp2_with (go_at_call 44;refine Lk (CALL.o _) fun w' hb=>?_)
    go_roundg (hi - ((lo+hi) / 2+1))
    case measure=>omega
    case rel=>exact⟨(lo+hi) / 2+1,hi,by rw[show ((lo:Int)+(hi:Int)) / 2+1=(((lo+hi) / 2+1:Nat):Int) by omega],rfl,by omega,hin,MG _,aa (UP.o hyx),aa (ab BL.o hb)⟩
   ·go_wp2_with (go_at_call 44;refine Lk (CALL.o _) fun w' hb=>?_)
    go_roundg ((lo+hi) / 2 - lo)
    case measure=>omega
    case rel=>exact⟨lo,(lo+hi) / 2,rfl,by rw[show ((lo:Int)+(hi:Int)) / 2=(((lo+hi) / 2:Nat):Int) by omega],by omega,by omega,MG _,aa (DN.o hyx),aa (ab BL.o hb)⟩
  ·obtain rfl:hi=lo:=by omega
   have CN:Ll (ci xs p=hi):=aa (by rw[PL.o];exact jm _ p hi (by rw[LMH.o];exact hin) I.o);by_cases hn:hi < xs.length
   ·obtain⟨g,off,rfl,j1,j2,-,a,b,c,d,oa,oc,⟨k1,k2,k3,k4,k5,k6,k7,k8,k9,k10,k11,k12,k13,k14,k15⟩,-⟩:=H.o.at hn;have c1:=ah BL.o k1;have c2:=ah BL.o k2;have c3:=ah BL.o k3;have c4:=ah BL.o k4;have c5:=ah BL.o k5;have c6:=ah BL.o k6;have c7:=ah BL.o k7;have c8:=ah BL.o k8;have c9:=ah BL.o k9;have c10:=ah BL.o k10;have c11:=ah BL.o k11;have c12:=ah BL.o k12;have c13:=ah BL.o k13;have c14:=ah BL.o k14;have c15:=ah BL.o k15;clear k1 k2 k3 k4 k5 k6 k7 k8 k9 k10 k11 k12 k13 k14 k15;have HS:Ll ((xs.map Th.name).contains p=decide (xs[hi].name=p)):=aa (by have:=pz I.o (by rw[LMH.o];exact hn) HR.o;rwa [List.getElem_map]at this);have E0:Ll (Lib.compareBytes xs[hi].name p=0↔xs[hi].name=p):=oO _ _;have CALL:Ll (∀ W,Calls prog 44 #[.agg #[.string ⟨xs[hi].name.toArray⟩,.int .i64 xs[hi].value.kind,.int .i64 xs[hi].value.n,.string ⟨xs[hi].value.s.toArray⟩,.slice a xs[hi].value.keys.length c,.slice b xs[hi].value.l.length d,.slice oa xs[hi].owners.length oc,.int .i64 xs[hi].ver,.int .i64 xs[hi].gen,.string ⟨xs[hi].st.a.toArray⟩,.string ⟨xs[hi].st.c.toArray⟩,.int .i64 xs[hi].st.ph,.int .i64 xs[hi].st.st,.int .i64 xs[hi].st.we,.int .i64 xs[hi].st.si],.string ⟨p.toArray⟩] W fun e w'=>e=.returned (.int .i64 (Lib.compareBytes xs[hi].name p))/\La W w'):=fun W=>nV W _ p _ _ _ _ _ _ _ _ _ _ _ _ _ _;obtain⟨r,hr⟩:∃ r,Lib.compareBytes xs[hi].name p=r:=⟨_,rfl⟩
    rw[hr]at CALL E0;clear hr;by_cases hyx:r=0
    ·have R:Ll ((xs.map Th.name).contains p=true):=aa (by rw[HS.o];exact decide_eq_true (E0.o.1 hyx));subst hyx;go_wp2_with (go_at_call 44;refine Lk (CALL.o _) fun w' hb=>?_)
     go_ret2
     exact⟨by rw[R.o,CN.o];first | done | rfl | simp,ab BL.o hb⟩
    ·have R:Ll ((xs.map Th.name).contains p=false):=aa (by rw[HS.o];exact decide_eq_false (fun h9=>hyx (E0.o.2 h9)));have e9:(r == 0)=false:=by rw[MO];exact hyx
     clear hyx;go_wp2_with (go_at_call 44;refine Lk (CALL.o _) fun w' hb=>?_)
     go_ret2
     exact⟨by rw[R.o,CN.o];first | done | rfl | simp,ab BL.o hb⟩
   ·have R:Ll ((xs.map Th.name).contains p=false):=mI I.o (by rw[LMH.o];omega);go_wp2
    go_ret2
    exact⟨by rw[R.o,CN.o];first | done | rfl | simp,BL.o⟩
theorem yN(w:LC)(ok xs v p)(h:cO w ok xs v)(hr:bD (xs.map Th.name))(hn:xs.length < 4611686018427387904):Calls prog 25 #[v,.string ⟨p.toArray⟩] w fun e w'=>e=.returned (.tuple #[.int .i64 (ci xs p:Nat),.bool ((xs.map Th.name).contains p)])/\La w w':=by
 have C:=yx w ok xs v p h hr hn;obtain⟨sa,sc,rfl⟩:=h.form;generalize (xs.map Th.name).contains p=o at C ⊢;clear h hr;go_enter func25,ntmps25;go_wp2_with (go_at_call 43;refine C.mono ?_;rintro e w1 ⟨rfl,hb⟩)
 go_ret2
 exact⟨rfl,hb⟩
end Go.Proofs.YtlhejphddjdgkaaGreatDoor
