/- What down of package point does, with the function that lay makes. -/
import Derived.Test.YtmdemcjmcnfjmaaGreatDoorGXi
set_option linter.unusedSimpArgs false
set_option linter.unusedVariables false
namespace Go.Proofs.YtmdemcjmcnfjmaaGreatDoor
open Go.RowKit
def HowA (gh gx:Nat) (how:V->List UInt8->Option V) (w0:World) (base:Nat->Prop):Prop:=∀ (W:World) (ok:Nat->Prop) (t:V) (v:Value) (s:List UInt8),Below w0.heap.size w0 W->(∀ k,base k->ok k/\k < w0.heap.size)->In W ok t v->Nice t->s.length<=9223372036854775807 ->
 Calls Tryz.prog 77 #[v,str s,.pointer (some ⟨gh,0,none⟩),.pointer (some ⟨gx,0,none⟩)] W fun e w'=>∃ r b,e=.returned (.tuple #[r,.bool b])/\Below W.heap.size W w'/\OptIn w' (okN ok W.heap.size) (how t s) r b
def DownA (gh gx:Nat) (how:V->List UInt8->Option V) (w0:World) (base:Nat->Prop) (ns:List (List UInt8)):Prop:=∀ (W:World) (ok oks:Nat->Prop) (t:V) (v nv:Value),Below w0.heap.size w0 W->(∀ k,base k->ok k/\k < w0.heap.size)->In W ok t v->Nice t->StrsAre W oks ns nv ->
 Calls Tryz.prog 122 #[v,nv,.func (.func 77) #[] #[.pointer (some ⟨gh,0,none⟩),.pointer (some ⟨gx,0,none⟩)]] W fun e w'=>∃ r b,e=.returned (.tuple #[r,.bool b])/\Below W.heap.size W w'/\OptIn w' (okN ok W.heap.size) (downV how ns t) r b
theorem bel_of2 {w W:World} {o1 o2:Obj} (e1:W.heap=((w.alloc o1).alloc o2).heap) (e2:W.os=w.os) (e3:W.tape=w.tape) (e4:W.output=w.output):Below w.heap.size w W:=by
 have:=bel_trans (bel_alloc w o1) (bel_alloc _ o2)
 exact⟨e2,e3,e4,by rw[e1];exact this.size,fun k hk=>by rw[e1];exact this.block k hk⟩
theorem bel_of0 {w W:World} (e1:W.heap=w.heap) (e2:W.os=w.os) (e3:W.tape=w.tape) (e4:W.output=w.output):Below w.heap.size w W:=⟨e2,e3,e4,by rw[e1];exact Nat.le_refl _,fun k _=>by rw[e1]⟩
theorem bel_of3 {w W:World} {o1 o2 o3:Obj} (e1:W.heap=(((w.alloc o1).alloc o2).alloc o3).heap) (e2:W.os=w.os) (e3:W.tape=w.tape) (e4:W.output=w.output):Below w.heap.size w W:=by
 have:=bel_trans (bel_trans (bel_alloc w o1) (bel_alloc _ o2)) (bel_alloc _ o3)
 exact⟨e2,e3,e4,by rw[e1];exact this.size,fun k hk=>by rw[e1];exact this.block k hk⟩
theorem strs_head {w:World} {ok:Nat->Prop} {s:List UInt8} {ns:List (List UInt8)} {v:Value} (h:StrsAre w ok (s :: ns) v):∃ b off c,v=.slice (some ⟨b,off,none⟩) (ns.length+1) c/\ns.length+1<=c/\c<=9223372036854775807/\s.length<=9223372036854775807/\w.cell? ⟨b,off,none⟩=some (.string ⟨s.toArray⟩):=by
 rcases h.2 with⟨e,_⟩ | ⟨b,off,c,e,h1,h2,hcs⟩
 ·cases e
 ·obtain⟨g1,-,g2⟩:=hcs 0 s rfl
  exact⟨b,off,c,e,h1,h2,g1,g2⟩
theorem strs_tail {w:World} {ok:Nat->Prop} {s:List UInt8} {ns:List (List UInt8)} {b off n c:Nat} (h:StrsAre w ok (s :: ns) (.slice (some ⟨b,off,none⟩) n c)):StrsAre w ok ns (.slice (some ⟨b,off+1,none⟩) ns.length (c - 1)):=by
 have hl:=h.1
 simp only[List.length_cons]at hl
 refine⟨by omega,.inr ⟨b,off+1,c - 1,rfl,?_⟩⟩
 rcases h.2 with⟨e,_⟩ | ⟨b',off',c',e,h1,h2,hcs⟩
 ·cases e
 ·simp only[Value.slice.injEq,Option.some.injEq,Addr.mk.injEq,List.length_cons,and_true]at e h1
  obtain⟨⟨rfl,rfl⟩,-,rfl⟩:=e
  refine⟨by omega,by omega,fun i x hx=>?_⟩
  obtain⟨g1,g2,g3⟩:=hcs (i+1) x (by simpa using hx)
  exact⟨g1,g2,by rw[show off+1+i=off+(i+1) by omega];exact g3⟩
set_option maxRecDepth 100000 in
set_option maxHeartbeats 40000000 in
theorem downA_one (gh gx:Nat) (how:V->List UInt8->Option V) (w0:World) (base:Nat->Prop) (hH:HowA gh gx how w0 base) (s:List UInt8):DownA gh gx how w0 base [s]:=by
 intro w ok oks t v nv hw0 hbase h hn hnv
 obtain⟨nb,no,nc,rfl,n1,n2,n3,n4⟩:=strs_head hnv
 simp only[List.length_nil,Nat.zero_add]at n1 ⊢
 have H:=hidI h.low
 have HN:=hidI hn
 have HW:=hidI hw0
 have HB:=hidI hbase
 have HH:=hidI hH
 obtain⟨l1,l2,l3⟩:=h.lens
 obtain⟨a1,a2,c1,c2,rfl⟩:=h.form
 have B2:Hid (∀ o1 o2,Below w.heap.size w ((w.alloc o1).alloc o2)):=fun o1 o2=>bel_trans (bel_alloc _ _) (bel_alloc _ _)
 have g0:∀ o1 o2,((w.alloc o1).alloc o2).cell? ⟨nb,no,none⟩=some (.string ⟨s.toArray⟩):=fun o1 o2=>cell_bel (B2.out o1 o2) n4
 have con:Hid (∀ o1 W,W.heap=((w.alloc o1).alloc (.cells #[.int .i64 0,.int .i64 0,.string ⟨#[]⟩,.slice none 0 0,.slice none 0 0] 25)).heap->W.os=w.os->W.tape=w.tape->W.output=w.output->Calls Tryz.prog 77 #[.agg #[.int .i64 t.kind,.int .i64 t.n,.string ⟨t.s.toArray⟩,.slice a1 t.keys.length c1,.slice a2 t.l.length c2],.string ⟨s.toArray⟩,.pointer (some ⟨gh,0,none⟩),.pointer (some ⟨gx,0,none⟩)] W fun e w'=>∃ (y:V) (a5 a6:Option Addr) (c5 c6:Nat) (b:Bool),e=.returned (.tuple #[.agg #[.int .i64 y.kind,.int .i64 y.n,.string ⟨y.s.toArray⟩,.slice a5 y.keys.length c5,.slice a6 y.l.length c6],.bool b])/\Below w.heap.size w w'/\BoxIs w' (w.heap.size+1) (.int .i64 0) (.int .i64 0) (.string ⟨#[]⟩) (.slice none 0 0) (.slice none 0 0) /\
  b=(how t s).isSome/\In w' (lowN ok w.heap.size (w.heap.size+2)) y (.agg #[.int .i64 y.kind,.int .i64 y.n,.string ⟨y.s.toArray⟩,.slice a5 y.keys.length c5,.slice a6 y.l.length c6])/\∀ z,how t s=some z->y=z):=by
  intro o1 W e1 e2 e3 e4
  have hbW:=bel_of2 e1 e2 e3 e4
  have hsz:W.heap.size=w.heap.size+2:=by rw[e1];simp
  refine(HH.out W (fun k=>ok k/\k < w.heap.size) t _ s (HW.out.trans (hbW.mono HW.out.size)) (fun k hk=>⟨⟨(HB.out k hk).1,by have:=(HB.out k hk).2;have:=HW.out.size;omega⟩,(HB.out k hk).2⟩) (H.out.bel hbW) HN.out n3).mono ?_
  rintro e w1 ⟨r,b,rfl,hb1,hb2,y,hy,hyz⟩
  obtain⟨a5,a6,c5,c6,rfl⟩:=hy.form
  rw[hsz]at hy
  exact⟨y,a5,a6,c5,c6,b,rfl,bel_trans hbW hb1,box_bel hb1 (by unfold BoxIs;rw[e1];exact h2b w _ _),hb2,hy,hyz⟩
 clear h hn hw0 hbase hH n4 hnv
 unfold downV
 go_enter Tryz.func122,Tryz.ntmps122
 go_upto_region 2 with fail
 go_region_with ((go_at_call 77;refine(con.out _ _ (by rfl) (by rfl) (by rfl) (by rfl)).mono ?_;rintro e w1 ⟨y,a5,a6,c5,c6,b,rfl,r1,r2,hb2,hy,hyz⟩;obtain⟨x0,x1,x2,x3,x4,y0,y1,y2,y3,y4⟩:=r2.c;have Z:=hidI (set_out (g:=w.heap.size+1) hy r1 (by omega) (by omega));have ZB:=hidI (r2.set (.int .i64 y.kind) (.int .i64 y.n) (.string ⟨y.s.toArray⟩) (.slice a5 y.keys.length c5) (.slice a6 y.l.length c6));have R:Hid (b=(how t s).isSome/\∀ z,how t s=some z->y=z):=⟨hb2,hyz⟩;clear hb2 hy hyz r1 r2))
 all_goals
  go_wp2_with fail
  obtain⟨z0,z1,z2,z3,z4,-⟩:=ZB.out.c
  refine bodyPost_ret (v:=.tuple #[.agg #[.int .i64 y.kind,.int .i64 y.n,.string ⟨y.s.toArray⟩,.slice a5 y.keys.length c5,.slice a6 y.l.length c6],.bool b]) ?_ rfl ?_
  ·simp only[set5]at z0 z1 z2 z3 z4
   simp[results,Tryz.results122,go_sem,z0,z1,z2,z3,z4]
  ·exact⟨_,_,rfl,Z.out.1,R.out.1,y,Z.out.2,R.out.2⟩
def MidMA (w:World) (ok:Nat->Prop) (t:V) (s:List UInt8) (a1 a2:Option Addr) (c1 c2:Nat) (p q:Value) (wc:World):Prop:=
 ∃ (y:V) (a5 a6:Option Addr) (c5 c6 g:Nat) (b:Bool),p=.pointer (some ⟨g,0,none⟩)/\q=.bool b/\b=(meantV t s).isSome/\(∀ z,meantV t s=some z->y=z)/\BoxIs wc g (.int .i64 y.kind) (.int .i64 y.n) (.string ⟨y.s.toArray⟩) (.slice a5 y.keys.length c5) (.slice a6 y.l.length c6)/\w.heap.size+2<=g /\
  BoxIs wc w.heap.size (.int .i64 t.kind) (.int .i64 t.n) (.string ⟨t.s.toArray⟩) (.slice a1 t.keys.length c1) (.slice a2 t.l.length c2)/\BoxIs wc (w.heap.size+1) (.int .i64 0) (.int .i64 0) (.string ⟨#[]⟩) (.slice none 0 0) (.slice none 0 0)/\Below w.heap.size w wc/\In wc (fun k=>ok k/\k < w.heap.size) y (.agg #[.int .i64 y.kind,.int .i64 y.n,.string ⟨y.s.toArray⟩,.slice a5 y.keys.length c5,.slice a6 y.l.length c6])
def MidDA (w:World) (ok:Nat->Prop) (t:V) (m:Option V) (a1 a2:Option Addr) (c1 c2 g C:Nat) (q:Value) (wc:World):Prop:=
 ∃ (y2:V) (b5 b6:Option Addr) (d5 d6:Nat) (b:Bool),q=.bool b/\b=m.isSome/\(∀ z,m=some z->y2=z)/\BoxIs wc g (.int .i64 y2.kind) (.int .i64 y2.n) (.string ⟨y2.s.toArray⟩) (.slice b5 y2.keys.length d5) (.slice b6 y2.l.length d6) /\
  BoxIs wc w.heap.size (.int .i64 t.kind) (.int .i64 t.n) (.string ⟨t.s.toArray⟩) (.slice a1 t.keys.length c1) (.slice a2 t.l.length c2)/\BoxIs wc (w.heap.size+1) (.int .i64 0) (.int .i64 0) (.string ⟨#[]⟩) (.slice none 0 0) (.slice none 0 0)/\Below w.heap.size w wc/\In wc (lowN ok w.heap.size C) y2 (.agg #[.int .i64 y2.kind,.int .i64 y2.n,.string ⟨y2.s.toArray⟩,.slice b5 y2.keys.length d5,.slice b6 y2.l.length d6])/\C<=wc.heap.size
set_option maxRecDepth 100000 in
set_option maxHeartbeats 40000000 in
theorem downA_more (gh gx:Nat) (how:V->List UInt8->Option V) (w0:World) (base:Nat->Prop) (s r:List UInt8) (rs:List (List UInt8)) (ih:DownA gh gx how w0 base (r :: rs)):DownA gh gx how w0 base (s :: r :: rs):=by
 intro w ok oks t v nv hw0 hbase h hn hnv
 have hnl:=hnv.1
 obtain⟨nb,no,nc,rfl,n1,n2,n3,n4⟩:=strs_head hnv
 simp only[List.length_cons]at n1 hnl ⊢
 obtain⟨m,rfl⟩:∃ m,nc=m+2:=⟨nc - 2,by omega⟩
 have NT:=hidI (strs_tail hnv)
 have H:=hidI h.low
 have HN:=hidI hn
 have HW:=hidI hw0
 have HB:=hidI hbase
 have IH:=hidI ih
 have hnl':(rs.length:Int)+1+1<=9223372036854775807:=by unfold maxLen at hnl;omega
 have e1:(((rs.length:Int)+1+1) == 1)=false:=by rw[beq_eq_false_iff_ne];omega
 have e2:(rs.length:Int)+1+1<=(m:Int)+2:=by omega
 have e3:(1:Int)<=(rs.length:Int)+1+1:=by omega
 have e4:(0:Int) < (rs.length:Int)+1+1:=by omega
 obtain⟨l1,l2,l3⟩:=h.lens
 obtain⟨a1,a2,c1,c2,rfl⟩:=h.form
 have B2:Hid (∀ o1 o2,Below w.heap.size w ((w.alloc o1).alloc o2)):=fun o1 o2=>bel_trans (bel_alloc _ _) (bel_alloc _ _)
 have g0:∀ o1 o2,((w.alloc o1).alloc o2).cell? ⟨nb,no,none⟩=some (.string ⟨s.toArray⟩):=fun o1 o2=>cell_bel (B2.out o1 o2) n4
 have N4:=hidI n4
 have con3:Hid (∀ W,W.heap=((w.alloc (.cells #[.int .i64 t.kind,.int .i64 t.n,.string ⟨t.s.toArray⟩,.slice a1 t.keys.length c1,.slice a2 t.l.length c2] 25)).alloc (.cells #[.int .i64 0,.int .i64 0,.string ⟨#[]⟩,.slice none 0 0,.slice none 0 0] 25)).heap->W.os=w.os->W.tape=w.tape->W.output=w.output->Calls Tryz.prog 37 #[.agg #[.int .i64 t.kind,.int .i64 t.n,.string ⟨t.s.toArray⟩,.slice a1 t.keys.length c1,.slice a2 t.l.length c2],.string ⟨s.toArray⟩] W fun e w'=>∃ (y:V) (a5 a6:Option Addr) (c5 c6:Nat) (b:Bool),e=.returned (.tuple #[.agg #[.int .i64 y.kind,.int .i64 y.n,.string ⟨y.s.toArray⟩,.slice a5 y.keys.length c5,.slice a6 y.l.length c6],.bool b]) /\
  ∀ wc,wc=w'.alloc (.cells #[.int .i64 y.kind,.int .i64 y.n,.string ⟨y.s.toArray⟩,.slice a5 y.keys.length c5,.slice a6 y.l.length c6] 25)->MidMA w ok t s a1 a2 c1 c2 (.pointer (some ⟨w'.heap.size,0,none⟩)) (.bool b) wc):=by
  intro W e1 e2 e3 e4
  have hbW:=bel_of2 e1 e2 e3 e4
  have hsz:W.heap.size=w.heap.size+2:=by rw[e1];simp
  refine(meant_is W (fun k=>ok k/\k < w.heap.size) t _ s (H.out.bel hbW) n3).mono ?_
  rintro e w1 ⟨r,b,rfl,hb1,hb2,y,hy,hyz⟩
  obtain⟨a5,a6,c5,c6,rfl⟩:=hy.form
  refine⟨y,a5,a6,c5,c6,b,rfl,?_⟩
  rintro wc rfl
  have hbb:=bel_trans hb1 (bel_alloc w1 (.cells #[.int .i64 y.kind,.int .i64 y.n,.string ⟨y.s.toArray⟩,.slice a5 y.keys.length c5,.slice a6 y.l.length c6] 25))
  refine⟨y,a5,a6,c5,c6,w1.heap.size,b,rfl,rfl,hb2,hyz,heap_alloc_new w1 _,by have:=hb1.size;omega,?_,?_,bel_trans hbW hbb,hy.bel (bel_alloc _ _)⟩
  ·exact box_bel hbb (by unfold BoxIs;rw[e1];exact h2a w _ _)
  ·exact box_bel hbb (by unfold BoxIs;rw[e1];exact h2b w _ _)
 have con3b:Hid (∀ W,W.heap=(((w.alloc (.cells #[.int .i64 t.kind,.int .i64 t.n,.string ⟨t.s.toArray⟩,.slice a1 t.keys.length c1,.slice a2 t.l.length c2] 25)).alloc (.cells #[.int .i64 0,.int .i64 0,.string ⟨#[]⟩,.slice none 0 0,.slice none 0 0] 25)).alloc (.cells #[.int .i64 0,.int .i64 0,.string ⟨#[]⟩,.slice none 0 0,.slice none 0 0] 25)).heap->W.os=w.os->W.tape=w.tape->W.output=w.output->Calls Tryz.prog 37 #[.agg #[.int .i64 t.kind,.int .i64 t.n,.string ⟨t.s.toArray⟩,.slice a1 t.keys.length c1,.slice a2 t.l.length c2],.string ⟨s.toArray⟩] W fun e w'=>∃ (y:V) (a5 a6:Option Addr) (c5 c6:Nat) (b:Bool),e=.returned (.tuple #[.agg #[.int .i64 y.kind,.int .i64 y.n,.string ⟨y.s.toArray⟩,.slice a5 y.keys.length c5,.slice a6 y.l.length c6],.bool b])/\BoxIs w' (w.heap.size+1+1) (.int .i64 0) (.int .i64 0) (.string ⟨#[]⟩) (.slice none 0 0) (.slice none 0 0) /\
  ∀ wc,wc=set5 w' (w.heap.size+1+1) (.int .i64 y.kind) (.int .i64 y.n) (.string ⟨y.s.toArray⟩) (.slice a5 y.keys.length c5) (.slice a6 y.l.length c6)->MidMA w ok t s a1 a2 c1 c2 (.pointer (some ⟨w.heap.size+1+1,0,none⟩)) (.bool b) wc):=by
  intro W e1 e2 e3 e4
  have hbW:=bel_of3 e1 e2 e3 e4
  have hsz:W.heap.size=w.heap.size+3:=by rw[e1];simp
  refine(meant_is W (fun k=>ok k/\k < w.heap.size) t _ s (H.out.bel hbW) n3).mono ?_
  rintro e w1 ⟨r,b,rfl,hb1,hb2,y,hy,hyz⟩
  obtain⟨a5,a6,c5,c6,rfl⟩:=hy.form
  have hbx:BoxIs w1 (w.heap.size+1+1) (.int .i64 0) (.int .i64 0) (.string ⟨#[]⟩) (.slice none 0 0) (.slice none 0 0):=box_bel hb1 (by unfold BoxIs;rw[e1];exact h3c w _ _ _)
  refine⟨y,a5,a6,c5,c6,b,rfl,hbx,?_⟩
  rintro wc rfl
  have g1:=set5_gb w1 (w.heap.size+1+1) (.int .i64 y.kind) (.int .i64 y.n) (.string ⟨y.s.toArray⟩) (.slice a5 y.keys.length c5) (.slice a6 y.l.length c6)
  refine⟨y,a5,a6,c5,c6,w.heap.size+1+1,b,rfl,rfl,hb2,hyz,hbx.set _ _ _ _ _,by omega,?_,?_,bel_set5 (bel_trans hbW hb1) (by omega) _ _ _ _ _,hy.grown g1 (fun k hk=>by omega)⟩
  ·exact(box_bel hb1 (by unfold BoxIs;rw[e1];exact h3a w _ _ _)).grown g1 (by simp;omega)
  ·exact(box_bel hb1 (by unfold BoxIs;rw[e1];exact h3b w _ _ _)).grown g1 (by simp)
 have g1:∀ o1 o2 o3,(((w.alloc o1).alloc o2).alloc o3).cell? ⟨nb,no,none⟩=some (.string ⟨s.toArray⟩):=fun o1 o2 o3=>cell_bel (bel_trans (B2.out o1 o2) (bel_alloc _ o3)) n4
 clear h hn hw0 hbase ih n4 hnv
 go_enter Tryz.func122,Tryz.ntmps122
 go_upto_region 3 with fail
 go_cut [8,9] (fun p q wc=>MidMA w ok t s a1 a2 c1 c2 p q wc)
 case first=>
  go_region_with (first
   |(go_at_call 37;refine(con3.out _ (by rfl) (by rfl) (by rfl) (by rfl)).mono ?_;rintro e w1 ⟨y,a5,a6,c5,c6,b,rfl,hfin⟩;have FIN:=hidI hfin;clear hfin)
   |(go_at_call 37;refine(con3b.out _ (by rfl) (by rfl) (by rfl) (by rfl)).mono ?_;rintro e w1 ⟨y,a5,a6,c5,c6,b,rfl,hbx,hfin⟩;obtain⟨x0,x1,x2,x3,x4,y0,y1,y2',y3,y4⟩:=hbx.c;have FIN:=hidI hfin;clear hfin hbx))
  all_goals
   go_wp2_with fail
   go_meet
   case rel=>exact FIN.out _ rfl
 case rest=>
  obtain⟨wa,hwa⟩:∃ wa,wa=wc:=⟨_,rfl⟩
  subst hwa
  obtain⟨y,a5,a6,c5,c6,g,b,rfl,rfl,hb2,hyz,k1,k2,k3,k4,k5,k6⟩:=hcut
  have K:Hid (BoxIs wa g (.int .i64 y.kind) (.int .i64 y.n) (.string ⟨y.s.toArray⟩) (.slice a5 y.keys.length c5) (.slice a6 y.l.length c6)/\BoxIs wa w.heap.size (.int .i64 t.kind) (.int .i64 t.n) (.string ⟨t.s.toArray⟩) (.slice a1 t.keys.length c1) (.slice a2 t.l.length c2)/\BoxIs wa (w.heap.size+1) (.int .i64 0) (.int .i64 0) (.string ⟨#[]⟩) (.slice none 0 0) (.slice none 0 0)/\Below w.heap.size w wa/\In wa (fun k=>ok k/\k < w.heap.size) y (.agg #[.int .i64 y.kind,.int .i64 y.n,.string ⟨y.s.toArray⟩,.slice a5 y.keys.length c5,.slice a6 y.l.length c6])):=⟨k1,k3,k4,k5,k6⟩
  have hgl:=k1.lt
  clear con3 con3b g0 g1
  cases hm:meantV t s with
  | none=>
   rw[hm]at hb2
   simp only[Option.isSome_none]at hb2
   subst hb2
   obtain⟨p0,p1,p2,p3,p4,-⟩:=k3.c
   obtain⟨x0,x1,x2,x3,x4,y0,y1,y2,y3,y4⟩:=k4.c
   have Z:Hid (_/\_):=hidI (set_out (C:=wa.heap.size) (g:=w.heap.size+1) ((H.out.bel k5).weak (lowN_low (C:=wa.heap.size))) k5 (by omega) k4.lt)
   have ZB:Hid _:=hidI (k4.set (.int .i64 t.kind) (.int .i64 t.n) (.string ⟨t.s.toArray⟩) (.slice a1 t.keys.length c1) (.slice a2 t.l.length c2))
   have HA:Hid (downV how (s :: r :: rs) t=none):=hidI (by rw[downV,hm];rfl)
   clear k1 k3 k4 k5 k6 hm hyz
   go_wp2_with fail
   obtain⟨z0,z1,z2,z3,z4,-⟩:=ZB.out.c
   refine bodyPost_ret (v:=.tuple #[.agg #[.int .i64 t.kind,.int .i64 t.n,.string ⟨t.s.toArray⟩,.slice a1 t.keys.length c1,.slice a2 t.l.length c2],.bool false]) ?_ rfl ?_
   ·simp only[set5]at z0 z1 z2 z3 z4
    simp[results,Tryz.results122,go_sem,z0,z1,z2,z3,z4]
   ·refine⟨_,_,rfl,Z.out.1,?_⟩
    rw[HA.out]
    exact OptIn.none Z.out.2
  | some y9=>
   rw[hm]at hb2
   simp only[Option.isSome_some]at hb2
   subst hb2
   obtain rfl:=hyz y9 hm
   have HM:=hidI hm
   obtain⟨f0,f1,f2,f3,f4,f5,f6,f7,f8,f9⟩:=k1.c
   have con6:Hid (∀ W,W.heap=wa.heap->W.os=wa.os->W.tape=wa.tape->W.output=wa.output->Calls Tryz.prog 122 #[.agg #[.int .i64 y.kind,.int .i64 y.n,.string ⟨y.s.toArray⟩,.slice a5 y.keys.length c5,.slice a6 y.l.length c6],.slice (some ⟨nb,no+1,none⟩) (rs.length+1) (m+1),.func (.func 77) #[] #[.pointer (some ⟨gh,0,none⟩),.pointer (some ⟨gx,0,none⟩)]] W fun e w'=>∃ (y2:V) (b5 b6:Option Addr) (d5 d6:Nat) (b:Bool),e=.returned (.tuple #[.agg #[.int .i64 y2.kind,.int .i64 y2.n,.string ⟨y2.s.toArray⟩,.slice b5 y2.keys.length d5,.slice b6 y2.l.length d6],.bool b])/\BoxIs w' g (.int .i64 y.kind) (.int .i64 y.n) (.string ⟨y.s.toArray⟩) (.slice a5 y.keys.length c5) (.slice a6 y.l.length c6) /\
    ∀ W',W'=set5 w' g (.int .i64 y2.kind) (.int .i64 y2.n) (.string ⟨y2.s.toArray⟩) (.slice b5 y2.keys.length d5) (.slice b6 y2.l.length d6)->MidDA w ok t (downV how (r :: rs) y) a1 a2 c1 c2 g wa.heap.size (.bool b) W'):=by
    intro W e1 e2 e3 e4
    have hbW:=bel_of0 e1 e2 e3 e4
    have hsz:W.heap.size=wa.heap.size:=by rw[e1]
    have hbb:=bel_trans K.out.2.2.2.1 hbW
    refine(IH.out W (fun k=>ok k/\k < w.heap.size) oks y _ _ (HW.out.trans (hbb.mono HW.out.size)) (fun k hk=>⟨⟨(HB.out k hk).1,by have:=(HB.out k hk).2;have:=HW.out.size;omega⟩,(HB.out k hk).2⟩) (K.out.2.2.2.2.bel hbW) (nice_meant HN.out HM.out) (NT.out.bel hbb)).mono ?_
    rintro e w1 ⟨r9,b,rfl,hb1,hb2,y2,hy,hyz⟩
    obtain⟨b5,b6,d5,d6,rfl⟩:=hy.form
    rw[hsz]at hy
    have hb3:=bel_trans hbW hb1
    refine⟨y2,b5,b6,d5,d6,b,rfl,box_bel hb3 K.out.1,?_⟩
    rintro W' rfl
    have g1:=set5_gb w1 g (.int .i64 y2.kind) (.int .i64 y2.n) (.string ⟨y2.s.toArray⟩) (.slice b5 y2.keys.length d5) (.slice b6 y2.l.length d6)
    refine⟨y2,b5,b6,d5,d6,b,rfl,hb2,hyz,(box_bel hb3 K.out.1).set _ _ _ _ _,(box_bel hb3 K.out.2.1).grown g1 (by simp;omega),(box_bel hb3 K.out.2.2.1).grown g1 (by simp;omega),bel_set5 (bel_trans K.out.2.2.2.1 hb3) (by omega) _ _ _ _ _,In.box hy (by omega) hgl _ _ _ _ _,Nat.le_trans hb3.size g1.size⟩
   clear k1 k3 k4 k5 k6 hm hyz
   go_upto_region 6 with fail
   go_cut [10] (fun q wc'=>MidDA w ok t (downV how (r :: rs) y) a1 a2 c1 c2 g wa.heap.size q wc')
   case first=>
    go_region_with ((go_at_call 122;refine(con6.out _ (by rfl) (by rfl) (by rfl) (by rfl)).mono ?_;rintro e w1 ⟨y2,b5,b6,d5,d6,b,rfl,hbx,hfin⟩;obtain⟨x0,x1,x2,x3,x4,y0,y1,y2',y3,y4⟩:=hbx.c;have FIN:=hidI hfin;clear hfin hbx))
    all_goals
     go_wp2_with fail
     go_meet
     case rel=>exact FIN.out _ rfl
   case rest=>
    obtain⟨y2,b5,b6,d5,d6,b,rfl,hb2,hyz,k1,k3,k4,k5,k6,k7⟩:=hcut
    clear con6 f0 f1 f2 f3 f4 f5 f6 f7 f8 f9
    cases hd:downV how (r :: rs) y with
    | none=>
     rw[hd]at hb2
     simp only[Option.isSome_none]at hb2
     subst hb2
     obtain⟨p0,p1,p2,p3,p4,-⟩:=k3.c
     obtain⟨x0,x1,x2,x3,x4,y0,y1,y2',y3,y4⟩:=k4.c
     have Z:Hid (_/\_):=hidI (set_out (C:=wc.heap.size) (g:=w.heap.size+1) ((H.out.bel k5).weak (lowN_low (C:=wc.heap.size))) k5 (by omega) k4.lt)
     have ZB:Hid _:=hidI (k4.set (.int .i64 t.kind) (.int .i64 t.n) (.string ⟨t.s.toArray⟩) (.slice a1 t.keys.length c1) (.slice a2 t.l.length c2))
     have HA:Hid (downV how (s :: r :: rs) t=none):=hidI (by rw[downV,HM.out,Option.bind_some,hd];rfl)
     clear k1 k3 k4 k5 k6 hd hyz
     go_wp2_with fail
     obtain⟨z0,z1,z2,z3,z4,-⟩:=ZB.out.c
     refine bodyPost_ret (v:=.tuple #[.agg #[.int .i64 t.kind,.int .i64 t.n,.string ⟨t.s.toArray⟩,.slice a1 t.keys.length c1,.slice a2 t.l.length c2],.bool false]) ?_ rfl ?_
     ·simp only[set5]at z0 z1 z2 z3 z4
      simp[results,Tryz.results122,go_sem,z0,z1,z2,z3,z4]
     ·refine⟨_,_,rfl,Z.out.1,?_⟩
      rw[HA.out]
      exact OptIn.none Z.out.2
    | some y9=>
     rw[hd]at hb2
     simp only[Option.isSome_some]at hb2
     subst hb2
     obtain rfl:=hyz y9 hd
     have HA:Hid (downV how (s :: r :: rs) t=replacedV y2 t s):=hidI (by rw[downV,HM.out,Option.bind_some,hd];rfl)
     have K2:Hid (BoxIs wc w.heap.size (.int .i64 t.kind) (.int .i64 t.n) (.string ⟨t.s.toArray⟩) (.slice a1 t.keys.length c1) (.slice a2 t.l.length c2)/\BoxIs wc (w.heap.size+1) (.int .i64 0) (.int .i64 0) (.string ⟨#[]⟩) (.slice none 0 0) (.slice none 0 0)/\Below w.heap.size w wc/\In wc (lowN ok w.heap.size wa.heap.size) y2 (.agg #[.int .i64 y2.kind,.int .i64 y2.n,.string ⟨y2.s.toArray⟩,.slice b5 y2.keys.length d5,.slice b6 y2.l.length d6])):=⟨k3,k4,k5,k6⟩
     obtain⟨f0,f1,f2,f3,f4,-⟩:=k1.c
     obtain⟨p0,p1,p2,p3,p4,-⟩:=k3.c
     have g0:=cell_bel k5 N4.out
     have con9:Hid (∀ W,W.heap=wc.heap->W.os=wc.os->W.tape=wc.tape->W.output=wc.output->Calls Tryz.prog 148 #[.agg #[.int .i64 t.kind,.int .i64 t.n,.string ⟨t.s.toArray⟩,.slice a1 t.keys.length c1,.slice a2 t.l.length c2],.string ⟨s.toArray⟩,.agg #[.int .i64 y2.kind,.int .i64 y2.n,.string ⟨y2.s.toArray⟩,.slice b5 y2.keys.length d5,.slice b6 y2.l.length d6]] W fun e w'=>∃ (y3:V) (b7 b8:Option Addr) (d7 d8:Nat) (b:Bool),e=.returned (.tuple #[.agg #[.int .i64 y3.kind,.int .i64 y3.n,.string ⟨y3.s.toArray⟩,.slice b7 y3.keys.length d7,.slice b8 y3.l.length d8],.bool b])/\BoxIs w' (w.heap.size+1) (.int .i64 0) (.int .i64 0) (.string ⟨#[]⟩) (.slice none 0 0) (.slice none 0 0) /\
      ∀ W',W'=set5 w' (w.heap.size+1) (.int .i64 y3.kind) (.int .i64 y3.n) (.string ⟨y3.s.toArray⟩) (.slice b7 y3.keys.length d7) (.slice b8 y3.l.length d8)->Below w.heap.size w W'/\OptIn W' (okN ok w.heap.size) (downV how (s :: r :: rs) t) (.agg #[.int .i64 y3.kind,.int .i64 y3.n,.string ⟨y3.s.toArray⟩,.slice b7 y3.keys.length d7,.slice b8 y3.l.length d8]) b/\BoxIs W' (w.heap.size+1) (.int .i64 y3.kind) (.int .i64 y3.n) (.string ⟨y3.s.toArray⟩) (.slice b7 y3.keys.length d7) (.slice b8 y3.l.length d8)):=by
      intro W e1 e2 e3 e4
      have hbW:=bel_of0 e1 e2 e3 e4
      have hsz:W.heap.size=wc.heap.size:=by rw[e1]
      have hbb:=bel_trans K2.out.2.2.1 hbW
      refine(replaced_is W (lowN ok w.heap.size wa.heap.size) t y2 _ _ s ((H.out.bel hbb).weak lowN_low) (K2.out.2.2.2.bel hbW) HN.out n3).mono ?_
      rintro e w1 ⟨r9,b,rfl,hb1,hb2,y3,hy,hyz⟩
      obtain⟨b7,b8,d7,d8,rfl⟩:=hy.form
      have hb3:=bel_trans hbW hb1
      have hbx:=box_bel hb3 K2.out.2.1
      refine⟨y3,b7,b8,d7,d8,b,rfl,hbx,?_⟩
      rintro W' rfl
      have g1:=set5_gb w1 (w.heap.size+1) (.int .i64 y3.kind) (.int .i64 y3.n) (.string ⟨y3.s.toArray⟩) (.slice b7 y3.keys.length d7) (.slice b8 y3.l.length d8)
      refine⟨bel_set5 (bel_trans K2.out.2.2.1 hb3) (by omega) _ _ _ _ _,⟨by rw[HA.out];exact hb2,y3,?_,by rw[HA.out];exact hyz⟩,hbx.set _ _ _ _ _⟩
      refine(hy.grown g1 ?_).weak ?_
      ·intro k hk e
       rcases hk with hk | hk
       ·exact lowN_ne (by omega) (by omega) k hk e
       ·omega
      ·intro k hk
       rcases hk with hk | hk
       ·exact lowN_out (by omega) k hk
       ·exact .inr (by omega)
     clear k1 k3 k4 k5 k6 hd hyz
     go_upto_region 9 with fail
     go_region_with ((go_at_call 148;refine(con9.out _ (by rfl) (by rfl) (by rfl) (by rfl)).mono ?_;rintro e w1 ⟨y3,b7,b8,d7,d8,b,rfl,hbx,hfin⟩;obtain⟨x0,x1,x2,x3,x4,y0,y1,y2',y3',y4⟩:=hbx.c;have FIN:=hidI hfin;clear hfin hbx))
     all_goals
      go_wp2_with fail
      obtain⟨r1,r2,r3⟩:=FIN.out _ rfl
      obtain⟨z0,z1,z2,z3,z4,-⟩:=r3.c
      refine bodyPost_ret (v:=.tuple #[.agg #[.int .i64 y3.kind,.int .i64 y3.n,.string ⟨y3.s.toArray⟩,.slice b7 y3.keys.length d7,.slice b8 y3.l.length d8],.bool b]) ?_ rfl ?_
      ·simp only[set5]at z0 z1 z2 z3 z4
       simp[results,Tryz.results122,go_sem,z0,z1,z2,z3,z4]
      ·exact⟨_,_,rfl,r1,r2⟩
theorem downA_all (gh gx:Nat) (how:V->List UInt8->Option V) (w0:World) (base:Nat->Prop) (hH:HowA gh gx how w0 base):∀ (s:List UInt8) (ns:List (List UInt8)),DownA gh gx how w0 base (s :: ns):=by
 intro s ns
 induction ns generalizing s with
 | nil=>exact downA_one gh gx how w0 base hH s
 | cons r rs ih=>exact downA_more gh gx how w0 base s r rs (ih r)
end Go.Proofs.YtmdemcjmcnfjmaaGreatDoor
