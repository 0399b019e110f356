import Derived.Test.YtgolnaencepejaaGreatDoorG8
import Derived.Test.YtgolnaencepejaaGreatDoorG9
set_option maxRecDepth 100000
set_option maxHeartbeats 40000000
set_option linter.unusedSimpArgs false
set_option linter.unusedVariables false
namespace Go.Proofs.YtgolnaencepejaaGreatDoor
open Go.RowKit
open _root_.Go.Proofs.Tryz
def vE:Prop:=∀ (w:LC) (ok ok':Nat->Prop) (a b:V) (va vb:Value),In w ok a va->In w ok' b vb->dz a ->
 Calls prog 26 #[va,vb] w fun e w'=>∃ r,e=.returned (.bool r)/\(r=true↔a=b)/\La w w'
open Classical in
noncomputable def j8 (t:V) (p:Lz) (x:V):Int:=if (fP (ax p) t).2≠0 then (fP (ax p) t).2 else if (fP (ax p) t).1=x then 0 else 4
theorem Hdq(hS:vE)(w:LC)(ok t x v xv p)(h:In w ok t v)(hx:In w ok x xv)(hp:p.length<=140737488351232)(hM:bj w):Calls prog 175 #[v,aR p,xv] w fun e w'=>e=.returned (.int .i64 (j8 t p x))/\La w w':=by
 have H:=aa h;have HX:=aa hx;have HS:=aa hS;have HMM:=aa hM;obtain⟨l1,l2,l3⟩:=h.lens;obtain⟨a1,a2,c1,c2,rfl⟩:=h.form;obtain⟨a7,a8,c7,c8,rfl⟩:=hx.form;clear h hx hM hS;have B2:Ll (∀ o1 o2,La w ((w.alloc o1).alloc o2)):=fun o1 o2=>ab (ae _ _) (ae _ _);go_enter func175,ntmps175;go_wp2_with fail
 refine(zD _ ok t _ p (by exact H.o.bel (B2.o _ _)) hp (by exact HMM.o.bel (B2.o _ _))).mono ?_;rintro e w1 ⟨r,rfl,hb1,hr⟩;obtain⟨g,hg⟩:∃ g,fP (ax p) t=g:=⟨_,rfl⟩
 rw[hg]at hr ⊢;obtain⟨y,ye⟩:=g;simp only at hr ⊢;obtain⟨a5,a6,c5,c6,rfl⟩:=hr.form;have HG:=aa hg;have LW:=ab hb1 (ae w1 (.cells (KV y a5 c5 a6 c6) 39));have K:Ll (KY (w1.alloc (.cells (KV y a5 c5 a6 c6) 39)) (w.heap.size+1) x a7 c7 a8 c8/\KY (w1.alloc (.cells (KV y a5 c5 a6 c6) 39)) w1.heap.size y a5 c5 a6 c6/\In (w1.alloc (.cells (KV y a5 c5 a6 c6) 39)) ok y (.agg (KV y a5 c5 a6 c6))/\La w (w1.alloc (.cells (KV y a5 c5 a6 c6) 39))):=⟨af LW (et w _ _),MN w1 _,hr.bel (ae _ _),ab (B2.o _ _) LW⟩
 clear hg hr hb1 LW;by_cases hye:ye=0
 ·subst hye;have hnice:Ll (dz y):=aa (by obtain⟨q1,q2,q3⟩:=uu HG.o;exact pU _ _ _ (dQ q1) q3);have p0_:=K.o.1.c;have r0_:=K.o.2.1.c;go_wp2_with fail
  refine(HS.o _ ok ok y x _ _ (by exact K.o.2.2.1) (by exact HX.o.bel K.o.2.2.2) hnice.o).mono ?_;rintro e w2 ⟨b,rfl,hbi,hb2⟩;have B3:=aa (ab K.o.2.2.2 hb2);clear hb2 K;cases b with
  | true=>
   have HR:Ll (j8 t p x=0):=aa (by unfold j8;rw[HG.o];simp[hbi.1 rfl]);clear hbi;go_wp2_with fail
   go_ret;exact⟨by rw[HR.o];rfl,B3.o⟩
  | false=>
   have HR:Ll (j8 t p x=4):=aa (by
    have:¬y=x:=fun e=>by have:=hbi.2 e;cases this
    unfold j8;rw[HG.o];simp[this])
   clear hbi;go_wp2_with fail
   go_ret;exact⟨by rw[HR.o];rfl,B3.o⟩
 ·have e1:(ye != 0)=true:=by rw[bne_iff_ne];exact hye
  have e2:(ye == 0)=false:=by rw[MO];exact hye
  have HR:Ll (j8 t p x=ye):=aa (by unfold j8;rw[HG.o];simp[hye]);clear hye;go_wp2_with fail
  go_ret;exact⟨by rw[HR.o];rfl,K.o.2.2.2⟩
theorem E7(hS:vE)(o:jf)(t)(hk:o.kind=6):kZ (t,j8 t o.path o.value) o t:=by
 intro w ok v ov h ho hM;have H:=aa h.low;have HMM:=aa hM;have HS:=aa hS;obtain⟨l1,l2,l3⟩:=h.lens;obtain⟨a1,a2,c1,c2,rfl⟩:=h.form;obtain⟨o1,o2,o3,a7,a8,c7,c8,rfl,hx⟩:=ho;have HX:=aa hx.low;have q1:(o.kind == 1)=false:=by rw[hk];rfl
 have q2:(o.kind == 2)=false:=by rw[hk];rfl
 have q3:(o.kind == 3)=false:=by rw[hk];rfl
 have q4:(o.kind == 4)=false:=by rw[hk];rfl
 have q5:(o.kind == 5)=false:=by rw[hk];rfl
 have q6:(o.kind == 6)=true:=by rw[hk];rfl
 clear h hM hx hk hS;have con:Ll (∀ W,W.heap=(((w.alloc (.cells (KV t a1 c1 a2 c2) 39)).alloc (.cells (Lg o a7 c7 a8 c8) 173)).alloc (.cells Lb 39)).heap->W.os=w.os->W.tape=w.tape->W.output=w.output ->
  Calls prog 175 #[.agg (KV t a1 c1 a2 c2),.string ⟨o.path.toArray⟩,.agg (KV o.value a7 c7 a8 c8)] W fun e w'=>e=.returned (.int .i64 (j8 t o.path o.value))/\KY w' w.heap.size t a1 c1 a2 c2/\Lc w' (w.heap.size+2)/\La w w'):=by
  intro W e1 e2 e3 e4;have LY:=tS e1 e2 e3 e4;refine Lk (Hdq HS.o W (Lj ok w) t o.value _ _ o.path (H.o.bel LY) (HX.o.bel LY) o2 (HMM.o.bel LY)) fun w' hb=>?_;exact⟨rfl,af hb (by unfold ag;rw[e1];exact lI w _ _ _),af hb (by unfold ag;rw[e1];exact jI w _ _ _),ab LY hb⟩
 go_enter func137,ntmps137;go_upto_region 13 with fail
 go_region_with ((go_at_call 175;refine(con.o _ (by rfl) (by rfl) (by rfl) (by rfl)).mono ?_;rintro e w2 ⟨rfl,k1,k2,k3⟩;have p0_:=k1.c;have x0_:=k2.c;have Z:=aa (aN (C:=w2.heap.size) (g:=w.heap.size+2) ((H.o.bel k3).weak (aO (C:=w2.heap.size))) k3 (by omega) k2.lt);have ZB:=aa (LH k2.set t a1 c1 a2 c2);clear k1 k2 k3))
 all_goals
  go_wp2_with fail
  have z0_:=ZB.o.c;refine MM (v:=.tuple #[.agg (KV t a1 c1 a2 c2),.int .i64 (j8 t o.path o.value)]) ?_ rfl ?_
  ·simp only[ar]at z0_;simp[results,results137,go_sem,z0_]
  ·exact⟨_,rfl,Z.o.1,Z.o.2⟩
noncomputable def Ce (t:V) (o:jf):V × Int:=
 if o.kind=1 then ep bL o.path (ax o.path) t o.value else if o.kind=2 then aX ch (ax o.path) t else if o.kind=3 then ep aY o.path (ax o.path) t o.value
 else if o.kind=4 then wf t o.frm o.path else if o.kind=5 then gS t o.frm o.path else if o.kind=6 then (t,j8 t o.path o.value) else (t,9)
theorem Jl(hS:vE)(t)(o:jf):kZ (Ce t o) o t:=by
 unfold Ce;split
 ·exact GQ o t (by assumption)
 split
 ·exact xM o t (by assumption)
 split
 ·exact uE o t (by assumption)
 split
 ·exact Fx o t (by assumption)
 split
 ·exact FH o t (by assumption)
 split
 ·exact E7 hS o t (by assumption)
 ·refine Dj o t fun i h1 h2=>?_;rcases (show i=1\/i=2\/i=3\/i=4\/i=5\/i=6 by omega) with rfl | rfl | rfl | rfl | rfl | rfl <;> assumption
theorem Er(hS:vE):∀ (os:List jf) (t:V),qb Ce os t
 | [],_=>trivial
 | o :: os,t=>⟨Jl hS t o,fun _=>Er hS os _⟩
structure Th where
 name:Lz
 value:V
 owners:List aL
 ver:Int
 gen:Int
 st:dI
abbrev Ld (t:Th) (a:Option Addr) (c:Nat) (b:Option Addr) (d:Nat) (oa:Option Addr) (oc:Nat):Array Value:=#[.string ⟨t.name.toArray⟩,.int .i64 t.value.kind,.int .i64 t.value.n,.string ⟨t.value.s.toArray⟩,.slice a t.value.keys.length c,.slice b t.value.l.length d,.slice oa t.owners.length oc,.int .i64 t.ver,.int .i64 t.gen,.string ⟨t.st.a.toArray⟩,.string ⟨t.st.c.toArray⟩,.int .i64 t.st.ph,.int .i64 t.st.st,.int .i64 t.st.we,.int .i64 t.st.si]
structure Nu where
 ths:List Th
 time:Int
 ver:Int
 acts:Int
structure cm where
 kind:Int
 name:Lz
 who:Lz
 body:Lz
 version:Int
 n:Int
 order:Int
 force:Bool
abbrev Lf (t:cm):Array Value:=#[.int .i64 t.kind,.string ⟨t.name.toArray⟩,.string ⟨t.who.toArray⟩,.string ⟨t.body.toArray⟩,.int .i64 t.version,.int .i64 t.n,.int .i64 t.order,.bool t.force]
structure uf where
 code:Int
 n:Int
 body:Lz
def bz (e:Int):uf:=⟨e,0,[]⟩
def vm:Nu:=⟨[],0,0,0⟩
noncomputable def bW (v:V) (kind:Int) (body:V):V × Int:=
 if kind=3 then ge v body
 else if kind=4 then (if (cU body).2≠0 then (v,(cU body).2) else qU Ce (cU body).1 v)
 else (body,0)
noncomputable def aJ (t:Th) (a:cm):V × List aL × Int:=
 if (cW a.body).2≠0 then (t.value,t.owners,(cW a.body).2)
 else if a.kind=5 then ((eC t.value t.owners a.who (cW a.body).1 a.force).1,(eC t.value t.owners a.who (cW a.body).1 a.force).2.1,(eC t.value t.owners a.who (cW a.body).1 a.force).2.2.2)
 else if (bW t.value a.kind (cW a.body).1).2≠0 then (t.value,t.owners,(bW t.value a.kind (cW a.body).1).2)
 else ((bW t.value a.kind (cW a.body).1).1,ir (bW t.value a.kind (cW a.body).1).1 t.owners,0)
def dA (time:Int) (t:Th) (order:Int):dI × Int:=ij (bE t.value).1 (bE t.value).2 t.st time order
open Classical in
noncomputable def jw (time ver:Int) (t:Th) (v:V) (os:List aL):Th × Int:=
 let other:=t.gen=0\/v≠t.value
 let ver':=if other\/os≠t.owners then ver+1 else ver
 let st0:=if t.gen=0 then (fV (bE v).1 (bE v).2).1 else t.st
 (⟨t.name,v,os,if other\/os≠t.owners then ver+1 else t.ver,if other then t.gen+1 else t.gen,(ij (bE v).1 (bE v).2 st0 time 0).1⟩,ver')
noncomputable def al (time ver:Int) (t:Th) (a:cm):Th × Int × Int:=
 if (aJ t a).2.2≠0 then (t,ver,(aJ t a).2.2)
 else if cI (aJ t a).1≠0 then (t,ver,cI (aJ t a).1)
 else ((jw time ver t (aJ t a).1 (aJ t a).2.1).1,(jw time ver t (aJ t a).1 (aJ t a).2.1).2,0)
def ci (l:List Th) (n:Lz):Nat:=l.countP fun t=>Op.bytesLess t.name n
def dR (l:List Th) (n:Lz):Bool:=l.any fun t=>t.name == n
def cj (len:Nat) (kind:Int) (there:Bool):Int:=
 let begins:=kind=1\/kind=5/\there=false
 if begins/\there=true then 6 else if begins/\len=8 then 10 else if ¬begins/\there=false then 3 else 0
def eT (n:Lz):Th:=⟨n,jM,[],0,0,⟨[],[],0,0,0,0⟩⟩
noncomputable def dD (s:Nu) (a:cm):Nu × uf:=
 let i:=ci s.ths a.name
 let e:=cj s.ths.length a.kind (dR s.ths a.name)
 if e≠0 then (s,bz e)
 else match s.ths[i]? with
  | some t=>
   if dR s.ths a.name=false then
    (if (al s.time s.ver (eT a.name) a).2.2≠0 then (s,bz (al s.time s.ver (eT a.name) a).2.2)
    else ({ s with ths:=s.ths.take i++(al s.time s.ver (eT a.name) a).1 :: s.ths.drop i,ver:=(al s.time s.ver (eT a.name) a).2.1 },⟨0,(al s.time s.ver (eT a.name) a).1.ver,[]⟩))
   else if a.kind=6 then ({ s with ths:=s.ths.eraseIdx i },⟨0,t.ver,[]⟩)
   else if a.kind=7 then
    (if (dA s.time t a.order).2≠0 then (s,bz (dA s.time t a.order).2) else ({ s with ths:=s.ths.set i { t with st:=(dA s.time t a.order).1 } },⟨0,(dA s.time t a.order).1.ph,[]⟩))
   else if a.kind=9 then (s,if (eP 12 t.value).2≠0 then bz (eP 12 t.value).2 else ⟨0,t.ver,(eP 12 t.value).1⟩)
   else if a.kind≠5/\a.version≠0/\a.version≠t.ver then (s,bz 7)
   else if (al s.time s.ver t a).2.2≠0 then (s,bz (al s.time s.ver t a).2.2)
   else ({ s with ths:=s.ths.set i (al s.time s.ver t a).1,ver:=(al s.time s.ver t a).2.1 },⟨0,(al s.time s.ver t a).1.ver,[]⟩)
  | none=>
   (if (al s.time s.ver (eT a.name) a).2.2≠0 then (s,bz (al s.time s.ver (eT a.name) a).2.2)
   else ({ s with ths:=s.ths++[(al s.time s.ver (eT a.name) a).1],ver:=(al s.time s.ver (eT a.name) a).2.1 },⟨0,(al s.time s.ver (eT a.name) a).1.ver,[]⟩))
def iz (s:Nu) (n:Int):Nu × uf:=
 if n < 1\/1099511627776 - s.time < n then (s,bz 8)
 else ({ s with time:=s.time+n,ths:=s.ths.map fun t=>{ t with st:=(dA (s.time+n) t 0).1 } },⟨0,0,[]⟩)
noncomputable def je (s:Nu) (a:cm):Nu × uf:=
 if s.acts=300 then (s,bz 10)
 else
  let s':Nu:={ s with acts:=s.acts+1 }
  if a.kind < 1\/9 < a.kind then (s',bz 9)
  else if a.kind=8 then iz s' a.n
  else if bT a.name=false then (s',bz 1)
  else dD s' a
def cu (t:Th) (a b:Option Addr) (c d:Nat) (oa:Option Addr) (oc:Nat):List Value:=[.string ⟨t.name.toArray⟩,.int .i64 t.value.kind,.int .i64 t.value.n,.string ⟨t.value.s.toArray⟩,.slice a t.value.keys.length c,.slice b t.value.l.length d,.slice oa t.owners.length oc,.int .i64 t.ver,.int .i64 t.gen,.string ⟨t.st.a.toArray⟩,.string ⟨t.st.c.toArray⟩,.int .i64 t.st.ph,.int .i64 t.st.st,.int .i64 t.st.we,.int .i64 t.st.si]
structure cQ (w:World) (ok:Nat->Prop) (t:Th) (a b:Option Addr) (c d:Nat) (oa:Option Addr) (oc:Nat):Prop where
 name:t.name.length<=9223372036854775807
 val:In w ok t.value (.agg (KV t.value a c b d))
 own:aB w ok t.owners (.slice oa t.owners.length oc)
theorem cQ.imp{w w':World}{ok ok' t a b c d oa oc}(h:cQ w ok t a b c d oa oc)(hc:∀ k x,ok k.block->w.cell? k=some x->ok' k.block/\w'.cell? k=some x):cQ w' ok' t a b c d oa oc:=
 ⟨h.name,by obtain⟨d9,h9⟩:=h.val;exact⟨d9,h9.imp hc⟩,h.own.imp hc⟩
theorem cQ.bel{w w':World}{ok t a b c d oa oc}(h:cQ w ok t a b c d oa oc)(hb:La w w'):cQ w' ok t a b c d oa oc:=⟨h.name,h.val.bel hb,h.own.bel hb⟩
theorem cQ.weak{w:World}{ok ok' t a b c d oa oc}(h:cQ w ok t a b c d oa oc)(hk:∀ k,ok k->ok' k):cQ w ok' t a b c d oa oc:=⟨h.name,h.val.weak hk,h.own.weak hk⟩
theorem cQ.low{w:World}{ok t a b c d oa oc}(h:cQ w ok t a b c d oa oc):cQ w (Lj ok w) t a b c d oa oc:=⟨h.name,h.val.low,h.own.low⟩
theorem jS(t a b c d oa oc):∀ u∈cu t a b c d oa oc,u.oneCell'=true:=by
 intro u hu;simp only[cu,List.mem_cons,List.not_mem_nil,or_false]at hu;rcases hu with rfl | rfl | rfl | rfl | rfl | rfl | rfl | rfl | rfl | rfl | rfl | rfl | rfl | rfl | rfl <;> rfl
def cO (w:World) (ok:Nat->Prop) (xs:List Th) (v:Value):Prop:=
 xs.length<=9223372036854775807/\(xs=[]/\(∃ a,v=.slice a 0 0)\/∃ g off c,v=.slice (some ⟨g,off,none⟩) xs.length c/\xs.length<=c/\c<=9223372036854775807 /\
  ∀ i x,xs[i]?=some x->ok g/\∃ (a b:Option Addr) (c d:Nat) (oa:Option Addr) (oc:Nat),(∀ j u,(cu x a b c d oa oc)[j]?=some u->w.cell? ⟨g,off+i * 15+j,none⟩=some u)/\cQ w ok x a b c d oa oc)
theorem cO.imp{w w' ok ok' xs v}(h:cO w ok xs v)(hc:∀ k x,ok k.block->w.cell? k=some x->ok' k.block/\w'.cell? k=some x):cO w' ok' xs v:=by
 refine⟨h.1,?_⟩;rcases h.2 with h | ⟨g,off,c,e,h1,h2,h3⟩
 ·exact .inl h
 ·refine .inr ⟨g,off,c,e,h1,h2,fun i x hx=>?_⟩;obtain⟨q1,a,b,c,d,oa,oc,q2,q3⟩:=h3 i x hx;exact⟨(hc ⟨g,off+i * 15+0,none⟩ _ q1 (q2 0 _ rfl)).1,a,b,c,d,oa,oc,fun j u hu=>(hc ⟨g,off+i * 15+j,none⟩ _ q1 (q2 j u hu)).2,q3.imp hc⟩
theorem cO.bel{w w' ok xs v}(h:cO w ok xs v)(hb:La w w'):cO w' ok xs v:=h.imp fun k x h1 h2=>⟨h1,ah hb h2⟩
theorem cO.weak{w ok ok' xs v}(h:cO w ok xs v)(hk:∀ k,ok k->ok' k):cO w ok' xs v:=h.imp fun k x h1 h2=>⟨hk _ h1,h2⟩
theorem cO.low{w ok xs v}(h:cO w ok xs v):cO w (Lj ok w) xs v:=h.imp fun k x h1 h2=>⟨⟨h1,World.block_lt_of_cell? w k h2⟩,h2⟩
theorem cO.form{w ok xs v}(h:cO w ok xs v):∃ a c,v=.slice a xs.length c:=by
 rcases h.2 with⟨rfl,a,rfl⟩ | ⟨g,off,c,rfl,-⟩
 ·exact⟨a,0,rfl⟩
 ·exact⟨_,_,rfl⟩
theorem cO.at{w:World}{ok xs p n k i}(h:cO w ok xs (.slice p n k))(hi:i < xs.length):∃ g off,p=some ⟨g,off,none⟩/\xs.length<=k/\k<=9223372036854775807/\ok g/\∃ (a b:Option Addr) (c d:Nat) (oa:Option Addr) (oc:Nat),(w.cell? ⟨g,off+i * 15,none⟩=some (.string ⟨xs[i].name.toArray⟩)/\w.cell? ⟨g,off+i * 15+1,none⟩=some (.int .i64 xs[i].value.kind)/\w.cell? ⟨g,off+i * 15+2,none⟩=some (.int .i64 xs[i].value.n)/\w.cell? ⟨g,off+i * 15+3,none⟩=some (.string ⟨xs[i].value.s.toArray⟩)/\w.cell? ⟨g,off+i * 15+4,none⟩=some (.slice a xs[i].value.keys.length c)/\w.cell? ⟨g,off+i * 15+5,none⟩=some (.slice b xs[i].value.l.length d)/\w.cell? ⟨g,off+i * 15+6,none⟩=some (.slice oa xs[i].owners.length oc)/\w.cell? ⟨g,off+i * 15+7,none⟩=some (.int .i64 xs[i].ver)/\w.cell? ⟨g,off+i * 15+8,none⟩=some (.int .i64 xs[i].gen)/\w.cell? ⟨g,off+i * 15+9,none⟩=some (.string ⟨xs[i].st.a.toArray⟩)/\w.cell? ⟨g,off+i * 15+10,none⟩=some (.string ⟨xs[i].st.c.toArray⟩)/\w.cell? ⟨g,off+i * 15+11,none⟩=some (.int .i64 xs[i].st.ph)/\w.cell? ⟨g,off+i * 15+12,none⟩=some (.int .i64 xs[i].st.st)/\w.cell? ⟨g,off+i * 15+13,none⟩=some (.int .i64 xs[i].st.we)/\w.cell? ⟨g,off+i * 15+14,none⟩=some (.int .i64 xs[i].st.si))/\cQ w ok xs[i] a b c d oa oc:=by
 rcases h.2 with⟨e,-⟩ | ⟨g,off,c',e,h1,h2,h3⟩
 ·rw[e]at hi;simp at hi
 ·simp only[Value.slice.injEq]at e;obtain⟨rfl,-,rfl⟩:=e;obtain⟨q1,a,b,c,d,oa,oc,q2,q3⟩:=h3 i xs[i] (Mw hi);exact⟨g,off,rfl,h1,h2,q1,a,b,c,d,oa,oc,⟨q2 0 _ rfl,q2 1 _ rfl,q2 2 _ rfl,q2 3 _ rfl,q2 4 _ rfl,q2 5 _ rfl,q2 6 _ rfl,q2 7 _ rfl,q2 8 _ rfl,q2 9 _ rfl,q2 10 _ rfl,q2 11 _ rfl,q2 12 _ rfl,q2 13 _ rfl,q2 14 _ rfl⟩,q3⟩
def fN (w:World) (g:Nat) (t:Th) (a b:Option Addr) (c d:Nat) (oa:Option Addr) (oc:Nat):Prop:=w.heap[g]?=some (.cells (Ld t a c b d oa oc) 44)
theorem fN.c{w g t a b c d oa oc}(h:fN w g t a b c d oa oc):w.cell? ⟨g,0,none⟩=some (.string ⟨t.name.toArray⟩)/\w.cell? ⟨g,1,none⟩=some (.int .i64 t.value.kind)/\w.cell? ⟨g,2,none⟩=some (.int .i64 t.value.n)/\w.cell? ⟨g,3,none⟩=some (.string ⟨t.value.s.toArray⟩)/\w.cell? ⟨g,4,none⟩=some (.slice a t.value.keys.length c)/\w.cell? ⟨g,5,none⟩=some (.slice b t.value.l.length d)/\w.cell? ⟨g,6,none⟩=some (.slice oa t.owners.length oc)/\w.cell? ⟨g,7,none⟩=some (.int .i64 t.ver)/\w.cell? ⟨g,8,none⟩=some (.int .i64 t.gen)/\w.cell? ⟨g,9,none⟩=some (.string ⟨t.st.a.toArray⟩)/\w.cell? ⟨g,10,none⟩=some (.string ⟨t.st.c.toArray⟩)/\w.cell? ⟨g,11,none⟩=some (.int .i64 t.st.ph)/\w.cell? ⟨g,12,none⟩=some (.int .i64 t.st.st)/\w.cell? ⟨g,13,none⟩=some (.int .i64 t.st.we)/\w.cell? ⟨g,14,none⟩=some (.int .i64 t.st.si):=by
 unfold fN at h;refine⟨?_,?_,?_,?_,?_,?_,?_,?_,?_,?_,?_,?_,?_,?_,?_⟩ <;> simp[World.cell?,h]
theorem fN.f{w g t a b c d oa oc}(h:fN w g t a b c d oa oc):w.frozen? ⟨g,0,none⟩=false/\w.frozen? ⟨g,1,none⟩=false/\w.frozen? ⟨g,2,none⟩=false/\w.frozen? ⟨g,3,none⟩=false/\w.frozen? ⟨g,4,none⟩=false/\w.frozen? ⟨g,5,none⟩=false/\w.frozen? ⟨g,6,none⟩=false/\w.frozen? ⟨g,7,none⟩=false/\w.frozen? ⟨g,8,none⟩=false/\w.frozen? ⟨g,9,none⟩=false/\w.frozen? ⟨g,10,none⟩=false/\w.frozen? ⟨g,11,none⟩=false/\w.frozen? ⟨g,12,none⟩=false/\w.frozen? ⟨g,13,none⟩=false/\w.frozen? ⟨g,14,none⟩=false:=by
 unfold fN at h;refine⟨?_,?_,?_,?_,?_,?_,?_,?_,?_,?_,?_,?_,?_,?_,?_⟩ <;> simp[World.frozen?,h]
theorem fN.bel{w w' g t a b c d oa oc}(h:fN w g t a b c d oa oc)(hb:La w w'):fN w' g t a b c d oa oc:=by
 unfold fN at h ⊢;rw[hb.block _ (MF.1 h).1];exact h
theorem fN.lt{w g t a b c d oa oc}(h:fN w g t a b c d oa oc):g < w.heap.size:=(MF.1 h).1
variable {w w':World}
variable {v:Value}
variable {B n c d:Nat}
def SG (w:LC) (P:Nat->Prop) (u:Value):Prop:=Sd w P 1 (.agg #[.int .i64 0,.int .i64 0,.string ⟨#[]⟩,u,.slice none 0 0])
theorem SG.imp{P P':Nat->Prop}{u:Value}(h:∀ g,P g->g < w.heap.size->P' g/\w'.heap[g]?=w.heap[g]?)(k:SG w P u):SG w' P' u:=Sd.imp h 1 _ k
theorem SG.of{P:Nat->Prop}{a:Option Addr}{ks:List Value}(ho:w.ownsRow B 9 1 (.slice a n c) n ks)(hs:∀ u∈ks,∃ z,u=.string z)(hP:∀ g,B<=g->P g):SG w P (.slice a n c):=
 ⟨0,0,_,a,none,n,c,0,0,ks,[],rfl,cV ho (Nat.zero_le _),hs,fun g hg=>hP g (bY ho hg).1,World.ownsRow_nil _ _ _ _,rfl,(fun g hg=>by cases hg),fun c hc=>by cases hc⟩
theorem SQ(l:List Lz):∀ u∈l.map aR,∃ z,u=Value.string z:=fun u hu=>by
 obtain⟨z,-,rfl⟩:=List.mem_map.1 hu;exact⟨_,rfl⟩
def Ta (w:LC) (P:Nat->Prop) (os:List aL) (oa:Option Addr) (oc:Nat):Prop:=∃ pvs:List Value,pvs.length=os.length/\w.ownsRow 0 47 2 (.slice oa os.length oc) os.length (ba os pvs)/\(∀ g,(Value.slice oa os.length oc).ownBlock=some g->P g)/\∀ (j:Nat) (o:aL) (u:Value),os[j]?=some o->pvs[j]?=some u->(∃ a c,u=.slice a o.paths.length c)/\SG w P u
theorem Ta.imp{P P':Nat->Prop}{os:List aL}{oa:Option Addr}{oc:Nat}(h:∀ g,P g->g < w.heap.size->P' g/\w'.heap[g]?=w.heap[g]?)(k:Ta w P os oa oc):Ta w' P' os oa oc:=by
 obtain⟨pvs,h1,h2,h3,h4⟩:=k;exact⟨pvs,h1,bM h2 fun g hg=>(h g (h3 g hg) (bY h2 hg).2).2,fun g hg=>(h g (h3 g hg) (bY h2 hg).2).1,fun j o u hj hu=>⟨(h4 j o u hj hu).1,(h4 j o u hj hu).2.imp h⟩⟩
structure SS (w:LC) (P:Nat->Prop) (t:Th) (a b:Option Addr) (c d:Nat) (oa:Option Addr) (oc:Nat):Prop where
 val:∃ D,Sd w P D (.agg (KV t.value a c b d))
 own:Ta w P t.owners oa oc
theorem SS.imp{P P':Nat->Prop}{t:Th}{a b:Option Addr}{oa:Option Addr}{oc:Nat}(h:∀ g,P g->g < w.heap.size->P' g/\w'.heap[g]?=w.heap[g]?)(k:SS w P t a b c d oa oc):SS w' P' t a b c d oa oc:=
 ⟨by obtain⟨D,hD⟩:=k.val;exact⟨D,hD.imp h _ _⟩,k.own.imp h⟩
theorem Ta.spf{P:Nat->Prop}{os:List aL}{oa:Option Addr}{oc:Nat}(f:Se P w w')(k:Ta w P os oa oc):Ta w' P os oa oc:=by
 obtain⟨pvs,h1,h2,h3,h4⟩:=k;refine⟨pvs,h1,bM h2 fun g hg=>?_,h3,fun j o u hj hu=>⟨(h4 j o u hj hu).1,f.shape _ _ (h4 j o u hj hu).2⟩⟩;obtain⟨-,cur,hc⟩:=Sa h2 hg;obtain⟨c',-,h8,h9⟩:=f.typed g cur _ (h3 g hg) hc;rw[h8,hc,h9 (by decide) (by decide)]
theorem SS.spf{P:Nat->Prop}{t:Th}{a b:Option Addr}{oa:Option Addr}{oc:Nat}(f:Se P w w')(k:SS w P t a b c d oa oc):SS w' P t a b c d oa oc:=
 ⟨by obtain⟨D,hD⟩:=k.val;exact⟨D,f.shape _ _ hD⟩,k.own.spf f⟩
def SU (w:LC) (P:Nat->Prop) (ths:List Th) (v:Value):Prop:=∃ L0:List (List Value),L0.length=ths.length/\w.ownsRow 0 44 15 v ths.length L0.flatten/\(∀ g,v.ownBlock=some g->P g)/\∀ (i:Nat) (t:Th) (cs:List Value),ths[i]?=some t->L0[i]?=some cs->∃ a b c d oa oc,cs=cu t a b c d oa oc/\SS w P t a b c d oa oc
theorem SU.spf{P:Nat->Prop}{ths:List Th}(f:Se P w w')(k:SU w P ths v):SU w' P ths v:=by
 obtain⟨L0,h1,h2,h3,h4⟩:=k;refine⟨L0,h1,bM h2 fun g hg=>?_,h3,fun i t cs ht hc=>?_⟩
 ·rcases h2.2 with⟨rfl,-⟩ | ⟨g',cap,cur,rfl,-,hc,-⟩
  ·cases hg
  ·cases hg;obtain⟨c',-,h8,h9⟩:=f.typed g' cur _ (h3 g' rfl) hc;rw[h8,hc,h9 (by decide) (by decide)]
 ·obtain⟨a,b,c,d,oa,oc,e,h5⟩:=h4 i t cs ht hc;exact⟨a,b,c,d,oa,oc,e,h5.spf f⟩
theorem SU.imp{P P':Nat->Prop}{ths:List Th}(h:∀ g,P g->g < w.heap.size->P' g/\w'.heap[g]?=w.heap[g]?)(k:SU w P ths v):SU w' P' ths v:=by
 obtain⟨L0,h1,h2,h3,h4⟩:=k;refine⟨L0,h1,bM h2 fun g hg=>(h g (h3 g hg) (bY h2 hg).2).2,fun g hg=>(h g (h3 g hg) (bY h2 hg).2).1,fun i t cs ht hc=>?_⟩;obtain⟨a,b,c,d,oa,oc,e,h5⟩:=h4 i t cs ht hc;exact⟨a,b,c,d,oa,oc,e,h5.imp h⟩
variable {W:World}
variable {ok:Nat->Prop}
variable {t:V}
variable {g S:Nat}
section
structure AQ (t LQ:V) (l:List aL) (who:Lz):Prop where
 rises:bD (l.map aL.name)
 len:l.length<=6
 obT:fL t
 obW:fL LQ
 k5:t.kind=5
 cT:fa t<=20000
 had:∀ p∈cq l who,p.length<=140737488351232/\aw p≠[]
 lv:∀ p∈au LQ,p.length<=140737488351232/\aw p≠[]/\(aw p).length+fa ((dr (aw p) LQ).getD aM)<=300
 lvn:(au LQ).length<=200
 named:∀ o∈cG t LQ l who,o.name.length<=maxLen
 risesO:bD ((cG t LQ l who).map aL.name)
 lenO:(cG t LQ l who).length<=4000000
theorem GA{a:LC}(_:La a W):Lc (W.alloc (.cells Lb 39)) W.heap.size:=MN _ _
theorem Ii{W1 W2:LC}{N z0 z1 z2 z3 z4}(nb:ag W1 g z0 z1 z2 z3 z4)(h:In W2 (bQ (fun k=>bQ ok S k/\k < N) W1.heap.size) t v)(hN:N<=g)(hS:S<=W1.heap.size):In W2 (fun k=>bQ ok S k/\k≠g) t v:=
 h.weak fun k hk=>by
  have hl:=(MF.1 nb).1;rcases hk with hk | hk
  ·exact⟨hk.1,by have:=hk.2;omega⟩
  ·exact⟨.inr (MH hS hk),by omega⟩
theorem Ea{W2:LC}{N}(h:In W2 (bQ (fun k=>bQ ok S k/\k < N) B) t v)(hS:S<=B):In W2 (bQ ok S) t v:=
 h.weak fun k hk=>by
  rcases hk with hk | hk
  ·exact hk.1
  ·exact .inr (MH hS hk)
theorem JU(h:In W ok t v)(ob:Obj):In (W.alloc ob) (fun k=>ok k/\k≠W.heap.size) t v:=
 (h.low.bel (ae W ob)).weak fun k hk=>⟨hk.1,by have:=hk.2;omega⟩
theorem E5{W1 W2:LC}{z0 z1 z2 z3 z4}(nb:ag W1 g z0 z1 z2 z3 z4)(h:In W2 (bQ (fun k=>bQ ok S k/\k≠g) W1.heap.size) t v)(hS:S<=W1.heap.size):In W2 (fun k=>bQ ok S k/\k≠g) t v:=
 h.weak fun k hk=>by
  have hl:=(MF.1 nb).1;rcases hk with hk | hk
  ·exact hk
  ·exact⟨.inr (MH hS hk),by omega⟩
theorem Bp{W2:LC}(h:In W2 (bQ (bQ ok S) B) t v)(hS:S<=B):In W2 (bQ ok S) t v:=
 h.weak fun k hk=>by
  rcases hk with hk | hk
  ·exact hk
  ·exact .inr (MH hS hk)
theorem JM{a:LC}{res a9 b9 c9 d9}(h:La a W)(hi:In W ok res (.agg (KV res a9 c9 b9 d9))):KY (W.alloc (.cells (KV res a9 c9 b9 d9) 39)) W.heap.size res a9 c9 b9 d9/\a.heap.size<=W.heap.size/\La a (W.alloc (.cells (KV res a9 c9 b9 d9) 39))/\In (W.alloc (.cells (KV res a9 c9 b9 d9) 39)) ok res (.agg (KV res a9 c9 b9 d9)):=
 ⟨MN _ _,h.size,ab h (ae _ _),hi.bel (ae _ _)⟩
theorem Js{a:LC}{res a9 b9 c9 d9 e0 e1 e2 e3 e4}(h:La a W)(hg:a.heap.size<=g)(hb:ag W g e0 e1 e2 e3 e4)(hi:In W (fun k=>ok k/\k≠g) res (.agg (KV res a9 c9 b9 d9))):KY (LG W g res a9 c9 b9 d9) g res a9 c9 b9 d9/\a.heap.size<=g/\La a (LG W g res a9 c9 b9 d9)/\In (LG W g res a9 c9 b9 d9) ok res (.agg (KV res a9 c9 b9 d9)):=
 ⟨hb.set _ _ _ _ _,hg,aP h hg _ _ _ _ _,(hi.grown (aI W g _ _ _ _ _) (fun k h9=>by have:=h9.2;simp;omega)).weak fun k h9=>h9.1⟩
theorem Ht{w8:LC}{L}(h:dB w8 (fun k=>bQ ok S k/\k < w8.heap.size) t L v)(hb:La w8 W):dB W (bQ ok S) t L v:=(h.bel hb).weak fun k hk=>hk.1
theorem EC{w8:LC}{L}(h:dB w8 (fun k=>bQ ok S k/\k < w8.heap.size) t L v)(hb:La w8 W)(hg:w8.heap.size<=g):dB W (fun k=>bQ ok S k/\k≠g) t L v:=(h.bel hb).weak fun k hk=>⟨hk.1,by have:=hk.2;omega⟩
attribute [local go_sem ↓] Go.wp_at_zero Go.wp_at_succ
theorem In.grownR{r}(h:In w ok t v)(hg:w.grownBy w' r)(hr:∀ k,ok k->some k≠r):In w' ok t v:=by
 obtain⟨d,h⟩:=h;exact⟨d,h.grown hg hr⟩
theorem aB.grownR{r l}(h:aB w ok l v)(hg:w.grownBy w' r)(hr:∀ k,ok k->some k≠r):aB w' ok l v:=h.imp (eJ hg hr)
theorem fA.bel{os r}(h:fA w B os r)(hb:La w w'):fA w' B os r:=by
 obtain⟨pvs,h1,h2,h3⟩:=h;exact⟨pvs,h1,bM h2 fun g hg=>hb.block g (bY h2 hg).2,fun i o v q1 q2=>⟨(h3 i o v q1 q2).1,(h3 i o v q1 q2).2.bel hb⟩⟩
theorem fA.lt{os r}(h:fA w B os r):∀ g,r.ownBlock=some g->B<=g/\g < w.heap.size:=by
 obtain⟨pvs,h1,h2,h3⟩:=h;exact fun g hg=>bY h2 hg
theorem Bx{L v0 v1 v2 v3 v4 v5}(h:dB w ok t L (.agg #[v0,v1,v2,v3,v4,v5])):ao w ok L v5:=by
 obtain⟨a1,a2,a3,c1,c2,c3,e,-,h2⟩:=h;simp only[Value.agg.injEq,Array.mk.injEq,List.cons.injEq,and_true]at e;rw[e.2.2.2.2.2];exact h2
theorem DL{L}(h:dB w ok t L v):dB w (Lj ok w) t L v:=by
 obtain⟨a1,a2,a3,c1,c2,c3,rfl,h1,h2⟩:=h;exact⟨a1,a2,a3,c1,c2,c3,rfl,h1.low,h2.imp fun a x q1 q2=>⟨⟨q1,World.block_lt_of_cell? _ _ q2⟩,q2⟩⟩
theorem uh(w ok t LQ l who force vt vl vw)(ht:In w ok t vt)(hl:aB w ok l vl)(hw:In w ok LQ vw)(hM:bj w)(hN:(bA l).length<=4000000)(hP:∀ o∈l,∀ x∈o.paths,x.length<=140737488351232)(hwho:who.length<=9223372036854775807)(hg1:(decide (t.kind=5)&&aE t)=true)(hg2:(decide (LQ.kind=5)&&aE LQ)=true)(hg3:bp l=true)(hg4:bT who=true)(hf:eu (aV LQ t (au LQ)) who l=[]\/force=true)(hao:AQ t LQ l who):Calls prog 75 #[vt,vl,.string ⟨who.toArray⟩,vw,.bool force] w fun e w'=>gT w w' ok (eC t l who LQ force) e:=by
 have AO:=aa hao;have CC:Ll (ld t l who LQ=eu (aV LQ t (au LQ)) who l):=aa (by rw[ld,if_pos ⟨by simpa using (Bool.and_eq_true_iff.1 hg1).2,hg3⟩]);obtain⟨nf,hnf⟩:∃ nf,(eu (aV LQ t (au LQ)) who l).length=nf:=⟨_,rfl⟩
 have NF:=aa hnf;obtain⟨A,hA⟩:∃ A,eC t l who LQ force=A:=⟨_,rfl⟩
 have RA:Ll (A=if aE (gO t LQ l who)=true/\(bP (cG t LQ l who) ⟨who,au LQ⟩).length<=6 then (gO t LQ l who,bP (cG t LQ l who) ⟨who,au LQ⟩,[],0) else (t,l,[],2)):=aa (by
  rw[<-hA];unfold eC;rw[if_pos ⟨by simpa using hg1,by simpa using hg2,hg3,hg4⟩,if_neg (by rintro⟨h1,h2⟩;rcases hf with e | e;exact h1 e;rw[e]at h2;exact absurd h2 (by simp))])
 rw[hA];clear hA;have qq:¬(0:Int) < (nf:Int)\/(0:Int) < (nf:Int)/\force=true:=by
  by_cases h0:nf=0
  ·exact .inl (by omega)
  ·exact .inr ⟨by omega,hf.resolve_left fun e=>h0 (by rw[<-hnf,e];rfl)⟩
 clear hnf hao hf;have HT:=aa ht.low;have HL:=aa hl.low;have HW:=aa hw.low;have HM:=aa hM;have HN:=aa hN;have HP:=aa hP;obtain⟨b1,b2,d1,d2,rfl⟩:=ht.form;obtain⟨a1,a2,c1,c2,rfl⟩:=hw.form;obtain⟨la,lc,rfl⟩:=hl.form;have ll:=hl.1;unfold maxLen at ll;clear ht hl hw hM hN hP;obtain⟨W3,hW3⟩:∃ W,W=(((w.alloc (.cells (KV t b1 d1 b2 d2) 39)).alloc (.cells #[.string ⟨who.toArray⟩] 9)).alloc (.cells (KV LQ a1 c1 a2 c2) 39)).alloc (.cells Lb 39):=⟨_,rfl⟩
 have BW:Ll (La w W3):=aa (by rw[hW3];exact ab (ab (ab (ae _ _) (ae _ _)) (ae _ _)) (ae _ _));have X1:Ll (KY W3 w.heap.size t b1 d1 b2 d2):=aa (by rw[hW3];exact H6 _ _ _ _ _ (lI _ _ _ _));have X2:Ll (W3.heap[w.heap.size+1]?=some (.cells #[.string ⟨who.toArray⟩] 9)):=aa (by rw[hW3];exact H6 _ _ _ _ _ (mE _ _ _ _));have X3:Ll (KY W3 (w.heap.size+2) LQ a1 c1 a2 c2):=aa (by rw[hW3];exact H6 _ _ _ _ _ (jI _ _ _ _));have X4:Ll (Lc W3 (w.heap.size+3)):=aa (by rw[hW3];exact JD _ _ _ _ _);have HW3:=aa hW3;clear hW3;have G1:Ll (∀ W,La w W->Calls prog 91 #[.agg (KV t b1 d1 b2 d2)] W fun e w'=>e=.returned (.bool (decide (t.kind=5)&&aE t))/\La W w'):=aa (fun W hW=>dq W _ t _ (HT.o.bel hW));have G2:Ll (∀ W,La w W->Calls prog 91 #[.agg (KV LQ a1 c1 a2 c2)] W fun e w'=>e=.returned (.bool (decide (LQ.kind=5)&&aE LQ))/\La W w'):=aa (fun W hW=>dq W _ LQ _ (HW.o.bel hW));have G3:Ll (∀ W,La w W->Calls prog 92 #[.slice la l.length lc] W fun e w'=>e=.returned (.bool (bp l))/\La W w'):=aa (fun W hW=>eZ W _ l _ (HL.o.bel hW) HP.o (HM.o.bel hW));have G4:Ll (∀ W,La w W->Calls prog 14 #[.string ⟨who.toArray⟩] W fun e w'=>e=.returned (.bool (bT who))/\La W w'):=aa (fun W _=>(lR W who hwho).mono fun e w' h=>⟨h.1,h.2 ▸ MK _ _⟩);have SW:Ll (w.heap.size+4<=W3.heap.size):=aa (by have:=(MF.1 X4.o).1;omega);rw[hg1]at G1;rw[hg2]at G2;rw[hg3]at G3;rw[hg4]at G4;clear hg1 hg2 hg3 hg4;have o0_:=X1.o.c;rcases qq with q0 | ⟨q0,rfl⟩
 all_goals
  go_enter func75,ntmps75;go_upto_region 1 with fail
  rw[<-HW3.o];go_upto_region 3 with (first
   |(go_at_call 14;refine Lk (G4.o _ B3.o) fun w4 hb=>?_;have B4:=aa (ab B3.o hb);have Y4:=aa (ab Y3.o hb);clear hb;skip)
   |(go_at_call 92;refine Lk (G3.o _ B2.o) fun w3 hb=>?_;have B3:=aa (ab B2.o hb);have Y3:=aa (ab Y2.o hb);clear hb;have u0:w3.cell? ⟨w.heap.size+1,0,none⟩=some (.string ⟨who.toArray⟩):=(by have h9:=bR Y3.o X2.o;simp[World.cell?,h9]);skip)
   |(go_at_call 91;refine Lk (G2.o _ B1.o) fun w2 hb=>?_;have B2:=aa (ab B1.o hb);have Y2:=aa (ab Y1.o hb);clear hb;skip)
   |(go_at_call 91;refine Lk (G1.o _ BW.o) fun w1 hb=>?_;have B1:=aa (ab BW.o hb);have Y1:=aa hb;clear hb;have p0_:=(af Y1.o X3.o).c;skip))
  have o0_:=(af Y4.o X1.o).c;have p0_:=(af Y4.o X3.o).c;have u0:w4.cell? ⟨w.heap.size+1,0,none⟩=some (.string ⟨who.toArray⟩):=(by have h9:=bR Y4.o X2.o;simp[World.cell?,h9])
  have CF:Ll (Calls prog 93 #[.agg (KV t b1 d1 b2 d2),.slice la l.length lc,.string ⟨who.toArray⟩,.agg (KV LQ a1 c1 a2 c2)] w4 fun e w'=>∃ ra rc,e=.returned (.slice ra nf rc)/\w'.ownsRow w4.heap.size 161 2 (.slice ra nf rc) (eu (aV LQ t (au LQ)) who l).length (jV (eu (aV LQ t (au LQ)) who l))/\La w4 w'):=aa (by
   refine(lJ w4 _ _ _ t LQ l who _ _ _ (HT.o.bel B4.o) (HL.o.bel B4.o) (HW.o.bel B4.o) (HM.o.bel B4.o) HN.o HP.o).mono ?_;rintro e w' ⟨r,rfl,h1,h2⟩;rw[CC.o]at h1;rcases h1.2 with⟨rfl,h9⟩ | ⟨g,cap,cur,rfl,h9⟩
   ·exact⟨none,0,by rw[<-NF.o,h9],by rw[<-NF.o];rw[h9]at h1 ⊢;exact h1,h2⟩
   ·exact⟨_,_,by rw[NF.o],by rw[<-NF.o];exact h1,h2⟩)
  go_upto_region 6 with (go_at_call 93;refine CF.o.mono ?_;rintro e w5 ⟨ra,rc,rfl,hrow,hb⟩;have B5:=aa (ab B4.o hb);have Y5:=aa (ab Y4.o hb);have ROW:=aa hrow;have S4:=aa (MH (show w.heap.size+4<=W3.heap.size from SW.o) Y4.o.size);clear hb hrow)
  have p0_:=(af Y5.o X3.o).c;have WO:=aa (rQ w5 (Lj ok w) LQ _ (by exact HW.o.bel B5.o) (HM.o.bel B5.o));go_upto_region 7 with (go_at_call 94;refine WO.o.mono ?_;rintro e w6 ⟨r,rfl,hwi,hb⟩;have B6:=aa (ab B5.o hb);have Y6:=aa (ab Y5.o hb);have WI:=aa hwi;have Y56:=aa hb;clear hb;obtain⟨x1,x2,x3,y1,y2,y3,rfl,-,-⟩:=hwi)
  obtain⟨W7,hW7⟩:∃ W,W=w6.alloc (.cells #[.int .i64 LQ.kind,.int .i64 LQ.n,.string ⟨LQ.s.toArray⟩,.slice x1 LQ.keys.length y1,.slice x2 LQ.l.length y2,.slice x3 (au LQ).length y3] 138):=⟨_,rfl⟩
  have Y7:Ll (La w6 W7):=aa (by rw[hW7];exact ae _ _);have X7:Ll (W7.heap[w6.heap.size]?=some (.cells #[.int .i64 LQ.kind,.int .i64 LQ.n,.string ⟨LQ.s.toArray⟩,.slice x1 LQ.keys.length y1,.slice x2 LQ.l.length y2,.slice x3 (au LQ).length y3] 138)):=aa (by rw[hW7];exact MN _ _);have B7:=aa (ab B6.o Y7.o);rw[<-hW7];clear hW7;have CAP:Ll (ri W7 (bQ (Lj ok w) w5.heap.size) (Lj ok w) who LQ t (au LQ) (w.heap.size+1) w6.heap.size w.heap.size x1 x2 x3 b1 b2 y1 y2 y3 d1 d2):=aa ⟨by
   have h9:=bR (ab Y6.o Y7.o) X2.o;simp[World.cell?,h9],X7.o,af (ab Y6.o Y7.o) X1.o,WI.o.bel Y7.o,HT.o.bel B7.o,HM.o.bel B7.o,by have:=AO.o.cT;omega,(fq LQ).1,(fq LQ).2⟩
  have WI7:Ll (dB W7 (fun k=>bQ (Lj ok w) w5.heap.size k/\k < W7.heap.size) LQ (au LQ) (.agg #[.int .i64 LQ.kind,.int .i64 LQ.n,.string ⟨LQ.s.toArray⟩,.slice x1 LQ.keys.length y1,.slice x2 LQ.l.length y2,.slice x3 (au LQ).length y3])):=aa (DL (WI.o.bel Y7.o));have KEPT:=aa (Am W7 (Lj ok w) l _ 96 #[.pointer (some ⟨w.heap.size+1,0,none⟩),.pointer (some ⟨w6.heap.size,0,none⟩),.pointer (some ⟨w.heap.size,0,none⟩)] (fun n p=>n != who&&!aV LQ t (au LQ) p) qT
   (fun W n p hW hnp=>DD W _ _ who LQ t (au LQ) _ _ _ _ _ _ _ _ _ _ _ _ _ n p (CAP.o.bel hW) (by obtain⟨o,ho,-,hx⟩:=kL hnp;exact HP.o o ho _ hx)) (HL.o.bel B7.o) AO.o.rises HN.o (fun o ho x hx=>by have:=HP.o o ho x hx;unfold maxLen;omega))
  rw[show dV (fun n p=>n != who&&!aV LQ t (au LQ) p) l=cG t LQ l who from rfl]at KEPT;go_upto_region 8 with (go_at_call 95;refine KEPT.o.mono ?_;rintro e w8 ⟨oa,oc,rfl,hrow,hb⟩;have Y8:=aa (ab (ab Y6.o Y7.o) hb);have B8:=aa (ab B7.o hb);have ORW:=aa hrow;have B78:=aa hb;clear hb hrow)
  have VB8:=aa (af Y8.o X1.o);have RB8:=aa (af Y8.o X4.o);have XW8:=aa (bR B78.o X7.o);have NC8:Ll (w8.cell? ⟨w.heap.size+1,0,none⟩=some (.string ⟨who.toArray⟩)):=aa (by have h9:=bR Y8.o X2.o;simp[World.cell?,h9]);have OW8:=aa (ORW.o.owns AO.o.named);have WI8:Ll (dB w8 (fun k=>bQ (fun k=>bQ (Lj ok w) w5.heap.size k/\k < W7.heap.size) w8.heap.size k/\k < w8.heap.size) LQ (au LQ) (.agg #[.int .i64 LQ.kind,.int .i64 LQ.n,.string ⟨LQ.s.toArray⟩,.slice x1 LQ.keys.length y1,.slice x2 LQ.l.length y2,.slice x3 (au LQ).length y3])):=aa ((WI7.o.bel B78.o).weak fun k hk=>⟨.inl hk,MI hk.2 B78.o.size⟩);obtain⟨cl,hcl⟩:∃ cl,dj (au LQ) (cG t LQ l who) (cq l who) t=cl:=⟨_,rfl⟩
  have HCL:=aa hcl;obtain⟨res,hres⟩:∃ res,ed LQ (au LQ) cl=res:=⟨_,rfl⟩
  have HRES:=aa hres;have HRF:Ll (gO t LQ l who=res):=aa (by rw[<-hres,<-hcl];rfl);clear hcl hres;go_cut [17] (fun pv wc=>∃ (g7:Nat) (a9 b9:Option Addr) (c9 d9:Nat),pv=.pointer (some ⟨g7,0,none⟩)/\(KY wc g7 res a9 c9 b9 d9/\w8.heap.size<=g7/\La w8 wc/\In wc (bQ (fun k=>bQ (Lj ok w) w5.heap.size k/\k < W7.heap.size) w8.heap.size) res (.agg (KV res a9 c9 b9 d9))))
  case first=>
   refine aD (fun wS=>La w8 wS) [10] (by kernel_rfl) (aC _ 1) (fun LI=>?_);refine WT.out ?_;iterate 6
    first
     | refine OJ 0 ?_ [8,10] LI ?_ ?_
     | refine OJ 1 ?_ [7,8,10] LI ?_ ?_
     | refine OJ 2 ?_ [7,8,10] LI ?_ ?_
     | refine OJ 3 ?_ [5,7,8,10] LI ?_ ?_
     | refine OJ 4 ?_ [5,7,8,10] LI ?_ ?_
     | refine OJ 6 ?_ [7,8,10] LI ?_ ?_
    rotate_left
    ·intro wS LN;obtain⟨u0,u1,u2,u3,u4,-⟩:=(af LN VB8.o).c;obtain⟨e0,e1,e2,e3,e4,e5⟩:=lr (bR LN XW8.o);have nm:=ah LN NC8.o;go_simp;all_goals with_reducible rfl
    simp only[av,List.set]
   repeat' (first
    | exact nl
    |(refine ON 5 (fun K hK=>?_) ?_
      go_simp;refine(xU _ (Lj ok w) l _ who (by exact(HL.o.bel B8.o).bel LI) AO.o.rises (by have:=AO.o.len;omega)).mono ?_;rintro e w5q ⟨pa,pc,rfl,hst,hb5⟩;refine hK.out _ _ (ab LI hb5) (fun LJ=>?_);have HADS:=aa hst;try replace NB:=aa (af hb5 NB.o)
      clear hb5 hst;clear hK K;replace LI:=LJ;clear LJ;try simp only[Act.put,Mt,Mu,Mv])
    |(refine ON 7 (fun K hK=>?_) ?_
      go_simp;refine(yY _ (fun k=>bQ (fun k=>bQ (Lj ok w) w5.heap.size k/\k < W7.heap.size) w8.heap.size k/\k < w8.heap.size) (Lj ok w) (fun k=>W7.heap.size<=k) LQ t (au LQ) (cq l who) (cG t LQ l who) _ _ _ _ (by exact WI8.o.bel LI) (by exact((HT.o.bel B8.o).bel LI).weak fun k hk=>⟨.inl ⟨.inl hk,MI hk.2 B7.o.size⟩,MI hk.2 B8.o.size⟩) (by exact HADS.o) (by exact OW8.o.bel LI) (by exact(HM.o.bel B8.o).bel LI) AO.o.obT AO.o.k5 AO.o.had (fq LQ).1 (fq LQ).2 AO.o.cT).mono ?_;rintro e w7q ⟨rv,rfl,hr5,hb5,ho5,hc5,-⟩;rw[HCL.o]at hr5 ho5 hc5;obtain⟨a6,b6,c6,d6,rfl⟩:=hr5.form;have CLO:=aa ho5;have CLC:=aa hc5;have hS5:=LI.size;refine hK.out _ _ (ab LI hb5) (fun LJ=>?_);first | (have CLI:=aa (Ii NB.o hr5 HG.o hS5)) | (have CLI:=aa (Ea hr5 hS5))
      try replace NB:=aa (af hb5 NB.o)
      clear hb5 hr5 ho5 hc5 hS5;clear hK K;replace LI:=LJ;clear LJ;try simp only[Act.put,Mt,Mu,Mv])
    |(refine ON 8 (fun K hK=>?_) ?_
      go_simp;refine(uz _ _ LQ cl (au LQ) _ _ (by first | exact EC WI8.o LI HG.o | exact Ht WI8.o LI) CLI.o (by exact(HM.o.bel B8.o).bel LI) CLO.o AO.o.obW AO.o.lv AO.o.lvn CLC.o).mono ?_;rintro e w8q ⟨rv,rfl,hr5,hb5⟩;rw[HRES.o]at hr5;obtain⟨a9,b9,c9,d9,rfl⟩:=hr5.form;have hS5:=LI.size;refine hK.out _ _ (ab LI hb5) (fun LJ=>?_);first | (have RI:=aa (E5 NB.o hr5 hS5)) | (have RI:=aa (Bp hr5 hS5))
      try replace NB:=aa (af hb5 NB.o)
      have Ma:Ll True:=aa trivial;clear hb5 hr5 hS5;clear hK K;replace LI:=LJ;clear LJ;try simp only[Act.put,Mt,Mu,Mv])
    |(refine ON 9 (fun K hK=>?_) ?_
      go_simp;refine hK.out _ _ (ab LI (ae _ _)) (fun LJ=>?_);have NB:=aa (GA LI);have HG:=aa LI.size;try replace HADS:=aa (HADS.o.bel (ae _ (.cells Lb 39)))
      first | (have c9:=Ma.o;clear c9;have FINA:=aa (JM LI RI.o)) | (replace CLI:=aa (JU CLI.o (.cells Lb 39))) | skip
      clear hK K;replace LI:=LJ;clear LJ;try simp only[Act.put,Mt,Mu,Mv])
    |(refine OO 10 (fun K hK=>?_)
      try rw[show (World.drew w8).heap.size=w8.heap.size from rfl]at NB
      have n0_:=NB.o.c;first | (have c9:=FINA.o;clear c9) | (have FINB:=aa (Js LI HG.o NB.o RI.o))
      go_simp;refine hK.out _ _ ?_;clear hK K;try simp only[Act.put,Mt,Mu,Mv])
    | refine OL [5,9] ?_
    | refine OL [7,9] ?_
    | refine OL [8,9] ?_
    | refine OL [9] ?_
    | refine OL [8] ?_
    | refine OL [7] ?_
    | refine OL [5] ?_
    | fail)
   all_goals
    refine dn (by kernel_rfl) ?_;go_wp2
    go_meet
    case rel=>first | exact⟨_,_,_,_,_,rfl,FINA.o⟩ | exact⟨_,_,_,_,_,rfl,FINB.o⟩
  case rest=>
   obtain⟨g7,a9,b9,c9,d9,rfl,hcW,hcG,hcB,hcI⟩:=hcut;have BC:=aa (ab B8.o hcB);have YC:=aa (ab Y8.o hcB);have CI:=aa hcI;have CW:=aa hcW;have CB:=aa hcB;have CG:=aa hcG;clear hcW hcG hcB hcI;have S7:Ll (w.heap.size+4<=w5.heap.size/\w5.heap.size<=W7.heap.size/\W7.heap.size<=w8.heap.size):=aa ⟨MH SW.o Y5.o.size,MH Y56.o.size Y7.o.size,B78.o.size⟩;obtain⟨nw,hnw⟩:∃ nw,(bP (cG t LQ l who) ⟨who,au LQ⟩).length=nw:=⟨_,rfl⟩
   have WOW:Ll (Calls prog 101 #[.slice oa (cG t LQ l who).length oc,.agg #[.string ⟨who.toArray⟩,.slice x3 (au LQ).length y3]] wc fun e w'=>∃ a c,e=.returned (.slice a nw c)/\aB w' (fun k=>W7.heap.size<=k\/(fun k=>bQ (Lj ok w) w5.heap.size k/\k < W7.heap.size) k) (bP (cG t LQ l who) ⟨who,au LQ⟩) (.slice a nw c)/\wc.grownBy w' (Value.ownBlock (.slice oa (cG t LQ l who).length oc))):=aa (by
    have hq:=ue wc W7.heap.size (cG t LQ l who) (.slice oa (cG t LQ l who).length oc) ⟨who,au LQ⟩ x3 y3 (fun k=>bQ (Lj ok w) w5.heap.size k/\k < W7.heap.size) (ORW.o.bel CB.o) AO.o.named AO.o.risesO AO.o.lenO (MH B78.o.size CB.o.size) (by unfold maxLen;show who.length<=_;omega) ((Bx WI7.o).bel B78.o |>.bel CB.o) (fun k hk e=>by have h9:=(ORW.o.lt k e.symm).1;have h8:=hk.2;omega);rw[hnw]at hq;exact hq)
   have HNW:=aa hnw;clear hnw;obtain⟨q0,q1,q2,q3,q4,q5⟩:=lr (bR CB.o XW8.o);have u0:=ah CB.o NC8.o;go_upto_region 10 with (go_at_call 101;refine WOW.o.mono ?_;rintro e w9 ⟨wa,wk,rfl,how,hgw⟩;have OW9:=aa how;have GW:=aa hgw;clear how hgw)
   clear q5;have FAR:Ll (∀ g,Value.ownBlock (.slice oa (cG t LQ l who).length oc)=some g->W7.heap.size<=g/\g < w8.heap.size):=aa (fun g hg=>ORW.o.lt g hg);have Y9:Ll (La W3 w9):=aa (Jv YC.o GW.o fun g hg=>by have h9:=(FAR.o g hg).1;have h8:=S7.o;have h7:=Y5.o.size;omega);have B9:=aa (ab BW.o Y9.o);have RB9:Ll (KY w9 g7 res a9 c9 b9 d9):=aa (by
    have h9:=(MF.1 CW.o).1;exact(GW.o.block g7 h9 fun e=>by have h8:=(FAR.o g7 e.symm).2;have h7:=CG.o;omega).trans CW.o)
   have RI9:Ll (In w9 (bQ (fun k=>bQ (Lj ok w) w5.heap.size k/\k < W7.heap.size) w8.heap.size) res (.agg (KV res a9 c9 b9 d9))):=aa (CI.o.grownR GW.o fun k hk e=>by
    have h8:=FAR.o k e.symm;rcases hk with hk | hk
    ·have:=hk.2;omega
    ·omega)
   have OKF:Ll (∀ k,(bQ (fun k=>bQ (Lj ok w) w5.heap.size k/\k < W7.heap.size) w8.heap.size) k->k≠w.heap.size+3):=aa (fun k hk=>by
    have h8:=S7.o;rcases hk with⟨hk | hk,-⟩ | hk
    ·have:=hk.2;omega
    ·omega
    ·omega)
   have OKS:Ll (∀ k,(bQ (fun k=>bQ (Lj ok w) w5.heap.size k/\k < W7.heap.size) w8.heap.size) k->bQ ok w.heap.size k):=aa (fun k hk=>by
    have h8:=S7.o;rcases hk with⟨hk | hk,-⟩ | hk
    ·exact .inl hk.1
    ·exact .inr (by omega)
    ·exact .inr (by omega))
   have OKF2:Ll (∀ k,(W7.heap.size<=k\/(fun k=>bQ (Lj ok w) w5.heap.size k/\k < W7.heap.size) k)->k≠w.heap.size+3):=aa (fun k hk=>by
    have h8:=S7.o;rcases hk with hk | ⟨hk | hk,-⟩
    ·omega
    ·have:=hk.2;omega
    ·omega)
   have OKS2:Ll (∀ k,(W7.heap.size<=k\/(fun k=>bQ (Lj ok w) w5.heap.size k/\k < W7.heap.size) k)->bQ ok w.heap.size k):=aa (fun k hk=>by
    have h8:=S7.o;rcases hk with hk | ⟨hk | hk,-⟩
    ·exact .inr (by omega)
    ·exact .inl hk.1
    ·exact .inr (by omega))
   have GR:Ll (Calls prog 43 #[.agg (KV res a9 c9 b9 d9)] w9 fun e w'=>e=.returned (.bool (aE res))/\La w9 w'):=aa (bG w9 _ res _ RI9.o);obtain⟨q0,q1,q2,q3,q4,-⟩:=RB9.o.c;have HRR:Ll (A=if aE res=true/\nw<=6 then (res,bP (cG t LQ l who) ⟨who,au LQ⟩,[],0) else (t,l,[],2)):=aa (by
    rw[RA.o,HRF.o,HNW.o])
   cases hgv:aE res with
   | false=>
    have R:Ll (A=(t,l,[],2)):=aa (by rw[HRR.o,if_neg (by rw[hgv];simp)]);rw[hgv]at GR;clear hgv;go_upto_region 11 with (go_at_call 43;refine GR.o.mono ?_;rintro e w10 ⟨rfl,hb⟩;have Y10:=aa (ab Y9.o hb);have B10:=aa (ab B9.o hb);clear hb)
    have v0_:=(af Y10.o X1.o).c;have n0_:=(af Y10.o X4.o).c;have ZB:=aa ((af Y10.o X4.o).set (.int .i64 t.kind) (.int .i64 t.n) (.string ⟨t.s.toArray⟩) (.slice b1 t.keys.length d1) (.slice b2 t.l.length d2));have BF:=aa (aP (g:=w.heap.size+3) B10.o (by omega) (.int .i64 t.kind) (.int .i64 t.n) (.string ⟨t.s.toArray⟩) (.slice b1 t.keys.length d1) (.slice b2 t.l.length d2));go_wp2
    have z0_:=ZB.o.c;refine MM (v:=.tuple #[.agg (KV t b1 d1 b2 d2),.slice la l.length lc,.slice none 0 0,.int .i64 2]) ?_ rfl ?_
    ·simp only[ar]at z0_;simp[results,results75,go_sem,z0_]
    ·rw[gT,R.o];exact⟨_,_,_,rfl,(HT.o.belB (fun k h=>h.2) BF.o).weak fun k h=>.inl h.1,(HL.o.belB (fun k h=>h.2) BF.o).weak fun k h=>.inl h.1,World.ownsRow_nil _ _ _ _,BF.o⟩
   | true=>
    rw[hgv]at GR;by_cases h6:nw<=6
    ·have RR:Ll (A=(res,bP (cG t LQ l who) ⟨who,au LQ⟩,[],0)):=aa (by rw[HRR.o,if_pos ⟨hgv,h6⟩]);have q6:¬(6:Int) < (nw:Int):=by omega
     clear hgv h6;go_upto_region 12 with (go_at_call 43;refine GR.o.mono ?_;rintro e w10 ⟨rfl,hb⟩;have Y10:=aa (ab Y9.o hb);have B10:=aa (ab B9.o hb);have RB10:=aa (af hb RB9.o);have RI10:=aa (RI9.o.bel hb);have OW10:=aa (OW9.o.bel hb);clear hb)
     clear q6;have v0_:=RB10.o.c;have n0_:=(af Y10.o X4.o).c;have ZB:=aa ((af Y10.o X4.o).set (.int .i64 res.kind) (.int .i64 res.n) (.string ⟨res.s.toArray⟩) (.slice a9 res.keys.length c9) (.slice b9 res.l.length d9));have BF:=aa (aP (g:=w.heap.size+3) B10.o (by omega) (.int .i64 res.kind) (.int .i64 res.n) (.string ⟨res.s.toArray⟩) (.slice a9 res.keys.length c9) (.slice b9 res.l.length d9));have GF:=aa (LH (aI w10 (w.heap.size+3)) res a9 c9 b9 d9);go_wp2
     have z0_:=ZB.o.c;refine MM (v:=.tuple #[.agg (KV res a9 c9 b9 d9),.slice wa nw wk,.slice none 0 0,.int .i64 0]) ?_ rfl ?_
     ·simp only[ar]at z0_;simp[results,results75,go_sem,z0_]
     ·rw[gT,RR.o];refine⟨_,_,_,rfl,(RI10.o.grownR GF.o fun k hk e=>?_).weak fun k hk=>?_,(OW10.o.grownR GF.o fun k hk e=>?_).weak fun k hk=>?_,World.ownsRow_nil _ _ _ _,BF.o⟩
      ·cases e;exact OKF.o _ hk rfl
      ·exact OKS.o _ hk
      ·cases e;exact OKF2.o _ hk rfl
      ·exact OKS2.o _ hk
    ·have R:Ll (A=(t,l,[],2)):=aa (by rw[HRR.o,if_neg (by intro h;exact h6 h.2)]);have q6:(6:Int) < (nw:Int):=by omega
     clear hgv h6;go_upto_region 11 with (go_at_call 43;refine GR.o.mono ?_;rintro e w10 ⟨rfl,hb⟩;have Y10:=aa (ab Y9.o hb);have B10:=aa (ab B9.o hb);clear hb)
     clear q6;have v0_:=(af Y10.o X1.o).c;have n0_:=(af Y10.o X4.o).c;have ZB:=aa ((af Y10.o X4.o).set (.int .i64 t.kind) (.int .i64 t.n) (.string ⟨t.s.toArray⟩) (.slice b1 t.keys.length d1) (.slice b2 t.l.length d2));have BF:=aa (aP (g:=w.heap.size+3) B10.o (by omega) (.int .i64 t.kind) (.int .i64 t.n) (.string ⟨t.s.toArray⟩) (.slice b1 t.keys.length d1) (.slice b2 t.l.length d2));go_wp2
     have z0_:=ZB.o.c;refine MM (v:=.tuple #[.agg (KV t b1 d1 b2 d2),.slice la l.length lc,.slice none 0 0,.int .i64 2]) ?_ rfl ?_
     ·simp only[ar]at z0_;simp[results,results75,go_sem,z0_]
     ·rw[gT,R.o];exact⟨_,_,_,rfl,(HT.o.belB (fun k h=>h.2) BF.o).weak fun k h=>.inl h.1,(HL.o.belB (fun k h=>h.2) BF.o).weak fun k h=>.inl h.1,World.ownsRow_nil _ _ _ _,BF.o⟩
end
theorem uQ:∀ (ns:List Lz) (v x:V),dr ns v=some x->ns.length+fa x<=fa v
 | [],v,x,h=>by cases h;simp
 | n :: ns,v,x,h=>by
  obtain⟨-,z,hm,hz⟩:=gB h;have h1:=uQ ns z x hz;have h2:=pC (lG hm);have h3:=df v;rw[My];omega
theorem zw{p}(h:oh p=true):p.length<=140737488351232/\aw p≠[]:=by
 simp only[oh,MJ,decide_eq_true_eq,Bool.not_eq_true']at h;refine⟨?_,fun e=>by rw[e]at h;simp at h⟩;have:=(mO (p:=p) (b:=(ax p).1) (by rw[<-h.1])).1;omega
theorem sh{s}(h:bT s=true):s.length<=12:=by
 simp only[bT,MJ,decide_eq_true_eq]at h;exact h.1.2
theorem Ay{LQ l}(who)(h1:t.kind=5)(h2:aE t=true)(h3:LQ.kind=5)(h4:aE LQ=true)(h5:bp l=true):AQ t LQ l who:=by
 obtain⟨g1,g2,g3⟩:=gz h5;obtain⟨k1,k2⟩:=kI (stays:=fun n p=>n != who&&!aV LQ t (au LQ) p) h5;have lo:=mM h3 h4;have c1:=gE (dQ h2);have c2:=gE (dQ h4);refine⟨g3,g1,kg h2,kg h4,h1,by omega,fun p hp=>zw (lB h5 who p hp),fun p hp=>?_,?_,fun o ho=>?_,k2,?_⟩
 ·obtain⟨q1,q2⟩:=zw (lo.good p hp);refine⟨q1,q2,?_⟩;obtain⟨x,hx,-⟩:=AM 12 LQ (aw p) ((fh h4).ho) h3 ((lo.names _).1 (List.mem_map.2 ⟨p,hp,rfl⟩));rw[hx,Option.getD_some];have:=uQ _ _ _ hx;omega
 ·have e:au LQ=ix ((jK 12 LQ).map aU):=if_pos ⟨h3,h4⟩;rw[e,(fU _).length_eq,List.length_map];have q1:=mB 12 LQ;have q2:=df LQ;omega
 ·have:=sh (k1 o ho).1;unfold maxLen;omega
 ·have:=(qB (fun n p=>n != who&&!aV LQ t (au LQ) p) l).length_le;simp only[List.length_map]at this;show (dV _ l).length<=_;omega
theorem Fl(w:LC)(ok t LQ l who force vt vl vw)(ht:In w ok t vt)(hl:aB w ok l vl)(hw:In w ok LQ vw)(hM:bj w)(hN:(bA l).length<=4000000)(hP:∀ o∈l,∀ x∈o.paths,x.length<=140737488351232)(hwho:who.length<=9223372036854775807):Calls prog 75 #[vt,vl,.string ⟨who.toArray⟩,vw,.bool force] w fun e w'=>gT w w' ok (eC t l who LQ force) e:=by
 cases hg1:(decide (t.kind=5)&&aE t) with
 | false=>exact kO w ok t LQ l who force vt vl vw ht hl hw hM hN hP hwho (fun h=>by rw[hg1]at h;simp at h)
 | true=>
  cases hg2:(decide (LQ.kind=5)&&aE LQ) with
  | false=>exact kO w ok t LQ l who force vt vl vw ht hl hw hM hN hP hwho (fun h=>by rw[hg2]at h;simp at h)
  | true=>
   cases hg3:bp l with
   | false=>exact kO w ok t LQ l who force vt vl vw ht hl hw hM hN hP hwho (fun h=>by rw[hg3]at h;simp at h)
   | true=>
    cases hg4:bT who with
    | false=>exact kO w ok t LQ l who force vt vl vw ht hl hw hM hN hP hwho (fun h=>by rw[hg4]at h;simp at h)
    | true=>
     have a1:=Bool.and_eq_true_iff.1 hg1;have a2:=Bool.and_eq_true_iff.1 hg2;have AO:=Ay who (of_decide_eq_true a1.1) a1.2 (of_decide_eq_true a2.1) a2.2 hg3;by_cases hf:eu (aV LQ t (au LQ)) who l=[]
     ·exact uh w ok t LQ l who force vt vl vw ht hl hw hM hN hP hwho hg1 hg2 hg3 hg4 (.inl hf) AO
     ·cases hfo:force with
      | false=>exact xC w ok t LQ l who false vt vl vw ht hl hw hM hN hP hwho hg1 hg2 hg3 hg4 hf rfl
      | true=>exact uh w ok t LQ l who true vt vl vw ht hl hw hM hN hP hwho hg1 hg2 hg3 hg4 (.inr rfl) AO
variable {i:Nat}
def fT (l:List aL):Prop:=∀ o∈l,o.paths.length<=200
theorem sx:∀ (l:List aL),fT l->(bA l).length<=l.length * 200
 | [],_=>by simp[bA]
 | o :: l,h=>by
  have h1:=sx l fun x hx=>h x (by simp[hx]);have h2:=h o (by simp);have e:bA (o :: l)=o.paths.map (fun p=>(o.name,p))++bA l:=by simp[bA]
  rw[e,Mx,List.length_map,My];omega
theorem wM{stays:Lz->Lz->Bool}{l}(h:fT l):fT (dV stays l):=by
 intro o ho;obtain⟨x,hx,rfl,-⟩:=oE ho;exact MH (List.length_filter_le _ _) (h x hx)
theorem Gr{l o}(h:fT l)(ho:o.paths.length<=200):fT (bP l o):=by
 intro x hx;unfold bP at hx;split at hx
 ·exact h x hx
 ·rw[List.mem_append,List.mem_cons]at hx;rcases hx with hx | rfl | hx
  ·exact h x (List.mem_of_mem_take hx)
  ·exact ho
  ·exact h x (List.mem_of_mem_drop hx)
theorem Cs{v l}(h:bp l=true)(hl:fT l):bp (ir v l)=true/\fT (ir v l):=by
 unfold ir;split
 ·obtain⟨k1,k2⟩:=kI (stays:=fun _ p=>(dr (aw p) v).isSome) h;refine⟨?_,wM hl⟩;unfold bp;rw[MJ,MJ,decide_eq_true_eq,List.all_eq_true,gZ];refine⟨⟨?_,fun o ho=>?_⟩,k2⟩
  ·have h6:=(gz h).1;unfold dV;exact MH (List.length_filter_le _ _) (by simpa using h6)
  ·unfold ol;rw[MJ];exact k1 o ho
 ·exact⟨rfl,by intro o ho;cases ho⟩
theorem uT{t}{a:cm}(h:bp t.owners=true)(hl:fT t.owners)(he:(aJ t a).2.2=0):bp (aJ t a).2.1=true/\fT (aJ t a).2.1:=by
 by_cases h1:(cW a.body).2≠0
 ·exfalso;unfold aJ at he;rw[if_pos h1]at he;exact h1 he
 ·by_cases h5:a.kind=5
  ·obtain⟨w,m,c,e,hap⟩:∃ w m c e,eC t.value t.owners a.who (cW a.body).1 a.force=(w,m,c,e):=⟨_,_,_,_,rfl⟩
   have R:aJ t a=(w,m,e):=by unfold aJ;rw[if_neg h1,if_pos h5,hap]
   rw[R]at he ⊢;simp only at he ⊢;subst he;obtain⟨g,-,-⟩:=yZ hap;obtain⟨A,-,hm,-⟩:=ug hap;have O:=Ay a.who A.vk A.vg A.wk A.wg A.lg;exact⟨g,by rw[hm];exact Gr (wM hl) O.lvn⟩
  ·by_cases h2:(bW t.value a.kind (cW a.body).1).2≠0
   ·exfalso;unfold aJ at he;rw[if_neg h1,if_neg h5,if_pos h2]at he;exact h2 he
   ·have R:aJ t a=((bW t.value a.kind (cW a.body).1).1,ir (bW t.value a.kind (cW a.body).1).1 t.owners,0):=by unfold aJ;rw[if_neg h1,if_neg h5,if_neg h2]
    rw[R];exact Cs h hl
theorem lq{v}(h:cI v=0):aE v=true:=by
 unfold cI eY at h;cases hg:aE v with
 | true=>rfl
 | false=>rw[hg]at h;simp at h
structure jA (ver:Int) (t:Th):Prop where
 name:bT t.name=true
 rd:cI t.value=0
 own:bp t.owners=true
 lim:fT t.owners
 gen:0 < t.gen/\t.gen<=t.ver
 ver:t.ver<=ver
structure dP (s:Nu):Prop where
 time:0<=s.time/\s.time<=1099511627776
 ver:0<=s.ver/\s.ver<=s.acts
 acts:s.acts<=300
 len:s.ths.length<=8
 rise:bD (s.ths.map Th.name)
 ths:∀ t∈s.ths,jA s.ver t
theorem AW:dP vm:=⟨by decide,by decide,by decide,by decide,List.Pairwise.nil,by intro t ht;cases ht⟩
theorem jA.more{ver ver' t}(h:jA ver t)(hv:ver<=ver'):jA ver' t:=⟨h.name,h.rd,h.own,h.lim,h.gen,Int.le_trans h.ver hv⟩
theorem jA.sta{ver t}(h:jA ver t)(s):jA ver { t with st:=s }:=⟨h.name,h.rd,h.own,h.lim,h.gen,h.ver⟩
theorem mC{time ver t}{a:cm}(hn:bT t.name=true)(ho:bp t.owners=true)(hl:fT t.owners)(hv:0<=ver)(hg:t.gen=0\/0 < t.gen/\t.gen<=t.ver/\t.ver<=ver)(he:(al time ver t a).2.2=0):(al time ver t a).1.name=t.name/\jA (al time ver t a).2.1 (al time ver t a).1/\ver<=(al time ver t a).2.1/\(al time ver t a).2.1<=ver+1:=by
 by_cases h1:(aJ t a).2.2≠0
 ·exfalso;unfold al at he;rw[if_pos h1]at he;exact h1 he
 ·by_cases h2:cI (aJ t a).1≠0
  ·exfalso;unfold al at he;rw[if_neg h1,if_pos h2]at he;exact h2 he
  ·have R:al time ver t a=((jw time ver t (aJ t a).1 (aJ t a).2.1).1,(jw time ver t (aJ t a).1 (aJ t a).2.1).2,0):=by unfold al;rw[if_neg h1,if_neg h2]
   have h2':cI (aJ t a).1=0:=by simpa using h2
   obtain⟨g1,g2⟩:=uT (a:=a) ho hl (by simpa using h1);rw[R];simp only[jw];by_cases ho:t.gen=0\/(aJ t a).1≠t.value
   ·have ho2:(t.gen=0\/(aJ t a).1≠t.value)\/(aJ t a).2.1≠t.owners:=.inl ho;simp only[if_pos ho,if_pos ho2];exact⟨trivial,⟨hn,h2',g1,g2,by simp only;omega,by simp only;omega⟩,by omega,by omega⟩
   ·by_cases ho3:(aJ t a).2.1≠t.owners
    ·have ho2:(t.gen=0\/(aJ t a).1≠t.value)\/(aJ t a).2.1≠t.owners:=.inr ho3;simp only[if_neg ho,if_pos ho2];exact⟨trivial,⟨hn,h2',g1,g2,by simp only;omega,by simp only;omega⟩,by omega,by omega⟩
    ·have ho2:¬((t.gen=0\/(aJ t a).1≠t.value)\/(aJ t a).2.1≠t.owners):=by rintro (h | h) <;> contradiction
     simp only[if_neg ho,if_neg ho2];exact⟨trivial,⟨hn,h2',g1,g2,by simp only;omega,by simp only;omega⟩,by omega,by omega⟩
theorem sI(l n):ci l n<=l.length:=List.countP_le_length
theorem AZ(l n):dR l n=(l.map Th.name).contains n:=by
 unfold dR;induction l with
 | nil=>rfl
 | cons t l ih=>rw[List.any_cons,List.map_cons,List.contains_cons,ih,Bool.beq_comm]
theorem xQ:∀ (l:List Th) (t:Th),bD (l.map Th.name)->dR l t.name=false->bD ((l.take (ci l t.name)++t :: l.drop (ci l t.name)).map Th.name):=by
 intro l t h hn;have hne:∀ x∈l,x.name≠t.name:=by
  intro x hx e;unfold dR at hn;rw[List.any_eq_false]at hn;exact hn x hx (by simp[e])
 have h2:=qd (l:=l.map fun x=>(⟨x.name,[]⟩:aL)) (o:=⟨t.name,[[]]⟩) (by simpa [Function.comp_def] using h) (by
  intro x hx;obtain⟨y,hy,rfl⟩:=List.mem_map.1 hx;exact hne y hy)
 have e:bB (l.map fun x=>(⟨x.name,[]⟩:aL)) t.name=ci l t.name:=by
  unfold bB ci;rw[List.countP_map];rfl
 unfold bP at h2;simp only[e]at h2;simpa [List.map_take,List.map_drop,Function.comp_def] using h2
theorem AH(n):bp (eT n).owners=true/\fT (eT n).owners:=⟨rfl,by intro o ho;cases ho⟩
theorem lD{len kind}(hl:len<=8)(h:cj len kind false=0):len < 8/\(kind=1\/kind=5):=by
 unfold cj at h;simp only[Bool.false_eq_true,and_false,if_false,and_true]at h;split at h
 ·cases h
 ·rename_i h1;split at h
  ·cases h
  ·rename_i h2;by_cases hb:kind=1\/kind=5
   ·exact⟨by
     have:¬len=8:=fun e=>h1 ⟨hb,e⟩;omega,hb⟩
   ·exact absurd hb h2
theorem vu{s:Nu}{a:cm}(h:dP s)(hs:s.ver+1<=s.acts)(hn:bT a.name=true)(ht:dR s.ths a.name=false)(hl:s.ths.length < 8)(he:(al s.time s.ver (eT a.name) a).2.2=0):dP { s with ths:=s.ths.take (ci s.ths a.name)++(al s.time s.ver (eT a.name) a).1 :: s.ths.drop (ci s.ths a.name),ver:=(al s.time s.ver (eT a.name) a).2.1 }:=by
 obtain⟨g1,g2,g3,g4⟩:=mC (t:=eT a.name) hn (AH _).1 (AH _).2 h.ver.1 (.inl rfl) he;have g1':(al s.time s.ver (eT a.name) a).1.name=a.name:=g1;refine⟨h.time,⟨Int.le_trans h.ver.1 g3,Int.le_trans g4 hs⟩,h.acts,?_,?_,?_⟩
 ·have:=sI s.ths a.name;simp only[Mx,MC,My,MB];omega
 ·have:=xQ s.ths (al s.time s.ver (eT a.name) a).1 h.rise (by rw[g1'];exact ht);rw[g1']at this;exact this
 ·intro t hm;simp only[List.mem_append,List.mem_cons]at hm;rcases hm with hm | rfl | hm
  ·exact(h.ths t (List.mem_of_mem_take hm)).more g3
  ·exact g2
  ·exact(h.ths t (List.mem_of_mem_drop hm)).more g3
theorem xp{s:Nu}{t u ver}(h:dP s)(hi:s.ths[i]?=some t)(hu:u.name=t.name)(hg:jA ver u)(h1:s.ver<=ver)(h2:ver<=s.acts):dP { s with ths:=s.ths.set i u,ver:=ver }:=by
 refine⟨h.time,⟨Int.le_trans h.ver.1 h1,h2⟩,h.acts,by simpa using h.len,?_,fun x hx=>?_⟩
 ·have e:(s.ths.set i u).map Th.name=s.ths.map Th.name:=by
   rw[List.map_set,hu];obtain⟨hl,rfl⟩:=Mz.1 hi;apply List.ext_getElem?;intro k;rw[List.getElem?_set];split
   ·rename_i hk;subst hk;rw[if_pos (by simpa using hl),List.getElem?_map,Mw hl];rfl
   ·rfl
  simp only[e];exact h.rise
 ·rcases List.mem_or_eq_of_mem_set hx with hx | rfl
  ·exact(h.ths x hx).more h1
  ·exact hg
theorem xF{s:Nu}{a:cm}(h:dP s)(hs:s.ver+1<=s.acts)(hn:bT a.name=true):dP (dD s a).1:=by
 unfold dD;simp only;split
 ·exact h
 ·rename_i hb;have hb':cj s.ths.length a.kind (dR s.ths a.name)=0:=by simpa using hb
  split
  ·rename_i t ht;have htm:t∈s.ths:=List.mem_of_getElem? ht;have gt:=h.ths t htm;split
   ·rename_i hth;split
    ·exact h
    ·rename_i he;rw[hth]at hb';exact vu h hs hn hth (lD h.len hb').1 (by simpa using he)
   ·split
    ·refine⟨h.time,h.ver,h.acts,?_,?_,fun x hx=>h.ths x (List.mem_of_mem_eraseIdx hx)⟩
     ·exact MH (List.length_eraseIdx_le _ _) h.len
     ·exact nr ((List.eraseIdx_sublist _ _).map _) h.rise
    ·split
     ·split
      ·exact h
      ·exact xp h ht rfl (gt.sta _) (Int.le_refl _) h.ver.2
     ·split
      ·exact h
      ·split
       ·exact h
       ·split
        ·exact h
        ·rename_i he;obtain⟨g1,g2,g3,g4⟩:=mC (time:=s.time) (a:=a) gt.name gt.own gt.lim h.ver.1 (.inr ⟨gt.gen.1,gt.gen.2,gt.ver⟩) (by simpa using he);exact xp h ht g1 g2 g3 (Int.le_trans g4 hs)
  ·rename_i ht;have hle:s.ths.length<=ci s.ths a.name:=by simpa using ht
   split
   ·exact h
   ·rename_i he;have hth:dR s.ths a.name=false:=by
     rw[Bool.eq_false_iff];intro h9;unfold dR at h9;rw[List.any_eq_true]at h9;obtain⟨x,hx,e⟩:=h9;have h8:ci s.ths a.name < s.ths.length:=by
      unfold ci;have h7:=List.countP_le_length (p:=fun t:Th=>Op.bytesLess t.name a.name) (l:=s.ths);rcases Nat.lt_or_ge (s.ths.countP fun t:Th=>Op.bytesLess t.name a.name) s.ths.length with h6 | h6
      ·exact h6
      ·have h5:=List.countP_eq_length.1 (Nat.le_antisymm h7 h6) x hx;rw[show x.name=a.name by simpa using e,cd]at h5;cases h5
     omega
    rw[hth]at hb';have g:=vu h hs hn hth (lD h.len hb').1 (by simpa using he);rw[MD hle,List.drop_eq_nil_of_le hle]at g;exact g
theorem Ib{s:Nu}{a:cm}(h:dP s):dP (je s a).1:=by
 unfold je;split
 ·exact h
 ·rename_i h3;have hs:dP { s with acts:=s.acts+1 }:=⟨h.time,⟨h.ver.1,by have:=h.ver.2;simp only;omega⟩,by have:=h.acts;simp only;omega,h.len,h.rise,h.ths⟩
  simp only;split
  ·exact hs
  ·split
   ·unfold iz;split
    ·exact hs
    ·rename_i hn;refine⟨?_,hs.ver,hs.acts,by simpa using h.len,?_,fun x hx=>?_⟩
     ·have:=h.time;simp only at hn ⊢;omega
     ·simp only[List.map_map];exact h.rise
     ·obtain⟨y,hy,rfl⟩:=List.mem_map.1 hx;exact(h.ths y hy).sta _
   ·split
    ·exact hs
    ·rename_i hn;exact xF hs (by have:=h.ver.2;simp only;omega) (by simpa using hn)
theorem Ge(W:LC)(ok t)(g:Nat)(a1 b1)(c1 d1:Nat)(n p:Lz)(hb:KY W g t a1 c1 b1 d1)(ht:In W ok t (.agg (KV t a1 c1 b1 d1)))(hp:p.length<=140737488351232)(hM:bj W):Calls prog 105 #[.string ⟨n.toArray⟩,.string ⟨p.toArray⟩,.pointer (some ⟨g,0,none⟩)] W fun e w'=>e=.returned (.bool (dr (aw p) t).isSome)/\La W w':=by
 have ST:Ll (Calls prog 106 #[.agg (KV t a1 c1 b1 d1),.string ⟨p.toArray⟩] W fun e w'=>∃ r,e=.returned (.tuple #[r,.bool (dr (aw p) t).isSome])/\La W w'/\In w' ok ((dr (aw p) t).getD aM) r):=gD W ok t _ p ht hp hM;have v0_:=hb.c;generalize (dr (aw p) t).isSome=o at ST ⊢;generalize (dr (aw p) t).getD aM=z at ST;clear hb ht hp hM;go_enter func105,ntmps105;go_wp2_with (go_at_call 106;refine ST.o.mono ?_;rintro e w1 ⟨r,rfl,hb,hr⟩;obtain⟨a2,b2,c2,d2,rfl⟩:=hr.form;have B1:=aa hb;clear hb hr)
 go_ret;exact⟨rfl,ab B1.o (ae _ _)⟩
theorem sT:∀ args w,(callFunc 105 args).run prog w=.ok (.enter 105 args) w:=enters_of func105 (by kernel_rfl) rfl
theorem Hz(w:LC)(ok t l vt vl)(ht:In w ok t vt)(hl:aB w ok l vl)(hM:bj w)(hN:(bA l).length<=4000000)(hP:∀ o∈l,∀ x∈o.paths,x.length<=140737488351232):Calls prog 77 #[vt,vl] w fun e w'=>∃ a c,e=.returned (.slice a (ir t l).length c)/\aB w' (fun k=>w.heap.size<=k) (ir t l) (.slice a (ir t l).length c)/\La w w':=by
 have HT:=aa ht;have HL:=aa hl;have HM:=aa hM;have HP:=aa hP;have HN:=aa hN;obtain⟨a1,b1,c1,d1,rfl⟩:=ht.form;obtain⟨la,lc,rfl⟩:=hl.form;obtain⟨W1,hW1⟩:∃ W,W=w.alloc (.cells (KV t a1 c1 b1 d1) 39):=⟨_,rfl⟩
 have Y1:Ll (La w W1):=aa (by rw[hW1];exact ae _ _);have VB:Ll (KY W1 w.heap.size t a1 c1 b1 d1):=aa (by rw[hW1];exact MN _ _);have HW1:=aa hW1;have JG:Ll (∀ W,La w W->Calls prog 43 #[.agg (KV t a1 c1 b1 d1)] W fun e w'=>e=.returned (.bool (aE t))/\La W w'):=fun W hW=>bG W _ t _ (HT.o.bel hW);have OG:Ll (∀ W,La w W->Calls prog 92 #[.slice la l.length lc] W fun e w'=>e=.returned (.bool (bp l))/\La W w'):=fun W hW=>eZ W _ l _ (HL.o.bel hW) HP.o (HM.o.bel hW);clear ht hl hM hN hP hW1;have v0_:=VB.o.c;go_enter func77,ntmps77;go_upto_region 1 with fail
 rw[<-HW1.o];cases hg:aE t with
 | false=>
  have R:Ll (ir t l=[]):=if_neg (by rw[hg];simp);rw[hg]at JG;clear hg;go_wp2_with (go_at_call 43;refine Lk (JG.o _ Y1.o) fun w2 hb=>?_;have B2:=aa hb;clear hb)
  go_ret;exact⟨none,0,by rw[R.o];rfl,by rw[R.o];exact aB.nil _ _,ab Y1.o B2.o⟩
 | true=>
 rw[hg]at JG;cases hq:bp l with
 | false=>
  have R:Ll (ir t l=[]):=if_neg (by rw[hq];simp);rw[hq]at OG;clear hg hq;go_wp2_with (first
   |(go_at_call 92;refine Lk (OG.o _ (ab Y1.o B2.o)) fun w3 hb=>?_;have B3:=aa hb;clear hb)
   |(go_at_call 43;refine Lk (JG.o _ Y1.o) fun w2 hb=>?_;have B2:=aa hb;clear hb))
  go_ret;exact⟨none,0,by rw[R.o];rfl,by rw[R.o];exact aB.nil _ _,ab (ab Y1.o B2.o) B3.o⟩
 | true=>
 rw[hq]at OG;have R:Ll (ir t l=dV (fun _ p=>(dr (aw p) t).isSome) l):=if_pos ⟨hg,hq⟩;obtain⟨g1,g2,g3⟩:=gz hq;have GR:=aa g3;have GN:=aa (kI (stays:=fun _ p=>(dr (aw p) t).isSome) hq).1;clear hg hq g1 g2 g3;go_upto_region 3 with (first
  |(go_at_call 92;refine Lk (OG.o _ (ab Y1.o B2.o)) fun w3 hb=>?_;have B3:=aa hb;clear hb)
  |(go_at_call 43;refine Lk (JG.o _ Y1.o) fun w2 hb=>?_;have B2:=aa hb;clear hb))
 have Y3:=aa (ab (ab Y1.o B2.o) B3.o);have KP:=Am w3 ok l _ 105 #[.pointer (some ⟨w.heap.size,0,none⟩)] (fun _ p=>(dr (aw p) t).isSome) sT
  (fun W n p hW hnp=>Ge W ok t w.heap.size a1 b1 c1 d1 n p (af (ab (ab B2.o B3.o) hW) VB.o) (HT.o.bel (ab Y3.o hW)) (by obtain⟨o,ho,-,hx⟩:=kL hnp;exact HP.o o ho _ hx) (HM.o.bel (ab Y3.o hW)))
  (HL.o.bel Y3.o) GR.o HN.o (fun o ho x hx=>by have:=HP.o o ho x hx;unfold maxLen;omega)
 rw[<-R.o]at KP;have KPT:=aa KP;rw[<-R.o]at GN;clear KP R;go_wp2_with (go_at_call 95;refine KPT.o.mono ?_;rintro e w4 ⟨oa,oc,rfl,hrow,hb⟩;have B4:=aa hb;have ORW:=aa hrow;clear hb hrow)
 go_ret;exact⟨oa,oc,rfl,(ORW.o.owns (fun o ho=>by have:=sh (GN.o o ho).1;unfold maxLen;omega)).weak fun k hk=>MH Y3.o.size hk,ab Y3.o B4.o⟩
theorem Kj:vE:=fun w ok ok' a b va vb ha hb hn=>(lP w ok ok' a b va vb ha hb (by have:=gE hn;omega)).mono fun _ _ h=>h
theorem xN{C z}(h:In W (fun k=>ok k/\k < B) z v):In W (bg ok B C) z v:=h.weak fun k hk=>.inl hk
theorem zc(w:LC)(ok v b kind vv bv)(hv:In w ok v vv)(hb:In w ok b bv)(hM:bj w)(hW:di w):Calls prog 76 #[vv,.int .i64 kind,bv] w fun e w'=>∃ r,e=.returned (.tuple #[r,.int .i64 (bW v kind b).2])/\In w' (bQ ok w.heap.size) (bW v kind b).1 r/\La w w':=by
 obtain⟨a1,b1,c1,d1,rfl⟩:=hv.form;obtain⟨a2,b2,c2,d2,rfl⟩:=hb.form;have HV:=aa hv.low;have HB:=aa hb.low;have HM:=aa hM;have HW:=aa hW;obtain⟨W3,hW3⟩:∃ W,W=((w.alloc (.cells (KV v a1 c1 b1 d1) 39)).alloc (.cells (KV b a2 c2 b2 d2) 39)).alloc (.cells Lb 39):=⟨_,rfl⟩
 have Y3:Ll (La w W3):=aa (by rw[hW3];exact ab (ab (ae _ _) (ae _ _)) (ae _ _));have X1:Ll (KY W3 w.heap.size v a1 c1 b1 d1):=aa (by rw[hW3];exact lI _ _ _ _);have X2:Ll (KY W3 (w.heap.size+1) b a2 c2 b2 d2):=aa (by rw[hW3];exact mE _ _ _ _);have X3:Ll (Lc W3 (w.heap.size+2)):=aa (by rw[hW3];exact jI _ _ _ _);have HW3:=aa hW3;clear hv hb hM hW hW3;have o0_:=X1.o.c;have p0_:=X2.o.c;go_enter func76,ntmps76;go_upto_region 1 with fail
 rw[<-HW3.o];by_cases h3:kind=3
 ·have e3:(kind == 3)=true:=by simp[h3]
  have H3:=aa h3;clear h3;have CC:=Fn W3 (Lj ok w) v b _ _ (HV.o.bel Y3.o) (HB.o.bel Y3.o);obtain⟨y,ye,hy⟩:∃ y ye,ge v b=(y,ye):=⟨_,_,rfl⟩
  rw[hy]at CC;have CALL:=aa CC;have HY:=aa hy;clear CC hy;go_wp2_with (go_at_call 102;refine CALL.o.mono ?_;rintro e w4 ⟨r,rfl,hb,hr⟩;obtain⟨a3,b3,c3,d3,rfl⟩:=hr.form;have B4:=aa hb;have R4:=aa hr;clear hb hr;have n0_:=(af B4.o X3.o).c;have Z:=aa (cY (w:=w) (ok:=ok) (C:=w.heap.size+3) (g:=w.heap.size+2) (R4.o.weak fun k hk=>by rcases hk with hk | hk;exact .inl hk;exact .inr (by have:=X3.o.lt;omega)) (ab Y3.o B4.o) (by omega) (by omega));have ZB:=aa ((af B4.o X3.o).set (.int .i64 y.kind) (.int .i64 y.n) (.string ⟨y.s.toArray⟩) (.slice a3 y.keys.length c3) (.slice b3 y.l.length d3));have HA:Ll (bW v kind b=(y,ye)):=aa (by unfold bW;rw[if_pos H3.o];exact HY.o))
  have z0_:=ZB.o.c;refine MM (v:=.tuple #[.agg (KV y a3 c3 b3 d3),.int .i64 ye]) ?_ rfl ?_
  ·simp only[ar]at z0_;simp[results,results76,go_sem,z0_]
  ·rw[HA.o];exact⟨_,rfl,Z.o.2,Z.o.1⟩
 ·have e3:(kind == 3)=false:=by rw[MO];exact h3
  have H3:=aa h3;clear h3;by_cases h4:kind=4
  ·have e4:(kind == 4)=true:=by simp[h4]
   have H4:=aa h4;clear h4;obtain⟨ops,oe,hops⟩:∃ ops oe,cU b=(ops,oe):=⟨_,_,rfl⟩
   have RR:=Gu W3 (Lj ok w) b _ (HB.o.bel Y3.o) (HW.o.bel Y3.o);rw[hops]at RR;have HOPS:=aa hops;have READ:Ll (Calls prog 103 #[.agg (KV b a2 c2 b2 d2)] W3 fun e w'=>∃ oa oc,e=.returned (.tuple #[.slice oa ops.length oc,.int .i64 oe])/\eX w' (bQ (Lj ok w) W3.heap.size) ops (.slice oa ops.length oc)/\La W3 w'):=RR.mono fun e w' h=>by
    obtain⟨sl,rfl,h1,h2⟩:=h;obtain⟨oa,oc,rfl⟩:∃ oa oc,sl=.slice oa ops.length oc:=by
     rcases h1.2 with⟨rfl,a,rfl⟩ | ⟨b9,off,c9,rfl,-⟩
     ·exact⟨_,_,rfl⟩
     ·exact⟨_,_,rfl⟩
    exact⟨oa,oc,rfl,h1,h2⟩
   clear RR hops;go_upto_region 6 with (go_at_call 103;refine READ.o.mono ?_;rintro e w5 ⟨oa,oc,rfl,h1,hb⟩;have B5:=aa hb;have O5:=aa h1;clear h1 hb)
   have o0_:=(af B5.o X1.o).c;by_cases he:oe=0
   ·subst he;have CC:=JF Ce w5 (bQ (Lj ok w) W3.heap.size) v ops _ _ (((HV.o.bel Y3.o).bel B5.o).weak fun k hk=>.inl hk) O5.o (HM.o.bel (ab Y3.o B5.o)) (fun _=>Er Kj _ _);obtain⟨y,ye,hy⟩:∃ y ye,qU Ce ops v=(y,ye):=⟨_,_,rfl⟩
    rw[hy]at CC;have CALL:=aa CC;have HY:=aa hy;clear CC hy;go_wp2_with (go_at_call 104;refine CALL.o.mono ?_;rintro e w4 ⟨r,rfl,hb,hr⟩;obtain⟨a3,b3,c3,d3,rfl⟩:=hr.form;have B4:=aa hb;have R4:=aa hr;clear hb hr;have n0_:=(af (ab B5.o B4.o) X3.o).c;have Z:=aa (cY (w:=w) (ok:=ok) (C:=w.heap.size+3) (g:=w.heap.size+2) (R4.o.weak fun k hk=>by rcases hk with (hk | hk) | hk;exact .inl hk;exact .inr (by have:=X3.o.lt;omega);exact .inr (by have:=X3.o.lt;have:=B5.o.size;omega)) (ab (ab Y3.o B5.o) B4.o) (by omega) (by omega));have ZB:=aa ((af (ab B5.o B4.o) X3.o).set (.int .i64 y.kind) (.int .i64 y.n) (.string ⟨y.s.toArray⟩) (.slice a3 y.keys.length c3) (.slice b3 y.l.length d3));have HA:Ll (bW v kind b=(y,ye)):=aa (by unfold bW;rw[if_neg H3.o,if_pos H4.o,HOPS.o,if_neg (by simp)];exact HY.o))
    have z0_:=ZB.o.c;refine MM (v:=.tuple #[.agg (KV y a3 c3 b3 d3),.int .i64 ye]) ?_ rfl ?_
    ·simp only[ar]at z0_;simp[results,results76,go_sem,z0_]
    ·rw[HA.o];exact⟨_,rfl,Z.o.2,Z.o.1⟩
   ·have e0:(oe != 0)=true:=by simpa using he
    have e1:(oe == 0)=false:=by rw[MO];exact he
    have HE:=aa he;clear he;have n0_:=(af B5.o X3.o).c;have Z:=aa (cY (w:=w) (ok:=ok) (C:=w.heap.size+3) (g:=w.heap.size+2) (xN ((HV.o.bel Y3.o).bel B5.o)) (ab Y3.o B5.o) (by omega) (by omega));have ZB:=aa ((af B5.o X3.o).set (.int .i64 v.kind) (.int .i64 v.n) (.string ⟨v.s.toArray⟩) (.slice a1 v.keys.length c1) (.slice b1 v.l.length d1));have HA:Ll (bW v kind b=(v,oe)):=aa (by unfold bW;rw[if_neg H3.o,if_pos H4.o,HOPS.o,if_pos HE.o]);go_wp2
    have z0_:=ZB.o.c;refine MM (v:=.tuple #[.agg (KV v a1 c1 b1 d1),.int .i64 oe]) ?_ rfl ?_
    ·simp only[ar]at z0_;simp[results,results76,go_sem,z0_]
    ·rw[HA.o];exact⟨_,rfl,Z.o.2,Z.o.1⟩
  ·have e4:(kind == 4)=false:=by rw[MO];exact h4
   have H4:=aa h4;clear h4;have n0_:=(af (MK _ _) X3.o).c;have Z:=aa (cY (w:=w) (ok:=ok) (C:=w.heap.size+3) (g:=w.heap.size+2) (xN (HB.o.bel Y3.o)) (Y3.o) (by omega) (by omega));have ZB:=aa ((af (MK _ _) X3.o).set (.int .i64 b.kind) (.int .i64 b.n) (.string ⟨b.s.toArray⟩) (.slice a2 b.keys.length c2) (.slice b2 b.l.length d2));have HA:Ll (bW v kind b=(b,0)):=aa (by unfold bW;rw[if_neg H3.o,if_neg H4.o]);go_wp2
   have z0_:=ZB.o.c;refine MM (v:=.tuple #[.agg (KV b a2 c2 b2 d2),.int .i64 0]) ?_ rfl ?_
   ·simp only[ar]at z0_;simp[results,results76,go_sem,z0_]
   ·rw[HA.o];exact⟨_,rfl,Z.o.2,Z.o.1⟩
end Go.Proofs.YtgolnaencepejaaGreatDoor
namespace Go.Proofs.YtgolnaencepejaaGreatDoor
open Go.RowKit
open _root_.Go.Proofs.Tryz
variable {w w':World}
variable {v:Value}
variable {g S:Nat}
section
def eF (w:LC) (S:Nat) (v:Value) (time ver acts:Int):Prop:=w.heap[S]?=some (.cells #[v,.int .i64 time,.int .i64 ver,.int .i64 acts] 51)
theorem eF.c{time ver acts}(h:eF w S v time ver acts):w.cell? ⟨S,0,none⟩=some v/\w.cell? ⟨S,1,none⟩=some (.int .i64 time)/\w.cell? ⟨S,2,none⟩=some (.int .i64 ver)/\w.cell? ⟨S,3,none⟩=some (.int .i64 acts):=by
 unfold eF at h;refine⟨?_,?_,?_,?_⟩ <;> simp[World.cell?,h]
theorem eF.f{time ver acts}(h:eF w S v time ver acts):w.frozen? ⟨S,0,none⟩=false/\w.frozen? ⟨S,1,none⟩=false/\w.frozen? ⟨S,2,none⟩=false/\w.frozen? ⟨S,3,none⟩=false:=by
 unfold eF at h;refine⟨?_,?_,?_,?_⟩ <;> simp[World.frozen?,h]
theorem eF.bel{time ver acts}(h:eF w S v time ver acts)(hb:La w w'):eF w' S v time ver acts:=(hb.block S (MF.1 h).1).trans h
theorem eF.lt{time ver acts}(h:eF w S v time ver acts):S < w.heap.size:=(MF.1 h).1
theorem fM.c2{i}(h:fM w g i v):w.cell? ⟨g,0,none⟩=some (.string ⟨i.toArray⟩)/\w.cell? ⟨g,1,none⟩=some v/\True:=⟨h.c.1,h.c.2,trivial⟩
theorem mH{l}(h:bk w l v):∃ a c,v=.slice a l.length c:=by
 rcases h.2 with⟨rfl,a,rfl⟩ | ⟨b,off,c,rfl,-⟩
 ·exact⟨_,_,rfl⟩
 ·exact⟨_,_,rfl⟩
theorem nz(t):(bE t).1.length<=9223372036854775807:=by
 unfold bE;cases h:eY t with
 | none=>simp
 | some x=>
  unfold eY at h;split at h
  ·cases h
  ·rename_i hg;have hg2:aE t=true:=by simpa using hg
   split at h
   ·cases h
   ·rename_i m hm;split at h
    ·cases h
    ·rename_i hk;have hk3:m.kind=3:=by
      apply Classical.byContradiction;intro h9;exact hk (.inl h9)
     have hn:=fp (gC (dQ hg2) (lG hm));unfold ce at hn;rw[hk3]at hn;simp[eK]at hn;have hs:x.1=m.s:=by
      split at h
      ·cases h;rfl
      ·split at h
       ·cases h
       ·cases h;rfl
     rw[Option.getD_some,hs];omega
theorem dh(w e):Calls prog 12 #[.int .i64 e] w fun r w'=>r=.returned (.agg #[.int .i64 e,.int .i64 0,.string ⟨#[]⟩])/\La w w':=by
 go_enter func12,ntmps12;go_wp2
 refine MM (v:=.agg #[.int .i64 e,.int .i64 0,.string ⟨#[]⟩]) ?_ rfl ?_
 ·simp[results,results12,go_sem]
 ·exact⟨rfl,ae _ _⟩
theorem DA(w S len c a time ver acts kind there)(h:eF w S (.slice a len c) time ver acts)(hl:len<=9223372036854775807):Calls prog 20 #[.pointer (some ⟨S,0,none⟩),.int .i64 kind,.bool there] w fun e w'=>e=.returned (.int .i64 (cj len kind there))/\w'=w:=by
 obtain⟨s0,-⟩:=h.c;clear h;by_cases k1:kind=1
 ·have e1:(kind == 1)=true:=by simp[k1]
  cases there
  ·by_cases h8:len=8
   ·have R:Ll (cj len kind false=10):=aa (by simp[cj,k1,h8]);have e8:((len:Int) == 8)=true:=by simp[h8]
    clear k1 h8;go_enter func20,ntmps20;go_wp2
    go_ret;exact⟨by rw[R.o];first | done | rfl | simp,rfl⟩
   ·have R:Ll (cj len kind false=0):=aa (by simp[cj,k1,h8]);have e8:((len:Int) == 8)=false:=by rw[MO];omega
    clear k1 h8;go_enter func20,ntmps20;go_wp2
    go_ret;exact⟨by rw[R.o];first | done | rfl | simp,rfl⟩
  ·have R:Ll (cj len kind true=6):=aa (by simp[cj,k1]);clear k1;go_enter func20,ntmps20;go_wp2
   go_ret;exact⟨by rw[R.o];first | done | rfl | simp,rfl⟩
 ·have e1:(kind == 1)=false:=by rw[MO];exact k1
  by_cases k5:kind=5
  ·have e5:(kind == 5)=true:=by simp[k5]
   cases there
   ·by_cases h8:len=8
    ·have R:Ll (cj len kind false=10):=aa (by simp[cj,k5,h8]);have e8:((len:Int) == 8)=true:=by simp[h8]
     clear k1 k5 h8;go_enter func20,ntmps20;go_wp2
     go_ret;exact⟨by rw[R.o];first | done | rfl | simp,rfl⟩
    ·have R:Ll (cj len kind false=0):=aa (by simp[cj,k5,h8]);have e8:((len:Int) == 8)=false:=by rw[MO];omega
     clear k1 k5 h8;go_enter func20,ntmps20;go_wp2
     go_ret;exact⟨by rw[R.o];first | done | rfl | simp,rfl⟩
   ·have R:Ll (cj len kind true=0):=aa (by simp[cj,k5]);clear k1 k5;go_enter func20,ntmps20;go_wp2
    go_ret;exact⟨by rw[R.o];first | done | rfl | simp,rfl⟩
  ·have e5:(kind == 5)=false:=by rw[MO];exact k5
   cases there
   ·have R:Ll (cj len kind false=3):=aa (by simp[cj,k1,k5]);clear k1 k5;go_enter func20,ntmps20;go_wp2
    go_ret;exact⟨by rw[R.o];first | done | rfl | simp,rfl⟩
   ·have R:Ll (cj len kind true=0):=aa (by simp[cj,k1,k5]);clear k1 k5;go_enter func20,ntmps20;go_wp2
    go_ret;exact⟨by rw[R.o];first | done | rfl | simp,rfl⟩
attribute [local go_sem ↓] Go.wp_at_zero Go.wp_at_succ
theorem uN(w:LC)(ok S v time ver acts order t a b c d oa oc)(hs:eF w S v time ver acts)(ht:cQ w ok t a b c d oa oc):Calls prog 18 #[.pointer (some ⟨S,0,none⟩),.agg (Ld t a c b d oa oc),.int .i64 order] w fun e w'=>e=.returned (.tuple #[.agg #[.string ⟨(dA time t order).1.a.toArray⟩,.string ⟨(dA time t order).1.c.toArray⟩,.int .i64 (dA time t order).1.ph,.int .i64 (dA time t order).1.st,.int .i64 (dA time t order).1.we,.int .i64 (dA time t order).1.si],.int .i64 (dA time t order).2])/\La w w':=by
 obtain⟨r,re,hr⟩:∃ r re,dA time t order=(r,re):=⟨_,_,rfl⟩
 rw[hr];obtain⟨W2,hW2⟩:∃ W,W=(w.alloc (.cells (Ld t a c b d oa oc) 44)).alloc (.cells #[.string ⟨#[]⟩,.string ⟨#[]⟩,.int .i64 0,.int .i64 0,.int .i64 0,.int .i64 0] 42):=⟨_,rfl⟩
 have Y2:Ll (La w W2):=aa (by rw[hW2];exact ab (ae _ _) (ae _ _));have TB2:Ll (fN W2 w.heap.size t a b c d oa oc):=aa (by rw[hW2];exact fb _ _ _);have ZB2:Ll (de W2 (w.heap.size+1) ⟨[],[],0,0,0,0⟩):=aa (by rw[hW2];exact et _ _ _);have HW2:=aa hW2;have SB2:=aa (hs.bel Y2.o);have RD:=Hx W2 ok t.value _ (ht.val.bel Y2.o);obtain⟨sp,hsp⟩:∃ sp,bE t.value=sp:=⟨_,rfl⟩
 obtain⟨se,hse⟩:∃ se,cI t.value=se:=⟨_,rfl⟩
 have LSP:Ll (sp.1.length<=9223372036854775807):=aa (by rw[<-hsp];exact nz _);rw[hsp,hse]at RD;obtain⟨im,sps⟩:=sp;have READ:=aa RD;have HNX:Ll (ij im sps t.st time order=(r,re)):=aa (by rw[<-hr];unfold dA;rw[hsp]);clear hW2 RD hr hs ht hsp hse;have t0_:=TB2.o.c;go_enter func18,ntmps18;go_upto_region 1 with fail
 rw[<-HW2.o];go_upto_region 2 with (go_at_call 31;refine READ.o.mono ?_;rintro e w3 ⟨sl,rfl,h1,hb⟩;obtain⟨sa,sc,rfl⟩:=mH h1;have B3:=aa hb;have SP3:=aa h1;clear h1 hb)
 obtain⟨W3,hW3⟩:∃ W,W=w3.alloc (.cells #[.string ⟨im.toArray⟩,.slice sa sps.length sc] 73):=⟨_,rfl⟩
 have A3:Ll (La w3 W3):=aa (by rw[hW3];exact ae _ _);have PB:Ll (fM W3 w3.heap.size im (.slice sa sps.length sc)):=aa (by rw[hW3];exact MN _ _);rw[<-hW3];clear hW3;have B23:=aa (ab B3.o A3.o);have Y3:=aa (ab Y2.o B23.o);have TB:=aa (TB2.o.bel B23.o);have ZB:=aa (ZB2.o.bel B23.o);have SB:=aa (SB2.o.bel B23.o);have NX:Ll (∀ W,La W3 W->Calls prog 32 #[.agg #[.string ⟨im.toArray⟩,.slice sa sps.length sc],.agg (Li t.st),.int .i64 time,.int .i64 order] W fun e w'=>e=.returned (.tuple #[.agg (Li r),.int .i64 re])/\La W w'):=fun W hW=>by
  have:=AK W im sps (.slice sa sps.length sc) t.st time order ((SP3.o.bel A3.o).bel hW) LSP.o;rw[HNX.o]at this;exact this
 clear HNX READ SP3;refine aD (fun wS=>La W3 wS) [11] (by kernel_rfl) (aC _ 1) (fun LI=>?_);refine WT.out ?_;iterate 8
  first
   | refine OJ 0 ?_ [8,9,10,11,12] LI ?_ ?_
   | refine OJ 1 ?_ [2,8,9,10,11,12] LI ?_ ?_
   | refine OJ 2 ?_ [8,9,10,11,12] LI ?_ ?_
   | refine OJ 3 ?_ [4,5,6,8,9,10,11,12] LI ?_ ?_
   | refine OJ 4 ?_ [5,6,8,9,10,11,12] LI ?_ ?_
   | refine OJ 5 ?_ [6,8,9,10,11,12] LI ?_ ?_
   | refine OJ 6 ?_ [8,9,10,11,12] LI ?_ ?_
   | refine OJ 7 ?_ [8,9,10,11,12] LI ?_ ?_
  rotate_left
  ·intro wS LN;obtain⟨u0,u1,-⟩:=(PB.o.bel LN).c2;have t0_:=(TB.o.bel LN).c;have s0_:=(SB.o.bel LN).c;go_simp;all_goals with_reducible rfl
  simp only[av,List.set]
 repeat' (first
  | exact nl
  |(refine ON 8 (fun K hK=>?_) ?_
    go_simp;refine Lk (NX.o _ LI) fun w8q hb5=>?_;refine hK.out _ _ (ab LI hb5) (fun LJ=>?_);have B5:=aa LJ;clear hb5;clear hK K;replace LI:=LJ;clear LJ;try simp only[Act.put,Mt,Mu,Mv])
  |(refine OO 11 (fun K hK=>?_)
    have n0_:=(ZB.o.bel LI).c;have Z9:=aa ((ZB.o.bel LI).set r);have BZ:=aa (bX (ab Y3.o LI) (show w.heap.size<=w.heap.size+1 by omega) r);go_simp;refine hK.out _ _ ?_;clear hK K;try simp only[Act.put,Mt,Mu,Mv])
  |(refine OO 12 (fun K hK=>?_)
    go_simp;refine hK.out _ _ ?_;clear hK K;try simp only[Act.put,Mt,Mu,Mv])
  |(first
     | refine OJ 9 ?_ [11,12] (by exact LI) ?_ ?_
     | refine OJ 10 ?_ [11,12] (by exact LI) ?_ ?_
    rotate_left
    ·intro wS LN;go_simp;all_goals with_reducible rfl
    simp only[av,List.set])
  | refine OL [8] ?_
  | fail)
 all_goals
  refine dn (by kernel_rfl) ?_;have z0_:=Z9.o.c;go_wp2
  refine MM (v:=.tuple #[.agg (Li r),.int .i64 re]) ?_ rfl ?_
  ·revert z0_;simp only[fR];intro z0_;simp[results,results18,go_sem,z0_]
  ·exact⟨rfl,BZ.o⟩
end
variable {W:World}
variable {ok:Nat->Prop}
variable {t:V}
variable {B d:Nat}
section
def jC (w:LC) (g:Nat) (q:cm):Prop:=w.heap[g]?=some (.cells (Lf q) 29)
theorem jC.c{q:cm}(h:jC w g q):w.cell? ⟨g,0,none⟩=some (.int .i64 q.kind)/\w.cell? ⟨g,1,none⟩=some (.string ⟨q.name.toArray⟩)/\w.cell? ⟨g,2,none⟩=some (.string ⟨q.who.toArray⟩)/\w.cell? ⟨g,3,none⟩=some (.string ⟨q.body.toArray⟩)/\w.cell? ⟨g,4,none⟩=some (.int .i64 q.version)/\w.cell? ⟨g,5,none⟩=some (.int .i64 q.n)/\w.cell? ⟨g,6,none⟩=some (.int .i64 q.order)/\w.cell? ⟨g,7,none⟩=some (.bool q.force):=by
 unfold jC at h;refine⟨?_,?_,?_,?_,?_,?_,?_,?_⟩ <;> simp[World.cell?,h]
theorem jC.bel{q:cm}(h:jC w g q)(hb:La w w'):jC w' g q:=(hb.block g (MF.1 h).1).trans h
theorem fN.gr{t a b c oa oc r}(h:fN w g t a b c d oa oc)(hg:w.grownBy w' r)(hr:some g≠r):fN w' g t a b c d oa oc:=(hg.block g (MF.1 h).1 hr).trans h
def IP (W:LC) (g:Nat) (wS:LC):Prop:=W.grownBy wS (some g)/\∃ c0 c1 c2 c3 c4,ag wS g c0 c1 c2 c3 c4
theorem IP.put{wS:LC}{c0 c1 c2 c3 c4}(h:IP W g wS)(hb:ag wS g c0 c1 c2 c3 c4)(d0 d1 d2 d3 d4):IP W g (ar wS g d0 d1 d2 d3 d4):=⟨am h.1 (aI wS g _ _ _ _ _),_,_,_,_,_,hb.set _ _ _ _ _⟩
theorem IP.more{wS}(h:IP W g wS)(hb:La wS w'):IP W g w':=by
 obtain⟨h1,c0,c1,c2,c3,c4,h2⟩:=h;exact⟨am h1 (aq hb),c0,c1,c2,c3,c4,af hb h2⟩
theorem IP.bel{wS}(h:IP W g wS)(hb:La w W)(hg:w.heap.size<=g):La w wS:=
 ⟨h.1.os.trans hb.os,h.1.tape.trans hb.tape,h.1.output.trans hb.output,MH hb.size h.1.size,fun k hk=>(h.1.block k (MI hk hb.size) (by intro e;cases e;omega)).trans (hb.block k hk)⟩
theorem In.outN{w1:LC}{C}(h:In w1 (bg ok B C) t v)(hg:B<=g)(hC:g < C)(d0 d1 d2 d3 d4):In (ar w1 g d0 d1 d2 d3 d4) (bQ ok B) t v:=(h.box hg hC _ _ _ _ _).weak fun k hk=>by
 rcases hk with hk | hk
 ·exact .inl hk.1
 ·exact .inr (by omega)
theorem lT{w1:LC}{C l}(h:aB w1 (bg ok B C) l v)(hg:B<=g)(hC:g < C)(d0 d1 d2 d3 d4):aB (ar w1 g d0 d1 d2 d3 d4) (bQ ok B) l v:=(h.grownR (aI w1 g d0 d1 d2 d3 d4) (fun k hk e=>jB hg hC k hk (by cases e;rfl))).weak fun k hk=>by
 rcases hk with hk | hk
 ·exact .inl hk.1
 ·exact .inr (by omega)
theorem No{C D}(h:C<=D):∀ k,bQ (bg ok B C) D k->bg ok B C k:=fun k hk=>by
 rcases hk with hk | hk
 ·exact hk
 ·exact .inr (MH h hk)
attribute [local go_sem ↓] Go.wp_at_zero Go.wp_at_succ
theorem rN(w:LC)(ok t a b c d oa oc)(q:cm)(ht:cQ w ok t a b c d oa oc)(hG:cn w)(hM:bj w)(hW:di w)(hN:(bA t.owners).length<=4000000)(hP:∀ o∈t.owners,∀ x∈o.paths,x.length<=140737488351232)(hq:q.body.length<=9223372036854775807)(hw:q.who.length<=9223372036854775807):Calls prog 55 #[.agg (Ld t a c b d oa oc),.agg (Lf q)] w fun e w'=>∃ r ro,e=.returned (.tuple #[r,ro,.int .i64 (aJ t q).2.2])/\In w' (bQ ok w.heap.size) (aJ t q).1 r/\aB w' (bQ ok w.heap.size) (aJ t q).2.1 ro/\La w w':=by
 obtain⟨W3,hW3⟩:∃ W,W=((w.alloc (.cells (Ld t a c b d oa oc) 44)).alloc (.cells (Lf q) 29)).alloc (.cells Lb 39):=⟨_,rfl⟩
 have Y3:Ll (La w W3):=aa (by rw[hW3];exact ab (ab (ae _ _) (ae _ _)) (ae _ _));have X1:Ll (fN W3 w.heap.size t a b c d oa oc):=aa (by rw[hW3];exact lI _ _ _ _);have X2:Ll (jC W3 (w.heap.size+1) q):=aa (by rw[hW3];exact mE _ _ _ _);have X3:Ll (Lc W3 (w.heap.size+2)):=aa (by rw[hW3];exact jI _ _ _ _);have HW3:=aa hW3;have HM:=aa hM;have HW:=aa hW;have HN:=aa hN;have HP:=aa hP;have TI:Ll (In w (bg ok w.heap.size (w.heap.size+3)) t.value (.agg (KV t.value a c b d))):=aa (xN ht.val.low);have TO:Ll (aB w (bg ok w.heap.size (w.heap.size+3)) t.owners (.slice oa t.owners.length oc)):=aa (ht.own.low.weak fun k hk=>.inl hk);have PA0:=FJ W3 q.body (by unfold maxLen;omega) (hG.grown (r:=none) (aq Y3.o) (by simp));obtain⟨p,pe,hp⟩:∃ p pe,cW q.body=(p,pe):=⟨_,_,rfl⟩
 have HPA:=aa hp;have PARSE:Ll (Calls prog 74 #[.string ⟨q.body.toArray⟩] W3 fun e w'=>∃ (a1 b1:Option Addr) (c1 d1:Nat),e=.returned (.tuple #[.agg (KV p a1 c1 b1 d1),.int .i64 pe])/\In w' (bg ok w.heap.size (w.heap.size+3)) p (.agg (KV p a1 c1 b1 d1))/\La W3 w'):=aa (PA0.mono fun e w' h=>by
  obtain⟨p',pe',a7,a8,c7,c8,rfl,h1,h2,h3⟩:=h;rw[hp]at h1;simp only[Prod.mk.injEq]at h1;obtain⟨rfl,rfl⟩:=h1;exact⟨a7,a8,c7,c8,rfl,h2.is.weak fun k hk=>.inr (by have:=X3.o.lt;omega),h3⟩)
 have HQW:=aa hw;clear PA0 hp hW3 hM hW hN hP hq hw ht hG;have q0_:=X2.o.c;go_enter func55,ntmps55;go_upto_region 1 with fail
 rw[<-HW3.o];go_upto_region 2 with (go_at_call 74;refine PARSE.o.mono ?_;rintro e w4 ⟨a1,b1,c1,d1,rfl,h1,hb⟩;have B4:=aa hb;have P4:=aa h1;clear h1 hb)
 obtain⟨W5,hW5⟩:∃ W,W=w4.alloc (.cells (KV p a1 c1 b1 d1) 39):=⟨_,rfl⟩
 have A5:Ll (La w4 W5):=aa (by rw[hW5];exact ae _ _);have PB:Ll (KY W5 w4.heap.size p a1 c1 b1 d1):=aa (by rw[hW5];exact MN _ _);rw[<-hW5];clear hW5;have B35:=aa (ab B4.o A5.o);have Y5:=aa (ab Y3.o B35.o);have P5:=aa (P4.o.bel A5.o);have TB5:=aa (X1.o.bel B35.o);have AB5:=aa (X2.o.bel B35.o);have ZB5:=aa (af B35.o X3.o);have S5:Ll (w.heap.size+3<=W5.heap.size):=aa (by have:=ZB5.o.lt;omega);by_cases hpe:pe=0
 rotate_left
 ·have e0:(pe != 0)=true:=by simpa using hpe
  have e1:(pe == 0)=false:=by rw[MO];exact hpe
  have R:Ll (aJ t q=(t.value,t.owners,pe)):=aa (by unfold aJ;rw[HPA.o,if_pos hpe]);clear hpe;go_upto_region 3 with fail
  have t0_:=TB5.o.c;have NB:=aa ZB5.o;have n0_:=NB.o.c;rw[show w.heap.size+2=w.heap.size+1+1 from rfl]at n0_;have ZB:=aa (LH NB.o.set t.value a c b d);have BW:=aa (LH (aP (Y5.o) (show w.heap.size<=w.heap.size+2 by omega)) t.value a c b d);have RI:=aa ((TI.o.bel (Y5.o)).outN (g:=w.heap.size+2) (by omega) (by omega) (.int .i64 t.value.kind) (.int .i64 t.value.n) (.string ⟨t.value.s.toArray⟩) (.slice a t.value.keys.length c) (.slice b t.value.l.length d));have RO:=aa (lT (TO.o.bel (Y5.o)) (g:=w.heap.size+2) (by omega) (by omega) (.int .i64 t.value.kind) (.int .i64 t.value.n) (.string ⟨t.value.s.toArray⟩) (.slice a t.value.keys.length c) (.slice b t.value.l.length d));go_region
  go_wp2
  have z0_:=ZB.o.c;rw[show w.heap.size+2=w.heap.size+1+1 from rfl]at z0_;refine MM (v:=.tuple #[.agg (KV t.value a c b d),.slice oa t.owners.length oc,.int .i64 pe]) ?_ rfl ?_
  ·simp only[ar]at z0_;simp[results,results55,go_sem,z0_]
  ·rw[R.o];exact⟨_,_,rfl,RI.o.bel (aC _ 1),RO.o.bel (aC _ 1),ab BW.o (aC _ 1)⟩
 subst hpe;by_cases h5:q.kind=5
 ·have e5:(q.kind == 5)=true:=by simp[h5]
  obtain⟨y,yo,yc,ye,hy⟩:∃ y yo yc ye,eC t.value t.owners q.who p q.force=(y,yo,yc,ye):=⟨_,_,_,_,rfl⟩
  have R:Ll (aJ t q=(y,yo,ye)):=aa (by unfold aJ;rw[HPA.o,if_neg (by simp),if_pos h5,hy]);have AP:=Fl W5 (bg ok w.heap.size (w.heap.size+3)) t.value p t.owners q.who q.force _ _ _ (TI.o.bel Y5.o) (TO.o.bel Y5.o) P5.o (HM.o.bel Y5.o) HN.o HP.o HQW.o;rw[hy]at AP;have APC:Ll (Calls prog 75 #[.agg (KV t.value a c b d),.slice oa t.owners.length oc,.string ⟨q.who.toArray⟩,.agg (KV p a1 c1 b1 d1),.bool q.force] W5 fun e w'=>∃ (a2 b2:Option Addr) (c2 d2:Nat) (ma:Option Addr) (mc:Nat) (ca:Option Addr) (cc:Nat),e=.returned (.tuple #[.agg (KV y a2 c2 b2 d2),.slice ma yo.length mc,.slice ca yc.length cc,.int .i64 ye])/\In w' (bg ok w.heap.size (w.heap.size+3)) y (.agg (KV y a2 c2 b2 d2))/\aB w' (bg ok w.heap.size (w.heap.size+3)) yo (.slice ma yo.length mc)/\La W5 w'):=aa (AP.mono fun e w' h=>by
   obtain⟨r,ro,rc,rfl,h1,h2,h3,hb⟩:=h;obtain⟨a2,b2,c2,d2,rfl⟩:=h1.form;obtain⟨ma,mc,rfl⟩:=h2.form;obtain⟨ca,cc,rfl⟩:∃ a c,rc=.slice a yc.length c:=by
    rcases h3.2 with⟨rfl,h9⟩ | ⟨g,cap,cur,rfl,-⟩
    ·rw[h9];exact⟨_,_,rfl⟩
    ·exact⟨_,_,rfl⟩
   exact⟨a2,b2,c2,d2,ma,mc,ca,cc,rfl,h1.weak (No S5.o),h2.weak (No S5.o),hb⟩)
  clear AP hy h5;have t0_:=TB5.o.c;have q0_:=AB5.o.c;have p0_:=PB.o.c;go_upto_region 6 with (go_at_call 75;refine APC.o.mono ?_;rintro e w6 ⟨a2,b2,c2,d2,ma,mc,ca,cc,rfl,h1,h2,hb⟩;have B6:=aa hb;have I6:=aa h1;have O6:=aa h2;clear h1 h2 hb)
  obtain⟨W7,hW7⟩:∃ W,W=w6.alloc (.cells (KV y a2 c2 b2 d2) 39):=⟨_,rfl⟩
  have A7:Ll (La w6 W7):=aa (by rw[hW7];exact ae _ _);have RB:Ll (KY W7 w6.heap.size y a2 c2 b2 d2):=aa (by rw[hW7];exact MN _ _);rw[<-hW7];clear hW7;have B57:=aa (ab B6.o A7.o);have NB:=aa (af B57.o ZB5.o);have p0_:=RB.o.c;have n0_:=NB.o.c;have ZB:=aa (LH NB.o.set y a2 c2 b2 d2);have BW:=aa (LH (aP (ab Y5.o B57.o) (show w.heap.size<=w.heap.size+2 by omega)) y a2 c2 b2 d2);have RI:=aa ((I6.o.bel A7.o).outN (g:=w.heap.size+2) (by omega) (by omega) (.int .i64 y.kind) (.int .i64 y.n) (.string ⟨y.s.toArray⟩) (.slice a2 y.keys.length c2) (.slice b2 y.l.length d2));have RO:=aa (lT (O6.o.bel A7.o) (g:=w.heap.size+2) (by omega) (by omega) (.int .i64 y.kind) (.int .i64 y.n) (.string ⟨y.s.toArray⟩) (.slice a2 y.keys.length c2) (.slice b2 y.l.length d2));go_wp2
  have z0_:=ZB.o.c;rw[show w.heap.size+2=w.heap.size+1+1 from rfl]at z0_;refine MM (v:=.tuple #[.agg (KV y a2 c2 b2 d2),.slice ma yo.length mc,.int .i64 ye]) ?_ rfl ?_
  ·simp only[ar]at z0_;simp[results,results55,go_sem,z0_]
  ·rw[R.o];exact⟨_,_,rfl,RI.o,RO.o,BW.o⟩
 have e5:(q.kind == 5)=false:=by rw[MO];exact h5
 obtain⟨y,ye,hy⟩:∃ y ye,bW t.value q.kind p=(y,ye):=⟨_,_,rfl⟩
 have CH:=zc W5 (bg ok w.heap.size (w.heap.size+3)) t.value p q.kind _ _ (TI.o.bel Y5.o) P5.o (HM.o.bel Y5.o) (HW.o.bel Y5.o);rw[hy]at CH;have CHC:Ll (Calls prog 76 #[.agg (KV t.value a c b d),.int .i64 q.kind,.agg (KV p a1 c1 b1 d1)] W5 fun e w'=>∃ (a2 b2:Option Addr) (c2 d2:Nat),e=.returned (.tuple #[.agg (KV y a2 c2 b2 d2),.int .i64 ye])/\In w' (bg ok w.heap.size (w.heap.size+3)) y (.agg (KV y a2 c2 b2 d2))/\La W5 w'):=aa (CH.mono fun e w' h=>by
  obtain⟨r,rfl,h1,hb⟩:=h;obtain⟨a2,b2,c2,d2,rfl⟩:=h1.form;exact⟨a2,b2,c2,d2,rfl,h1.weak (No S5.o),hb⟩)
 have HY:=aa hy;have H5:=aa h5;clear CH hy h5;have t0_:=TB5.o.c;have q0_:=AB5.o.c;have p0_:=PB.o.c;go_upto_region 8 with (go_at_call 76;refine CHC.o.mono ?_;rintro e w6 ⟨a2,b2,c2,d2,rfl,h1,hb⟩;have B6:=aa hb;have I6:=aa h1;clear h1 hb)
 obtain⟨W7,hW7⟩:∃ W,W=w6.alloc (.cells (KV y a2 c2 b2 d2) 39):=⟨_,rfl⟩
 have A7:Ll (La w6 W7):=aa (by rw[hW7];exact ae _ _);have RB:Ll (KY W7 w6.heap.size y a2 c2 b2 d2):=aa (by rw[hW7];exact MN _ _);rw[<-hW7];clear hW7;have B57:=aa (ab B6.o A7.o);have Y7:=aa (ab Y5.o B57.o);have TB7:=aa (TB5.o.bel B57.o);have I7:=aa (I6.o.bel A7.o);have S7:Ll (w.heap.size+3<=w6.heap.size):=aa (MH S5.o B6.o.size);by_cases hye:ye=0
 rotate_left
 ·have e0:(ye != 0)=true:=by simpa using hye
  have e1:(ye == 0)=false:=by rw[MO];exact hye
  have R:Ll (aJ t q=(t.value,t.owners,ye)):=aa (by unfold aJ;rw[HPA.o,if_neg (by simp),if_neg H5.o,HY.o,if_pos hye]);clear hye;go_upto_region 9 with fail
  have t0_:=TB7.o.c;have NB:=aa (af B57.o ZB5.o);have n0_:=NB.o.c;rw[show w.heap.size+2=w.heap.size+1+1 from rfl]at n0_;have ZB:=aa (LH NB.o.set t.value a c b d);have BW:=aa (LH (aP (Y7.o) (show w.heap.size<=w.heap.size+2 by omega)) t.value a c b d);have RI:=aa ((TI.o.bel (Y7.o)).outN (g:=w.heap.size+2) (by omega) (by omega) (.int .i64 t.value.kind) (.int .i64 t.value.n) (.string ⟨t.value.s.toArray⟩) (.slice a t.value.keys.length c) (.slice b t.value.l.length d));have RO:=aa (lT (TO.o.bel (Y7.o)) (g:=w.heap.size+2) (by omega) (by omega) (.int .i64 t.value.kind) (.int .i64 t.value.n) (.string ⟨t.value.s.toArray⟩) (.slice a t.value.keys.length c) (.slice b t.value.l.length d));go_region
  go_wp2
  have z0_:=ZB.o.c;rw[show w.heap.size+2=w.heap.size+1+1 from rfl]at z0_;refine MM (v:=.tuple #[.agg (KV t.value a c b d),.slice oa t.owners.length oc,.int .i64 ye]) ?_ rfl ?_
  ·simp only[ar]at z0_;simp[results,results55,go_sem,z0_]
  ·rw[R.o];exact⟨_,_,rfl,RI.o.bel (aC _ 1),RO.o.bel (aC _ 1),ab BW.o (aC _ 1)⟩
 subst hye;obtain⟨ko,hko⟩:∃ ko,ir y t.owners=ko:=⟨_,rfl⟩
 have R:Ll (aJ t q=(y,ko,0)):=aa (by unfold aJ;rw[HPA.o,if_neg (by simp),if_neg H5.o,HY.o,if_neg (by simp),hko]);have KEEP:Ll (∀ W,La W7 W->Calls prog 77 #[.agg (KV y a2 c2 b2 d2),.slice oa t.owners.length oc] W fun e w'=>∃ ka kc,e=.returned (.slice ka ko.length kc)/\aB w' (fun k=>W.heap.size<=k) ko (.slice ka ko.length kc)/\La W w'):=aa (fun W hW=>by
  have:=Hz W (bg ok w.heap.size (w.heap.size+3)) y t.owners _ _ (I7.o.bel hW) ((TO.o.bel Y7.o).bel hW) (HM.o.bel (ab Y7.o hW)) HN.o HP.o;rw[hko]at this;exact this)
 clear hko;go_upto_region 10 with fail
 refine aD (fun wS=>La W7 wS) [5] (by kernel_rfl) (aC _ 1) (fun LI=>?_);refine WT.out ?_;iterate 4
  first
   | refine OJ 0 ?_ [5,6,7] LI ?_ ?_
   | refine OJ 1 ?_ [4,5,6,7] LI ?_ ?_
   | refine OJ 2 ?_ [3,4,5,6,7] LI ?_ ?_
   | refine OJ 3 ?_ [4,5,6,7] LI ?_ ?_
  rotate_left
  ·intro wS LN;have t0_:=(TB7.o.bel LN).c;have p0_:=(af LN RB.o).c;go_simp;all_goals with_reducible rfl
  simp only[av,List.set]
 repeat' (first
  | exact nl
  |(refine ON 4 (fun K hK=>?_) ?_
    go_simp;refine(KEEP.o _ LI).mono ?_;rintro e w4q ⟨ka,kc,rfl,h1,hb5⟩;refine hK.out _ _ (ab LI hb5) (fun LJ=>?_);have KO:Ll (aB w4q (bg ok w.heap.size (w.heap.size+3)) ko (.slice ka ko.length kc)):=aa (h1.weak fun k hk=>.inr (MH (MH S7.o (MH A7.o.size LI.size)) hk));clear hb5 h1;clear hK K;replace LI:=LJ;clear LJ;try simp only[Act.put,Mt,Mu,Mv])
  |(refine OO 5 (fun K hK=>?_)
    have NB:=aa (af LI (af B57.o ZB5.o));have n0_:=NB.o.c;rw[show w.heap.size+2=w.heap.size+1+1 from rfl]at n0_;have ZB:=aa (LH NB.o.set y a2 c2 b2 d2);have BW:=aa (LH (aP (ab Y7.o LI) (show w.heap.size<=w.heap.size+2 by omega)) y a2 c2 b2 d2);have RI:=aa ((I7.o.bel LI).outN (g:=w.heap.size+2) (by omega) (by omega) (.int .i64 y.kind) (.int .i64 y.n) (.string ⟨y.s.toArray⟩) (.slice a2 y.keys.length c2) (.slice b2 y.l.length d2));have RO:=aa (lT KO.o (g:=w.heap.size+2) (by omega) (by omega) (.int .i64 y.kind) (.int .i64 y.n) (.string ⟨y.s.toArray⟩) (.slice a2 y.keys.length c2) (.slice b2 y.l.length d2));go_simp;refine hK.out _ _ ?_;clear hK K;try simp only[Act.put,Mt,Mu,Mv])
  |(refine OO 6 (fun K hK=>?_)
    go_simp;refine hK.out _ _ ?_;clear hK K;try simp only[Act.put,Mt,Mu,Mv])
  |(refine OO 7 (fun K hK=>?_)
    go_simp;refine hK.out _ _ ?_;clear hK K;try simp only[Act.put,Mt,Mu,Mv])
  | refine OL [4] ?_
  | fail)
 all_goals
  refine dn (by kernel_rfl) ?_;have z0_:=ZB.o.c;rw[show w.heap.size+2=w.heap.size+1+1 from rfl]at z0_;go_wp2
  refine MM (v:=.tuple #[.agg (KV y a2 c2 b2 d2),.slice ka ko.length kc,.int .i64 0]) ?_ rfl ?_
  ·simp only[ar]at z0_;simp[results,results55,go_sem,z0_]
  ·rw[R.o];exact⟨_,_,rfl,RI.o,RO.o,BW.o⟩
end
variable {k:Nat}
theorem yC(w:LC)(ok ok')(x y:aL)(a b)(c d:Nat)(hx:ao w ok x.paths (.slice a x.paths.length c))(hy:ao w ok' y.paths (.slice b y.paths.length d)):Calls prog 79 #[.agg #[.string ⟨x.name.toArray⟩,.slice a x.paths.length c],.agg #[.string ⟨y.name.toArray⟩,.slice b y.paths.length d]] w fun e w'=>e=.returned (.bool (decide (x.name=y.name/\x.paths=y.paths)))/\La w w':=by
 obtain⟨W2,hW2⟩:∃ W,W=(w.alloc (.cells #[.string ⟨x.name.toArray⟩,.slice a x.paths.length c] 47)).alloc (.cells #[.string ⟨y.name.toArray⟩,.slice b y.paths.length d] 47):=⟨_,rfl⟩
 have Y2:Ll (La w W2):=aa (by rw[hW2];exact ab (ae _ _) (ae _ _));obtain⟨x0,x1⟩:W2.cell? ⟨w.heap.size,0,none⟩=some (.string ⟨x.name.toArray⟩)/\W2.cell? ⟨w.heap.size,1,none⟩=some (.slice a x.paths.length c):=by rw[hW2];exact rl (fb _ _ _)
 obtain⟨y0,y1⟩:W2.cell? ⟨w.heap.size+1,0,none⟩=some (.string ⟨y.name.toArray⟩)/\W2.cell? ⟨w.heap.size+1,1,none⟩=some (.slice b y.paths.length d):=by rw[hW2];exact rl (et _ _ _)
 have EQ:=aa (kM W2 ok ok' x.paths y.paths _ _ (hx.bel Y2.o) (hy.bel Y2.o));have HW2:=aa hW2;clear hW2 hx hy;by_cases hn:x.name=y.name
 ·have e9:(x.name == y.name)=true:=by simp[hn]
  have R:Ll (decide (x.name=y.name/\x.paths=y.paths)=decide (x.paths=y.paths)):=aa (by simp[hn]);obtain⟨o,ho⟩:∃ o,decide (x.paths=y.paths)=o:=⟨_,rfl⟩
  rw[ho]at EQ R;clear ho hn;go_enter func79,ntmps79;go_upto_region 1 with fail
  rw[<-HW2.o];go_wp2_with (go_at_call 60;refine EQ.o.mono ?_;rintro e w3 ⟨rfl,hb⟩;have B3:=aa hb;clear hb)
  go_ret;exact⟨by rw[R.o];first | done | rfl | simp,ab Y2.o B3.o⟩
 ·have e9:(x.name == y.name)=false:=by simpa using hn
  have R:Ll (decide (x.name=y.name/\x.paths=y.paths)=false):=aa (by simp[hn]);clear hn;go_enter func79,ntmps79;go_upto_region 1 with fail
  rw[<-HW2.o];go_wp2
  go_ret;exact⟨by rw[R.o];first | done | rfl | simp,Y2.o⟩
theorem Ex{x y:aL}:(x.name=y.name/\x.paths=y.paths)↔x=y:=by
 cases x;cases y;simp
theorem Ba{α:Type}{xs ys:List α}(h:xs.length=ys.length)(ht:xs.take xs.length=ys.take xs.length):xs=ys:=by
 rw[List.take_length,h,List.take_length]at ht;exact ht
theorem yT{xs ys:List aL}(h:xs.take k=ys.take k)(hx:k < xs.length)(hy:k < ys.length)(he:xs[k]=ys[k]):xs.take (k+1)=ys.take (k+1):=by
 rw[List.take_succ_eq_append_getElem hx,List.take_succ_eq_append_getElem hy,h,he]
open Classical in
theorem Cy(w ok ok' xs ys v u)(hx:aB w ok xs v)(hy:aB w ok' ys u):Calls prog 78 #[v,u,.func (.func 79) #[] #[]] w fun e w'=>e=.returned (.bool (decide (xs=ys)))/\La w w':=by
 obtain⟨xa,xc,rfl⟩:=hx.form;obtain⟨ya,yc,rfl⟩:=hy.form;have HX:=aa hx;have HY:=aa hy;have lx:=hx.1;have ly:=hy.1;unfold maxLen at lx ly;clear hx hy;by_cases hl:xs.length=ys.length
 rotate_left
 ·have e9:((xs.length:Int) == (ys.length:Int))=false:=by rw[MO];omega
  have e8:((xs.length:Int) != (ys.length:Int))=true:=by simp[bne,e9]
  have R:Ll (decide (xs=ys)=false):=decide_eq_false (fun h=>hl (by rw[h]));clear hl;go_enter func78,ntmps78;go_wp2
  go_ret;exact⟨by rw[R.o];first | done | rfl | simp,MK _ _⟩
 have e9:((xs.length:Int) == (ys.length:Int))=true:=by simp[hl]
 have e8:((xs.length:Int) != (ys.length:Int))=false:=by simp[hl]
 have HL:=aa hl;clear hl;go_enter func78,ntmps78;go_wp2
 go_loopg [17] xs.length (fun gk i wr=>∃ k:Nat,k<=xs.length/\gk=xs.length - k/\i=.int .i64 k/\Ll (xs.take k=ys.take k)/\Ll (La w wr))
 case atStart=>exact⟨0,Nat.zero_le _,rfl,rfl,aa (by simp),MK _ _⟩
 case round=>
  obtain⟨k,hk,hgk,rfl,TK,BL⟩:=hrel;have GK:=aa hgk;clear hgk;by_cases hlt:k < xs.length
  ·have hlt2:k < ys.length:=by rw[<-HL.o];exact hlt
   obtain⟨b1,o1,pa,pc,rfl,j1,j2,k1,k2,k3,-⟩:=HX.o.at hlt;obtain⟨b2,o2,qa,qc,rfl,i1,i2,l1,l2,l3,-⟩:=HY.o.at hlt2;have c1:=ah BL.o k1;have c2:=ah BL.o k2;have d1:=ah BL.o l1;have d2:=ah BL.o l2;have P3:=aa (k3.bel BL.o);have Q3:=aa (l3.bel BL.o);clear k1 k2 k3 l1 l2 l3;have w2:(k:Int) < (xs.length:Int):=by omega
   have w3:(0:Int)<=(k:Int):=by omega
   have w4:(k:Int) < (ys.length:Int):=by omega
   have STEP:Ll (xs[k]=ys[k]->xs.take (k+1)=ys.take (k+1)):=fun h=>yT TK.o hlt hlt2 h;have STOP:Ll (xs[k]≠ys[k]->decide (xs=ys)=false):=fun h=>decide_eq_false (fun e=>h (by subst e;rfl));obtain⟨x,hxk⟩:∃ x,xs[k]=x:=⟨_,rfl⟩
   obtain⟨y,hyk⟩:∃ y,ys[k]=y:=⟨_,rfl⟩
   rw[hxk]at c1 c2 P3 STEP STOP;rw[hyk]at d1 d2 Q3 STEP STOP;clear hxk hyk;obtain⟨W5,hW5⟩:∃ W,W=wr.alloc (.cells #[.string ⟨x.name.toArray⟩,.slice pa x.paths.length pc] 47):=⟨_,rfl⟩
   have A5:Ll (La wr W5):=aa (by rw[hW5];exact ae _ _);have X5:Ll (W5.heap[wr.heap.size]?=some (.cells #[.string ⟨x.name.toArray⟩,.slice pa x.paths.length pc] 47)):=aa (by rw[hW5];exact MN _ _);have HW5:=aa hW5;clear hW5;go_upto_region 6 with fail
   rw[<-HW5.o];clear c1 c2;replace d1:=ah A5.o d1;replace d2:=ah A5.o d2;obtain⟨W6,hW6⟩:∃ W,W=W5.alloc (.cells #[.string ⟨y.name.toArray⟩,.slice qa y.paths.length qc] 47):=⟨_,rfl⟩
   have A6:Ll (La W5 W6):=aa (by rw[hW6];exact ae _ _);obtain⟨y0,y1⟩:W6.cell? ⟨W5.heap.size,0,none⟩=some (.string ⟨y.name.toArray⟩)/\W6.cell? ⟨W5.heap.size,1,none⟩=some (.slice qa y.paths.length qc):=by rw[hW6];exact rl (MN _ _)
   obtain⟨x0,x1⟩:=rl (bR A6.o X5.o);have HW6:=aa hW6;clear hW6;go_upto_region 7 with fail
   rw[<-HW6.o];clear d1 d2;have B6:=aa (ab A5.o A6.o);have SO:=yC W6 ok ok' x y pa qa pc qc (P3.o.bel B6.o) (Q3.o.bel B6.o);by_cases he:x=y
   ·rw[decide_eq_true (Ex.2 he)]at SO;have SAME:=aa SO;have TK9:=aa (STEP.o he);clear SO he;go_wp2_with (go_at_call 79;refine SAME.o.mono ?_;rintro e w7 ⟨rfl,hb⟩;have B7:=aa (ab (ab BL.o B6.o) hb);clear hb)
    go_roundg (xs.length - (k+1))
    case measure=>rw[GK.o];omega
    case rel=>exact⟨k+1,hlt,rfl,by go_num,TK9,B7⟩
   ·rw[decide_eq_false (fun h=>he (Ex.1 h))]at SO;have SAME:=aa SO;have R:=aa (STOP.o he);clear SO he;go_wp2_with (go_at_call 79;refine SAME.o.mono ?_;rintro e w7 ⟨rfl,hb⟩;have B7:=aa (ab (ab BL.o B6.o) hb);clear hb)
    go_ret;exact⟨by rw[R.o];first | done | rfl | simp,B7.o⟩
  ·have d9:¬(k:Int) < (xs.length:Int):=by omega
   have Mc:k=xs.length:=by omega
   have R:Ll (decide (xs=ys)=true):=decide_eq_true (Ba HL.o (by have:=TK.o;rw[Mc]at this;exact this));clear Mc;go_wp2
   go_ret;exact⟨by rw[R.o];first | done | rfl | simp,BL.o⟩
open Classical in
theorem rh(w ok ok' xs ys v u)(hx:aB w ok xs v)(hy:aB w ok' ys u):Calls prog 56 #[v,u] w fun e w'=>e=.returned (.bool (decide (xs=ys)))/\La w w':=by
 have C:=Cy w ok ok' xs ys v u hx hy;obtain⟨xa,xc,rfl⟩:=hx.form;obtain⟨ya,yc,rfl⟩:=hy.form;generalize decide (xs=ys)=o at C ⊢;clear hx hy;go_enter func56,ntmps56;go_wp2_with (go_at_call 78;refine C.mono ?_;rintro e w1 ⟨rfl,hb⟩)
 go_ret;exact⟨rfl,hb⟩
def fX (r:uf):Value:=.agg #[.int .i64 r.code,.int .i64 r.n,.string ⟨r.body.toArray⟩]
def pj (t:Th):uf:=if (eP 12 t.value).2≠0 then bz (eP 12 t.value).2 else ⟨0,t.ver,(eP 12 t.value).1⟩
def dK (w:LC) (g:Nat) (c n:Int) (b:Lz):Prop:=w.heap[g]?=some (.cells #[.int .i64 c,.int .i64 n,.string ⟨b.toArray⟩] 32)
theorem dK.c{c n b}(h:dK w g c n b):w.cell? ⟨g,0,none⟩=some (.int .i64 c)/\w.cell? ⟨g,1,none⟩=some (.int .i64 n)/\w.cell? ⟨g,2,none⟩=some (.string ⟨b.toArray⟩)/\w.frozen? ⟨g,0,none⟩=false/\w.frozen? ⟨g,1,none⟩=false/\w.frozen? ⟨g,2,none⟩=false:=by
 unfold dK at h;refine⟨?_,?_,?_,?_,?_,?_⟩ <;> simp[World.cell?,World.frozen?,h]
theorem dK.bel{c n b}(h:dK w g c n b)(hb:La w w'):dK w' g c n b:=(hb.block g (MF.1 h).1).trans h
def fE (w:LC) (g:Nat) (r:uf):LC:=((w.setCell ⟨g,0,none⟩ (.int .i64 r.code)).setCell ⟨g,1,none⟩ (.int .i64 r.n)).setCell ⟨g,2,none⟩ (.string ⟨r.body.toArray⟩)
theorem dK.set{c n b}(h:dK w g c n b)(r:uf):dK (fE w g r) g r.code r.n r.body:=ak (ak (ak h 0 _) 1 _) 2 _
theorem pJ{a}(h:La a w)(hg:a.heap.size<=g)(r:uf):La a (fE w g r):=aQ (aQ (aQ h hg _ _) hg _ _) hg _ _
theorem fN.ver{t a b c oa oc}(h:fN w g t a b c d oa oc)(n):fN (w.setCell ⟨g,7,none⟩ (.int .i64 n)) g { t with ver:=n } a b c d oa oc:=ak h 7 _
theorem fN.gen{t a b c oa oc}(h:fN w g t a b c d oa oc)(n):fN (w.setCell ⟨g,8,none⟩ (.int .i64 n)) g { t with gen:=n } a b c d oa oc:=ak h 8 _
def mV (w:LC) (g o:Nat) (s:dI):LC:=(((((w.setCell ⟨g,o,none⟩ (.string ⟨s.a.toArray⟩)).setCell ⟨g,o+1,none⟩ (.string ⟨s.c.toArray⟩)).setCell ⟨g,o+2,none⟩ (.int .i64 s.ph)).setCell ⟨g,o+3,none⟩ (.int .i64 s.st)).setCell ⟨g,o+4,none⟩ (.int .i64 s.we)).setCell ⟨g,o+5,none⟩ (.int .i64 s.si)
theorem fN.sta{t a b c oa oc}(h:fN w g t a b c d oa oc)(s):fN (mV w g 9 s) g { t with st:=s } a b c d oa oc:=ak (ak (ak (ak (ak (ak h 9 _) 10 _) 11 _) 12 _) 13 _) 14 _
theorem fN.putV{t a b c oa oc}(h:fN w g t a b c d oa oc)(x l a' b' c' d' oa' oc'):fN ((((((w.setCell ⟨g,1,none⟩ (.int .i64 x.kind)).setCell ⟨g,2,none⟩ (.int .i64 x.n)).setCell ⟨g,3,none⟩ (.string ⟨x.s.toArray⟩)).setCell ⟨g,4,none⟩ (.slice a' x.keys.length c')).setCell ⟨g,5,none⟩ (.slice b' x.l.length d')).setCell ⟨g,6,none⟩ (.slice oa' l.length oc')) g { t with value:=x,owners:=l } a' b' c' d' oa' oc':=
 ak (ak (ak (ak (ak (ak h 1 _) 2 _) 3 _) 4 _) 5 _) 6 _
theorem Hn(w:LC)(ok t a b c d oa oc)(ht:cQ w ok t a b c d oa oc)(hG:cn w):Calls prog 23 #[.agg (Ld t a c b d oa oc)] w fun e w'=>e=.returned (fX (pj t))/\La w w':=by
 obtain⟨W2,hW2⟩:∃ W,W=(w.alloc (.cells (Ld t a c b d oa oc) 44)).alloc (.cells #[.int .i64 0,.int .i64 0,.string ⟨#[]⟩] 32):=⟨_,rfl⟩
 have Y2:Ll (La w W2):=aa (by rw[hW2];exact ab (ae _ _) (ae _ _));have TB:Ll (fN W2 w.heap.size t a b c d oa oc):=aa (by rw[hW2];exact fb _ _ _);have ZB:Ll (dK W2 (w.heap.size+1) 0 0 []):=aa (by rw[hW2];exact et _ _ _);have HW2:=aa hW2;have PR:=EP W2 ok t.value _ (ht.val.bel Y2.o) (hG.grown (r:=none) (aq Y2.o) (by simp));obtain⟨l,pe,hl⟩:∃ l pe,eP 12 t.value=(l,pe):=⟨_,_,rfl⟩
 rw[hl]at PR;have PRC:=aa PR;have HL:=aa hl;clear PR hl hW2 ht hG;have t0_:=TB.o.c;go_enter func23,ntmps23;go_upto_region 1 with fail
 rw[<-HW2.o];go_upto_region 2 with (go_at_call 37;refine PRC.o.mono ?_;rintro e w3 ⟨rfl,hb⟩;have B3:=aa hb;clear hb)
 by_cases hpe:pe=0
 ·subst hpe;have R:Ll (pj t=⟨0,t.ver,l⟩):=aa (by unfold pj;rw[HL.o,if_neg (by simp)]);have t0_:=(TB.o.bel B3.o).c;have n0_:=(ZB.o.bel B3.o).c;have Z9:=aa ((ZB.o.bel B3.o).set ⟨0,t.ver,l⟩);have BZ:=aa (pJ (ab Y2.o B3.o) (show w.heap.size<=w.heap.size+1 by omega) ⟨0,t.ver,l⟩);go_wp2
  have z0_:=Z9.o.c;refine MM (v:=.agg #[.int .i64 0,.int .i64 t.ver,.string ⟨l.toArray⟩]) ?_ rfl ?_
  ·simp only[fE]at z0_;simp[results,results23,go_sem,z0_]
  ·rw[R.o];exact⟨rfl,BZ.o⟩
 ·have e0:(pe != 0)=true:=by simpa using hpe
  have e1:(pe == 0)=false:=by rw[MO];exact hpe
  have R:Ll (pj t=bz pe):=aa (by unfold pj;rw[HL.o,if_pos hpe]);have RF:=aa (dh w3 pe);clear hpe;go_wp2_with (go_at_call 12;refine RF.o.mono ?_;rintro e w4 ⟨rfl,hb⟩;have B4:=aa (ab B3.o hb);clear hb;have n0_:=(ZB.o.bel B4.o).c;have Z9:=aa ((ZB.o.bel B4.o).set (bz pe));have BZ:=aa (pJ (ab Y2.o B4.o) (show w.heap.size<=w.heap.size+1 by omega) (bz pe)))
  have z0_:=Z9.o.c;refine MM (v:=.agg #[.int .i64 pe,.int .i64 0,.string ⟨#[]⟩]) ?_ rfl ?_
  ·simp only[fE,bz]at z0_;simp[results,results23,go_sem,z0_]
  ·rw[R.o];exact⟨rfl,BZ.o⟩
variable {wr:World}
variable {y:V}
variable {c:Nat}
def dT:Th:=⟨[],aM,[],0,0,⟨[],[],0,0,0,0⟩⟩
def jE (w:LC) (g:Nat) (t:Th) (a b:Option Addr) (c d:Nat) (oa:Option Addr) (oc:Nat):LC:=(((((((((((((((w.setCell ⟨g,0,none⟩ (.string ⟨t.name.toArray⟩)).setCell ⟨g,1,none⟩ (.int .i64 t.value.kind)).setCell ⟨g,2,none⟩ (.int .i64 t.value.n)).setCell ⟨g,3,none⟩ (.string ⟨t.value.s.toArray⟩)).setCell ⟨g,4,none⟩ (.slice a t.value.keys.length c)).setCell ⟨g,5,none⟩ (.slice b t.value.l.length d)).setCell ⟨g,6,none⟩ (.slice oa t.owners.length oc)).setCell ⟨g,7,none⟩ (.int .i64 t.ver)).setCell ⟨g,8,none⟩ (.int .i64 t.gen)).setCell ⟨g,9,none⟩ (.string ⟨t.st.a.toArray⟩)).setCell ⟨g,10,none⟩ (.string ⟨t.st.c.toArray⟩)).setCell ⟨g,11,none⟩ (.int .i64 t.st.ph)).setCell ⟨g,12,none⟩ (.int .i64 t.st.st)).setCell ⟨g,13,none⟩ (.int .i64 t.st.we)).setCell ⟨g,14,none⟩ (.int .i64 t.st.si))
theorem fN.put15{t0 a0 b0 c0 d0 oa0 oc0}(h:fN w g t0 a0 b0 c0 d0 oa0 oc0)(t a b c d oa oc):fN (jE w g t a b c d oa oc) g t a b c d oa oc:=by
 unfold fN at h ⊢;have h9:=ak (ak (ak (ak (ak (ak (ak (ak (ak (ak (ak (ak (ak (ak (ak (h) 0 (.string ⟨t.name.toArray⟩)) 1 (.int .i64 t.value.kind)) 2 (.int .i64 t.value.n)) 3 (.string ⟨t.value.s.toArray⟩)) 4 (.slice a t.value.keys.length c)) 5 (.slice b t.value.l.length d)) 6 (.slice oa t.owners.length oc)) 7 (.int .i64 t.ver)) 8 (.int .i64 t.gen)) 9 (.string ⟨t.st.a.toArray⟩)) 10 (.string ⟨t.st.c.toArray⟩)) 11 (.int .i64 t.st.ph)) 12 (.int .i64 t.st.st)) 13 (.int .i64 t.st.we)) 14 (.int .i64 t.st.si);unfold jE;rw[h9];simp only[Mt,Mu,Mv]
theorem mz{x:LC}{r}(h:x.grownBy w r)(hg:x.heap.size<=g)(t a b c d oa oc):x.grownBy (jE w g t a b c d oa oc) r:=bi (bi (bi (bi (bi (bi (bi (bi (bi (bi (bi (bi (bi (bi (bi (h) hg _ _) hg _ _) hg _ _) hg _ _) hg _ _) hg _ _) hg _ _) hg _ _) hg _ _) hg _ _) hg _ _) hg _ _) hg _ _) hg _ _) hg _ _
theorem eF.ver1{time ver acts}(h:eF w S v time ver acts)(n):eF (w.setCell ⟨S,2,none⟩ (.int .i64 n)) S v time n acts:=ak h 2 _
theorem eF.gr{time ver acts r}(h:eF w S v time ver acts)(hg:w.grownBy w' r)(hr:some S≠r):eF w' S v time ver acts:=(hg.block S (MF.1 h).1 hr).trans h
theorem fM.gr{i r}(h:fM w g i v)(hg:w.grownBy w' r)(hr:some g≠r):fM w' g i v:=(hg.block g (MF.1 h).1 hr).trans h
theorem lW(w:LC)(g o s):w.grownBy (mV w g o s) (some g):=ap (ap (ap (ap (ap (ap (az _ _) _ _) _ _) _ _) _ _) _ _) _ _
theorem Gx{l}(h:bk w l v)(hk:∀ a x,v.ownBlock=some a.block->w.cell? a=some x->w'.cell? a=some x):bk w' l v:=by
 refine⟨h.1,?_⟩;rcases h.2 with h | ⟨b,off,c,rfl,h1,h2,h3⟩
 ·exact .inl h
 ·exact .inr ⟨b,off,c,rfl,h1,h2,fun i x hx=>⟨hk _ _ rfl (h3 i x hx).1,hk _ _ rfl (h3 i x hx).2⟩⟩
structure kU (w:LC) (ok:Nat->Prop) (S:Nat) (v:Value) (time acts:Int) (y:V) (yo:List aL) (im:Lz) (sps:List dN) (vg pg:Nat) (a2 b2:Option Addr) (c2 d2:Nat) (ma sa:Option Addr) (mc sc:Nat) (t:Th) (a b:Option Addr) (c d:Nat) (oa:Option Addr) (oc:Nat) (ver:Int) (wr:LC):Prop where
 th:fN wr w.heap.size t a b c d oa oc
 res:fN wr (w.heap.size+2) dT none none 0 0 none 0
 val:KY wr vg y a2 c2 b2 d2
 spec:fM wr pg im (.slice sa sps.length sc)
 srv:eF wr S v time ver acts
 gb:w.grownBy wr (some S)
 inY:In wr (bg ok w.heap.size (w.heap.size+3)) y (.agg (KV y a2 c2 b2 d2))
 own:aB wr (bg ok w.heap.size (w.heap.size+3)) yo (.slice ma yo.length mc)
 stp:bk wr sps (.slice sa sps.length sc)
 new:∀ k,(Value.slice sa sps.length sc).ownBlock=some k->w.heap.size+3<=k
 low:S < w.heap.size
 nok:¬ok S
 vg3:w.heap.size+3<=vg
 pg3:w.heap.size+3<=pg
theorem kU.bel{time acts yo im sps vg pg a2 b2 c2 d2 ma sa mc sc t a b oa oc ver}{wr':LC}(h:kU w ok S v time acts y yo im sps vg pg a2 b2 c2 d2 ma sa mc sc t a b c d oa oc ver wr)(hb:La wr wr'):kU w ok S v time acts y yo im sps vg pg a2 b2 c2 d2 ma sa mc sc t a b c d oa oc ver wr':=
 ⟨h.th.bel hb,h.res.bel hb,af hb h.val,h.spec.bel hb,h.srv.bel hb,am h.gb (aq hb),h.inY.bel hb,h.own.bel hb,h.stp.bel hb,h.new,h.low,h.nok,h.vg3,h.pg3⟩
theorem kU.gr{time acts yo im sps vg pg a2 b2 c2 d2 ma sa mc sc t a b oa oc ver}{wr':LC}{r}(h:kU w ok S v time acts y yo im sps vg pg a2 b2 c2 d2 ma sa mc sc t a b c d oa oc ver wr)(hg:wr.grownBy wr' (some r))(hr:r=S\/r=w.heap.size){t' a9 b9 c9 d9 oa9 oc9 ver'}(ht:fN wr' w.heap.size t' a9 b9 c9 d9 oa9 oc9)(hs:eF wr' S v time ver' acts):kU w ok S v time acts y yo im sps vg pg a2 b2 c2 d2 ma sa mc sc t' a9 b9 c9 d9 oa9 oc9 ver' wr':=by
 have h1:=h.low;have h2:=h.vg3;have h3:=h.pg3;have hok:∀ k,bg ok w.heap.size (w.heap.size+3) k->some k≠some r:=by
  intro k hk e;cases e;rcases hk with hk | hk
  ·rcases hr with rfl | rfl
   ·exact h.nok hk.1
   ·exact Nat.lt_irrefl _ hk.2
  ·omega
 refine⟨ht,h.res.gr hg (fun e=>by cases e;omega),h.val.grown hg (fun e=>by cases e;omega),h.spec.gr hg (fun e=>by cases e;omega),hs,?_,h.inY.grownR hg hok,h.own.grownR hg hok,?_,h.new,h.low,h.nok,h.vg3,h.pg3⟩
 ·exact⟨hg.os.trans h.gb.os,hg.tape.trans h.gb.tape,hg.output.trans h.gb.output,MH h.gb.size hg.size,fun k hk hr'=>(hg.block k (MI hk h.gb.size) (fun e=>by
   cases e;rcases hr with rfl | rfl
   ·exact hr' rfl
   ·omega)).trans (h.gb.block k hk hr')⟩
 ·refine Gx h.stp fun a x e hx=>?_;have h4:=h.new _ e;rw[<-hx];have h5:a.block < wr.heap.size:=World.block_lt_of_cell? wr a hx;have h6:=hg.block a.block h5 (fun e=>by cases e;omega);simp only[World.cell?,h6]
theorem kU.verS{time acts yo im sps vg pg a2 b2 c2 d2 ma sa mc sc t a b oa oc ver}(h:kU w ok S v time acts y yo im sps vg pg a2 b2 c2 d2 ma sa mc sc t a b c d oa oc ver wr)(n):kU w ok S v time acts y yo im sps vg pg a2 b2 c2 d2 ma sa mc sc t a b c d oa oc n (wr.setCell ⟨S,2,none⟩ (.int .i64 n)):=
 h.gr (r:=S) (ap (az _ _) _ _) (.inl rfl) (h.th.gr (ap (az _ _) _ _) (fun e=>by cases e;exact Nat.lt_irrefl _ h.low)) (h.srv.ver1 n)
theorem kU.verT{time acts yo im sps vg pg a2 b2 c2 d2 ma sa mc sc t a b oa oc ver}(h:kU w ok S v time acts y yo im sps vg pg a2 b2 c2 d2 ma sa mc sc t a b c d oa oc ver wr)(n):kU w ok S v time acts y yo im sps vg pg a2 b2 c2 d2 ma sa mc sc { t with ver:=n } a b c d oa oc ver (wr.setCell ⟨w.heap.size,7,none⟩ (.int .i64 n)):=
 h.gr (r:=w.heap.size) (ap (az _ _) _ _) (.inr rfl) (h.th.ver n) (h.srv.gr (ap (az _ _) _ _) (fun e=>by cases e;exact Nat.lt_irrefl _ h.low))
theorem kU.genT{time acts yo im sps vg pg a2 b2 c2 d2 ma sa mc sc t a b oa oc ver}(h:kU w ok S v time acts y yo im sps vg pg a2 b2 c2 d2 ma sa mc sc t a b c d oa oc ver wr)(n):kU w ok S v time acts y yo im sps vg pg a2 b2 c2 d2 ma sa mc sc { t with gen:=n } a b c d oa oc ver (wr.setCell ⟨w.heap.size,8,none⟩ (.int .i64 n)):=
 h.gr (r:=w.heap.size) (ap (az _ _) _ _) (.inr rfl) (h.th.gen n) (h.srv.gr (ap (az _ _) _ _) (fun e=>by cases e;exact Nat.lt_irrefl _ h.low))
theorem kU.staT{time acts yo im sps vg pg a2 b2 c2 d2 ma sa mc sc t a b oa oc ver}(h:kU w ok S v time acts y yo im sps vg pg a2 b2 c2 d2 ma sa mc sc t a b c d oa oc ver wr)(s):kU w ok S v time acts y yo im sps vg pg a2 b2 c2 d2 ma sa mc sc { t with st:=s } a b c d oa oc ver (mV wr w.heap.size 9 s):=
 h.gr (r:=w.heap.size) (lW _ _ _ _) (.inr rfl) (h.th.sta s) (h.srv.gr (lW _ _ _ _) (fun e=>by cases e;exact Nat.lt_irrefl _ h.low))
theorem fY:∀ (L0:List (List Value)),(∀ c∈L0,c.length=15)->L0.flatten.length=L0.length * 15
 | [],_=>rfl
 | c :: r,h=>by
  rw[List.flatten_cons,Mx,fY r (fun x hx=>h x (by simp[hx])),h c (by simp),My];omega
theorem nd:∀ (L0:List (List Value)) (i:Nat),(∀ c∈L0,c.length=15)->L0.flatten.take (i * 15)=(L0.take i).flatten
 | [],i,_=>by simp
 | c :: r,0,_=>by simp
 | c :: r,i+1,h=>by
  rw[List.flatten_cons,List.take_succ_cons,List.flatten_cons,List.take_append,MD (by rw[h c (by simp)];omega),h c (by simp),show (i+1) * 15 - 15=i * 15 by omega,nd r i (fun x hx=>h x (by simp[hx]))]
theorem mF:∀ (L0:List (List Value)) (i:Nat),(∀ c∈L0,c.length=15)->L0.flatten.drop (i * 15)=(L0.drop i).flatten
 | [],i,_=>by simp
 | c :: r,0,_=>by simp
 | c :: r,i+1,h=>by
  rw[List.flatten_cons,List.drop_succ_cons,List.drop_append,List.drop_of_length_le (by rw[h c (by simp)];omega),h c (by simp),show (i+1) * 15 - 15=i * 15 by omega,mF r i (fun x hx=>h x (by simp[hx])),List.nil_append]
theorem oN:∀ (L0:List (List Value)) (i j:Nat) (c:List Value),(∀ c∈L0,c.length=15)->L0[i]?=some c->j < 15->L0.flatten[i * 15+j]?=c[j]?
 | [],i,j,c,_,h,_=>by simp at h
 | c' :: r,0,j,c,hl,h,hj=>by
  simp only[List.getElem?_cons_zero,Option.some.injEq]at h;subst h;rw[List.flatten_cons,List.getElem?_append_left (by rw[hl c' (by simp)];omega)];simp
 | c' :: r,i+1,j,c,hl,h,hj=>by
  simp only[List.getElem?_cons_succ]at h;rw[List.flatten_cons,List.getElem?_append_right (by rw[hl c' (by simp)];omega),hl c' (by simp),show (i+1) * 15+j - 15=i * 15+j by omega];exact oN r i j c (fun x hx=>hl x (by simp[hx])) h hj
theorem uX:∀ (L0:List (List Value)) (i j:Nat) (c:List Value) (v:Value),(∀ c∈L0,c.length=15)->L0[i]?=some c->j < 15->L0.flatten.set (i * 15+j) v=(L0.set i (c.set j v)).flatten
 | [],i,j,c,v,_,h,_=>by simp at h
 | c' :: r,0,j,c,v,hl,h,hj=>by
  simp only[List.getElem?_cons_zero,Option.some.injEq]at h;subst h;rw[List.flatten_cons,Mu,List.flatten_cons,Nat.zero_mul,Nat.zero_add,List.set_append_left _ _ (by rw[hl c' (by simp)];omega)]
 | c' :: r,i+1,j,c,v,hl,h,hj=>by
  simp only[List.getElem?_cons_succ]at h;rw[List.flatten_cons,Mv,List.flatten_cons,List.set_append_right _ _ (by rw[hl c' (by simp)];omega),hl c' (by simp),show (i+1) * 15+j - 15=i * 15+j by omega,uX r i j c v (fun x hx=>hl x (by simp[hx])) h hj]
def dm (w:LC) (B:Nat) (ok:Nat->Prop) (ths:List Th) (v:Value):Prop:=
 ∃ L0:List (List Value),L0.length=ths.length/\w.ownsRow B 44 15 v ths.length L0.flatten /\
  ∀ (i:Nat) (t:Th) (cs:List Value),ths[i]?=some t->L0[i]?=some cs->∃ a b c d oa oc,cs=cu t a b c d oa oc/\cQ w ok t a b c d oa oc
theorem dm.fifteen{ths:List Th}{L0:List (List Value)}(hl:L0.length=ths.length)(h:∀ (i:Nat) (t:Th) (cs:List Value),ths[i]?=some t->L0[i]?=some cs->∃ a b c d oa oc,cs=cu t a b c d oa oc/\cQ w ok t a b c d oa oc):∀ c∈L0,c.length=15:=by
 intro c hc;obtain⟨i,hi,rfl⟩:=List.getElem_of_mem hc;obtain⟨_,_,_,_,_,_,e,-⟩:=h i (ths[i]'(by omega)) L0[i] (Mw (by omega)) (Mw hi);rw[e];rfl
theorem dm.form{ths}(h:dm w B ok ths v):∃ a c,v=.slice a ths.length c:=by
 obtain⟨L0,-,h,-⟩:=h;rcases h.2 with⟨rfl,e⟩ | ⟨g,cap,cur,rfl,-⟩
 ·rw[e];exact⟨_,_,rfl⟩
 ·exact⟨_,_,rfl⟩
theorem dm.bel{ths}(h:dm w B ok ths v)(hb:La w w'):dm w' B ok ths v:=by
 obtain⟨L0,h1,h2,h3⟩:=h;refine⟨L0,h1,bM h2 fun g hg=>hb.block g (bY h2 hg).2,fun i t cs ht hc=>?_⟩;obtain⟨a,b,c,d,oa,oc,e,k⟩:=h3 i t cs ht hc;exact⟨a,b,c,d,oa,oc,e,k.bel hb⟩
theorem dm.ths{ths}(h:dm w B ok ths v):cO w (fun k=>ok k\/v.ownBlock=some k) ths v:=by
 obtain⟨L0,h1,h2,h3⟩:=h;have h15:=dm.fifteen h1 h3;rcases h2.2 with⟨rfl,e⟩ | ⟨g,cap,cur,rfl,k1,k2,k3,k4,k5,k6⟩
 ·have:ths=[]:=List.length_eq_zero_iff.1 e;subst this;exact⟨by simp,.inl ⟨rfl,none,rfl⟩⟩
 ·unfold maxLen at k4;refine⟨by omega,.inr ⟨g,0,cap,rfl,k3,k4,fun i t ht=>⟨.inr rfl,?_⟩⟩⟩;have hi:i < ths.length:=(Mz.1 ht).1;obtain⟨a,b,c,d,oa,oc,e,k⟩:=h3 i t (L0[i]'(by omega)) ht (Mw (by omega));refine⟨a,b,c,d,oa,oc,fun j u hu=>?_,k.weak fun k hk=>.inl hk⟩;have hj:j < 15:=(Mz.1 hu).1;have e1:=oN L0 i j _ h15 (Mw (by omega)) hj;rw[e,hu,<-k6,List.getElem?_take,if_pos (by omega)]at e1;rw[Nat.zero_add];simpa [World.cell?,k2] using e1
variable {ok':Nat->Prop}
variable {n i:Nat}
def uv (xs:List Value):Nat->List Value->List Value
 | _,[]=>xs
 | o,v :: r=>uv (xs.set o v) (o+1) r
theorem vO{cap size}{e:TypeId}(hn:0 < n):∀ (vs:List Value) (o:Nat) (w:LC) (xs:List Value),w.ownsRow B e size (.slice (some ⟨g,0,none⟩) n cap) n xs->(w.setCells g o vs).ownsRow B e size (.slice (some ⟨g,0,none⟩) n cap) n (uv xs o vs)
 | [],_,_,_,h=>h
 | v :: vs,o,w,xs,h=>vO hn vs (o+1) _ _ (jQ h hn o v)
theorem sJ:∀ (vs:List Value) (j:Nat) (L0:List (List Value)) (i:Nat) (c:List Value),(∀ c∈L0,c.length=15)->L0[i]?=some c->j+vs.length<=15->uv L0.flatten (i * 15+j) vs=(L0.set i (uv c j vs)).flatten
 | [],j,L0,i,c,_,hc,_=>by
  obtain⟨hl,rfl⟩:=Mz.1 hc;simp[uv]
 | v :: vs,j,L0,i,c,h15,hc,hj=>by
  obtain⟨hl,e⟩:=Mz.1 hc;have h15':∀ x∈L0.set i (c.set j v),x.length=15:=by
   intro x hx;rcases List.mem_or_eq_of_mem_set hx with hx | rfl
   ·exact h15 x hx
   ·rw[List.length_set];exact h15 c (by rw[<-e];exact List.getElem_mem hl)
  simp only[My]at hj;rw[uv,uv,uX L0 i j c v h15 hc (by omega),show i * 15+j+1=i * 15+(j+1) by omega,sJ vs (j+1) (L0.set i (c.set j v)) i (c.set j v) h15' (by rw[List.getElem?_set_self hl]) (by omega),List.set_set]
theorem jz(g):∀ (vs:List Value) (o:Nat) (w:LC),w.grownBy (w.setCells g o vs) (some g)
 | [],_,w=>az _ _
 | v :: vs,o,w=>am (ap (az _ _) _ _) (jz g vs (o+1) _)
theorem cQ.gr{t a b oa oc r}(h:cQ w ok t a b c d oa oc)(hg:w.grownBy w' r)(hr:∀ k,ok k->some k≠r):cQ w' ok t a b c d oa oc:=⟨h.name,h.val.grownR hg hr,h.own.grownR hg hr⟩
theorem dm.puts{ths cap j t t' vs}(h:dm w B ok ths (.slice (some ⟨g,0,none⟩) ths.length cap))(hg:¬ok g)(ht:ths[i]?=some t)(hj:j+vs.length<=15)(hs:∀ a b c d oa oc,cQ w ok t a b c d oa oc->∃ a' b' c' d' oa' oc',uv (cu t a b c d oa oc) j vs=cu t' a' b' c' d' oa' oc'/\cQ w ok t' a' b' c' d' oa' oc'):dm (w.setCells g (i * 15+j) vs) B ok (ths.set i t') (.slice (some ⟨g,0,none⟩) ths.length cap):=by
 obtain⟨L0,h1,h2,h3⟩:=h;have h15:=dm.fifteen h1 h3;obtain⟨hi,e⟩:=Mz.1 ht;have hk:∀ k,ok k->some k≠some g:=fun k hk e=>by cases e;exact hg hk
 have hci:L0[i]?=some (L0[i]'(by omega)):=Mw (by omega);obtain⟨a,b,c,d,oa,oc,e1,k1⟩:=h3 i t _ ht hci;obtain⟨a',b',c',d',oa',oc',e2,k2⟩:=hs a b c d oa oc k1;have h4:=vO (by omega) vs (i * 15+j) w _ h2;rw[sJ vs j L0 i _ h15 hci hj,e1,e2]at h4;refine⟨L0.set i (cu t' a' b' c' d' oa' oc'),by simpa using h1,by rw[List.length_set];exact h4,fun k x cs hx hc=>?_⟩;rw[List.getElem?_set]at hx hc;split at hx
 ·rename_i hik;subst hik;rw[if_pos rfl,if_pos (by omega)]at hc;try rw[if_pos hi]at hx
  cases hx;cases hc;exact⟨_,_,_,_,_,_,rfl,k2.gr (jz g vs _ w) hk⟩
 ·rename_i hik;rw[if_neg hik]at hc;obtain⟨a9,b9,c9,d9,oa9,oc9,e9,k9⟩:=h3 k x cs hx hc;exact⟨_,_,_,_,_,_,e9,k9.gr (jz g vs _ w) hk⟩
theorem dm.sta{ths cap t}(h:dm w B ok ths (.slice (some ⟨g,0,none⟩) ths.length cap))(hg:¬ok g)(ht:ths[i]?=some t)(s):dm (mV w g (i * 15+9) s) B ok (ths.set i { t with st:=s }) (.slice (some ⟨g,0,none⟩) ths.length cap):=
 h.puts (t':={ t with st:=s }) (vs:=[.string ⟨s.a.toArray⟩,.string ⟨s.c.toArray⟩,.int .i64 s.ph,.int .i64 s.st,.int .i64 s.we,.int .i64 s.si]) hg ht (by simp) fun a b c d oa oc k=>⟨a,b,c,d,oa,oc,rfl,⟨k.name,k.val,k.own⟩⟩
theorem dm.put{ths cap t}(h:dm w B ok ths (.slice (some ⟨g,0,none⟩) ths.length cap))(hg:¬ok g)(ht:ths[i]?=some t){t' a b oa oc}(k:cQ w ok t' a b c d oa oc):dm (w.setCells g (i * 15) (cu t' a b c d oa oc)) B ok (ths.set i t') (.slice (some ⟨g,0,none⟩) ths.length cap):=by
 have:=h.puts (j:=0) (t':=t') (vs:=cu t' a b c d oa oc) hg ht (by simp[cu]) fun a9 b9 c9 d9 oa9 oc9 _=>⟨a,b,c,d,oa,oc,rfl,k⟩
 rwa [Nat.add_zero]at this
theorem dm.gr{ths r}(h:dm w B ok ths v)(hg:w.grownBy w' r)(hr:∀ k,ok k->some k≠r)(hv:∀ k,v.ownBlock=some k->some k≠r):dm w' B ok ths v:=by
 obtain⟨L0,h1,h2,h3⟩:=h;refine⟨L0,h1,bM h2 fun g hg9=>hg.block g (bY h2 hg9).2 (hv g hg9),fun i t cs ht hc=>?_⟩;obtain⟨a,b,c,d,oa,oc,e,k⟩:=h3 i t cs ht hc;exact⟨a,b,c,d,oa,oc,e,k.gr hg hr⟩
theorem dm.weak{ths}(h:dm w B ok ths v)(hk:∀ k,ok k->ok' k):dm w B ok' ths v:=by
 obtain⟨L0,h1,h2,h3⟩:=h;refine⟨L0,h1,h2,fun i t cs ht hc=>?_⟩;obtain⟨a,b,c,d,oa,oc,e,k⟩:=h3 i t cs ht hc;exact⟨a,b,c,d,oa,oc,e,k.weak hk⟩
theorem dm.low{ths}(h:dm w B ok ths v):dm w B (Lj ok w) ths v:=by
 obtain⟨L0,h1,h2,h3⟩:=h;refine⟨L0,h1,h2,fun i t cs ht hc=>?_⟩;obtain⟨a,b,c,d,oa,oc,e,k⟩:=h3 i t cs ht hc;exact⟨a,b,c,d,oa,oc,e,k.low⟩
theorem dm.at{ths t}(h:dm w B ok ths v)(ht:ths[i]?=some t):∃ g cap,v=.slice (some ⟨g,0,none⟩) ths.length cap/\B<=g/\g < w.heap.size/\ths.length<=cap/\cap<=9223372036854775807/\(∀ j,w.frozen? ⟨g,j,none⟩=false)/\(∀ j,j < cap * 15->(w.cell? ⟨g,j,none⟩).isSome=true)/\∃ (a b:Option Addr) (c d:Nat) (oa:Option Addr) (oc:Nat),(∀ j u,(cu t a b c d oa oc)[j]?=some u->w.cell? ⟨g,i * 15+j,none⟩=some u)/\cQ w ok t a b c d oa oc:=by
 obtain⟨L0,h1,h2,h3⟩:=h;have h15:=dm.fifteen h1 h3;have hi:i < ths.length:=(Mz.1 ht).1;rcases h2.2 with⟨rfl,e⟩ | ⟨g,cap,cur,rfl,k1,k2,k3,k4,k5,k6⟩
 ·omega
 ·unfold maxLen at k4;obtain⟨a,b,c,d,oa,oc,e,k⟩:=h3 i t (L0[i]'(by omega)) ht (Mw (by omega));refine⟨g,cap,rfl,k1,(MF.1 k2).1,k3,k4,fun j=>by simp[World.frozen?,k2],fun j hj=>?_,a,b,c,d,oa,oc,fun j u hu=>?_,k⟩
  ·simp only[World.cell?,k2];rw[show (none:Option Nat)=none from rfl];simp[k5,hj]
  ·have hj:j < 15:=(Mz.1 hu).1;have e1:=oN L0 i j _ h15 (Mw (by omega)) hj;rw[e,hu,<-k6,List.getElem?_take,if_pos (by omega)]at e1;simpa [World.cell?,k2] using e1
def IT (S:Nat) (v:Value):Nat->Prop:=fun k=>k≠S/\v.ownBlock≠some k
structure bo (w:LC) (ok:Nat->Prop) (S:Nat) (v:Value) (st:Nu):Prop where
 blk:eF w S v st.time st.ver st.acts
 row:dm w (S+1) ok st.ths v
 no:∀ k,ok k->IT S v k
structure kS (w w':LC) (S:Nat) (v:Value):Prop where
 os:w'.os=w.os
 tape:w'.tape=w.tape
 output:w'.output=w.output
 size:w.heap.size<=w'.heap.size
 block:∀ k,k < w.heap.size->k≠S->v.ownBlock≠some k->w'.heap[k]?=w.heap[k]?
theorem eE(h:La w w'):kS w w' S v:=⟨h.os,h.tape,h.output,h.size,fun k hk _ _=>h.block k hk⟩
theorem kS.gb{a r}(k:kS a w S v)(h:w.grownBy w' (some r))(hr:r=S\/v.ownBlock=some r\/a.heap.size<=r):kS a w' S v:=⟨h.os.trans k.os,h.tape.trans k.tape,h.output.trans k.output,MH k.size h.size,fun j hj h1 h2=>(h.block j (MI hj k.size) fun e=>by
 cases e;rcases hr with hr | hr | hr
 ·exact h1 hr
 ·exact h2 hr
 ·omega).trans (k.block j hj h1 h2)⟩
theorem kS.bel{a}(k:kS a w S v)(h:La w w'):kS a w' S v:=⟨h.os.trans k.os,h.tape.trans k.tape,h.output.trans k.output,MH k.size h.size,fun j hj h1 h2=>(h.block j (MI hj k.size)).trans (k.block j hj h1 h2)⟩
theorem kS.trans{a b c v'}(h:kS a b S v)(k:kS b c S v')(hv:∀ g,v'.ownBlock=some g->v.ownBlock=some g\/a.heap.size<=g):kS a c S v:=⟨k.os.trans h.os,k.tape.trans h.tape,k.output.trans h.output,MH h.size k.size,fun g hg h1 h2=>(k.block g (MI hg h.size) h1 (fun e=>by
 rcases hv g e with e2 | e2
 ·exact h2 e2
 ·omega)).trans (h.block g hg h1 h2)⟩
theorem bo.bel{st:Nu}(h:bo w ok S v st)(hb:La w w'):bo w' ok S v st:=⟨h.blk.bel hb,h.row.bel hb,h.no⟩
theorem bo.low{st:Nu}(h:bo w ok S v st):bo w (Lj ok w) S v st:=⟨h.blk,h.row.low,fun k hk=>h.no k hk.1⟩
theorem bo.weak{st:Nu}(h:bo w ok S v st):bo w (IT S v) S v st:=⟨h.blk,h.row.weak h.no,fun _ hk=>hk⟩
theorem bo.ne{st:Nu}(h:bo w ok S v st)(hg:v.ownBlock=some g):S < g/\g < w.heap.size:=by
 obtain⟨L0,-,h2,-⟩:=h.row;have:=bY h2 hg;omega
def Fa (ok:Nat->Prop) (B S:Nat) (v:Value):Nat->Prop:=fun k=>(ok k\/B<=k)/\IT S v k
theorem bo.imp{st:Nu}(h:bo w ok S v st)(hk:∀ k,ok k->ok' k)(hn:∀ k,ok' k->IT S v k):bo w ok' S v st:=⟨h.blk,h.row.weak hk,hn⟩
theorem bo.o{st:Nu}(h:bo w (fun k=>ok k/\k < B) S v st):bo w (Fa ok B S v) S v st:=h.imp (fun k hk=>⟨.inl hk.1,h.no k hk⟩) fun _ hk=>hk.2
theorem bo.gr{st:Nu}(h:bo w ok S v st)(hg:w.grownBy w' (some g))(h1:g≠S)(h2:v.ownBlock≠some g)(h3:∀ k,ok k->k≠g):bo w' ok S v st:=
 ⟨h.blk.gr hg (fun e=>by cases e;exact h1 rfl),h.row.gr hg (fun k hk e=>by cases e;exact h3 g hk rfl) (fun k hk e=>by cases e;exact h2 hk),h.no⟩
theorem bo.new{a:LC}{st:Nu}(h:bo w (fun k=>ok k/\k < a.heap.size) S v st)(hg:w.grownBy w' (some g))(hS:S < a.heap.size)(hv:∀ k,v.ownBlock=some k->k < a.heap.size)(ha:a.heap.size<=g):bo w' (fun k=>ok k/\k < a.heap.size) S v st:=
 h.gr hg (by omega) (fun e=>by have:=hv g e;omega) (fun k hk=>by have:=hk.2;omega)
theorem bo.grS{st:Nu}{time ver acts}(h:bo w ok S v st)(hg:w.grownBy w' (some S))(hb:eF w' S v time ver acts):bo w' ok S v { st with time:=time,ver:=ver,acts:=acts }:=
 ⟨hb,h.row.gr hg (fun k hk e=>by cases e;exact(h.no S hk).1 rfl) (fun k hk e=>by cases e;have:=h.ne hk;omega),h.no⟩
theorem bo.sta{cap}{st:Nu}{t}(h:bo w ok S (.slice (some ⟨g,0,none⟩) st.ths.length cap) st)(ht:st.ths[i]?=some t)(s):bo (mV w g (i * 15+9) s) ok S (.slice (some ⟨g,0,none⟩) st.ths.length cap) { st with ths:=st.ths.set i { t with st:=s } }:=by
 have hn:=h.ne (g:=g) rfl;exact⟨h.blk.gr (lW _ _ _ _) (fun e=>by cases e;omega),h.row.sta (fun hk=>(h.no g hk).2 rfl) ht s,h.no⟩
theorem cE(w:LC)(g)(r:uf):w.grownBy (fE w g r) (some g):=ap (ap (ap (az _ _) _ _) _ _) _ _
theorem iD(b){ty:TypeId}{f:Nat × Nat}:∀ (vs:List Value) (o:Nat) (w:LC) (cur:Array Value),w.heap[b]?=some (.cells cur ty f)->o+vs.length<=cur.size->(w.setCells b o vs).heap[b]?=some (.cells (cur.toList.take o++vs++cur.toList.drop (o+vs.length)).toArray ty f)
 | [],o,w,cur,h,hl=>by
  simp only[World.setCells,List.append_nil,List.length_nil,Nat.add_zero,List.take_append_drop];exact h
 | v :: vs,o,w,cur,h,hl=>by
  simp only[My]at hl;have h1:=iD b vs (o+1) (w.setCell ⟨b,o,none⟩ v) (cur.setIfInBounds o v) (ak h o v) (by rw[Array.size_setIfInBounds];omega);rw[World.setCells,h1,Array.toList_setIfInBounds,list_seg_step cur.toList o v vs (by simpa using hl),My]
theorem A8{P:Program}(w)(t e ty:TypeId)(z cs)(ht:P.underlying t=some (.slice e))(hv:∀ w,(zeroValue e).run P w=.ok z w)(hz:z.cells=cs.toArray)(h1:∀ v∈cs,v.oneCell'=true)(b o c)(hc:∀ j,j < cs.length->(w.cell? ⟨b,o+j,none⟩).isSome=true)(hf:∀ j,j < cs.length->w.frozen? ⟨b,o+j,none⟩=false):(Builtin.clear_ #[t] ty #[.slice (some ⟨b,o,none⟩) 1 c]).run P w=.ok (.tuple #[]) (w.setCells b o cs):=by
 have hzc:(Builtin.zeroCells z.cells 1).toList=cs:=by
  rw[hz];simp[Builtin.zeroCells];apply List.ext_getElem
  ·simp
  ·intro k h1 h2;simp[Nat.mod_eq_of_lt h2,Mw h2]
 have hst:=run_storeCells_cells (P:=P) b o cs 0 w (by simpa using hc) (by simpa using hf) h1;simp only[Nat.add_zero]at hst;simp[Builtin.clear_,run_underlying ht,hv,hzc,hst]
def rn:List Value:=[.string ⟨#[]⟩,.int .i64 0,.int .i64 0,.string ⟨#[]⟩,.slice none 0 0,.slice none 0 0,.slice none 0 0,.int .i64 0,.int .i64 0,.string ⟨#[]⟩,.string ⟨#[]⟩,.int .i64 0,.int .i64 0,.int .i64 0,.int .i64 0]
theorem yp(L0:List (List Value))(i):(L0.eraseIdx i).flatten=(L0.take i).flatten++(L0.drop (i+1)).flatten:=by
 rw[List.eraseIdx_eq_take_drop_succ,List.flatten_append]
theorem Dh(w:LC)(B:Nat)(ok ths)(g cap i j:Nat)(hj:j=i+1)(h:dm w B ok ths (.slice (some ⟨g,0,none⟩) ths.length cap))(hg:¬ok g)(hi:i < ths.length):Calls prog 36 #[.slice (some ⟨g,0,none⟩) ths.length cap,.int .i64 i,.int .i64 j] w fun e w'=>e=.returned (.slice (some ⟨g,0,none⟩) (ths.length - 1) cap)/\dm w' B ok (ths.eraseIdx i) (.slice (some ⟨g,0,none⟩) (ths.length - 1) cap)/\w.grownBy w' (some g):=by
 obtain⟨L0,h1,h2,h3⟩:=h;have h15:=dm.fifteen h1 h3;rcases h2.2 with⟨e,-⟩ | ⟨g',cap',cur,e,k1,k2,k3,k4,k5,k6⟩
 ·cases e
 cases e;unfold maxLen at k4;have LT:=fY L0 h15;obtain⟨news,hnews⟩:∃ news,news=L0.flatten.drop (j * 15):=⟨_,rfl⟩
 have hnl:news.length=(ths.length - j) * 15:=by rw[hnews,MB,LT,h1];omega
 have hone:∀ u∈L0.flatten,u.oneCell'=true:=by
  intro u hu;obtain⟨c,hc,hu⟩:=List.mem_flatten.1 hu;obtain⟨k,hk,rfl⟩:=List.getElem_of_mem hc;obtain⟨_,_,_,_,_,_,e,-⟩:=h3 k (ths[k]'(by omega)) L0[k] (Mw (by omega)) (Mw hk);rw[e]at hu;exact jS _ _ _ _ _ _ _ u hu
 have LV:∀ (W:LC) (cr:Array Value),W.heap[g]?=some (.cells cr 44 (0,0))->∀ k,W.cell? ⟨g,k,none⟩=cr[k]?:=fun W cr hW k=>by simp[World.cell?,hW]
 have hfz:∀ (W:LC) (cr:Array Value),W.heap[g]?=some (.cells cr 44 (0,0))->∀ k,W.frozen? ⟨g,k,none⟩=false:=fun W cr hW k=>by simp[World.frozen?,hW]
 obtain⟨AD,hAD,hsrc⟩:∃ AD:Addr,(if cap=j then some (⟨g,0,none⟩:Addr) else some ⟨g,j * 15,none⟩)=some AD/\Ll (∀ k u,news[k]?=some u->w.drew.cell? (AD.add k)=some u):=by
  by_cases hcap:cap=j
  ·refine⟨⟨g,0,none⟩,by simp[hcap],aa fun k u hu=>?_⟩;have h0:news.length=0:=by rw[hnl];omega
   rw[List.length_eq_zero_iff.1 h0]at hu;simp at hu
  ·refine⟨⟨g,j * 15,none⟩,by simp[hcap],aa fun k u hu=>?_⟩;rw[hnews,List.getElem?_drop,<-k6,List.getElem?_take]at hu;split at hu
   ·rw[Addr.add_lit];show w.cell? _=_;rw[LV w cur k2];simpa using hu
   ·cases hu
 obtain⟨W1,hW1⟩:∃ W1,W1=w.drew.setCells g (0+i * 15) news:=⟨_,rfl⟩
 have hb1:W1.heap[g]?=some (.cells (cur.toList.take (i * 15)++news++cur.toList.drop (i * 15+news.length)).toArray 44 (0,0)):=by
  rw[hW1,Nat.zero_add];exact iD g news (i * 15) w.drew cur k2 (by rw[hnl,k5];have:(i+(ths.length - j)) * 15<=cap * 15:=Nat.mul_le_mul_right _ (by omega);rw[Nat.add_mul]at this;exact this)
 have hn1:i+(ths.length - j)=ths.length - 1:=by omega
 have hl1:(cur.toList.take (i * 15)++news++cur.toList.drop (i * 15+news.length)).length=cap * 15:=by
  have a1:i * 15<=cap * 15:=Nat.mul_le_mul_right _ (by omega);have a2:(i+(ths.length - j)) * 15<=cap * 15:=Nat.mul_le_mul_right _ (by omega);rw[Nat.add_mul]at a2;simp only[Mx,MC,MB,Array.length_toList,hnl,k5];omega
 obtain⟨i0,hi0,hz0,hz1⟩:∃ j,prog.info? 44=some j/\j.zero=some (.agg rn.toArray)/\j.size=15:=by
  have h9:=Sg;cases e:prog.info? 44 with
  | none=>rw[e]at h9;cases h9
  | some j=>
   rw[e]at h9;simp only[Option.map_some,Option.some.injEq,Prod.mk.injEq]at h9;exact⟨j,rfl,h9.1,h9.2.1⟩
 have hzv:∀ w,(zeroValue 44).run prog w=.ok (.agg rn.toArray) w:=fun w=>by
  first | rfl | kernel_rfl | (simp[zeroValue,go_sem];rfl) | (simp[zeroValue,go_sem,Tryz.t44,rn])
 have hcl:∀ ty,(Builtin.clear_ #[27] ty #[.slice (some ⟨g,(i+(ths.length - j)) * 15,none⟩) (ths.length - (i+(ths.length - j))) (cap - (i+(ths.length - j)))]).run prog W1=.ok (.tuple #[]) (W1.setCells g ((i+(ths.length - j)) * 15) rn):=fun ty=>by
  rw[show ths.length - (i+(ths.length - j))=1 by omega];refine A8 W1 _ 44 ty (.agg rn.toArray) rn (by kernel_rfl) hzv (by simp[Value.cells,rn]) (by decide) g _ _ (fun k hk=>?_) (fun k hk=>hfz W1 _ hb1 _);have a2:(i+(ths.length - j)) * 15+15<=cap * 15:=by
   have:(i+(ths.length - j)+1) * 15<=cap * 15:=Nat.mul_le_mul_right _ (by omega);omega
  have hk':k < 15:=hk;rw[LV W1 _ hb1,Array.getElem?_eq_getElem (by simp only[List.size_toArray];rw[hl1];omega)];rfl
 have hfin:Ll (dm (W1.setCells g ((i+(ths.length - j)) * 15) rn) B ok (ths.eraseIdx i) (.slice (some ⟨g,0,none⟩) (ths.length - 1) cap)/\w.grownBy (W1.setCells g ((i+(ths.length - j)) * 15) rn) (some g)):=aa (by
  have hgb1:w.grownBy W1 (some g):=by rw[hW1];exact am (oD (az w _)) (jz g _ _ _)
  have hgb:w.grownBy (W1.setCells g ((i+(ths.length - j)) * 15) rn) (some g):=am hgb1 (jz g _ _ _);refine⟨?_,hgb⟩;have a2:(i+(ths.length - j)) * 15+15<=cap * 15:=by
   have:(i+(ths.length - j)+1) * 15<=cap * 15:=Nat.mul_le_mul_right _ (by omega);omega
  have hb2:=iD g rn ((i+(ths.length - j)) * 15) W1 _ hb1 (by simp only[List.size_toArray];rw[hl1];exact a2);have hel:(ths.eraseIdx i).length=ths.length - 1:=by rw[List.length_eraseIdx,if_pos hi]
  have hce:(L0.eraseIdx i).length=ths.length - 1:=by rw[List.length_eraseIdx,if_pos (by omega),h1]
  refine⟨L0.eraseIdx i,by rw[hce,hel],?_,?_⟩
  ·rw[hel];have h15e:∀ c∈L0.eraseIdx i,c.length=15:=fun c hc=>h15 c (List.mem_of_mem_eraseIdx hc);refine⟨by rw[fY _ h15e,hce],.inr ⟨g,cap,_,rfl,k1,hb2,by omega,by unfold maxLen;exact k4,?_,?_⟩⟩
   ·simp only[List.size_toArray,Mx,MC,MB,hl1];have:rn.length=15:=rfl;rw[this];omega
   ·simp only[List.toList_toArray];have e1:(ths.length - 1) * 15=(i+(ths.length - j)) * 15:=by rw[hn1]
    have a3:(i+(ths.length - j)) * 15<=(cur.toList.take (i * 15)++news++cur.toList.drop (i * 15+news.length)).length:=by rw[hl1];omega
    rw[e1,List.append_assoc,List.take_append_of_le_length (by rw[MC];omega),List.take_take,Nat.min_self];have e2:(cur.toList.take (i * 15)++news).length=(i+(ths.length - j)) * 15:=by
     have a1:i * 15<=cap * 15:=Nat.mul_le_mul_right _ (by omega);rw[Mx,MC,Array.length_toList,hnl,k5,Nat.add_mul];omega
    rw[List.take_append_of_le_length (by omega),MD (by omega),yp,hnews,mF L0 j h15,hj,<-nd L0 i h15,<-k6,List.take_take,Nat.min_eq_left (by omega)]
  ·intro k x cs hx hc;have hk9:∀ k,ok k->some k≠some g:=fun k hk e=>by cases e;exact hg hk
   rw[List.getElem?_eraseIdx]at hx hc;split at hx
   ·rename_i hki;rw[if_pos hki]at hc;obtain⟨a,b,c,d,oa,oc,e,k⟩:=h3 k x cs hx hc;exact⟨a,b,c,d,oa,oc,e,k.gr hgb hk9⟩
   ·rename_i hki;rw[if_neg hki]at hc;obtain⟨a,b,c,d,oa,oc,e,k⟩:=h3 (k+1) x cs hx hc;exact⟨a,b,c,d,oa,oc,e,k.gr hgb hk9⟩)
 have s1:Ll (news.length=(ths.length - j) * 15):=aa hnl;have s2:Ll (∀ u∈news,u.oneCell'=true):=aa fun u hu=>hone u (by rw[hnews]at hu;exact List.mem_of_mem_drop hu);have s3:Ll (∀ t,t < news.length->(w.drew.cell? ⟨g,0+i * 15+t,none⟩).isSome=true/\w.drew.frozen? ⟨g,0+i * 15+t,none⟩=false):=aa (by
  intro t ht;rw[hnl]at ht;refine⟨?_,hfz w cur k2 _⟩;show (w.cell? _).isSome=true;have a2:(i+(ths.length - j)) * 15<=cap * 15:=Nat.mul_le_mul_right _ (by omega);rw[Nat.add_mul]at a2;rw[LV w cur k2,Array.getElem?_eq_getElem (by rw[k5];omega)];rfl)
 have hW:Ll (W1=w.drew.setCells g (0+i * 15) news):=aa hW1;have HI0:=aa hi0;have HZ1:=aa hz1;have hi1:j<=ths.length:=by omega
 have hic:i<=cap:=by omega
 have hjc:j<=cap:=by omega
 have hne:((i:Int) == (j:Int))=false:=by rw[MO];omega
 have q1:(0:Int)<=(i:Int):=by omega
 have q2:(i:Int)<=(j:Int):=by omega
 have q3:(j:Int)<=(ths.length:Int):=by omega
 have q4:(ths.length:Int)<=(cap:Int):=by omega
 clear hb1 hl1 hnl hone LV hfz hnews hzv h3 h15 h2 k2 k5 k6 LT hW1 hi0 hz0 hz1 h1;have y1:¬ths.length=i:=by omega
 have y2:¬cap=i+(ths.length - j):=by omega
 have y3:i+(ths.length - j)<=ths.length:=by omega
 have y4:¬ths.length=i+(ths.length - j):=by omega
 have y5:i+(ths.length - j)<=cap:=by omega
 have HJ:=aa hj;have HIL:=aa hi;clear hj hi hn1;have mixed:prog.follows .mixedOrders=true:=by kernel_rfl
 go_enter func36,ntmps36;go_upto_region 5 with fail
 go_region_law (refine step_append_room rfl (.tmp 22) (.tmp 25) 27 rfl 44 i0 15 (by kernel_rfl) HI0.o HZ1.o g 0 i cap (by simp[Act.eval,Act.put]) AD (ths.length - j) (cap - j) news (by simp[Act.eval,Act.put]) s1.o hsrc.o s2.o (by have:=HJ.o;have:=HIL.o;omega) s3.o ?_;rw[<-hW.o])
 go_wp2
 go_ret;exact⟨by rw[show ths.length - 1=i+(ths.length - j) by have:=HJ.o;have:=HIL.o;omega];rfl,hfin.o⟩
def oA (s:Nu) (i:Nat) (t:Th):Nu × uf:=({ s with ths:=s.ths.eraseIdx i },⟨0,t.ver,[]⟩)
theorem BM(w:LC)(ok)(S:Nat)(v)(st:Nu)(i:Nat)(t)(h:bo w ok S v st)(ht:st.ths[i]?=some t)(h8:st.ths.length<=8):Calls prog 21 #[.pointer (some ⟨S,0,none⟩),.int .i64 i] w fun e w'=>∃ v',e=.returned (fX (oA st i t).2)/\bo w' (Fa ok w.heap.size S v') S v' (oA st i t).1/\v'.ownBlock=v.ownBlock/\kS w w' S v:=by
 obtain⟨W1,hW1⟩:∃ W,W=w.alloc (.cells #[.int .i64 0,.int .i64 0,.string ⟨#[]⟩] 32):=⟨_,rfl⟩
 have Y1:Ll (La w W1):=aa (by rw[hW1];exact ae _ _);have RB:Ll (dK W1 w.heap.size 0 0 []):=aa (by rw[hW1];exact MN _ _);have HW1:=aa hW1;have S1:=aa (h.low.bel Y1.o);have HNE:=aa (fun g (hg:v.ownBlock=some g)=>h.ne hg);have SLT:Ll (S < w.heap.size):=aa h.blk.lt;have hi:=(Mz.1 ht).1;obtain⟨g,cap,rfl,hgB,hgl,hlc,hc9,hf,Mb,a,b,c,d,oa,oc,hcl,hk⟩:=S1.o.row.at ht;have GL:Ll (S < g/\g < w.heap.size):=aa (HNE.o g rfl);have q1:(0:Int)<=(i:Int):=by omega
 have q2:(i:Int) < (st.ths.length:Int):=by omega
 have hw1:IntKind.i64.wrap ((i:Int)+1)=((i+1:Nat):Int):=by rw[IntKind.wrap_i64];omega
 obtain⟨j,hj⟩:∃ j,j=i+1:=⟨_,rfl⟩
 rw[<-hj]at hw1;have DEL:=aa (Dh W1 (S+1) _ st.ths g cap i j hj S1.o.row (fun hk=>(S1.o.no g hk).2 rfl) hi);have t7:W1.cell? ⟨g,i * 15+7,none⟩=some (.int .i64 t.ver):=hcl 7 _ rfl;clear hW1 h ht hcl hk hf Mb hgB hgl hj;obtain⟨s0,s1,s2,s3⟩:=S1.o.blk.c;go_enter func21,ntmps21;go_upto_region 1 with fail
 rw[<-HW1.o];go_upto_region 2 with fail
 go_upto_region 3 with (go_at_call 36;refine DEL.o.mono ?_;rintro e w3 ⟨rfl,h1,hb⟩;have G3:=aa hb;have T3:=aa h1;clear h1 hb;obtain⟨s0,s1,s2,s3⟩:=(S1.o.blk.gr G3.o (by intro e;cases e;have:=GL.o;omega)).c;obtain⟨f0,f1,f2,f3⟩:=(S1.o.blk.gr G3.o (by intro e;cases e;have:=GL.o;omega)).f)
 clear f0 f1 f2 f3 t7;have SB3:=aa (S1.o.blk.gr G3.o (by intro e;cases e;have:=GL.o;omega));obtain⟨W4,hW4⟩:∃ W,W=w3.setCell ⟨S,0,none⟩ (.slice (some ⟨g,0,none⟩) (st.ths.length - 1) cap):=⟨_,rfl⟩
 have G4:Ll (w3.grownBy W4 (some S)):=aa (by rw[hW4];exact ap (az _ _) _ _);have SB4:Ll (eF W4 S (.slice (some ⟨g,0,none⟩) (st.ths.length - 1) cap) st.time st.ver st.acts):=aa (by rw[hW4];exact ak SB3.o 0 _);rw[<-hW4];clear hW4;have S4:Ll (bo W4 (Lj ok w) S (.slice (some ⟨g,0,none⟩) (st.ths.length - 1) cap) { st with ths:=st.ths.eraseIdx i }):=aa ⟨SB4.o,T3.o.gr G4.o (fun k hk e=>by cases e;exact(S1.o.no S hk).1 rfl) (fun k hk e=>by have h5:some g=some k:=hk;cases e;cases h5;have:=GL.o;omega),fun k hk=>S1.o.no k hk⟩;have F4:=aa (((eE (S:=S) (v:=.slice (some ⟨g,0,none⟩) st.ths.length cap) Y1.o).gb G3.o (.inr (.inl rfl))).gb G4.o (.inl rfl));have RB4:Ll (dK W4 w.heap.size 0 0 []):=aa ((G4.o.block _ (MI (MF.1 RB.o).1 G3.o.size) (by intro e;cases e;exact Nat.lt_irrefl _ SLT.o)).trans ((G3.o.block _ (MF.1 RB.o).1 (by intro e;cases e;exact Nat.lt_irrefl _ GL.o.2)).trans RB.o));have n0_:=RB4.o.c;have Z9:=aa (RB4.o.set ⟨0,t.ver,[]⟩);have S9:=aa ((S4.o.new (a:=w) (cE _ _ ⟨0,t.ver,[]⟩) SLT.o (fun k hk=>by cases hk;exact GL.o.2) (MG _)).o);have F9:=aa (F4.o.gb (cE W4 w.heap.size ⟨0,t.ver,[]⟩) (.inr (.inr (MG _))));go_wp2
 have z0_:=Z9.o.c;refine MM (v:=.agg #[.int .i64 0,.int .i64 t.ver,.string ⟨#[]⟩]) ?_ rfl ?_
 ·simp only[fE]at z0_;simp[results,results21,go_sem,z0_]
 ·exact⟨rfl,_,S9.o,rfl,F9.o⟩
def iG (s:Nu) (i:Nat) (t:Th) (order:Int):Nu × uf:=if (dA s.time t order).2≠0 then (s,bz (dA s.time t order).2) else ({ s with ths:=s.ths.set i { t with st:=(dA s.time t order).1 } },⟨0,(dA s.time t order).1.ph,[]⟩)
theorem FZ(w:LC)(ok)(S:Nat)(v)(st:Nu)(i:Nat)(order:Int)(t)(h:bo w ok S v st)(ht:st.ths[i]?=some t):Calls prog 22 #[.pointer (some ⟨S,0,none⟩),.int .i64 i,.int .i64 order] w fun e w'=>e=.returned (fX (iG st i t order).2)/\bo w' (Fa ok w.heap.size S v) S v (iG st i t order).1/\kS w w' S v:=by
 obtain⟨W1,hW1⟩:∃ W,W=w.alloc (.cells #[.int .i64 0,.int .i64 0,.string ⟨#[]⟩] 32):=⟨_,rfl⟩
 have Y1:Ll (La w W1):=aa (by rw[hW1];exact ae _ _);have RB:Ll (dK W1 w.heap.size 0 0 []):=aa (by rw[hW1];exact MN _ _);have HW1:=aa hW1;have S1:=aa (h.low.bel Y1.o);have HNE:=aa (fun g (hg:v.ownBlock=some g)=>h.ne hg);have SLT:Ll (S < w.heap.size):=aa h.blk.lt;have hi:=(Mz.1 ht).1;obtain⟨g,cap,rfl,hgB,hgl,hlc,hc9,hf,Mb,a,b,c,d,oa,oc,hcl,hk⟩:=S1.o.row.at ht;have HT:=aa ht;have GL:Ll (S < g/\g < w.heap.size):=aa (HNE.o g rfl);have q1:(0:Int)<=(i:Int):=by omega
 have q2:(i:Int) < (st.ths.length:Int):=by omega
 obtain⟨r,re,hr⟩:∃ r re,dA st.time t order=(r,re):=⟨_,_,rfl⟩
 have NX:=uN W1 _ S _ st.time st.ver st.acts order t a b c d oa oc S1.o.blk hk;rw[hr]at NX;have NEXT:=aa NX;have HR:=aa hr;have CS:=aa Mb;have t0:W1.cell? ⟨g,i * 15,none⟩=some (.string ⟨t.name.toArray⟩):=hcl 0 _ rfl;have t1:W1.cell? ⟨g,i * 15+1,none⟩=some (.int .i64 t.value.kind):=hcl 1 _ rfl;have t2:W1.cell? ⟨g,i * 15+2,none⟩=some (.int .i64 t.value.n):=hcl 2 _ rfl;have t3:W1.cell? ⟨g,i * 15+3,none⟩=some (.string ⟨t.value.s.toArray⟩):=hcl 3 _ rfl;have t4:W1.cell? ⟨g,i * 15+4,none⟩=some (.slice a t.value.keys.length c):=hcl 4 _ rfl;have t5:W1.cell? ⟨g,i * 15+5,none⟩=some (.slice b t.value.l.length d):=hcl 5 _ rfl;have t6:W1.cell? ⟨g,i * 15+6,none⟩=some (.slice oa t.owners.length oc):=hcl 6 _ rfl;have t7:W1.cell? ⟨g,i * 15+7,none⟩=some (.int .i64 t.ver):=hcl 7 _ rfl;have t8:W1.cell? ⟨g,i * 15+8,none⟩=some (.int .i64 t.gen):=hcl 8 _ rfl;have t9:W1.cell? ⟨g,i * 15+9,none⟩=some (.string ⟨t.st.a.toArray⟩):=hcl 9 _ rfl;have t10:W1.cell? ⟨g,i * 15+10,none⟩=some (.string ⟨t.st.c.toArray⟩):=hcl 10 _ rfl;have t11:W1.cell? ⟨g,i * 15+11,none⟩=some (.int .i64 t.st.ph):=hcl 11 _ rfl;have t12:W1.cell? ⟨g,i * 15+12,none⟩=some (.int .i64 t.st.st):=hcl 12 _ rfl;have t13:W1.cell? ⟨g,i * 15+13,none⟩=some (.int .i64 t.st.we):=hcl 13 _ rfl;have t14:W1.cell? ⟨g,i * 15+14,none⟩=some (.int .i64 t.st.si):=hcl 14 _ rfl;clear NX hr hW1 h ht hcl hk hf Mb hgB hgl;have s0_:=S1.o.blk.c;go_enter func22,ntmps22;go_upto_region 1 with fail
 rw[<-HW1.o];go_upto_region 2 with (go_at_call 18;refine NEXT.o.mono ?_;rintro e w3 ⟨rfl,hb⟩;have B3:=aa hb;clear hb)
 clear t0 t1 t2 t3 t4 t5 t6 t7 t8 t9 t10 t11 t12 t13 t14;obtain⟨W4,hW4⟩:∃ W,W=w3.alloc (.cells (Li r) 42):=⟨_,rfl⟩
 have A4:Ll (La w3 W4):=aa (by rw[hW4];exact ae _ _);have XB:Ll (de W4 w3.heap.size r):=aa (by rw[hW4];exact MN _ _);rw[<-hW4];clear hW4;have B14:=aa (ab B3.o A4.o);have S4:=aa (S1.o.bel B14.o);have RB4:=aa (RB.o.bel B14.o);have Y4:=aa (ab Y1.o B14.o);by_cases hre:re=0
 rotate_left
 ·have e0:(re != 0)=true:=by simpa using hre
  have e1:(re == 0)=false:=by rw[MO];exact hre
  have R:Ll (iG st i t order=(st,bz re)):=aa (by unfold iG;rw[HR.o,if_pos hre]);have RF:=aa (dh W4 re);clear hre;go_wp2_with (go_at_call 12;refine RF.o.mono ?_;rintro e w5 ⟨rfl,hb⟩;have B5:=aa hb;clear hb;have n0_:=(RB4.o.bel B5.o).c;have Z9:=aa ((RB4.o.bel B5.o).set (bz re));have BZ:=aa (pJ (ab Y4.o B5.o) (show w.heap.size<=w.heap.size by omega) (bz re)))
  have z0_:=Z9.o.c;have S9:=aa (((S4.o.bel B5.o).new (a:=w) (cE _ _ (bz re)) SLT.o (fun k hk=>(HNE.o k hk).2) (MG _)).o);refine MM (v:=.agg #[.int .i64 re,.int .i64 0,.string ⟨#[]⟩]) ?_ rfl ?_
  ·simp only[fE,bz]at z0_;simp[results,results22,go_sem,z0_]
  ·rw[R.o];exact⟨rfl,S9.o,eE BZ.o⟩
 subst hre;have R:Ll (iG st i t order=({ st with ths:=st.ths.set i { t with st:=r } },⟨0,r.ph,[]⟩)):=aa (by unfold iG;rw[HR.o,if_neg (by simp)]);have IS:Ll (∀ j,j < cap * 15->(W4.cell? ⟨g,j,none⟩).isSome=true):=aa (fun j hj=>by
  obtain⟨u,hu⟩:=Option.isSome_iff_exists.1 (CS.o j hj);rw[ah B14.o hu];rfl)
 have x0_:=XB.o.c;have s0_:=S4.o.blk.c;obtain⟨g4,cap4,e4,-,-,-,-,hf4,-,a4,b4,c4,d4,oa4,oc4,hcl4,-⟩:=S4.o.row.at HT.o;obtain⟨rfl,rfl⟩:g4=g/\cap4=cap:=by simp only[Value.slice.injEq,Option.some.injEq,Addr.mk.injEq]at e4;exact⟨e4.1.1.symm,e4.2.2.symm⟩
 have n9:=hcl4 9 _ rfl;have n10:=hcl4 10 _ rfl;have n11:=hcl4 11 _ rfl;have n12:=hcl4 12 _ rfl;have n13:=hcl4 13 _ rfl;have n14:=hcl4 14 _ rfl;have m9:=hf4 (i * 15+9);have m10:=hf4 (i * 15+10);have m11:=hf4 (i * 15+11);have m12:=hf4 (i * 15+12);have m13:=hf4 (i * 15+13);have m14:=hf4 (i * 15+14);clear hf4 hcl4 e4;go_upto_region 4 with fail
 go_region
 have K9:=aa (S4.o.sta HT.o r);have G9:=aa (lW W4 g4 (i * 15+9) r);have F9:Ll (kS w (mV W4 g4 (i * 15+9) r) S (.slice (some ⟨g4,0,none⟩) st.ths.length cap4)):=aa ((eE Y4.o).gb G9.o (.inr (.inl rfl)));have X9:Ll (de (mV W4 g4 (i * 15+9) r) w3.heap.size r):=aa ((G9.o.block _ XB.o.lt (fun e=>by cases e;have:=GL.o;have:=Y1.o.size;have:=B3.o.size;omega)).trans XB.o);have R9:Ll (dK (mV W4 g4 (i * 15+9) r) w.heap.size 0 0 []):=aa ((G9.o.block _ (MF.1 RB4.o).1 (fun e=>by cases e;have:=GL.o;omega)).trans RB4.o);obtain⟨W9,hW9⟩:∃ W,W=(mV W4 g4 (i * 15+9) r).drew:=⟨_,rfl⟩
 have K10:=aa (K9.o.bel (aC _ 1));have X10:=aa (X9.o.bel (aC _ 1));have R10:=aa (R9.o.bel (aC _ 1));have F10:=aa (F9.o.bel (aC _ 1));change Exit.then _ _ Exit.normal _ (mV W4 g4 (i * 15+9) r).drew;rw[show (mV W4 g4 (i * 15+9) r).drewN 1=W9 from hW9.symm]at K10 X10 R10 F10;rw[<-hW9];clear hW9 K9 X9 R9 F9 G9;have x0_:=X10.o.c;have n0_:=R10.o.c;have Z9:=aa (R10.o.set ⟨0,r.ph,[]⟩);have S9:=aa ((K10.o.new (a:=w) (cE _ _ ⟨0,r.ph,[]⟩) SLT.o (fun k hk=>(HNE.o k hk).2) (MG _)).o);have F11:=aa (F10.o.gb (cE W9 w.heap.size ⟨0,r.ph,[]⟩) (.inr (.inr (MG _))));go_wp2
 have z0_:=Z9.o.c;refine MM (v:=.agg #[.int .i64 0,.int .i64 r.ph,.string ⟨#[]⟩]) ?_ rfl ?_
 ·simp only[fE]at z0_;simp[results,results22,go_sem,z0_]
 ·rw[R.o];exact⟨rfl,S9.o,F11.o⟩
theorem zh(w:LC)(B n i vb r cells one)(h15:one.length=15)(hone:∀ u∈one,u.oneCell'=true)(h:w.ownsRow B 44 15 r n cells)(hv:w.heap[vb]?=some (.cells one.toArray 44))(hi:i<=n)(hn:n<=4000000)(hB:B<=w.heap.size)(hvb:∀ g,r.ownBlock=some g->vb≠g)(h1:∀ u∈cells,u.oneCell'=true):Calls prog 39 #[r,.int .i64 i,.slice (some ⟨vb,0,none⟩) 1 1] w fun e w'=>∃ g cap,e=.returned (.slice (some ⟨g,0,none⟩) (n+1) cap)/\w'.ownsRow B 44 15 (.slice (some ⟨g,0,none⟩) (n+1) cap) (n+1) (cells.take (i * 15)++one++cells.drop (i * 15))/\w.grownBy w' r.ownBlock/\(r.ownBlock=some g\/w.heap.size<=g):=by
 by_cases he:i=n
 ·subst he;refine(wI w B i vb r cells one h15 hone h hv hn hB).mono ?_;rintro e w' ⟨g,cap,rfl,h2,h3,h4⟩;refine⟨g,cap,rfl,?_,h3,h4.imp id fun e=>by omega⟩;rw[MD (by rw[h.1];omega),List.drop_eq_nil_of_le (by rw[h.1];omega),List.append_nil];exact h2
 ·rcases h.2 with⟨rfl,h0⟩ | ⟨g,c,cur,rfl,g1,g2,g3,g4,g5,g6⟩
  ·omega
  ·by_cases hroom:n+1<=c
   ·refine(tO w B g n c i vb cur cells one h15 hone (by omega) hroom g4 g1 g2 g5 g6 h.1 hv (hvb g rfl) h1).mono ?_;rintro e w' ⟨rfl,h2,h3⟩;exact⟨g,c,rfl,h2,h3,.inl rfl⟩
   ·refine(ts w B g n c i vb cur cells one h15 hone (by omega) g3 (by omega) hn hB g2 g6 h.1 hv h1).mono ?_;rintro e w' ⟨G,rfl,h2,h3⟩;exact⟨_,G,rfl,h2,⟨h3.os,h3.tape,h3.output,h3.size,fun k hk _=>h3.block k hk (by simp)⟩,.inr (MG _)⟩
theorem dm.ins(w:LC)(B ok ths v i vb t a b c d oa oc)(h:dm w B ok ths v)(hv:w.heap[vb]?=some (.cells (cu t a b c d oa oc).toArray 44))(ht:cQ w ok t a b c d oa oc)(hi:i<=ths.length)(hn:ths.length<=4000000)(hB:B<=w.heap.size)(hvb:∀ g,v.ownBlock=some g->vb≠g)(hok:∀ k,ok k->v.ownBlock≠some k):Calls prog 39 #[v,.int .i64 i,.slice (some ⟨vb,0,none⟩) 1 1] w fun e w'=>∃ g cap,e=.returned (.slice (some ⟨g,0,none⟩) (ths.length+1) cap)/\dm w' B ok (ths.take i++t :: ths.drop i) (.slice (some ⟨g,0,none⟩) (ths.length+1) cap)/\w.grownBy w' v.ownBlock/\(v.ownBlock=some g\/w.heap.size<=g):=by
 obtain⟨L0,h1,h2,h3⟩:=h;have h15:=dm.fifteen h1 h3;have hone:∀ u∈L0.flatten,u.oneCell'=true:=by
  intro u hu;obtain⟨c,hc,hu⟩:=List.mem_flatten.1 hu;obtain⟨k,hk,rfl⟩:=List.getElem_of_mem hc;obtain⟨_,_,_,_,_,_,e,-⟩:=h3 k (ths[k]'(by omega)) L0[k] (Mw (by omega)) (Mw hk);rw[e]at hu;exact jS _ _ _ _ _ _ _ u hu
 refine(zh w B ths.length i vb v L0.flatten (cu t a b c d oa oc) rfl (jS _ _ _ _ _ _ _) h2 hv hi hn hB hvb hone).mono ?_;rintro e w' ⟨g,cap,rfl,q1,q2,q3⟩;refine⟨g,cap,rfl,⟨L0.take i++cu t a b c d oa oc :: L0.drop i,?_,?_,?_⟩,q2,q3⟩
 ·simp only[Mx,My,MC,MB];omega
 ·have e1:(ths.take i++t :: ths.drop i).length=ths.length+1:=by simp only[Mx,My,MC,MB];omega
  rw[e1,List.flatten_append,List.flatten_cons,<-nd L0 i h15,<-mF L0 i h15,<-List.append_assoc];exact q1
 ·have hk9:∀ k,ok k->some k≠v.ownBlock:=fun k hk e=>hok k hk e.symm;intro j x cs hx hc;have e1:(ths.take i).length=i:=by rw[MC];omega
  have e2:(L0.take i).length=i:=by rw[MC];omega
  by_cases hj:j < i
  ·rw[List.getElem?_append_left (by omega),List.getElem?_take_of_lt hj]at hx hc;obtain⟨a,b,c,d,oa,oc,e,k⟩:=h3 j x cs hx hc;exact⟨a,b,c,d,oa,oc,e,k.gr q2 hk9⟩
  ·rw[List.getElem?_append_right (by omega)]at hx hc;rw[e1]at hx;rw[e2]at hc;by_cases hji:j=i
   ·subst hji;rw[Nat.sub_self]at hx hc;simp only[List.getElem?_cons_zero,Option.some.injEq]at hx hc;subst hx;subst hc;exact⟨a,b,c,d,oa,oc,rfl,ht.gr q2 hk9⟩
   ·obtain⟨m,hm⟩:∃ m,j - i=m+1:=⟨j - i - 1,by omega⟩
    rw[hm]at hx hc;simp only[List.getElem?_cons_succ,List.getElem?_drop]at hx hc;obtain⟨a,b,c,d,oa,oc,e,k⟩:=h3 _ x cs hx hc;exact⟨a,b,c,d,oa,oc,e,k.gr q2 hk9⟩
def iB (time:Int) (l:List Th) (k:Nat):List Th:=(l.take k).map (fun t=>{ t with st:=(dA time t 0).1 })++l.drop k
theorem rz(time l k):(iB time l k).length=l.length:=by
 simp only[iB,Mx,List.length_map,MC,MB];omega
theorem wR{time l t}(h:l[k]?=some t):(iB time l k)[k]?=some t:=by
 have hk:=(Mz.1 h).1;rw[iB,List.getElem?_append_right (by simp only[List.length_map,MC];omega),List.length_map,MC,Nat.min_eq_left (by omega),Nat.sub_self,List.getElem?_drop];simpa using h
theorem C9{time l t}(h:l[k]?=some t):(iB time l k).set k { t with st:=(dA time t 0).1 }=iB time l (k+1):=by
 obtain⟨hk,e⟩:=Mz.1 h;rw[iB,iB,List.set_append_right _ _ (by simp only[List.length_map,MC];omega),List.length_map,MC,Nat.min_eq_left (by omega),Nat.sub_self,ME hk,Mu,List.take_succ_eq_append_getElem hk,List.map_append,e,List.append_assoc];rfl
structure nE (w:LC) (ok:Nat->Prop) (S:Nat) (v:Value) (st:Nu) (n:Int) (k:Nat) (wr:LC):Prop where
 srv:bo wr (Lj ok w) S v { st with time:=st.time+n,ths:=iB (st.time+n) st.ths k }
 fr:kS w wr S v
 rb:dK wr w.heap.size 0 0 []
theorem nE.bel{wr'}{st:Nu}{n}(h:nE w ok S v st n k wr)(hb:La wr wr'):nE w ok S v st n k wr':=⟨h.srv.bel hb,h.fr.bel hb,h.rb.bel hb⟩
theorem Ct{W5 W7 cap}{st:Nu}{n t r re}(h:nE w ok S (Value.slice (some ⟨g,0,none⟩) st.ths.length cap) st n k W5)(hb:La W5 W7)(ht:st.ths[k]?=some t)(hr:dA (st.time+n) t 0=(r,re))(hS:S < w.heap.size)(hg:S < g/\g < w.heap.size):nE w ok S (Value.slice (some ⟨g,0,none⟩) st.ths.length cap) st n (k+1) (mV W7 g (k * 15+9) r):=by
 have h2:=h.bel hb;have G:=lW W7 g (k * 15+9) r;have s2:=h2.srv;refine⟨⟨s2.blk.gr G (by intro e;have:=Option.some.inj e;omega),?_,s2.no⟩,h2.fr.gb G (.inr (.inl rfl)),(G.block _ (MF.1 h2.rb).1 (by intro e;have:=Option.some.inj e;omega)).trans h2.rb⟩;have h9:dm W7 (S+1) (Lj ok w) (iB (st.time+n) st.ths k) (.slice (some ⟨g,0,none⟩) (iB (st.time+n) st.ths k).length cap):=by rw[rz];exact s2.row
 have h8:=h9.sta (fun hk=>(s2.no g hk).2 rfl) (wR ht) r;rw[rz]at h8;rw[show r=(dA (st.time+n) t 0).1 by rw[hr],C9 ht]at h8;rw[show r=(dA (st.time+n) t 0).1 by rw[hr]];exact h8
theorem GE(w ok S v)(st:Nu)(n)(h:bo w ok S v st)(h8:st.ths.length<=8)(htm:0<=st.time/\st.time<=1099511627776):Calls prog 13 #[.pointer (some ⟨S,0,none⟩),.int .i64 n] w fun e w'=>e=.returned (fX (iz st n).2)/\bo w' (Fa ok w.heap.size S v) S v (iz st n).1/\kS w w' S v:=by
 obtain⟨W1,hW1⟩:∃ W,W=w.alloc (.cells #[.int .i64 0,.int .i64 0,.string ⟨#[]⟩] 32):=⟨_,rfl⟩
 have Y1:Ll (La w W1):=aa (by rw[hW1];exact ae _ _);have RB:Ll (dK W1 w.heap.size 0 0 []):=aa (by rw[hW1];exact MN _ _);have HW1:=aa hW1;have S1:=aa (h.low.bel Y1.o);have F1:=aa (eE (S:=S) (v:=v) Y1.o);have HNE:=aa (fun g (hg:v.ownBlock=some g)=>h.ne hg);have SLT:Ll (S < w.heap.size):=aa h.blk.lt;have hwS:IntKind.i64.wrap (1099511627776 - st.time)=1099511627776 - st.time:=by rw[IntKind.wrap_i64];omega
 have HTM:=aa htm;clear hW1 h htm;have s0_:=S1.o.blk.c;by_cases hn1:n < 1
 ·have R:Ll (iz st n=(st,bz 8)):=aa (by unfold iz;rw[if_pos (.inl hn1)]);go_enter func13,ntmps13;go_upto_region 1 with fail
  rw[<-HW1.o];have RF:=aa (dh W1 8);go_wp2_with (go_at_call 12;refine RF.o.mono ?_;rintro e w5 ⟨rfl,hb⟩;have B5:=aa hb;clear hb;have n0_:=(RB.o.bel B5.o).c;have Z9:=aa ((RB.o.bel B5.o).set (bz 8)))
  have z0_:=Z9.o.c;have S9:=aa (((S1.o.bel B5.o).new (a:=w) (cE _ _ (bz 8)) SLT.o (fun k hk=>(HNE.o k hk).2) (MG _)).o);have F9:=aa ((F1.o.bel B5.o).gb (cE w5 w.heap.size (bz 8)) (.inr (.inr (MG _))));refine MM (v:=.agg #[.int .i64 8,.int .i64 0,.string ⟨#[]⟩]) ?_ rfl ?_
  ·simp only[fE,bz]at z0_;simp[results,results13,go_sem,z0_]
  ·rw[R.o];exact⟨rfl,S9.o,F9.o⟩
 by_cases hn2:1099511627776 - st.time < n
 ·have R:Ll (iz st n=(st,bz 8)):=aa (by unfold iz;rw[if_pos (.inr hn2)]);go_enter func13,ntmps13;go_upto_region 1 with fail
  rw[<-HW1.o];have RF:=aa (dh W1 8);go_wp2_with (go_at_call 12;refine RF.o.mono ?_;rintro e w5 ⟨rfl,hb⟩;have B5:=aa hb;clear hb;have n0_:=(RB.o.bel B5.o).c;have Z9:=aa ((RB.o.bel B5.o).set (bz 8)))
  have z0_:=Z9.o.c;have S9:=aa (((S1.o.bel B5.o).new (a:=w) (cE _ _ (bz 8)) SLT.o (fun k hk=>(HNE.o k hk).2) (MG _)).o);have F9:=aa ((F1.o.bel B5.o).gb (cE w5 w.heap.size (bz 8)) (.inr (.inr (MG _))));refine MM (v:=.agg #[.int .i64 8,.int .i64 0,.string ⟨#[]⟩]) ?_ rfl ?_
  ·simp only[fE,bz]at z0_;simp[results,results13,go_sem,z0_]
  ·rw[R.o];exact⟨rfl,S9.o,F9.o⟩
 have R:Ll (iz st n=({ st with time:=st.time+n,ths:=st.ths.map fun t=>{ t with st:=(dA (st.time+n) t 0).1 } },⟨0,0,[]⟩)):=aa (by unfold iz;rw[if_neg (by rintro (h | h) <;> contradiction)]);have hwT:IntKind.i64.wrap (st.time+n)=st.time+n:=by have:=HTM.o;rw[IntKind.wrap_i64];omega
 obtain⟨g0,g1,g2,g3⟩:=S1.o.blk.f;go_enter func13,ntmps13;go_upto_region 1 with fail
 rw[<-HW1.o];go_upto_region 4 with fail
 clear g0 g1 g2 g3;obtain⟨W3,hW3⟩:∃ W,W=W1.setCell ⟨S,1,none⟩ (.int .i64 (st.time+n)):=⟨_,rfl⟩
 have I3:Ll (nE w ok S v st n 0 W3):=aa (by
  rw[hW3];have G:W1.grownBy (W1.setCell ⟨S,1,none⟩ (.int .i64 (st.time+n))) (some S):=ap (az _ _) _ _;exact⟨S1.o.grS (ver:=st.ver) (acts:=st.acts) G (ak S1.o.blk 1 _),F1.o.gb G (.inl rfl),(G.block _ (MF.1 RB.o).1 (by intro e;have:=Option.some.inj e;have:=SLT.o;omega)).trans RB.o⟩)
 rw[<-hW3];clear hW3 hn1 hn2 hwS hwT;obtain⟨va,vc,hform⟩:=S1.o.row.form;have s0_:=I3.o.srv.blk.c;subst hform;go_wp2
 go_loopg [32] st.ths.length (fun gk iv wr=>∃ k:Nat,k<=st.ths.length/\gk=st.ths.length - k/\iv=.int .i64 k/\Ll (nE w ok S (.slice va st.ths.length vc) st n k wr))
 case atStart=>exact⟨0,Nat.zero_le _,rfl,rfl,I3⟩
 case round=>
  obtain⟨k,hk,hgk,rfl,IK⟩:=hrel;have GK:=aa hgk;clear hgk;obtain⟨wo,hwo⟩:∃ wo,wo=wr:=⟨wr,rfl⟩
  subst hwo;by_cases hlt:k < st.ths.length
  ·obtain⟨t,ht⟩:∃ t,st.ths[k]?=some t:=⟨_,Mw hlt⟩
   have TK:=aa ht;have TKL:Ll ((iB (st.time+n) st.ths k)[k]?=some t):=aa (wR ht);obtain⟨g,cap,e9,hgB,hgl,hlc,hc9,hf,Mb,a,b,c,d,oa,oc,hcl,hkk⟩:=IK.o.srv.row.at TKL.o;obtain⟨rfl,rfl⟩:va=some ⟨g,0,none⟩/\cap=vc:=by simp only[Value.slice.injEq]at e9;exact⟨e9.1,e9.2.2.symm⟩
   have GL:Ll (S < g/\g < w.heap.size):=aa (HNE.o g rfl);have w2:(k:Int) < (st.ths.length:Int):=by omega
   have w3:(0:Int)<=(k:Int):=by omega
   obtain⟨r,re,hr⟩:∃ r re,dA (st.time+n) t 0=(r,re):=⟨_,_,rfl⟩
   have HR:=aa hr;have KK:=aa hkk;have t0:wo.cell? ⟨g,k * 15,none⟩=some (.string ⟨t.name.toArray⟩):=hcl 0 _ rfl;have t1:wo.cell? ⟨g,k * 15+1,none⟩=some (.int .i64 t.value.kind):=hcl 1 _ rfl;have t2:wo.cell? ⟨g,k * 15+2,none⟩=some (.int .i64 t.value.n):=hcl 2 _ rfl;have t3:wo.cell? ⟨g,k * 15+3,none⟩=some (.string ⟨t.value.s.toArray⟩):=hcl 3 _ rfl;have t4:wo.cell? ⟨g,k * 15+4,none⟩=some (.slice a t.value.keys.length c):=hcl 4 _ rfl;have t5:wo.cell? ⟨g,k * 15+5,none⟩=some (.slice b t.value.l.length d):=hcl 5 _ rfl;have t6:wo.cell? ⟨g,k * 15+6,none⟩=some (.slice oa t.owners.length oc):=hcl 6 _ rfl;have t7:wo.cell? ⟨g,k * 15+7,none⟩=some (.int .i64 t.ver):=hcl 7 _ rfl;have t8:wo.cell? ⟨g,k * 15+8,none⟩=some (.int .i64 t.gen):=hcl 8 _ rfl;have t9:wo.cell? ⟨g,k * 15+9,none⟩=some (.string ⟨t.st.a.toArray⟩):=hcl 9 _ rfl;have t10:wo.cell? ⟨g,k * 15+10,none⟩=some (.string ⟨t.st.c.toArray⟩):=hcl 10 _ rfl;have t11:wo.cell? ⟨g,k * 15+11,none⟩=some (.int .i64 t.st.ph):=hcl 11 _ rfl;have t12:wo.cell? ⟨g,k * 15+12,none⟩=some (.int .i64 t.st.st):=hcl 12 _ rfl;have t13:wo.cell? ⟨g,k * 15+13,none⟩=some (.int .i64 t.st.we):=hcl 13 _ rfl;have t14:wo.cell? ⟨g,k * 15+14,none⟩=some (.int .i64 t.st.si):=hcl 14 _ rfl;obtain⟨W5,hW5⟩:∃ W,W=wo.alloc (.cells (Ld t a c b d oa oc) 44):=⟨_,rfl⟩
   have A5:Ll (La wo W5):=aa (by rw[hW5];exact ae _ _);have XB:Ll (fN W5 wo.heap.size t a b c d oa oc):=aa (by rw[hW5];exact MN _ _);have HW5:=aa hW5;have IK5:=aa (IK.o.bel A5.o);have S5:=aa IK5.o.srv;have NX:Ll (∀ W,La W5 W->Calls prog 18 #[.pointer (some ⟨S,0,none⟩),.agg (Ld t a c b d oa oc),.int .i64 0] W fun e w'=>e=.returned (.tuple #[.agg (Li r),.int .i64 re])/\La W w'):=aa (fun W hb=>by
    have:=uN W _ S _ (st.time+n) st.ver st.acts 0 t a b c d oa oc (S5.o.blk.bel hb) ((KK.o.bel A5.o).bel hb);rw[HR.o]at this;exact this)
   clear hW5 ht hr hkk hcl hf Mb hgB hgl e9;go_upto_region 7 with fail
   rw[<-HW5.o];refine aD (fun wS=>La W5 wS) [13] (by kernel_rfl) (aC _ 1) (fun LI=>?_);refine WT.out ?_;iterate 7
    first
     | refine OJ 0 ?_ [1,2,3,11,12,13] LI ?_ ?_
     | refine OJ 1 ?_ [2,3,11,12,13] LI ?_ ?_
     | refine OJ 2 ?_ [3,11,12,13] LI ?_ ?_
     | refine OJ 3 ?_ [11,12,13] LI ?_ ?_
     | refine OJ 4 ?_ [11,12,13] LI ?_ ?_
     | refine OJ 5 ?_ [7,8,9,10,11,12,13] LI ?_ ?_
     | refine OJ 6 ?_ [7,8,9,10,11,12,13] LI ?_ ?_
    rotate_left
    ·intro wS LN;have s0_:=(S5.o.blk.bel LN).c;obtain⟨t0,t1,t2,t3,t4,t5,t6,t7,t8,t9,t10,t11,t12,t13,t14⟩:=(XB.o.bel LN).c;go_simp;all_goals with_reducible rfl
    simp only[av,List.set]
   repeat' (first
    | exact nl
    |(refine ON 7 (fun K hK=>?_) ?_
      go_simp;refine Lk (NX.o _ LI) fun w7q hb5=>?_;refine hK.out _ _ (ab LI hb5) (fun LJ=>?_);have B7:=aa LJ;clear hb5;clear hK K;replace LI:=LJ;clear LJ;try simp only[Act.put,Mt,Mu,Mv])
    |(refine OO 13 (fun K hK=>?_)
      have S7:=aa (S5.o.bel B7.o);obtain⟨g4,cap4,e4,-,-,-,-,hf4,-,a4,b4,c4,d4,oa4,oc4,hcl4,-⟩:=S7.o.row.at TKL.o;obtain⟨rfl,rfl⟩:g4=g/\cap4=cap:=by simp only[Value.slice.injEq,Option.some.injEq,Addr.mk.injEq]at e4;exact⟨e4.1.1.symm,e4.2.2.symm⟩
      have n9:=hcl4 9 _ rfl;have n10:=hcl4 10 _ rfl;have n11:=hcl4 11 _ rfl;have n12:=hcl4 12 _ rfl;have n13:=hcl4 13 _ rfl;have n14:=hcl4 14 _ rfl;have m9:=hf4 (k * 15+9);have m10:=hf4 (k * 15+10);have m11:=hf4 (k * 15+11);have m12:=hf4 (k * 15+12);have m13:=hf4 (k * 15+13);have m14:=hf4 (k * 15+14);clear hf4 hcl4 e4;go_simp;refine hK.out _ _ ?_;clear hK K;try simp only[Act.put,Mt,Mu,Mv])
    |(first
       | refine OJ 8 ?_ [9,10,11,12,13] (by exact LI) ?_ ?_
       | refine OJ 9 ?_ [11,12,13] (by exact LI) ?_ ?_
      rotate_left
      ·intro wS LN;go_simp;all_goals with_reducible rfl
      simp only[av,List.set])
    |(refine Pm 10 ?_ (by exact LI) ?_ ?_
      rotate_left
      ·intro wS;go_simp;all_goals with_reducible rfl
      simp only[av,List.set])
    |(first
       | refine OJ 11 ?_ [12,13] (by exact LI) ?_ ?_
       | refine OJ 12 ?_ [13] (by exact LI) ?_ ?_
      rotate_left
      ·intro wS LN;go_simp;all_goals with_reducible rfl
      simp only[av,List.set])
    | refine OL [7] ?_
    | fail)
   all_goals
    refine dn (by kernel_rfl) ?_;obtain⟨W9,hW9⟩:∃ W,W=((((((w7q.setCell ⟨g4,k * 15+9,none⟩ (.string ⟨r.a.toArray⟩)).setCell ⟨g4,k * 15+9+1,none⟩ (.string ⟨r.c.toArray⟩)).setCell ⟨g4,k * 15+9+2,none⟩ (.int .i64 r.ph)).setCell ⟨g4,k * 15+9+3,none⟩ (.int .i64 r.st)).setCell ⟨g4,k * 15+9+4,none⟩ (.int .i64 r.we)).setCell ⟨g4,k * 15+9+5,none⟩ (.int .i64 r.si)):=⟨_,rfl⟩
    have IK9:Ll (nE w ok S (Value.slice (some ⟨g4,0,none⟩) st.ths.length cap4) st n (k+1) W9):=aa (by rw[hW9];exact Ct IK5.o B7.o TK.o HR.o SLT.o GL.o);rw[<-hW9];clear hW9;go_wp2
    go_roundg (st.ths.length - (k+1))
    case measure=>rw[GK.o];omega
    case rel=>exact⟨k+1,hlt,rfl,by go_num,IK9⟩
  ·have d9:¬(k:Int) < (st.ths.length:Int):=by omega
   have Mc:k=st.ths.length:=by omega
   have TL:Ll (iB (st.time+n) st.ths k=st.ths.map fun t=>{ t with st:=(dA (st.time+n) t 0).1 }):=aa (by rw[Mc,iB,List.take_length,List.drop_length,List.append_nil]);clear Mc;have n0_:=IK.o.rb.c;have Z9:=aa (IK.o.rb.set ⟨0,0,[]⟩);have S9:=aa ((IK.o.srv.new (a:=w) (cE _ _ ⟨0,0,[]⟩) SLT.o (fun k hk=>(HNE.o k hk).2) (MG _)).o);have F9:=aa (IK.o.fr.gb (cE wo w.heap.size ⟨0,0,[]⟩) (.inr (.inr (MG _))));go_wp2
   have z0_:=Z9.o.c;refine MM (v:=.agg #[.int .i64 0,.int .i64 0,.string ⟨#[]⟩]) ?_ rfl ?_
   ·simp only[fE]at z0_;simp[results,results13,go_sem,z0_]
   ·rw[R.o,<-TL.o];exact⟨rfl,S9.o,F9.o⟩
theorem nV(w n p v1 v2 v3 v4 v5 v6 v7 v8 v9 v10 v11 v12 v13 v14):Calls prog 34 #[.agg #[.string ⟨n.toArray⟩,v1,v2,v3,v4,v5,v6,v7,v8,v9,v10,v11,v12,v13,v14],.string ⟨p.toArray⟩] w fun e w'=>e=.returned (.int .i64 (Lib.compareBytes n p))/\La w w':=by
 have CALL:Ll (∀ W,Calls prog 35 #[.string ⟨n.toArray⟩,.string ⟨p.toArray⟩] W fun e w'=>e=.returned (.int .i64 (Lib.compareBytes n p))/\w'=W):=fun W=>by
  have:=Tryz.strCompare ⟨n.toArray⟩ ⟨p.toArray⟩ W;simpa only[List.toList_toArray] using this
 obtain⟨r,hr⟩:∃ r,Lib.compareBytes n p=r:=⟨_,rfl⟩
 rw[hr]at CALL ⊢;clear hr;go_enter func34,ntmps34;go_wp2_with (go_at_call 35;refine(CALL.o _).mono ?_;rintro e w' ⟨rfl,hw1⟩;have hw2:=hw1.symm;subst hw2;clear hw1)
 go_ret;exact⟨rfl,ae _ _⟩
theorem yx(w:LC)(ok xs v p)(h:cO w ok xs v)(hr:bD (xs.map Th.name))(hn:xs.length < 4611686018427387904):Calls prog 33 #[v,.string ⟨p.toArray⟩,.func (.func 34) #[] #[]] w fun e w'=>e=.returned (.tuple #[.int .i64 (ci xs p:Nat),.bool ((xs.map Th.name).contains p)])/\La w w':=by
 obtain⟨sa,sc,rfl⟩:=h.form;have H:=aa h;have HR:=aa hr;have LM:(xs.map Th.name).length=xs.length:=List.length_map _;have PL:Ll (ci xs p=(xs.map Th.name).countP (fun x=>Op.bytesLess x p)):=aa (by unfold ci;rw[List.countP_map];rfl);have LMH:=aa LM;clear h hr LM;go_enter func33,ntmps33;go_wp2
 go_loopg [9,10] xs.length (fun kx s9 s10 wr=>∃ lo hi:Nat,s9=.int .i64 lo/\s10=.int .i64 hi/\lo<=hi/\hi<=xs.length/\hi - lo<=kx/\Ll (gK (xs.map Th.name) p lo hi)/\Ll (La w wr))
 case atStart=>exact⟨0,xs.length,rfl,rfl,Nat.zero_le _,MG _,by omega,aa ⟨fun t x ht=>absurd ht (Nat.not_lt_zero _),fun t x ht hx=>by rw[List.getElem?_eq_none (by rw[LMH.o];exact ht)]at hx;cases hx⟩,MK _ _⟩
 case round=>
  obtain⟨lo,hi,rfl,rfl,hlh,hin,hg,I,BL⟩:=hrel;by_cases hlt:lo < hi
  ·have hm:(lo+hi) / 2 < xs.length:=by omega
   obtain⟨g,off,rfl,j1,j2,-,a,b,c,d,oa,oc,⟨k1,k2,k3,k4,k5,k6,k7,k8,k9,k10,k11,k12,k13,k14,k15⟩,-⟩:=H.o.at hm;have c1:=ah BL.o k1;have c2:=ah BL.o k2;have c3:=ah BL.o k3;have c4:=ah BL.o k4;have c5:=ah BL.o k5;have c6:=ah BL.o k6;have c7:=ah BL.o k7;have c8:=ah BL.o k8;have c9:=ah BL.o k9;have c10:=ah BL.o k10;have c11:=ah BL.o k11;have c12:=ah BL.o k12;have c13:=ah BL.o k13;have c14:=ah BL.o k14;have c15:=ah BL.o k15;clear k1 k2 k3 k4 k5 k6 k7 k8 k9 k10 k11 k12 k13 k14 k15;have UP:Ll (Lib.compareBytes xs[(lo+hi) / 2].name p < 0->gK (xs.map Th.name) p ((lo+hi) / 2+1) hi):=fun h9=>tR HR.o I.o (by rw[LMH.o];exact hm) (by rw[List.getElem_map];exact(ki _ _).1 h9);have DN:Ll (¬Lib.compareBytes xs[(lo+hi) / 2].name p < 0->gK (xs.map Th.name) p lo ((lo+hi) / 2)):=fun h9=>mK HR.o I.o (by rw[LMH.o];exact hm) (by rw[List.getElem_map,Bool.eq_false_iff];exact fun h8=>h9 ((ki _ _).2 h8));have CALL:Ll (∀ W,Calls prog 34 #[.agg #[.string ⟨xs[(lo+hi) / 2].name.toArray⟩,.int .i64 xs[(lo+hi) / 2].value.kind,.int .i64 xs[(lo+hi) / 2].value.n,.string ⟨xs[(lo+hi) / 2].value.s.toArray⟩,.slice a xs[(lo+hi) / 2].value.keys.length c,.slice b xs[(lo+hi) / 2].value.l.length d,.slice oa xs[(lo+hi) / 2].owners.length oc,.int .i64 xs[(lo+hi) / 2].ver,.int .i64 xs[(lo+hi) / 2].gen,.string ⟨xs[(lo+hi) / 2].st.a.toArray⟩,.string ⟨xs[(lo+hi) / 2].st.c.toArray⟩,.int .i64 xs[(lo+hi) / 2].st.ph,.int .i64 xs[(lo+hi) / 2].st.st,.int .i64 xs[(lo+hi) / 2].st.we,.int .i64 xs[(lo+hi) / 2].st.si],.string ⟨p.toArray⟩] W fun e w'=>e=.returned (.int .i64 (Lib.compareBytes xs[(lo+hi) / 2].name p))/\La W w'):=fun W=>nV W _ p _ _ _ _ _ _ _ _ _ _ _ _ _ _;obtain⟨r,hr⟩:∃ r,Lib.compareBytes xs[(lo+hi) / 2].name p=r:=⟨_,rfl⟩
   rw[hr]at CALL UP DN;clear hr;by_cases hyx:r < 0
   ·go_wp2_with (go_at_call 34;refine Lk (CALL.o _) fun w' hb=>?_)
    go_roundg (hi - ((lo+hi) / 2+1))
    case measure=>omega
    case rel=>exact⟨(lo+hi) / 2+1,hi,by rw[show ((lo:Int)+(hi:Int)) / 2+1=(((lo+hi) / 2+1:Nat):Int) by omega],rfl,by omega,hin,MG _,aa (UP.o hyx),aa (ab BL.o hb)⟩
   ·go_wp2_with (go_at_call 34;refine Lk (CALL.o _) fun w' hb=>?_)
    go_roundg ((lo+hi) / 2 - lo)
    case measure=>omega
    case rel=>exact⟨lo,(lo+hi) / 2,rfl,by rw[show ((lo:Int)+(hi:Int)) / 2=(((lo+hi) / 2:Nat):Int) by omega],by omega,by omega,MG _,aa (DN.o hyx),aa (ab BL.o hb)⟩
  ·obtain rfl:hi=lo:=by omega
   have CN:Ll (ci xs p=hi):=aa (by rw[PL.o];exact jm _ p hi (by rw[LMH.o];exact hin) I.o);by_cases hn:hi < xs.length
   ·obtain⟨g,off,rfl,j1,j2,-,a,b,c,d,oa,oc,⟨k1,k2,k3,k4,k5,k6,k7,k8,k9,k10,k11,k12,k13,k14,k15⟩,-⟩:=H.o.at hn;have c1:=ah BL.o k1;have c2:=ah BL.o k2;have c3:=ah BL.o k3;have c4:=ah BL.o k4;have c5:=ah BL.o k5;have c6:=ah BL.o k6;have c7:=ah BL.o k7;have c8:=ah BL.o k8;have c9:=ah BL.o k9;have c10:=ah BL.o k10;have c11:=ah BL.o k11;have c12:=ah BL.o k12;have c13:=ah BL.o k13;have c14:=ah BL.o k14;have c15:=ah BL.o k15;clear k1 k2 k3 k4 k5 k6 k7 k8 k9 k10 k11 k12 k13 k14 k15;have HS:Ll ((xs.map Th.name).contains p=decide (xs[hi].name=p)):=aa (by have:=pz I.o (by rw[LMH.o];exact hn) HR.o;rwa [List.getElem_map]at this);have E0:Ll (Lib.compareBytes xs[hi].name p=0↔xs[hi].name=p):=oO _ _;have CALL:Ll (∀ W,Calls prog 34 #[.agg #[.string ⟨xs[hi].name.toArray⟩,.int .i64 xs[hi].value.kind,.int .i64 xs[hi].value.n,.string ⟨xs[hi].value.s.toArray⟩,.slice a xs[hi].value.keys.length c,.slice b xs[hi].value.l.length d,.slice oa xs[hi].owners.length oc,.int .i64 xs[hi].ver,.int .i64 xs[hi].gen,.string ⟨xs[hi].st.a.toArray⟩,.string ⟨xs[hi].st.c.toArray⟩,.int .i64 xs[hi].st.ph,.int .i64 xs[hi].st.st,.int .i64 xs[hi].st.we,.int .i64 xs[hi].st.si],.string ⟨p.toArray⟩] W fun e w'=>e=.returned (.int .i64 (Lib.compareBytes xs[hi].name p))/\La W w'):=fun W=>nV W _ p _ _ _ _ _ _ _ _ _ _ _ _ _ _;obtain⟨r,hr⟩:∃ r,Lib.compareBytes xs[hi].name p=r:=⟨_,rfl⟩
    rw[hr]at CALL E0;clear hr;by_cases hyx:r=0
    ·have R:Ll ((xs.map Th.name).contains p=true):=aa (by rw[HS.o];exact decide_eq_true (E0.o.1 hyx));subst hyx;go_wp2_with (go_at_call 34;refine Lk (CALL.o _) fun w' hb=>?_)
     go_ret2
     exact⟨by rw[R.o,CN.o];first | done | rfl | simp,ab BL.o hb⟩
    ·have R:Ll ((xs.map Th.name).contains p=false):=aa (by rw[HS.o];exact decide_eq_false (fun h9=>hyx (E0.o.2 h9)));have e9:(r == 0)=false:=by rw[MO];exact hyx
     clear hyx;go_wp2_with (go_at_call 34;refine Lk (CALL.o _) fun w' hb=>?_)
     go_ret2
     exact⟨by rw[R.o,CN.o];first | done | rfl | simp,ab BL.o hb⟩
   ·have R:Ll ((xs.map Th.name).contains p=false):=mI I.o (by rw[LMH.o];omega);go_wp2
    go_ret2
    exact⟨by rw[R.o,CN.o];first | done | rfl | simp,BL.o⟩
theorem yN(w:LC)(ok xs v p)(h:cO w ok xs v)(hr:bD (xs.map Th.name))(hn:xs.length < 4611686018427387904):Calls prog 19 #[v,.string ⟨p.toArray⟩] w fun e w'=>e=.returned (.tuple #[.int .i64 (ci xs p:Nat),.bool ((xs.map Th.name).contains p)])/\La w w':=by
 have C:=yx w ok xs v p h hr hn;obtain⟨sa,sc,rfl⟩:=h.form;generalize (xs.map Th.name).contains p=o at C ⊢;clear h hr;go_enter func19,ntmps19;go_wp2_with (go_at_call 33;refine C.mono ?_;rintro e w1 ⟨rfl,hb⟩)
 go_ret2
 exact⟨rfl,hb⟩
theorem SU.at{P:Nat->Prop}{ths:List Th}{a:Option Addr}{t:Th}(h:SU w P ths (.slice a n c))(ht:ths[i]?=some t):∃ g,a=some ⟨g,0,none⟩/\n<=c/\c<=9223372036854775807/\∃ (xa xb:Option Addr) (xc xd:Nat) (xoa:Option Addr) (xoc:Nat),(w.cell? ⟨g,i * 15,none⟩=some (.string ⟨t.name.toArray⟩)/\w.cell? ⟨g,i * 15+1,none⟩=some (.int .i64 t.value.kind)/\w.cell? ⟨g,i * 15+2,none⟩=some (.int .i64 t.value.n)/\w.cell? ⟨g,i * 15+3,none⟩=some (.string ⟨t.value.s.toArray⟩)/\w.cell? ⟨g,i * 15+4,none⟩=some (.slice xa t.value.keys.length xc)/\w.cell? ⟨g,i * 15+5,none⟩=some (.slice xb t.value.l.length xd)/\w.cell? ⟨g,i * 15+6,none⟩=some (.slice xoa t.owners.length xoc)/\w.cell? ⟨g,i * 15+7,none⟩=some (.int .i64 t.ver)/\w.cell? ⟨g,i * 15+8,none⟩=some (.int .i64 t.gen)/\w.cell? ⟨g,i * 15+9,none⟩=some (.string ⟨t.st.a.toArray⟩)/\w.cell? ⟨g,i * 15+10,none⟩=some (.string ⟨t.st.c.toArray⟩)/\w.cell? ⟨g,i * 15+11,none⟩=some (.int .i64 t.st.ph)/\w.cell? ⟨g,i * 15+12,none⟩=some (.int .i64 t.st.st)/\w.cell? ⟨g,i * 15+13,none⟩=some (.int .i64 t.st.we)/\w.cell? ⟨g,i * 15+14,none⟩=some (.int .i64 t.st.si))/\SS w P t xa xb xc xd xoa xoc:=by
 obtain⟨L0,h1,h2,-,h4⟩:=h;have hi:i < ths.length:=(Mz.1 ht).1;have h15:∀ c∈L0,c.length=15:=fun c hc=>by
  obtain⟨j,hj,rfl⟩:=List.getElem_of_mem hc;obtain⟨_,_,_,_,_,_,e,-⟩:=h4 j (ths[j]'(by omega)) L0[j] (Mw (by omega)) (Mw hj);rw[e];rfl
 obtain⟨a9,c9,e9,hz,hc1,hc2,-⟩:=ej h2;simp only[Value.slice.injEq]at e9;obtain⟨rfl,rfl,rfl⟩:=e9;rcases hz with hz | ⟨g,rfl⟩
 ·omega
 ·obtain⟨xa,xb,xc,xd,xoa,xoc,e,k⟩:=h4 i t (L0[i]'(by omega)) ht (Mw (by omega));have hx:∀ (j:Nat) (u:Value),j < 15->(cu t xa xb xc xd xoa xoc)[j]?=some u->w.cell? ⟨g,i * 15+j,none⟩=some u:=fun j u hj hu=>(dJ h2 (by omega) (by rw[oN L0 i j _ h15 (Mw (by omega)) hj,e,hu])).1;exact⟨g,rfl,hc1,hc2,xa,xb,xc,xd,xoa,xoc,⟨hx 0 _ (by decide) rfl,hx 1 _ (by decide) rfl,hx 2 _ (by decide) rfl,hx 3 _ (by decide) rfl,hx 4 _ (by decide) rfl,hx 5 _ (by decide) rfl,hx 6 _ (by decide) rfl,hx 7 _ (by decide) rfl,hx 8 _ (by decide) rfl,hx 9 _ (by decide) rfl,hx 10 _ (by decide) rfl,hx 11 _ (by decide) rfl,hx 12 _ (by decide) rfl,hx 13 _ (by decide) rfl,hx 14 _ (by decide) rfl⟩,k⟩
theorem Ta.at{P:Nat->Prop}{os:List aL}{oa:Option Addr}{oc:Nat}{o:aL}(h:Ta w P os oa oc)(ho:os[i]?=some o):∃ g,oa=some ⟨g,0,none⟩/\os.length<=oc/\oc<=9223372036854775807/\∃ (pa:Option Addr) (pc:Nat),w.cell? ⟨g,i * 2,none⟩=some (.string ⟨o.name.toArray⟩)/\w.cell? ⟨g,i * 2+1,none⟩=some (.slice pa o.paths.length pc)/\SG w P (.slice pa o.paths.length pc):=by
 obtain⟨pvs,h1,h2,-,h4⟩:=h;have hi:i < os.length:=(Mz.1 ho).1;obtain⟨a9,c9,e9,hz,hc1,hc2,-⟩:=ej h2;simp only[Value.slice.injEq]at e9;obtain⟨rfl,-,rfl⟩:=e9;rcases hz with hz | ⟨g,rfl⟩
 ·omega
 ·obtain⟨⟨pa,pc,e⟩,hp⟩:=h4 i o (pvs[i]'(by omega)) ho (Mw (by omega));have hc:=kN os pvs i o _ ho (Mw (by omega));rw[e]at hc hp;exact⟨g,rfl,hc1,hc2,pa,pc,(dJ h2 (by omega) hc.1).1,(dJ h2 (by omega) hc.2).1,hp⟩
theorem Ta.le{P:Nat->Prop}{os:List aL}{oa:Option Addr}{oc:Nat}(h:Ta w P os oa oc):os.length<=9223372036854775807:=by
 obtain⟨pvs,h1,h2,-,h4⟩:=h;obtain⟨a9,c9,e9,hz,hc1,hc2,-⟩:=ej h2;simp only[Value.slice.injEq]at e9;obtain⟨rfl,-,rfl⟩:=e9;omega
theorem SG.le{P:Nat->Prop}{a:Option Addr}(h:SG w P (.slice a n c)):n<=9223372036854775807:=by
 obtain⟨k9,n9,s9,ka9,la9,nk9,kc9,nl9,lc9,ks,L0,e,h1,-⟩:=h;simp only[Value.agg.injEq,Array.mk.injEq,List.cons.injEq,Value.slice.injEq,and_true]at e;obtain⟨-,-,-,⟨rfl,rfl,rfl⟩,-⟩:=e;obtain⟨a9,c9,e9,hz,hc1,hc2,-⟩:=ej h1;simp only[Value.slice.injEq]at e9;obtain⟨rfl,-,rfl⟩:=e9;omega
theorem Se.below{P:Nat->Prop}(h:Se P w w')(hP:∀ k,P k->B<=k)(hB:B<=w.heap.size):Below B w w':=⟨h.os,h.tape,h.output,h.size,fun k hk=>h.block k (by omega) (fun h9=>by have:=hP k h9;omega)⟩
end Go.Proofs.YtgolnaencepejaaGreatDoor
