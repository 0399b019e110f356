import Derived.Test.YtkjeiljdoljjgaaGreatDoorG26
import Derived.Test.YtkjeiljdoljjgaaGreatDoorG27
set_option maxRecDepth 100000
set_option maxHeartbeats 40000000
set_option linter.unusedSimpArgs false
set_option linter.unusedVariables false
namespace Go.Proofs.YtkjeiljdoljjgaaGreatDoor
open Go.RowKit
open _root_.Go.Proofs.Tryz
variable {w w':World}
variable {ok ok':Nat->Prop}
variable {v:Value}
variable {g B n i c S d:Nat}
def uv (xs:List Value):Nat->List Value->List Value
 | _,[]=>xs
 | o,v :: r=>uv (xs.set o v) (o+1) r
theorem vO{cap size}{e:TypeId}(hn:0 < n):∀ (vs:List Value) (o:Nat) (w:LC) (xs:List Value),w.ownsRow B e size (.slice (some ⟨g,0,none⟩) n cap) n xs->(w.setCells g o vs).ownsRow B e size (.slice (some ⟨g,0,none⟩) n cap) n (uv xs o vs)
 | [],_,_,_,h=>h
 | v :: vs,o,w,xs,h=>vO hn vs (o+1) _ _ (jQ h hn o v)
theorem sJ:∀ (vs:List Value) (j:Nat) (L0:List (List Value)) (i:Nat) (c:List Value),(∀ c∈L0,c.length=15)->L0[i]?=some c->j+vs.length<=15->uv L0.flatten (i * 15+j) vs=(L0.set i (uv c j vs)).flatten
 | [],j,L0,i,c,_,hc,_=>by
  obtain⟨hl,rfl⟩:=Mz.1 hc;simp[uv]
 | v :: vs,j,L0,i,c,h15,hc,hj=>by
  obtain⟨hl,e⟩:=Mz.1 hc;have h15':∀ x∈L0.set i (c.set j v),x.length=15:=by
   intro x hx;rcases List.mem_or_eq_of_mem_set hx with hx | rfl
   ·exact h15 x hx
   ·rw[List.length_set];exact h15 c (by rw[<-e];exact List.getElem_mem hl)
  simp only[My]at hj;rw[uv,uv,uX L0 i j c v h15 hc (by omega),show i * 15+j+1=i * 15+(j+1) by omega,sJ vs (j+1) (L0.set i (c.set j v)) i (c.set j v) h15' (by rw[List.getElem?_set_self hl]) (by omega),List.set_set]
theorem jz(g):∀ (vs:List Value) (o:Nat) (w:LC),w.grownBy (w.setCells g o vs) (some g)
 | [],_,w=>az _ _
 | v :: vs,o,w=>am (ap (az _ _) _ _) (jz g vs (o+1) _)
theorem cQ.gr{t a b oa oc r}(h:cQ w ok t a b c d oa oc)(hg:w.grownBy w' r)(hr:∀ k,ok k->some k≠r):cQ w' ok t a b c d oa oc:=⟨h.name,h.val.grownR hg hr,h.own.grownR hg hr⟩
theorem dm.puts{ths cap j t t' vs}(h:dm w B ok ths (.slice (some ⟨g,0,none⟩) ths.length cap))(hg:¬ok g)(ht:ths[i]?=some t)(hj:j+vs.length<=15)(hs:∀ a b c d oa oc,cQ w ok t a b c d oa oc->∃ a' b' c' d' oa' oc',uv (cu t a b c d oa oc) j vs=cu t' a' b' c' d' oa' oc'/\cQ w ok t' a' b' c' d' oa' oc'):dm (w.setCells g (i * 15+j) vs) B ok (ths.set i t') (.slice (some ⟨g,0,none⟩) ths.length cap):=by
 obtain⟨L0,h1,h2,h3⟩:=h;have h15:=dm.fifteen h1 h3;obtain⟨hi,e⟩:=Mz.1 ht;have hk:∀ k,ok k->some k≠some g:=fun k hk e=>by cases e;exact hg hk
 have hci:L0[i]?=some (L0[i]'(by omega)):=Mw (by omega);obtain⟨a,b,c,d,oa,oc,e1,k1⟩:=h3 i t _ ht hci;obtain⟨a',b',c',d',oa',oc',e2,k2⟩:=hs a b c d oa oc k1;have h4:=vO (by omega) vs (i * 15+j) w _ h2;rw[sJ vs j L0 i _ h15 hci hj,e1,e2]at h4;refine⟨L0.set i (cu t' a' b' c' d' oa' oc'),by simpa using h1,by rw[List.length_set];exact h4,fun k x cs hx hc=>?_⟩;rw[List.getElem?_set]at hx hc;split at hx
 ·rename_i hik;subst hik;rw[if_pos rfl,if_pos (by omega)]at hc;try rw[if_pos hi]at hx
  cases hx;cases hc;exact⟨_,_,_,_,_,_,rfl,k2.gr (jz g vs _ w) hk⟩
 ·rename_i hik;rw[if_neg hik]at hc;obtain⟨a9,b9,c9,d9,oa9,oc9,e9,k9⟩:=h3 k x cs hx hc;exact⟨_,_,_,_,_,_,e9,k9.gr (jz g vs _ w) hk⟩
theorem dm.sta{ths cap t}(h:dm w B ok ths (.slice (some ⟨g,0,none⟩) ths.length cap))(hg:¬ok g)(ht:ths[i]?=some t)(s):dm (mV w g (i * 15+9) s) B ok (ths.set i { t with st:=s }) (.slice (some ⟨g,0,none⟩) ths.length cap):=
 h.puts (t':={ t with st:=s }) (vs:=[.string ⟨s.a.toArray⟩,.string ⟨s.c.toArray⟩,.int .i64 s.ph,.int .i64 s.st,.int .i64 s.we,.int .i64 s.si]) hg ht (by simp) fun a b c d oa oc k=>⟨a,b,c,d,oa,oc,rfl,⟨k.name,k.val,k.own⟩⟩
theorem dm.put{ths cap t}(h:dm w B ok ths (.slice (some ⟨g,0,none⟩) ths.length cap))(hg:¬ok g)(ht:ths[i]?=some t){t' a b oa oc}(k:cQ w ok t' a b c d oa oc):dm (w.setCells g (i * 15) (cu t' a b c d oa oc)) B ok (ths.set i t') (.slice (some ⟨g,0,none⟩) ths.length cap):=by
 have:=h.puts (j:=0) (t':=t') (vs:=cu t' a b c d oa oc) hg ht (by simp[cu]) fun a9 b9 c9 d9 oa9 oc9 _=>⟨a,b,c,d,oa,oc,rfl,k⟩
 rwa [Nat.add_zero]at this
theorem dm.gr{ths r}(h:dm w B ok ths v)(hg:w.grownBy w' r)(hr:∀ k,ok k->some k≠r)(hv:∀ k,v.ownBlock=some k->some k≠r):dm w' B ok ths v:=by
 obtain⟨L0,h1,h2,h3⟩:=h;refine⟨L0,h1,bM h2 fun g hg9=>hg.block g (bY h2 hg9).2 (hv g hg9),fun i t cs ht hc=>?_⟩;obtain⟨a,b,c,d,oa,oc,e,k⟩:=h3 i t cs ht hc;exact⟨a,b,c,d,oa,oc,e,k.gr hg hr⟩
theorem dm.weak{ths}(h:dm w B ok ths v)(hk:∀ k,ok k->ok' k):dm w B ok' ths v:=by
 obtain⟨L0,h1,h2,h3⟩:=h;refine⟨L0,h1,h2,fun i t cs ht hc=>?_⟩;obtain⟨a,b,c,d,oa,oc,e,k⟩:=h3 i t cs ht hc;exact⟨a,b,c,d,oa,oc,e,k.weak hk⟩
theorem dm.low{ths}(h:dm w B ok ths v):dm w B (Lj ok w) ths v:=by
 obtain⟨L0,h1,h2,h3⟩:=h;refine⟨L0,h1,h2,fun i t cs ht hc=>?_⟩;obtain⟨a,b,c,d,oa,oc,e,k⟩:=h3 i t cs ht hc;exact⟨a,b,c,d,oa,oc,e,k.low⟩
theorem dm.at{ths t}(h:dm w B ok ths v)(ht:ths[i]?=some t):∃ g cap,v=.slice (some ⟨g,0,none⟩) ths.length cap/\B<=g/\g < w.heap.size/\ths.length<=cap/\cap<=9223372036854775807/\(∀ j,w.frozen? ⟨g,j,none⟩=false)/\(∀ j,j < cap * 15->(w.cell? ⟨g,j,none⟩).isSome=true)/\∃ (a b:Option Addr) (c d:Nat) (oa:Option Addr) (oc:Nat),(∀ j u,(cu t a b c d oa oc)[j]?=some u->w.cell? ⟨g,i * 15+j,none⟩=some u)/\cQ w ok t a b c d oa oc:=by
 obtain⟨L0,h1,h2,h3⟩:=h;have h15:=dm.fifteen h1 h3;have hi:i < ths.length:=(Mz.1 ht).1;rcases h2.2 with⟨rfl,e⟩ | ⟨g,cap,cur,rfl,k1,k2,k3,k4,k5,k6⟩
 ·omega
 ·unfold maxLen at k4;obtain⟨a,b,c,d,oa,oc,e,k⟩:=h3 i t (L0[i]'(by omega)) ht (Mw (by omega));refine⟨g,cap,rfl,k1,(MF.1 k2).1,k3,k4,fun j=>by simp[World.frozen?,k2],fun j hj=>?_,a,b,c,d,oa,oc,fun j u hu=>?_,k⟩
  ·simp only[World.cell?,k2];rw[show (none:Option Nat)=none from rfl];simp[k5,hj]
  ·have hj:j < 15:=(Mz.1 hu).1;have e1:=oN L0 i j _ h15 (Mw (by omega)) hj;rw[e,hu,<-k6,List.getElem?_take,if_pos (by omega)]at e1;simpa [World.cell?,k2] using e1
def IT (S:Nat) (v:Value):Nat->Prop:=fun k=>k≠S/\v.ownBlock≠some k
structure bo (w:LC) (ok:Nat->Prop) (S:Nat) (v:Value) (st:ex):Prop where
 blk:eF w S v st.time st.ver st.acts
 row:dm w (S+1) ok st.ths v
 no:∀ k,ok k->IT S v k
structure kS (w w':LC) (S:Nat) (v:Value):Prop where
 os:w'.os=w.os
 tape:w'.tape=w.tape
 output:w'.output=w.output
 size:w.heap.size<=w'.heap.size
 block:∀ k,k < w.heap.size->k≠S->v.ownBlock≠some k->w'.heap[k]?=w.heap[k]?
theorem eE(h:La w w'):kS w w' S v:=⟨h.os,h.tape,h.output,h.size,fun k hk _ _=>h.block k hk⟩
theorem kS.gb{a r}(k:kS a w S v)(h:w.grownBy w' (some r))(hr:r=S\/v.ownBlock=some r\/a.heap.size<=r):kS a w' S v:=⟨h.os.trans k.os,h.tape.trans k.tape,h.output.trans k.output,MH k.size h.size,fun j hj h1 h2=>(h.block j (MI hj k.size) fun e=>by
 cases e;rcases hr with hr | hr | hr
 ·exact h1 hr
 ·exact h2 hr
 ·omega).trans (k.block j hj h1 h2)⟩
theorem kS.bel{a}(k:kS a w S v)(h:La w w'):kS a w' S v:=⟨h.os.trans k.os,h.tape.trans k.tape,h.output.trans k.output,MH k.size h.size,fun j hj h1 h2=>(h.block j (MI hj k.size)).trans (k.block j hj h1 h2)⟩
theorem kS.trans{a b c v'}(h:kS a b S v)(k:kS b c S v')(hv:∀ g,v'.ownBlock=some g->v.ownBlock=some g\/a.heap.size<=g):kS a c S v:=⟨k.os.trans h.os,k.tape.trans h.tape,k.output.trans h.output,MH h.size k.size,fun g hg h1 h2=>(k.block g (MI hg h.size) h1 (fun e=>by
 rcases hv g e with e2 | e2
 ·exact h2 e2
 ·omega)).trans (h.block g hg h1 h2)⟩
theorem bo.bel{st:ex}(h:bo w ok S v st)(hb:La w w'):bo w' ok S v st:=⟨h.blk.bel hb,h.row.bel hb,h.no⟩
theorem bo.low{st:ex}(h:bo w ok S v st):bo w (Lj ok w) S v st:=⟨h.blk,h.row.low,fun k hk=>h.no k hk.1⟩
theorem bo.weak{st:ex}(h:bo w ok S v st):bo w (IT S v) S v st:=⟨h.blk,h.row.weak h.no,fun _ hk=>hk⟩
theorem bo.ne{st:ex}(h:bo w ok S v st)(hg:v.ownBlock=some g):S < g/\g < w.heap.size:=by
 obtain⟨L0,-,h2,-⟩:=h.row;have:=bY h2 hg;omega
def Fa (ok:Nat->Prop) (B S:Nat) (v:Value):Nat->Prop:=fun k=>(ok k\/B<=k)/\IT S v k
theorem bo.imp{st:ex}(h:bo w ok S v st)(hk:∀ k,ok k->ok' k)(hn:∀ k,ok' k->IT S v k):bo w ok' S v st:=⟨h.blk,h.row.weak hk,hn⟩
theorem bo.o{st:ex}(h:bo w (fun k=>ok k/\k < B) S v st):bo w (Fa ok B S v) S v st:=h.imp (fun k hk=>⟨.inl hk.1,h.no k hk⟩) fun _ hk=>hk.2
theorem bo.gr{st:ex}(h:bo w ok S v st)(hg:w.grownBy w' (some g))(h1:g≠S)(h2:v.ownBlock≠some g)(h3:∀ k,ok k->k≠g):bo w' ok S v st:=
 ⟨h.blk.gr hg (fun e=>by cases e;exact h1 rfl),h.row.gr hg (fun k hk e=>by cases e;exact h3 g hk rfl) (fun k hk e=>by cases e;exact h2 hk),h.no⟩
theorem bo.new{a:LC}{st:ex}(h:bo w (fun k=>ok k/\k < a.heap.size) S v st)(hg:w.grownBy w' (some g))(hS:S < a.heap.size)(hv:∀ k,v.ownBlock=some k->k < a.heap.size)(ha:a.heap.size<=g):bo w' (fun k=>ok k/\k < a.heap.size) S v st:=
 h.gr hg (by omega) (fun e=>by have:=hv g e;omega) (fun k hk=>by have:=hk.2;omega)
theorem bo.grS{st:ex}{time ver acts}(h:bo w ok S v st)(hg:w.grownBy w' (some S))(hb:eF w' S v time ver acts):bo w' ok S v { st with time:=time,ver:=ver,acts:=acts }:=
 ⟨hb,h.row.gr hg (fun k hk e=>by cases e;exact(h.no S hk).1 rfl) (fun k hk e=>by cases e;have:=h.ne hk;omega),h.no⟩
theorem bo.sta{cap}{st:ex}{t}(h:bo w ok S (.slice (some ⟨g,0,none⟩) st.ths.length cap) st)(ht:st.ths[i]?=some t)(s):bo (mV w g (i * 15+9) s) ok S (.slice (some ⟨g,0,none⟩) st.ths.length cap) { st with ths:=st.ths.set i { t with st:=s } }:=by
 have hn:=h.ne (g:=g) rfl;exact⟨h.blk.gr (lW _ _ _ _) (fun e=>by cases e;omega),h.row.sta (fun hk=>(h.no g hk).2 rfl) ht s,h.no⟩
theorem cE(w:LC)(g)(r:uf):w.grownBy (fE w g r) (some g):=ap (ap (ap (az _ _) _ _) _ _) _ _
theorem iD(b){ty:TypeId}{f:Nat × Nat}:∀ (vs:List Value) (o:Nat) (w:LC) (cur:Array Value),w.heap[b]?=some (.cells cur ty f)->o+vs.length<=cur.size->(w.setCells b o vs).heap[b]?=some (.cells (cur.toList.take o++vs++cur.toList.drop (o+vs.length)).toArray ty f)
 | [],o,w,cur,h,hl=>by
  simp only[World.setCells,List.append_nil,List.length_nil,Nat.add_zero,List.take_append_drop];exact h
 | v :: vs,o,w,cur,h,hl=>by
  simp only[My]at hl;have h1:=iD b vs (o+1) (w.setCell ⟨b,o,none⟩ v) (cur.setIfInBounds o v) (ak h o v) (by rw[Array.size_setIfInBounds];omega);rw[World.setCells,h1,Array.toList_setIfInBounds,list_seg_step cur.toList o v vs (by simpa using hl),My]
theorem A8{P:Program}(w)(t e ty:TypeId)(z cs)(ht:P.underlying t=some (.slice e))(hv:∀ w,(zeroValue e).run P w=.ok z w)(hz:z.cells=cs.toArray)(h1:∀ v∈cs,v.oneCell'=true)(b o c)(hc:∀ j,j < cs.length->(w.cell? ⟨b,o+j,none⟩).isSome=true)(hf:∀ j,j < cs.length->w.frozen? ⟨b,o+j,none⟩=false):(Builtin.clear_ #[t] ty #[.slice (some ⟨b,o,none⟩) 1 c]).run P w=.ok (.tuple #[]) (w.setCells b o cs):=by
 have hzc:(Builtin.zeroCells z.cells 1).toList=cs:=by
  rw[hz];simp[Builtin.zeroCells];apply List.ext_getElem
  ·simp
  ·intro k h1 h2;simp[Nat.mod_eq_of_lt h2,Mw h2]
 have hst:=run_storeCells_cells (P:=P) b o cs 0 w (by simpa using hc) (by simpa using hf) h1;simp only[Nat.add_zero]at hst;simp[Builtin.clear_,run_underlying ht,hv,hzc,hst]
def rn:List Value:=[.string ⟨#[]⟩,.int .i64 0,.int .i64 0,.string ⟨#[]⟩,.slice none 0 0,.slice none 0 0,.slice none 0 0,.int .i64 0,.int .i64 0,.string ⟨#[]⟩,.string ⟨#[]⟩,.int .i64 0,.int .i64 0,.int .i64 0,.int .i64 0]
theorem yp(L0:List (List Value))(i):(L0.eraseIdx i).flatten=(L0.take i).flatten++(L0.drop (i+1)).flatten:=by
 rw[List.eraseIdx_eq_take_drop_succ,List.flatten_append]
theorem Dh(w:LC)(B:Nat)(ok ths)(g cap i j:Nat)(hj:j=i+1)(h:dm w B ok ths (.slice (some ⟨g,0,none⟩) ths.length cap))(hg:¬ok g)(hi:i < ths.length):Calls prog 45 #[.slice (some ⟨g,0,none⟩) ths.length cap,.int .i64 i,.int .i64 j] w fun e w'=>e=.returned (.slice (some ⟨g,0,none⟩) (ths.length - 1) cap)/\dm w' B ok (ths.eraseIdx i) (.slice (some ⟨g,0,none⟩) (ths.length - 1) cap)/\w.grownBy w' (some g):=by
 obtain⟨L0,h1,h2,h3⟩:=h;have h15:=dm.fifteen h1 h3;rcases h2.2 with⟨e,-⟩ | ⟨g',cap',cur,e,k1,k2,k3,k4,k5,k6⟩
 ·cases e
 cases e;unfold maxLen at k4;have LT:=fY L0 h15;obtain⟨news,hnews⟩:∃ news,news=L0.flatten.drop (j * 15):=⟨_,rfl⟩
 have hnl:news.length=(ths.length - j) * 15:=by rw[hnews,MB,LT,h1];omega
 have hone:∀ u∈L0.flatten,u.oneCell'=true:=by
  intro u hu;obtain⟨c,hc,hu⟩:=List.mem_flatten.1 hu;obtain⟨k,hk,rfl⟩:=List.getElem_of_mem hc;obtain⟨_,_,_,_,_,_,e,-⟩:=h3 k (ths[k]'(by omega)) L0[k] (Mw (by omega)) (Mw hk);rw[e]at hu;exact jS _ _ _ _ _ _ _ u hu
 have LV:∀ (W:LC) (cr:Array Value),W.heap[g]?=some (.cells cr 40 (0,0))->∀ k,W.cell? ⟨g,k,none⟩=cr[k]?:=fun W cr hW k=>by simp[World.cell?,hW]
 have hfz:∀ (W:LC) (cr:Array Value),W.heap[g]?=some (.cells cr 40 (0,0))->∀ k,W.frozen? ⟨g,k,none⟩=false:=fun W cr hW k=>by simp[World.frozen?,hW]
 obtain⟨AD,hAD,hsrc⟩:∃ AD:Addr,(if cap=j then some (⟨g,0,none⟩:Addr) else some ⟨g,j * 15,none⟩)=some AD/\Ll (∀ k u,news[k]?=some u->w.drew.cell? (AD.add k)=some u):=by
  by_cases hcap:cap=j
  ·refine⟨⟨g,0,none⟩,by simp[hcap],aa fun k u hu=>?_⟩;have h0:news.length=0:=by rw[hnl];omega
   rw[List.length_eq_zero_iff.1 h0]at hu;simp at hu
  ·refine⟨⟨g,j * 15,none⟩,by simp[hcap],aa fun k u hu=>?_⟩;rw[hnews,List.getElem?_drop,<-k6,List.getElem?_take]at hu;split at hu
   ·rw[Addr.add_lit];show w.cell? _=_;rw[LV w cur k2];simpa using hu
   ·cases hu
 obtain⟨W1,hW1⟩:∃ W1,W1=w.drew.setCells g (0+i * 15) news:=⟨_,rfl⟩
 have hb1:W1.heap[g]?=some (.cells (cur.toList.take (i * 15)++news++cur.toList.drop (i * 15+news.length)).toArray 40 (0,0)):=by
  rw[hW1,Nat.zero_add];exact iD g news (i * 15) w.drew cur k2 (by rw[hnl,k5];have:(i+(ths.length - j)) * 15<=cap * 15:=Nat.mul_le_mul_right _ (by omega);rw[Nat.add_mul]at this;exact this)
 have hn1:i+(ths.length - j)=ths.length - 1:=by omega
 have hl1:(cur.toList.take (i * 15)++news++cur.toList.drop (i * 15+news.length)).length=cap * 15:=by
  have a1:i * 15<=cap * 15:=Nat.mul_le_mul_right _ (by omega);have a2:(i+(ths.length - j)) * 15<=cap * 15:=Nat.mul_le_mul_right _ (by omega);rw[Nat.add_mul]at a2;simp only[Mx,MC,MB,Array.length_toList,hnl,k5];omega
 obtain⟨i0,hi0,hz0,hz1⟩:∃ j,prog.info? 40=some j/\j.zero=some (.agg rn.toArray)/\j.size=15:=by
  have h9:=qF;cases e:prog.info? 40 with
  | none=>rw[e]at h9;cases h9
  | some j=>
   rw[e]at h9;simp only[Option.map_some,Option.some.injEq,Prod.mk.injEq]at h9;exact⟨j,rfl,h9.1,h9.2.1⟩
 have hzv:∀ w,(zeroValue 40).run prog w=.ok (.agg rn.toArray) w:=fun w=>by
  first | rfl | kernel_rfl | (simp[zeroValue,go_sem];rfl) | (simp[zeroValue,go_sem,Tryz.t40,rn])
 have hcl:∀ ty,(Builtin.clear_ #[26] ty #[.slice (some ⟨g,(i+(ths.length - j)) * 15,none⟩) (ths.length - (i+(ths.length - j))) (cap - (i+(ths.length - j)))]).run prog W1=.ok (.tuple #[]) (W1.setCells g ((i+(ths.length - j)) * 15) rn):=fun ty=>by
  rw[show ths.length - (i+(ths.length - j))=1 by omega];refine A8 W1 _ 40 ty (.agg rn.toArray) rn (by kernel_rfl) hzv (by simp[Value.cells,rn]) (by decide) g _ _ (fun k hk=>?_) (fun k hk=>hfz W1 _ hb1 _);have a2:(i+(ths.length - j)) * 15+15<=cap * 15:=by
   have:(i+(ths.length - j)+1) * 15<=cap * 15:=Nat.mul_le_mul_right _ (by omega);omega
  have hk':k < 15:=hk;rw[LV W1 _ hb1,Array.getElem?_eq_getElem (by simp only[List.size_toArray];rw[hl1];omega)];rfl
 have hfin:Ll (dm (W1.setCells g ((i+(ths.length - j)) * 15) rn) B ok (ths.eraseIdx i) (.slice (some ⟨g,0,none⟩) (ths.length - 1) cap)/\w.grownBy (W1.setCells g ((i+(ths.length - j)) * 15) rn) (some g)):=aa (by
  have hgb1:w.grownBy W1 (some g):=by rw[hW1];exact am (oD (az w _)) (jz g _ _ _)
  have hgb:w.grownBy (W1.setCells g ((i+(ths.length - j)) * 15) rn) (some g):=am hgb1 (jz g _ _ _);refine⟨?_,hgb⟩;have a2:(i+(ths.length - j)) * 15+15<=cap * 15:=by
   have:(i+(ths.length - j)+1) * 15<=cap * 15:=Nat.mul_le_mul_right _ (by omega);omega
  have hb2:=iD g rn ((i+(ths.length - j)) * 15) W1 _ hb1 (by simp only[List.size_toArray];rw[hl1];exact a2);have hel:(ths.eraseIdx i).length=ths.length - 1:=by rw[List.length_eraseIdx,if_pos hi]
  have hce:(L0.eraseIdx i).length=ths.length - 1:=by rw[List.length_eraseIdx,if_pos (by omega),h1]
  refine⟨L0.eraseIdx i,by rw[hce,hel],?_,?_⟩
  ·rw[hel];have h15e:∀ c∈L0.eraseIdx i,c.length=15:=fun c hc=>h15 c (List.mem_of_mem_eraseIdx hc);refine⟨by rw[fY _ h15e,hce],.inr ⟨g,cap,_,rfl,k1,hb2,by omega,by unfold maxLen;exact k4,?_,?_⟩⟩
   ·simp only[List.size_toArray,Mx,MC,MB,hl1];have:rn.length=15:=rfl;rw[this];omega
   ·simp only[List.toList_toArray];have e1:(ths.length - 1) * 15=(i+(ths.length - j)) * 15:=by rw[hn1]
    have a3:(i+(ths.length - j)) * 15<=(cur.toList.take (i * 15)++news++cur.toList.drop (i * 15+news.length)).length:=by rw[hl1];omega
    rw[e1,List.append_assoc,List.take_append_of_le_length (by rw[MC];omega),List.take_take,Nat.min_self];have e2:(cur.toList.take (i * 15)++news).length=(i+(ths.length - j)) * 15:=by
     have a1:i * 15<=cap * 15:=Nat.mul_le_mul_right _ (by omega);rw[Mx,MC,Array.length_toList,hnl,k5,Nat.add_mul];omega
    rw[List.take_append_of_le_length (by omega),MD (by omega),yp,hnews,mF L0 j h15,hj,<-nd L0 i h15,<-k6,List.take_take,Nat.min_eq_left (by omega)]
  ·intro k x cs hx hc;have hk9:∀ k,ok k->some k≠some g:=fun k hk e=>by cases e;exact hg hk
   rw[List.getElem?_eraseIdx]at hx hc;split at hx
   ·rename_i hki;rw[if_pos hki]at hc;obtain⟨a,b,c,d,oa,oc,e,k⟩:=h3 k x cs hx hc;exact⟨a,b,c,d,oa,oc,e,k.gr hgb hk9⟩
   ·rename_i hki;rw[if_neg hki]at hc;obtain⟨a,b,c,d,oa,oc,e,k⟩:=h3 (k+1) x cs hx hc;exact⟨a,b,c,d,oa,oc,e,k.gr hgb hk9⟩)
 have s1:Ll (news.length=(ths.length - j) * 15):=aa hnl;have s2:Ll (∀ u∈news,u.oneCell'=true):=aa fun u hu=>hone u (by rw[hnews]at hu;exact List.mem_of_mem_drop hu);have s3:Ll (∀ t,t < news.length->(w.drew.cell? ⟨g,0+i * 15+t,none⟩).isSome=true/\w.drew.frozen? ⟨g,0+i * 15+t,none⟩=false):=aa (by
  intro t ht;rw[hnl]at ht;refine⟨?_,hfz w cur k2 _⟩;show (w.cell? _).isSome=true;have a2:(i+(ths.length - j)) * 15<=cap * 15:=Nat.mul_le_mul_right _ (by omega);rw[Nat.add_mul]at a2;rw[LV w cur k2,Array.getElem?_eq_getElem (by rw[k5];omega)];rfl)
 have hW:Ll (W1=w.drew.setCells g (0+i * 15) news):=aa hW1;have HI0:=aa hi0;have HZ1:=aa hz1;have hi1:j<=ths.length:=by omega
 have hic:i<=cap:=by omega
 have hjc:j<=cap:=by omega
 have hne:((i:Int) == (j:Int))=false:=by rw[MO];omega
 have q1:(0:Int)<=(i:Int):=by omega
 have q2:(i:Int)<=(j:Int):=by omega
 have q3:(j:Int)<=(ths.length:Int):=by omega
 have q4:(ths.length:Int)<=(cap:Int):=by omega
 clear hb1 hl1 hnl hone LV hfz hnews hzv h3 h15 h2 k2 k5 k6 LT hW1 hi0 hz0 hz1 h1;have y1:¬ths.length=i:=by omega
 have y2:¬cap=i+(ths.length - j):=by omega
 have y3:i+(ths.length - j)<=ths.length:=by omega
 have y4:¬ths.length=i+(ths.length - j):=by omega
 have y5:i+(ths.length - j)<=cap:=by omega
 have HJ:=aa hj;have HIL:=aa hi;clear hj hi hn1;have mixed:prog.follows .mixedOrders=true:=by kernel_rfl
 go_enter func45,ntmps45;go_upto_region 5 with fail
 go_region_law (refine step_append_room rfl (.tmp 22) (.tmp 25) 26 rfl 40 i0 15 (by kernel_rfl) HI0.o HZ1.o g 0 i cap (by simp[Act.eval,Act.put]) AD (ths.length - j) (cap - j) news (by simp[Act.eval,Act.put]) s1.o hsrc.o s2.o (by have:=HJ.o;have:=HIL.o;omega) s3.o ?_;rw[<-hW.o])
 go_wp2_with fail
 go_ret;exact⟨by rw[show ths.length - 1=i+(ths.length - j) by have:=HJ.o;have:=HIL.o;omega];rfl,hfin.o⟩
def oA (s:ex) (i:Nat) (t:Th):ex × uf:=({ s with ths:=s.ths.eraseIdx i },⟨0,t.ver,[]⟩)
theorem BM(w:LC)(ok)(S:Nat)(v)(st:ex)(i:Nat)(t)(h:bo w ok S v st)(ht:st.ths[i]?=some t)(h8:st.ths.length<=8):Calls prog 32 #[.pointer (some ⟨S,0,none⟩),.int .i64 i] w fun e w'=>∃ v',e=.returned (fX (oA st i t).2)/\bo w' (Fa ok w.heap.size S v') S v' (oA st i t).1/\v'.ownBlock=v.ownBlock/\kS w w' S v:=by
 obtain⟨W1,hW1⟩:∃ W,W=w.alloc (.cells #[.int .i64 0,.int .i64 0,.string ⟨#[]⟩] 31):=⟨_,rfl⟩
 have Y1:Ll (La w W1):=aa (by rw[hW1];exact ae _ _);have RB:Ll (dK W1 w.heap.size 0 0 []):=aa (by rw[hW1];exact MN _ _);have HW1:=aa hW1;have S1:=aa (h.low.bel Y1.o);have HNE:=aa (fun g (hg:v.ownBlock=some g)=>h.ne hg);have SLT:Ll (S < w.heap.size):=aa h.blk.lt;have hi:=(Mz.1 ht).1;obtain⟨g,cap,rfl,hgB,hgl,hlc,hc9,hf,Mb,a,b,c,d,oa,oc,hcl,hk⟩:=S1.o.row.at ht;have GL:Ll (S < g/\g < w.heap.size):=aa (HNE.o g rfl);have q1:(0:Int)<=(i:Int):=by omega
 have q2:(i:Int) < (st.ths.length:Int):=by omega
 have hw1:IntKind.i64.wrap ((i:Int)+1)=((i+1:Nat):Int):=by rw[IntKind.wrap_i64];omega
 obtain⟨j,hj⟩:∃ j,j=i+1:=⟨_,rfl⟩
 rw[<-hj]at hw1;have DEL:=aa (Dh W1 (S+1) _ st.ths g cap i j hj S1.o.row (fun hk=>(S1.o.no g hk).2 rfl) hi);have t7:W1.cell? ⟨g,i * 15+7,none⟩=some (.int .i64 t.ver):=hcl 7 _ rfl;clear hW1 h ht hcl hk hf Mb hgB hgl hj;obtain⟨s0,s1,s2,s3⟩:=S1.o.blk.c;go_enter func32,ntmps32;go_upto_region 1 with fail
 rw[<-HW1.o];go_upto_region 2 with fail
 go_upto_region 3 with (go_at_call 45;refine DEL.o.mono ?_;rintro e w3 ⟨rfl,h1,hb⟩;have G3:=aa hb;have T3:=aa h1;clear h1 hb;obtain⟨s0,s1,s2,s3⟩:=(S1.o.blk.gr G3.o (by intro e;cases e;have:=GL.o;omega)).c;obtain⟨f0,f1,f2,f3⟩:=(S1.o.blk.gr G3.o (by intro e;cases e;have:=GL.o;omega)).f)
 clear f0 f1 f2 f3 t7;have SB3:=aa (S1.o.blk.gr G3.o (by intro e;cases e;have:=GL.o;omega));obtain⟨W4,hW4⟩:∃ W,W=w3.setCell ⟨S,0,none⟩ (.slice (some ⟨g,0,none⟩) (st.ths.length - 1) cap):=⟨_,rfl⟩
 have G4:Ll (w3.grownBy W4 (some S)):=aa (by rw[hW4];exact ap (az _ _) _ _);have SB4:Ll (eF W4 S (.slice (some ⟨g,0,none⟩) (st.ths.length - 1) cap) st.time st.ver st.acts):=aa (by rw[hW4];exact ak SB3.o 0 _);rw[<-hW4];clear hW4;have S4:Ll (bo W4 (Lj ok w) S (.slice (some ⟨g,0,none⟩) (st.ths.length - 1) cap) { st with ths:=st.ths.eraseIdx i }):=aa ⟨SB4.o,T3.o.gr G4.o (fun k hk e=>by cases e;exact(S1.o.no S hk).1 rfl) (fun k hk e=>by have h5:some g=some k:=hk;cases e;cases h5;have:=GL.o;omega),fun k hk=>S1.o.no k hk⟩;have F4:=aa (((eE (S:=S) (v:=.slice (some ⟨g,0,none⟩) st.ths.length cap) Y1.o).gb G3.o (.inr (.inl rfl))).gb G4.o (.inl rfl));have RB4:Ll (dK W4 w.heap.size 0 0 []):=aa ((G4.o.block _ (MI (MF.1 RB.o).1 G3.o.size) (by intro e;cases e;exact Nat.lt_irrefl _ SLT.o)).trans ((G3.o.block _ (MF.1 RB.o).1 (by intro e;cases e;exact Nat.lt_irrefl _ GL.o.2)).trans RB.o));have n0_:=RB4.o.c;have Z9:=aa (RB4.o.set ⟨0,t.ver,[]⟩);have S9:=aa ((S4.o.new (a:=w) (cE _ _ ⟨0,t.ver,[]⟩) SLT.o (fun k hk=>by cases hk;exact GL.o.2) (MG _)).o);have F9:=aa (F4.o.gb (cE W4 w.heap.size ⟨0,t.ver,[]⟩) (.inr (.inr (MG _))));go_wp2_with fail
 have z0_:=Z9.o.c;refine MM (v:=.agg #[.int .i64 0,.int .i64 t.ver,.string ⟨#[]⟩]) ?_ rfl ?_
 ·simp only[fE]at z0_;simp[results,results32,go_sem,z0_]
 ·exact⟨rfl,_,S9.o,rfl,F9.o⟩
def iG (s:ex) (i:Nat) (t:Th) (order:Int):ex × uf:=if (dA s.time t order).2≠0 then (s,bz (dA s.time t order).2) else ({ s with ths:=s.ths.set i { t with st:=(dA s.time t order).1 } },⟨0,(dA s.time t order).1.ph,[]⟩)
theorem FZ(w:LC)(ok)(S:Nat)(v)(st:ex)(i:Nat)(order:Int)(t)(h:bo w ok S v st)(ht:st.ths[i]?=some t):Calls prog 33 #[.pointer (some ⟨S,0,none⟩),.int .i64 i,.int .i64 order] w fun e w'=>e=.returned (fX (iG st i t order).2)/\bo w' (Fa ok w.heap.size S v) S v (iG st i t order).1/\kS w w' S v:=by
 obtain⟨W1,hW1⟩:∃ W,W=w.alloc (.cells #[.int .i64 0,.int .i64 0,.string ⟨#[]⟩] 31):=⟨_,rfl⟩
 have Y1:Ll (La w W1):=aa (by rw[hW1];exact ae _ _);have RB:Ll (dK W1 w.heap.size 0 0 []):=aa (by rw[hW1];exact MN _ _);have HW1:=aa hW1;have S1:=aa (h.low.bel Y1.o);have HNE:=aa (fun g (hg:v.ownBlock=some g)=>h.ne hg);have SLT:Ll (S < w.heap.size):=aa h.blk.lt;have hi:=(Mz.1 ht).1;obtain⟨g,cap,rfl,hgB,hgl,hlc,hc9,hf,Mb,a,b,c,d,oa,oc,hcl,hk⟩:=S1.o.row.at ht;have HT:=aa ht;have GL:Ll (S < g/\g < w.heap.size):=aa (HNE.o g rfl);have q1:(0:Int)<=(i:Int):=by omega
 have q2:(i:Int) < (st.ths.length:Int):=by omega
 obtain⟨r,re,hr⟩:∃ r re,dA st.time t order=(r,re):=⟨_,_,rfl⟩
 have NX:=uN W1 _ S _ st.time st.ver st.acts order t a b c d oa oc S1.o.blk hk;rw[hr]at NX;have NEXT:=aa NX;have HR:=aa hr;have CS:=aa Mb;have t0:W1.cell? ⟨g,i * 15,none⟩=some (.string ⟨t.name.toArray⟩):=hcl 0 _ rfl;have t1:W1.cell? ⟨g,i * 15+1,none⟩=some (.int .i64 t.value.kind):=hcl 1 _ rfl;have t2:W1.cell? ⟨g,i * 15+2,none⟩=some (.int .i64 t.value.n):=hcl 2 _ rfl;have t3:W1.cell? ⟨g,i * 15+3,none⟩=some (.string ⟨t.value.s.toArray⟩):=hcl 3 _ rfl;have t4:W1.cell? ⟨g,i * 15+4,none⟩=some (.slice a t.value.keys.length c):=hcl 4 _ rfl;have t5:W1.cell? ⟨g,i * 15+5,none⟩=some (.slice b t.value.l.length d):=hcl 5 _ rfl;have t6:W1.cell? ⟨g,i * 15+6,none⟩=some (.slice oa t.owners.length oc):=hcl 6 _ rfl;have t7:W1.cell? ⟨g,i * 15+7,none⟩=some (.int .i64 t.ver):=hcl 7 _ rfl;have t8:W1.cell? ⟨g,i * 15+8,none⟩=some (.int .i64 t.gen):=hcl 8 _ rfl;have t9:W1.cell? ⟨g,i * 15+9,none⟩=some (.string ⟨t.st.a.toArray⟩):=hcl 9 _ rfl;have t10:W1.cell? ⟨g,i * 15+10,none⟩=some (.string ⟨t.st.c.toArray⟩):=hcl 10 _ rfl;have t11:W1.cell? ⟨g,i * 15+11,none⟩=some (.int .i64 t.st.ph):=hcl 11 _ rfl;have t12:W1.cell? ⟨g,i * 15+12,none⟩=some (.int .i64 t.st.st):=hcl 12 _ rfl;have t13:W1.cell? ⟨g,i * 15+13,none⟩=some (.int .i64 t.st.we):=hcl 13 _ rfl;have t14:W1.cell? ⟨g,i * 15+14,none⟩=some (.int .i64 t.st.si):=hcl 14 _ rfl;clear NX hr hW1 h ht hcl hk hf Mb hgB hgl;have s0_:=S1.o.blk.c;go_enter func33,ntmps33;go_upto_region 1 with fail
 rw[<-HW1.o];go_upto_region 2 with (go_at_call 29;refine NEXT.o.mono ?_;rintro e w3 ⟨rfl,hb⟩;have B3:=aa hb;clear hb)
 clear t0 t1 t2 t3 t4 t5 t6 t7 t8 t9 t10 t11 t12 t13 t14;obtain⟨W4,hW4⟩:∃ W,W=w3.alloc (.cells (Li r) 38):=⟨_,rfl⟩
 have A4:Ll (La w3 W4):=aa (by rw[hW4];exact ae _ _);have XB:Ll (de W4 w3.heap.size r):=aa (by rw[hW4];exact MN _ _);rw[<-hW4];clear hW4;have B14:=aa (ab B3.o A4.o);have S4:=aa (S1.o.bel B14.o);have RB4:=aa (RB.o.bel B14.o);have Y4:=aa (ab Y1.o B14.o);by_cases hre:re=0
 rotate_left
 ·have e0:(re != 0)=true:=by simpa using hre
  have e1:(re == 0)=false:=by rw[MO];exact hre
  have R:Ll (iG st i t order=(st,bz re)):=aa (by unfold iG;rw[HR.o,if_pos hre]);have RF:=aa (dh W4 re);clear hre;go_wp2_with (go_at_call 20;refine RF.o.mono ?_;rintro e w5 ⟨rfl,hb⟩;have B5:=aa hb;clear hb;have n0_:=(RB4.o.bel B5.o).c;have Z9:=aa ((RB4.o.bel B5.o).set (bz re));have BZ:=aa (pJ (ab Y4.o B5.o) (show w.heap.size<=w.heap.size by omega) (bz re)))
  have z0_:=Z9.o.c;have S9:=aa (((S4.o.bel B5.o).new (a:=w) (cE _ _ (bz re)) SLT.o (fun k hk=>(HNE.o k hk).2) (MG _)).o);refine MM (v:=.agg #[.int .i64 re,.int .i64 0,.string ⟨#[]⟩]) ?_ rfl ?_
  ·simp only[fE,bz]at z0_;simp[results,results33,go_sem,z0_]
  ·rw[R.o];exact⟨rfl,S9.o,eE BZ.o⟩
 subst hre;have R:Ll (iG st i t order=({ st with ths:=st.ths.set i { t with st:=r } },⟨0,r.ph,[]⟩)):=aa (by unfold iG;rw[HR.o,if_neg (by simp)]);have IS:Ll (∀ j,j < cap * 15->(W4.cell? ⟨g,j,none⟩).isSome=true):=aa (fun j hj=>by
  obtain⟨u,hu⟩:=Option.isSome_iff_exists.1 (CS.o j hj);rw[ah B14.o hu];rfl)
 have x0_:=XB.o.c;have s0_:=S4.o.blk.c;obtain⟨g4,cap4,e4,-,-,-,-,hf4,-,a4,b4,c4,d4,oa4,oc4,hcl4,-⟩:=S4.o.row.at HT.o;obtain⟨rfl,rfl⟩:g4=g/\cap4=cap:=by simp only[Value.slice.injEq,Option.some.injEq,Addr.mk.injEq]at e4;exact⟨e4.1.1.symm,e4.2.2.symm⟩
 have n9:=hcl4 9 _ rfl;have n10:=hcl4 10 _ rfl;have n11:=hcl4 11 _ rfl;have n12:=hcl4 12 _ rfl;have n13:=hcl4 13 _ rfl;have n14:=hcl4 14 _ rfl;have m9:=hf4 (i * 15+9);have m10:=hf4 (i * 15+10);have m11:=hf4 (i * 15+11);have m12:=hf4 (i * 15+12);have m13:=hf4 (i * 15+13);have m14:=hf4 (i * 15+14);clear hf4 hcl4 e4;go_upto_region 4 with fail
 go_region
 have K9:=aa (S4.o.sta HT.o r);have G9:=aa (lW W4 g4 (i * 15+9) r);have F9:Ll (kS w (mV W4 g4 (i * 15+9) r) S (.slice (some ⟨g4,0,none⟩) st.ths.length cap4)):=aa ((eE Y4.o).gb G9.o (.inr (.inl rfl)));have X9:Ll (de (mV W4 g4 (i * 15+9) r) w3.heap.size r):=aa ((G9.o.block _ XB.o.lt (fun e=>by cases e;have:=GL.o;have:=Y1.o.size;have:=B3.o.size;omega)).trans XB.o);have R9:Ll (dK (mV W4 g4 (i * 15+9) r) w.heap.size 0 0 []):=aa ((G9.o.block _ (MF.1 RB4.o).1 (fun e=>by cases e;have:=GL.o;omega)).trans RB4.o);obtain⟨W9,hW9⟩:∃ W,W=(mV W4 g4 (i * 15+9) r).drew:=⟨_,rfl⟩
 have K10:=aa (K9.o.bel (aC _ 1));have X10:=aa (X9.o.bel (aC _ 1));have R10:=aa (R9.o.bel (aC _ 1));have F10:=aa (F9.o.bel (aC _ 1));change Exit.then _ _ Exit.normal _ (mV W4 g4 (i * 15+9) r).drew;rw[show (mV W4 g4 (i * 15+9) r).drewN 1=W9 from hW9.symm]at K10 X10 R10 F10;rw[<-hW9];clear hW9 K9 X9 R9 F9 G9;have x0_:=X10.o.c;have n0_:=R10.o.c;have Z9:=aa (R10.o.set ⟨0,r.ph,[]⟩);have S9:=aa ((K10.o.new (a:=w) (cE _ _ ⟨0,r.ph,[]⟩) SLT.o (fun k hk=>(HNE.o k hk).2) (MG _)).o);have F11:=aa (F10.o.gb (cE W9 w.heap.size ⟨0,r.ph,[]⟩) (.inr (.inr (MG _))));go_wp2_with fail
 have z0_:=Z9.o.c;refine MM (v:=.agg #[.int .i64 0,.int .i64 r.ph,.string ⟨#[]⟩]) ?_ rfl ?_
 ·simp only[fE]at z0_;simp[results,results33,go_sem,z0_]
 ·rw[R.o];exact⟨rfl,S9.o,F11.o⟩
theorem zh(w:LC)(B n i vb r cells one)(h15:one.length=15)(hone:∀ u∈one,u.oneCell'=true)(h:w.ownsRow B 40 15 r n cells)(hv:w.heap[vb]?=some (.cells one.toArray 40))(hi:i<=n)(hn:n<=4000000)(hB:B<=w.heap.size)(hvb:∀ g,r.ownBlock=some g->vb≠g)(h1:∀ u∈cells,u.oneCell'=true):Calls prog 48 #[r,.int .i64 i,.slice (some ⟨vb,0,none⟩) 1 1] w fun e w'=>∃ g cap,e=.returned (.slice (some ⟨g,0,none⟩) (n+1) cap)/\w'.ownsRow B 40 15 (.slice (some ⟨g,0,none⟩) (n+1) cap) (n+1) (cells.take (i * 15)++one++cells.drop (i * 15))/\w.grownBy w' r.ownBlock/\(r.ownBlock=some g\/w.heap.size<=g):=by
 by_cases he:i=n
 ·subst he;refine(wI w B i vb r cells one h15 hone h hv hn hB).mono ?_;rintro e w' ⟨g,cap,rfl,h2,h3,h4⟩;refine⟨g,cap,rfl,?_,h3,h4.imp id fun e=>by omega⟩;rw[MD (by rw[h.1];omega),List.drop_eq_nil_of_le (by rw[h.1];omega),List.append_nil];exact h2
 ·rcases h.2 with⟨rfl,h0⟩ | ⟨g,c,cur,rfl,g1,g2,g3,g4,g5,g6⟩
  ·omega
  ·by_cases hroom:n+1<=c
   ·refine(tO w B g n c i vb cur cells one h15 hone (by omega) hroom g4 g1 g2 g5 g6 h.1 hv (hvb g rfl) h1).mono ?_;rintro e w' ⟨rfl,h2,h3⟩;exact⟨g,c,rfl,h2,h3,.inl rfl⟩
   ·refine(ts w B g n c i vb cur cells one h15 hone (by omega) g3 (by omega) hn hB g2 g6 h.1 hv h1).mono ?_;rintro e w' ⟨G,rfl,h2,h3⟩;exact⟨_,G,rfl,h2,⟨h3.os,h3.tape,h3.output,h3.size,fun k hk _=>h3.block k hk (by simp)⟩,.inr (MG _)⟩
theorem dm.ins(w:LC)(B ok ths v i vb t a b c d oa oc)(h:dm w B ok ths v)(hv:w.heap[vb]?=some (.cells (cu t a b c d oa oc).toArray 40))(ht:cQ w ok t a b c d oa oc)(hi:i<=ths.length)(hn:ths.length<=4000000)(hB:B<=w.heap.size)(hvb:∀ g,v.ownBlock=some g->vb≠g)(hok:∀ k,ok k->v.ownBlock≠some k):Calls prog 48 #[v,.int .i64 i,.slice (some ⟨vb,0,none⟩) 1 1] w fun e w'=>∃ g cap,e=.returned (.slice (some ⟨g,0,none⟩) (ths.length+1) cap)/\dm w' B ok (ths.take i++t :: ths.drop i) (.slice (some ⟨g,0,none⟩) (ths.length+1) cap)/\w.grownBy w' v.ownBlock/\(v.ownBlock=some g\/w.heap.size<=g):=by
 obtain⟨L0,h1,h2,h3⟩:=h;have h15:=dm.fifteen h1 h3;have hone:∀ u∈L0.flatten,u.oneCell'=true:=by
  intro u hu;obtain⟨c,hc,hu⟩:=List.mem_flatten.1 hu;obtain⟨k,hk,rfl⟩:=List.getElem_of_mem hc;obtain⟨_,_,_,_,_,_,e,-⟩:=h3 k (ths[k]'(by omega)) L0[k] (Mw (by omega)) (Mw hk);rw[e]at hu;exact jS _ _ _ _ _ _ _ u hu
 refine(zh w B ths.length i vb v L0.flatten (cu t a b c d oa oc) rfl (jS _ _ _ _ _ _ _) h2 hv hi hn hB hvb hone).mono ?_;rintro e w' ⟨g,cap,rfl,q1,q2,q3⟩;refine⟨g,cap,rfl,⟨L0.take i++cu t a b c d oa oc :: L0.drop i,?_,?_,?_⟩,q2,q3⟩
 ·simp only[Mx,My,MC,MB];omega
 ·have e1:(ths.take i++t :: ths.drop i).length=ths.length+1:=by simp only[Mx,My,MC,MB];omega
  rw[e1,List.flatten_append,List.flatten_cons,<-nd L0 i h15,<-mF L0 i h15,<-List.append_assoc];exact q1
 ·have hk9:∀ k,ok k->some k≠v.ownBlock:=fun k hk e=>hok k hk e.symm;intro j x cs hx hc;have e1:(ths.take i).length=i:=by rw[MC];omega
  have e2:(L0.take i).length=i:=by rw[MC];omega
  by_cases hj:j < i
  ·rw[List.getElem?_append_left (by omega),List.getElem?_take_of_lt hj]at hx hc;obtain⟨a,b,c,d,oa,oc,e,k⟩:=h3 j x cs hx hc;exact⟨a,b,c,d,oa,oc,e,k.gr q2 hk9⟩
  ·rw[List.getElem?_append_right (by omega)]at hx hc;rw[e1]at hx;rw[e2]at hc;by_cases hji:j=i
   ·subst hji;rw[Nat.sub_self]at hx hc;simp only[List.getElem?_cons_zero,Option.some.injEq]at hx hc;subst hx;subst hc;exact⟨a,b,c,d,oa,oc,rfl,ht.gr q2 hk9⟩
   ·obtain⟨m,hm⟩:∃ m,j - i=m+1:=⟨j - i - 1,by omega⟩
    rw[hm]at hx hc;simp only[List.getElem?_cons_succ,List.getElem?_drop]at hx hc;obtain⟨a,b,c,d,oa,oc,e,k⟩:=h3 _ x cs hx hc;exact⟨a,b,c,d,oa,oc,e,k.gr q2 hk9⟩
variable {wr:World}
variable {k:Nat}
def iB (time:Int) (l:List Th) (k:Nat):List Th:=(l.take k).map (fun t=>{ t with st:=(dA time t 0).1 })++l.drop k
theorem rz(time l k):(iB time l k).length=l.length:=by
 simp only[iB,Mx,List.length_map,MC,MB];omega
theorem wR{time l t}(h:l[k]?=some t):(iB time l k)[k]?=some t:=by
 have hk:=(Mz.1 h).1;rw[iB,List.getElem?_append_right (by simp only[List.length_map,MC];omega),List.length_map,MC,Nat.min_eq_left (by omega),Nat.sub_self,List.getElem?_drop];simpa using h
theorem C9{time l t}(h:l[k]?=some t):(iB time l k).set k { t with st:=(dA time t 0).1 }=iB time l (k+1):=by
 obtain⟨hk,e⟩:=Mz.1 h;rw[iB,iB,List.set_append_right _ _ (by simp only[List.length_map,MC];omega),List.length_map,MC,Nat.min_eq_left (by omega),Nat.sub_self,ME hk,Mu,List.take_succ_eq_append_getElem hk,List.map_append,e,List.append_assoc];rfl
structure nE (w:LC) (ok:Nat->Prop) (S:Nat) (v:Value) (st:ex) (n:Int) (k:Nat) (wr:LC):Prop where
 srv:bo wr (Lj ok w) S v { st with time:=st.time+n,ths:=iB (st.time+n) st.ths k }
 fr:kS w wr S v
 rb:dK wr w.heap.size 0 0 []
theorem nE.bel{wr'}{st:ex}{n}(h:nE w ok S v st n k wr)(hb:La wr wr'):nE w ok S v st n k wr':=⟨h.srv.bel hb,h.fr.bel hb,h.rb.bel hb⟩
theorem Ct{W5 W7 cap}{st:ex}{n t r re}(h:nE w ok S (Value.slice (some ⟨g,0,none⟩) st.ths.length cap) st n k W5)(hb:La W5 W7)(ht:st.ths[k]?=some t)(hr:dA (st.time+n) t 0=(r,re))(hS:S < w.heap.size)(hg:S < g/\g < w.heap.size):nE w ok S (Value.slice (some ⟨g,0,none⟩) st.ths.length cap) st n (k+1) (mV W7 g (k * 15+9) r):=by
 have h2:=h.bel hb;have G:=lW W7 g (k * 15+9) r;have s2:=h2.srv;refine⟨⟨s2.blk.gr G (by intro e;have:=Option.some.inj e;omega),?_,s2.no⟩,h2.fr.gb G (.inr (.inl rfl)),(G.block _ (MF.1 h2.rb).1 (by intro e;have:=Option.some.inj e;omega)).trans h2.rb⟩;have h9:dm W7 (S+1) (Lj ok w) (iB (st.time+n) st.ths k) (.slice (some ⟨g,0,none⟩) (iB (st.time+n) st.ths k).length cap):=by rw[rz];exact s2.row
 have h8:=h9.sta (fun hk=>(s2.no g hk).2 rfl) (wR ht) r;rw[rz]at h8;rw[show r=(dA (st.time+n) t 0).1 by rw[hr],C9 ht]at h8;rw[show r=(dA (st.time+n) t 0).1 by rw[hr]];exact h8
theorem GE(w ok S v)(st:ex)(n)(h:bo w ok S v st)(h8:st.ths.length<=8)(htm:0<=st.time/\st.time<=1099511627776):Calls prog 21 #[.pointer (some ⟨S,0,none⟩),.int .i64 n] w fun e w'=>e=.returned (fX (iz st n).2)/\bo w' (Fa ok w.heap.size S v) S v (iz st n).1/\kS w w' S v:=by
 obtain⟨W1,hW1⟩:∃ W,W=w.alloc (.cells #[.int .i64 0,.int .i64 0,.string ⟨#[]⟩] 31):=⟨_,rfl⟩
 have Y1:Ll (La w W1):=aa (by rw[hW1];exact ae _ _);have RB:Ll (dK W1 w.heap.size 0 0 []):=aa (by rw[hW1];exact MN _ _);have HW1:=aa hW1;have S1:=aa (h.low.bel Y1.o);have F1:=aa (eE (S:=S) (v:=v) Y1.o);have HNE:=aa (fun g (hg:v.ownBlock=some g)=>h.ne hg);have SLT:Ll (S < w.heap.size):=aa h.blk.lt;have hwS:IntKind.i64.wrap (1099511627776 - st.time)=1099511627776 - st.time:=by rw[IntKind.wrap_i64];omega
 have HTM:=aa htm;clear hW1 h htm;have s0_:=S1.o.blk.c;by_cases hn1:n < 1
 ·have R:Ll (iz st n=(st,bz 8)):=aa (by unfold iz;rw[if_pos (.inl hn1)]);go_enter func21,ntmps21;go_upto_region 1 with fail
  rw[<-HW1.o];have RF:=aa (dh W1 8);go_wp2_with (go_at_call 20;refine RF.o.mono ?_;rintro e w5 ⟨rfl,hb⟩;have B5:=aa hb;clear hb;have n0_:=(RB.o.bel B5.o).c;have Z9:=aa ((RB.o.bel B5.o).set (bz 8)))
  have z0_:=Z9.o.c;have S9:=aa (((S1.o.bel B5.o).new (a:=w) (cE _ _ (bz 8)) SLT.o (fun k hk=>(HNE.o k hk).2) (MG _)).o);have F9:=aa ((F1.o.bel B5.o).gb (cE w5 w.heap.size (bz 8)) (.inr (.inr (MG _))));refine MM (v:=.agg #[.int .i64 8,.int .i64 0,.string ⟨#[]⟩]) ?_ rfl ?_
  ·simp only[fE,bz]at z0_;simp[results,results21,go_sem,z0_]
  ·rw[R.o];exact⟨rfl,S9.o,F9.o⟩
 by_cases hn2:1099511627776 - st.time < n
 ·have R:Ll (iz st n=(st,bz 8)):=aa (by unfold iz;rw[if_pos (.inr hn2)]);go_enter func21,ntmps21;go_upto_region 1 with fail
  rw[<-HW1.o];have RF:=aa (dh W1 8);go_wp2_with (go_at_call 20;refine RF.o.mono ?_;rintro e w5 ⟨rfl,hb⟩;have B5:=aa hb;clear hb;have n0_:=(RB.o.bel B5.o).c;have Z9:=aa ((RB.o.bel B5.o).set (bz 8)))
  have z0_:=Z9.o.c;have S9:=aa (((S1.o.bel B5.o).new (a:=w) (cE _ _ (bz 8)) SLT.o (fun k hk=>(HNE.o k hk).2) (MG _)).o);have F9:=aa ((F1.o.bel B5.o).gb (cE w5 w.heap.size (bz 8)) (.inr (.inr (MG _))));refine MM (v:=.agg #[.int .i64 8,.int .i64 0,.string ⟨#[]⟩]) ?_ rfl ?_
  ·simp only[fE,bz]at z0_;simp[results,results21,go_sem,z0_]
  ·rw[R.o];exact⟨rfl,S9.o,F9.o⟩
 have R:Ll (iz st n=({ st with time:=st.time+n,ths:=st.ths.map fun t=>{ t with st:=(dA (st.time+n) t 0).1 } },⟨0,0,[]⟩)):=aa (by unfold iz;rw[if_neg (by rintro (h | h) <;> contradiction)]);have hwT:IntKind.i64.wrap (st.time+n)=st.time+n:=by have:=HTM.o;rw[IntKind.wrap_i64];omega
 obtain⟨g0,g1,g2,g3⟩:=S1.o.blk.f;go_enter func21,ntmps21;go_upto_region 1 with fail
 rw[<-HW1.o];go_upto_region 4 with fail
 clear g0 g1 g2 g3;obtain⟨W3,hW3⟩:∃ W,W=W1.setCell ⟨S,1,none⟩ (.int .i64 (st.time+n)):=⟨_,rfl⟩
 have I3:Ll (nE w ok S v st n 0 W3):=aa (by
  rw[hW3];have G:W1.grownBy (W1.setCell ⟨S,1,none⟩ (.int .i64 (st.time+n))) (some S):=ap (az _ _) _ _;exact⟨S1.o.grS (ver:=st.ver) (acts:=st.acts) G (ak S1.o.blk 1 _),F1.o.gb G (.inl rfl),(G.block _ (MF.1 RB.o).1 (by intro e;have:=Option.some.inj e;have:=SLT.o;omega)).trans RB.o⟩)
 rw[<-hW3];clear hW3 hn1 hn2 hwS hwT;obtain⟨va,vc,hform⟩:=S1.o.row.form;have s0_:=I3.o.srv.blk.c;subst hform;go_wp2_with fail
 go_loopg [32] st.ths.length (fun gk iv wr=>∃ k:Nat,k<=st.ths.length/\gk=st.ths.length - k/\iv=.int .i64 k/\Ll (nE w ok S (.slice va st.ths.length vc) st n k wr))
 case atStart=>exact⟨0,Nat.zero_le _,rfl,rfl,I3⟩
 case round=>
  obtain⟨k,hk,hgk,rfl,IK⟩:=hrel;have GK:=aa hgk;clear hgk;obtain⟨wo,hwo⟩:∃ wo,wo=wr:=⟨wr,rfl⟩
  subst hwo;by_cases hlt:k < st.ths.length
  ·obtain⟨t,ht⟩:∃ t,st.ths[k]?=some t:=⟨_,Mw hlt⟩
   have TK:=aa ht;have TKL:Ll ((iB (st.time+n) st.ths k)[k]?=some t):=aa (wR ht);obtain⟨g,cap,e9,hgB,hgl,hlc,hc9,hf,Mb,a,b,c,d,oa,oc,hcl,hkk⟩:=IK.o.srv.row.at TKL.o;obtain⟨rfl,rfl⟩:va=some ⟨g,0,none⟩/\cap=vc:=by simp only[Value.slice.injEq]at e9;exact⟨e9.1,e9.2.2.symm⟩
   have GL:Ll (S < g/\g < w.heap.size):=aa (HNE.o g rfl);have w2:(k:Int) < (st.ths.length:Int):=by omega
   have w3:(0:Int)<=(k:Int):=by omega
   obtain⟨r,re,hr⟩:∃ r re,dA (st.time+n) t 0=(r,re):=⟨_,_,rfl⟩
   have HR:=aa hr;have KK:=aa hkk;have t0:wo.cell? ⟨g,k * 15,none⟩=some (.string ⟨t.name.toArray⟩):=hcl 0 _ rfl;have t1:wo.cell? ⟨g,k * 15+1,none⟩=some (.int .i64 t.value.kind):=hcl 1 _ rfl;have t2:wo.cell? ⟨g,k * 15+2,none⟩=some (.int .i64 t.value.n):=hcl 2 _ rfl;have t3:wo.cell? ⟨g,k * 15+3,none⟩=some (.string ⟨t.value.s.toArray⟩):=hcl 3 _ rfl;have t4:wo.cell? ⟨g,k * 15+4,none⟩=some (.slice a t.value.keys.length c):=hcl 4 _ rfl;have t5:wo.cell? ⟨g,k * 15+5,none⟩=some (.slice b t.value.l.length d):=hcl 5 _ rfl;have t6:wo.cell? ⟨g,k * 15+6,none⟩=some (.slice oa t.owners.length oc):=hcl 6 _ rfl;have t7:wo.cell? ⟨g,k * 15+7,none⟩=some (.int .i64 t.ver):=hcl 7 _ rfl;have t8:wo.cell? ⟨g,k * 15+8,none⟩=some (.int .i64 t.gen):=hcl 8 _ rfl;have t9:wo.cell? ⟨g,k * 15+9,none⟩=some (.string ⟨t.st.a.toArray⟩):=hcl 9 _ rfl;have t10:wo.cell? ⟨g,k * 15+10,none⟩=some (.string ⟨t.st.c.toArray⟩):=hcl 10 _ rfl;have t11:wo.cell? ⟨g,k * 15+11,none⟩=some (.int .i64 t.st.ph):=hcl 11 _ rfl;have t12:wo.cell? ⟨g,k * 15+12,none⟩=some (.int .i64 t.st.st):=hcl 12 _ rfl;have t13:wo.cell? ⟨g,k * 15+13,none⟩=some (.int .i64 t.st.we):=hcl 13 _ rfl;have t14:wo.cell? ⟨g,k * 15+14,none⟩=some (.int .i64 t.st.si):=hcl 14 _ rfl;obtain⟨W5,hW5⟩:∃ W,W=wo.alloc (.cells (Ld t a c b d oa oc) 40):=⟨_,rfl⟩
   have A5:Ll (La wo W5):=aa (by rw[hW5];exact ae _ _);have XB:Ll (fN W5 wo.heap.size t a b c d oa oc):=aa (by rw[hW5];exact MN _ _);have HW5:=aa hW5;have IK5:=aa (IK.o.bel A5.o);have S5:=aa IK5.o.srv;have NX:Ll (∀ W,La W5 W->Calls prog 29 #[.pointer (some ⟨S,0,none⟩),.agg (Ld t a c b d oa oc),.int .i64 0] W fun e w'=>e=.returned (.tuple #[.agg (Li r),.int .i64 re])/\La W w'):=aa (fun W hb=>by
    have:=uN W _ S _ (st.time+n) st.ver st.acts 0 t a b c d oa oc (S5.o.blk.bel hb) ((KK.o.bel A5.o).bel hb);rw[HR.o]at this;exact this)
   clear hW5 ht hr hkk hcl hf Mb hgB hgl e9;go_upto_region 7 with fail
   rw[<-HW5.o];refine aD (fun wS=>La W5 wS) [13] (by kernel_rfl) (aC _ 1) (fun LI=>?_);refine WT.out ?_;iterate 7
    first
     | refine tk (i:=0) (v:=?_) [1,2,3,11,12,13] rfl rfl (by decide +kernel) rfl (fun _ _ _ h=>h) LI ?_ ?_
     | refine tk (i:=1) (v:=?_) [2,3,11,12,13] rfl rfl (by decide +kernel) rfl (fun _ _ _ h=>h) LI ?_ ?_
     | refine tk (i:=2) (v:=?_) [3,11,12,13] rfl rfl (by decide +kernel) rfl (fun _ _ _ h=>h) LI ?_ ?_
     | refine tk (i:=3) (v:=?_) [11,12,13] rfl rfl (by decide +kernel) rfl (fun _ _ _ h=>h) LI ?_ ?_
     | refine tk (i:=4) (v:=?_) [11,12,13] rfl rfl (by decide +kernel) rfl (fun _ _ _ h=>h) LI ?_ ?_
     | refine tk (i:=5) (v:=?_) [7,8,9,10,11,12,13] rfl rfl (by decide +kernel) rfl (fun _ _ _ h=>h) LI ?_ ?_
     | refine tk (i:=6) (v:=?_) [7,8,9,10,11,12,13] rfl rfl (by decide +kernel) rfl (fun _ _ _ h=>h) LI ?_ ?_
    rotate_left
    ·intro wS LN;have s0_:=(S5.o.blk.bel LN).c;obtain⟨t0,t1,t2,t3,t4,t5,t6,t7,t8,t9,t10,t11,t12,t13,t14⟩:=(XB.o.bel LN).c;go_simp;all_goals with_reducible rfl
    simp only[av,List.set]
   repeat' (first
    | exact nl
    |(refine ip (i:=7) (o:=_) rfl (fun K hK=>?_) ?_
      go_simp;refine Lk (NX.o _ LI) fun w7q hb5=>?_;refine hK.out _ _ (ab LI hb5) (fun LJ=>?_);have B7:=aa LJ;clear hb5;clear hK K;replace LI:=LJ;clear LJ;try simp only[Act.put,Mt,Mu,Mv])
    |(refine jZ (i:=13) (o:=_) (by decide +kernel) rfl (fun K hK=>?_)
      have S7:=aa (S5.o.bel B7.o);obtain⟨g4,cap4,e4,-,-,-,-,hf4,-,a4,b4,c4,d4,oa4,oc4,hcl4,-⟩:=S7.o.row.at TKL.o;obtain⟨rfl,rfl⟩:g4=g/\cap4=cap:=by simp only[Value.slice.injEq,Option.some.injEq,Addr.mk.injEq]at e4;exact⟨e4.1.1.symm,e4.2.2.symm⟩
      have n9:=hcl4 9 _ rfl;have n10:=hcl4 10 _ rfl;have n11:=hcl4 11 _ rfl;have n12:=hcl4 12 _ rfl;have n13:=hcl4 13 _ rfl;have n14:=hcl4 14 _ rfl;have m9:=hf4 (k * 15+9);have m10:=hf4 (k * 15+10);have m11:=hf4 (k * 15+11);have m12:=hf4 (k * 15+12);have m13:=hf4 (k * 15+13);have m14:=hf4 (k * 15+14);clear hf4 hcl4 e4;go_simp;refine hK.out _ _ ?_;clear hK K;try simp only[Act.put,Mt,Mu,Mv])
    |(first
       | refine tk (i:=8) (v:=?_) [9,10,11,12,13] rfl rfl (by decide +kernel) rfl (fun _ _ _ h=>h) (by exact LI) ?_ ?_
       | refine tk (i:=9) (v:=?_) [11,12,13] rfl rfl (by decide +kernel) rfl (fun _ _ _ h=>h) (by exact LI) ?_ ?_
      rotate_left
      ·intro wS LN;go_simp;all_goals with_reducible rfl
      simp only[av,List.set])
    |(refine JY (i:=10) (d:=47) (v:=?_) rfl rfl (by decide +kernel) rfl (fun _ _ _ h=>h) (by exact LI) ?_ ?_
      rotate_left
      ·intro wS;go_simp;all_goals with_reducible rfl
      simp only[av,List.set])
    |(first
       | refine tk (i:=11) (v:=?_) [12,13] rfl rfl (by decide +kernel) rfl (fun _ _ _ h=>h) (by exact LI) ?_ ?_
       | refine tk (i:=12) (v:=?_) [13] rfl rfl (by decide +kernel) rfl (fun _ _ _ h=>h) (by exact LI) ?_ ?_
      rotate_left
      ·intro wS LN;go_simp;all_goals with_reducible rfl
      simp only[av,List.set])
    | refine gc [7] (by decide +kernel) ?_
    | fail)
   all_goals
    refine dn (by kernel_rfl) ?_;obtain⟨W9,hW9⟩:∃ W,W=((((((w7q.setCell ⟨g4,k * 15+9,none⟩ (.string ⟨r.a.toArray⟩)).setCell ⟨g4,k * 15+9+1,none⟩ (.string ⟨r.c.toArray⟩)).setCell ⟨g4,k * 15+9+2,none⟩ (.int .i64 r.ph)).setCell ⟨g4,k * 15+9+3,none⟩ (.int .i64 r.st)).setCell ⟨g4,k * 15+9+4,none⟩ (.int .i64 r.we)).setCell ⟨g4,k * 15+9+5,none⟩ (.int .i64 r.si)):=⟨_,rfl⟩
    have IK9:Ll (nE w ok S (Value.slice (some ⟨g4,0,none⟩) st.ths.length cap4) st n (k+1) W9):=aa (by rw[hW9];exact Ct IK5.o B7.o TK.o HR.o SLT.o GL.o);rw[<-hW9];clear hW9;go_wp2_with fail
    go_roundg (st.ths.length - (k+1))
    case measure=>rw[GK.o];omega
    case rel=>exact⟨k+1,hlt,rfl,by go_num,IK9⟩
  ·have d9:¬(k:Int) < (st.ths.length:Int):=by omega
   have Mc:k=st.ths.length:=by omega
   have TL:Ll (iB (st.time+n) st.ths k=st.ths.map fun t=>{ t with st:=(dA (st.time+n) t 0).1 }):=aa (by rw[Mc,iB,List.take_length,List.drop_length,List.append_nil]);clear Mc;have n0_:=IK.o.rb.c;have Z9:=aa (IK.o.rb.set ⟨0,0,[]⟩);have S9:=aa ((IK.o.srv.new (a:=w) (cE _ _ ⟨0,0,[]⟩) SLT.o (fun k hk=>(HNE.o k hk).2) (MG _)).o);have F9:=aa (IK.o.fr.gb (cE wo w.heap.size ⟨0,0,[]⟩) (.inr (.inr (MG _))));go_wp2_with fail
   have z0_:=Z9.o.c;refine MM (v:=.agg #[.int .i64 0,.int .i64 0,.string ⟨#[]⟩]) ?_ rfl ?_
   ·simp only[fE]at z0_;simp[results,results21,go_sem,z0_]
   ·rw[R.o,<-TL.o];exact⟨rfl,S9.o,F9.o⟩
end Go.Proofs.YtkjeiljdoljjgaaGreatDoor
