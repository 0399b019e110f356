import Derived.Test.YtkjeiljdoljjgaaGreatDoorG12
import Derived.Test.YtkjeiljdoljjgaaGreatDoorG17
import Derived.Test.YtkjeiljdoljjgaaGreatDoorG19
import Derived.Test.YtkjeiljdoljjgaaGreatDoorG21
import Derived.Test.YtkjeiljdoljjgaaGreatDoorG22
set_option maxRecDepth 100000
set_option maxHeartbeats 40000000
set_option linter.unusedSimpArgs false
set_option linter.unusedVariables false
namespace Go.Proofs.YtkjeiljdoljjgaaGreatDoor
open Go.RowKit
open _root_.Go.Proofs.Tryz
structure Th where
 name:Lz
 value:V
 owners:List aL
 ver:Int
 gen:Int
 st:dI
abbrev Ld (t:Th) (a:Option Addr) (c:Nat) (b:Option Addr) (d:Nat) (oa:Option Addr) (oc:Nat):Array Value:=#[.string ⟨t.name.toArray⟩,.int .i64 t.value.kind,.int .i64 t.value.n,.string ⟨t.value.s.toArray⟩,.slice a t.value.keys.length c,.slice b t.value.l.length d,.slice oa t.owners.length oc,.int .i64 t.ver,.int .i64 t.gen,.string ⟨t.st.a.toArray⟩,.string ⟨t.st.c.toArray⟩,.int .i64 t.st.ph,.int .i64 t.st.st,.int .i64 t.st.we,.int .i64 t.st.si]
structure ex where
 ths:List Th
 time:Int
 ver:Int
 acts:Int
structure cm where
 kind:Int
 name:Lz
 who:Lz
 body:Lz
 version:Int
 n:Int
 order:Int
 force:Bool
abbrev Lf (t:cm):Array Value:=#[.int .i64 t.kind,.string ⟨t.name.toArray⟩,.string ⟨t.who.toArray⟩,.string ⟨t.body.toArray⟩,.int .i64 t.version,.int .i64 t.n,.int .i64 t.order,.bool t.force]
structure uf where
 code:Int
 n:Int
 body:Lz
def bz (e:Int):uf:=⟨e,0,[]⟩
def vm:ex:=⟨[],0,0,0⟩
def ir (v:V) (l:List aL):List aL:=if aE v=true/\bp l=true then dV (fun _ p=>(dr (aw p) v).isSome) l else []
noncomputable def bW (v:V) (kind:Int) (body:V):V × Int:=
 if kind=3 then ge v body
 else if kind=4 then (if (cU body).2≠0 then (v,(cU body).2) else qU Ce (cU body).1 v)
 else (body,0)
noncomputable def aJ (t:Th) (a:cm):V × List aL × Int:=
 if (cW a.body).2≠0 then (t.value,t.owners,(cW a.body).2)
 else if a.kind=5 then ((eC t.value t.owners a.who (cW a.body).1 a.force).1,(eC t.value t.owners a.who (cW a.body).1 a.force).2.1,(eC t.value t.owners a.who (cW a.body).1 a.force).2.2.2)
 else if (bW t.value a.kind (cW a.body).1).2≠0 then (t.value,t.owners,(bW t.value a.kind (cW a.body).1).2)
 else ((bW t.value a.kind (cW a.body).1).1,ir (bW t.value a.kind (cW a.body).1).1 t.owners,0)
def dA (time:Int) (t:Th) (order:Int):dI × Int:=ij (bE t.value).1 (bE t.value).2 t.st time order
open Classical in
noncomputable def jw (time ver:Int) (t:Th) (v:V) (os:List aL):Th × Int:=
 let other:=t.gen=0\/v≠t.value
 let ver':=if other\/os≠t.owners then ver+1 else ver
 let st0:=if t.gen=0 then (fV (bE v).1 (bE v).2).1 else t.st
 (⟨t.name,v,os,if other\/os≠t.owners then ver+1 else t.ver,if other then t.gen+1 else t.gen,(ij (bE v).1 (bE v).2 st0 time 0).1⟩,ver')
noncomputable def al (time ver:Int) (t:Th) (a:cm):Th × Int × Int:=
 if (aJ t a).2.2≠0 then (t,ver,(aJ t a).2.2)
 else if cI (aJ t a).1≠0 then (t,ver,cI (aJ t a).1)
 else ((jw time ver t (aJ t a).1 (aJ t a).2.1).1,(jw time ver t (aJ t a).1 (aJ t a).2.1).2,0)
def ci (l:List Th) (n:Lz):Nat:=l.countP fun t=>Op.bytesLess t.name n
def dR (l:List Th) (n:Lz):Bool:=l.any fun t=>t.name == n
def cj (len:Nat) (kind:Int) (there:Bool):Int:=
 let begins:=kind=1\/kind=5/\there=false
 if begins/\there=true then 6 else if begins/\len=8 then 10 else if ¬begins/\there=false then 3 else 0
def eT (n:Lz):Th:=⟨n,jM,[],0,0,⟨[],[],0,0,0,0⟩⟩
noncomputable def dD (s:ex) (a:cm):ex × uf:=
 let i:=ci s.ths a.name
 let e:=cj s.ths.length a.kind (dR s.ths a.name)
 if e≠0 then (s,bz e)
 else match s.ths[i]? with
  | some t=>
   if dR s.ths a.name=false then
    (if (al s.time s.ver (eT a.name) a).2.2≠0 then (s,bz (al s.time s.ver (eT a.name) a).2.2)
    else ({ s with ths:=s.ths.take i++(al s.time s.ver (eT a.name) a).1 :: s.ths.drop i,ver:=(al s.time s.ver (eT a.name) a).2.1 },⟨0,(al s.time s.ver (eT a.name) a).1.ver,[]⟩))
   else if a.kind=6 then ({ s with ths:=s.ths.eraseIdx i },⟨0,t.ver,[]⟩)
   else if a.kind=7 then
    (if (dA s.time t a.order).2≠0 then (s,bz (dA s.time t a.order).2) else ({ s with ths:=s.ths.set i { t with st:=(dA s.time t a.order).1 } },⟨0,(dA s.time t a.order).1.ph,[]⟩))
   else if a.kind=9 then (s,if (eP 12 t.value).2≠0 then bz (eP 12 t.value).2 else ⟨0,t.ver,(eP 12 t.value).1⟩)
   else if a.kind≠5/\a.version≠0/\a.version≠t.ver then (s,bz 7)
   else if (al s.time s.ver t a).2.2≠0 then (s,bz (al s.time s.ver t a).2.2)
   else ({ s with ths:=s.ths.set i (al s.time s.ver t a).1,ver:=(al s.time s.ver t a).2.1 },⟨0,(al s.time s.ver t a).1.ver,[]⟩)
  | none=>
   (if (al s.time s.ver (eT a.name) a).2.2≠0 then (s,bz (al s.time s.ver (eT a.name) a).2.2)
   else ({ s with ths:=s.ths++[(al s.time s.ver (eT a.name) a).1],ver:=(al s.time s.ver (eT a.name) a).2.1 },⟨0,(al s.time s.ver (eT a.name) a).1.ver,[]⟩))
def iz (s:ex) (n:Int):ex × uf:=
 if n < 1\/1099511627776 - s.time < n then (s,bz 8)
 else ({ s with time:=s.time+n,ths:=s.ths.map fun t=>{ t with st:=(dA (s.time+n) t 0).1 } },⟨0,0,[]⟩)
noncomputable def je (s:ex) (a:cm):ex × uf:=
 if s.acts=300 then (s,bz 10)
 else
  let s':ex:={ s with acts:=s.acts+1 }
  if a.kind < 1\/9 < a.kind then (s',bz 9)
  else if a.kind=8 then iz s' a.n
  else if bT a.name=false then (s',bz 1)
  else dD s' a
variable {i:Nat}
def fT (l:List aL):Prop:=∀ o∈l,o.paths.length<=200
theorem sx:∀ (l:List aL),fT l->(bA l).length<=l.length * 200
 | [],_=>by simp[bA]
 | o :: l,h=>by
  have h1:=sx l fun x hx=>h x (by simp[hx]);have h2:=h o (by simp);have e:bA (o :: l)=o.paths.map (fun p=>(o.name,p))++bA l:=by simp[bA]
  rw[e,Mx,List.length_map,My];omega
theorem wM{stays:Lz->Lz->Bool}{l}(h:fT l):fT (dV stays l):=by
 intro o ho;obtain⟨x,hx,rfl,-⟩:=oE ho;exact MH (List.length_filter_le _ _) (h x hx)
theorem Gr{l o}(h:fT l)(ho:o.paths.length<=200):fT (bP l o):=by
 intro x hx;unfold bP at hx;split at hx
 ·exact h x hx
 ·rw[List.mem_append,List.mem_cons]at hx;rcases hx with hx | rfl | hx
  ·exact h x (List.mem_of_mem_take hx)
  ·exact ho
  ·exact h x (List.mem_of_mem_drop hx)
theorem Cs{v l}(h:bp l=true)(hl:fT l):bp (ir v l)=true/\fT (ir v l):=by
 unfold ir;split
 ·obtain⟨k1,k2⟩:=kI (stays:=fun _ p=>(dr (aw p) v).isSome) h;refine⟨?_,wM hl⟩;unfold bp;rw[MJ,MJ,decide_eq_true_eq,List.all_eq_true,gZ];refine⟨⟨?_,fun o ho=>?_⟩,k2⟩
  ·have h6:=(gz h).1;unfold dV;exact MH (List.length_filter_le _ _) (by simpa using h6)
  ·unfold ol;rw[MJ];exact k1 o ho
 ·exact⟨rfl,by intro o ho;cases ho⟩
theorem uT{t}{a:cm}(h:bp t.owners=true)(hl:fT t.owners)(he:(aJ t a).2.2=0):bp (aJ t a).2.1=true/\fT (aJ t a).2.1:=by
 by_cases h1:(cW a.body).2≠0
 ·exfalso;unfold aJ at he;rw[if_pos h1]at he;exact h1 he
 ·by_cases h5:a.kind=5
  ·obtain⟨w,m,c,e,hap⟩:∃ w m c e,eC t.value t.owners a.who (cW a.body).1 a.force=(w,m,c,e):=⟨_,_,_,_,rfl⟩
   have R:aJ t a=(w,m,e):=by unfold aJ;rw[if_neg h1,if_pos h5,hap]
   rw[R]at he ⊢;simp only at he ⊢;subst he;obtain⟨g,-,-⟩:=yZ hap;obtain⟨A,-,hm,-⟩:=ug hap;have O:=Ay a.who A.vk A.vg A.wk A.wg A.lg;exact⟨g,by rw[hm];exact Gr (wM hl) O.lvn⟩
  ·by_cases h2:(bW t.value a.kind (cW a.body).1).2≠0
   ·exfalso;unfold aJ at he;rw[if_neg h1,if_neg h5,if_pos h2]at he;exact h2 he
   ·have R:aJ t a=((bW t.value a.kind (cW a.body).1).1,ir (bW t.value a.kind (cW a.body).1).1 t.owners,0):=by unfold aJ;rw[if_neg h1,if_neg h5,if_neg h2]
    rw[R];exact Cs h hl
theorem lq{v}(h:cI v=0):aE v=true:=by
 unfold cI eY at h;cases hg:aE v with
 | true=>rfl
 | false=>rw[hg]at h;simp at h
structure jA (ver:Int) (t:Th):Prop where
 name:bT t.name=true
 rd:cI t.value=0
 own:bp t.owners=true
 lim:fT t.owners
 gen:0 < t.gen/\t.gen<=t.ver
 ver:t.ver<=ver
structure dP (s:ex):Prop where
 time:0<=s.time/\s.time<=1099511627776
 ver:0<=s.ver/\s.ver<=s.acts
 acts:s.acts<=300
 len:s.ths.length<=8
 rise:bD (s.ths.map Th.name)
 ths:∀ t∈s.ths,jA s.ver t
theorem AW:dP vm:=⟨by decide,by decide,by decide,by decide,List.Pairwise.nil,by intro t ht;cases ht⟩
theorem jA.more{ver ver' t}(h:jA ver t)(hv:ver<=ver'):jA ver' t:=⟨h.name,h.rd,h.own,h.lim,h.gen,Int.le_trans h.ver hv⟩
theorem jA.sta{ver t}(h:jA ver t)(s):jA ver { t with st:=s }:=⟨h.name,h.rd,h.own,h.lim,h.gen,h.ver⟩
theorem mC{time ver t}{a:cm}(hn:bT t.name=true)(ho:bp t.owners=true)(hl:fT t.owners)(hv:0<=ver)(hg:t.gen=0\/0 < t.gen/\t.gen<=t.ver/\t.ver<=ver)(he:(al time ver t a).2.2=0):(al time ver t a).1.name=t.name/\jA (al time ver t a).2.1 (al time ver t a).1/\ver<=(al time ver t a).2.1/\(al time ver t a).2.1<=ver+1:=by
 by_cases h1:(aJ t a).2.2≠0
 ·exfalso;unfold al at he;rw[if_pos h1]at he;exact h1 he
 ·by_cases h2:cI (aJ t a).1≠0
  ·exfalso;unfold al at he;rw[if_neg h1,if_pos h2]at he;exact h2 he
  ·have R:al time ver t a=((jw time ver t (aJ t a).1 (aJ t a).2.1).1,(jw time ver t (aJ t a).1 (aJ t a).2.1).2,0):=by unfold al;rw[if_neg h1,if_neg h2]
   have h2':cI (aJ t a).1=0:=by simpa using h2
   obtain⟨g1,g2⟩:=uT (a:=a) ho hl (by simpa using h1);rw[R];simp only[jw];by_cases ho:t.gen=0\/(aJ t a).1≠t.value
   ·have ho2:(t.gen=0\/(aJ t a).1≠t.value)\/(aJ t a).2.1≠t.owners:=.inl ho;simp only[if_pos ho,if_pos ho2];exact⟨trivial,⟨hn,h2',g1,g2,by simp only;omega,by simp only;omega⟩,by omega,by omega⟩
   ·by_cases ho3:(aJ t a).2.1≠t.owners
    ·have ho2:(t.gen=0\/(aJ t a).1≠t.value)\/(aJ t a).2.1≠t.owners:=.inr ho3;simp only[if_neg ho,if_pos ho2];exact⟨trivial,⟨hn,h2',g1,g2,by simp only;omega,by simp only;omega⟩,by omega,by omega⟩
    ·have ho2:¬((t.gen=0\/(aJ t a).1≠t.value)\/(aJ t a).2.1≠t.owners):=by rintro (h | h) <;> contradiction
     simp only[if_neg ho,if_neg ho2];exact⟨trivial,⟨hn,h2',g1,g2,by simp only;omega,by simp only;omega⟩,by omega,by omega⟩
theorem sI(l n):ci l n<=l.length:=List.countP_le_length
theorem AZ(l n):dR l n=(l.map Th.name).contains n:=by
 unfold dR;induction l with
 | nil=>rfl
 | cons t l ih=>rw[List.any_cons,List.map_cons,List.contains_cons,ih,Bool.beq_comm]
theorem xQ:∀ (l:List Th) (t:Th),bD (l.map Th.name)->dR l t.name=false->bD ((l.take (ci l t.name)++t :: l.drop (ci l t.name)).map Th.name):=by
 intro l t h hn;have hne:∀ x∈l,x.name≠t.name:=by
  intro x hx e;unfold dR at hn;rw[List.any_eq_false]at hn;exact hn x hx (by simp[e])
 have h2:=qd (l:=l.map fun x=>(⟨x.name,[]⟩:aL)) (o:=⟨t.name,[[]]⟩) (by simpa [Function.comp_def] using h) (by
  intro x hx;obtain⟨y,hy,rfl⟩:=List.mem_map.1 hx;exact hne y hy)
 have e:bB (l.map fun x=>(⟨x.name,[]⟩:aL)) t.name=ci l t.name:=by
  unfold bB ci;rw[List.countP_map];rfl
 unfold bP at h2;simp only[e]at h2;simpa [List.map_take,List.map_drop,Function.comp_def] using h2
theorem AH(n):bp (eT n).owners=true/\fT (eT n).owners:=⟨rfl,by intro o ho;cases ho⟩
theorem lD{len kind}(hl:len<=8)(h:cj len kind false=0):len < 8/\(kind=1\/kind=5):=by
 unfold cj at h;simp only[Bool.false_eq_true,and_false,if_false,and_true]at h;split at h
 ·cases h
 ·rename_i h1;split at h
  ·cases h
  ·rename_i h2;by_cases hb:kind=1\/kind=5
   ·exact⟨by
     have:¬len=8:=fun e=>h1 ⟨hb,e⟩;omega,hb⟩
   ·exact absurd hb h2
theorem vu{s:ex}{a:cm}(h:dP s)(hs:s.ver+1<=s.acts)(hn:bT a.name=true)(ht:dR s.ths a.name=false)(hl:s.ths.length < 8)(he:(al s.time s.ver (eT a.name) a).2.2=0):dP { s with ths:=s.ths.take (ci s.ths a.name)++(al s.time s.ver (eT a.name) a).1 :: s.ths.drop (ci s.ths a.name),ver:=(al s.time s.ver (eT a.name) a).2.1 }:=by
 obtain⟨g1,g2,g3,g4⟩:=mC (t:=eT a.name) hn (AH _).1 (AH _).2 h.ver.1 (.inl rfl) he;have g1':(al s.time s.ver (eT a.name) a).1.name=a.name:=g1;refine⟨h.time,⟨Int.le_trans h.ver.1 g3,Int.le_trans g4 hs⟩,h.acts,?_,?_,?_⟩
 ·have:=sI s.ths a.name;simp only[Mx,MC,My,MB];omega
 ·have:=xQ s.ths (al s.time s.ver (eT a.name) a).1 h.rise (by rw[g1'];exact ht);rw[g1']at this;exact this
 ·intro t hm;simp only[List.mem_append,List.mem_cons]at hm;rcases hm with hm | rfl | hm
  ·exact(h.ths t (List.mem_of_mem_take hm)).more g3
  ·exact g2
  ·exact(h.ths t (List.mem_of_mem_drop hm)).more g3
theorem xp{s:ex}{t u ver}(h:dP s)(hi:s.ths[i]?=some t)(hu:u.name=t.name)(hg:jA ver u)(h1:s.ver<=ver)(h2:ver<=s.acts):dP { s with ths:=s.ths.set i u,ver:=ver }:=by
 refine⟨h.time,⟨Int.le_trans h.ver.1 h1,h2⟩,h.acts,by simpa using h.len,?_,fun x hx=>?_⟩
 ·have e:(s.ths.set i u).map Th.name=s.ths.map Th.name:=by
   rw[List.map_set,hu];obtain⟨hl,rfl⟩:=Mz.1 hi;apply List.ext_getElem?;intro k;rw[List.getElem?_set];split
   ·rename_i hk;subst hk;rw[if_pos (by simpa using hl),List.getElem?_map,Mw hl];rfl
   ·rfl
  simp only[e];exact h.rise
 ·rcases List.mem_or_eq_of_mem_set hx with hx | rfl
  ·exact(h.ths x hx).more h1
  ·exact hg
theorem xF{s:ex}{a:cm}(h:dP s)(hs:s.ver+1<=s.acts)(hn:bT a.name=true):dP (dD s a).1:=by
 unfold dD;simp only;split
 ·exact h
 ·rename_i hb;have hb':cj s.ths.length a.kind (dR s.ths a.name)=0:=by simpa using hb
  split
  ·rename_i t ht;have htm:t∈s.ths:=List.mem_of_getElem? ht;have gt:=h.ths t htm;split
   ·rename_i hth;split
    ·exact h
    ·rename_i he;rw[hth]at hb';exact vu h hs hn hth (lD h.len hb').1 (by simpa using he)
   ·split
    ·refine⟨h.time,h.ver,h.acts,?_,?_,fun x hx=>h.ths x (List.mem_of_mem_eraseIdx hx)⟩
     ·exact MH (List.length_eraseIdx_le _ _) h.len
     ·exact nr ((List.eraseIdx_sublist _ _).map _) h.rise
    ·split
     ·split
      ·exact h
      ·exact xp h ht rfl (gt.sta _) (Int.le_refl _) h.ver.2
     ·split
      ·exact h
      ·split
       ·exact h
       ·split
        ·exact h
        ·rename_i he;obtain⟨g1,g2,g3,g4⟩:=mC (time:=s.time) (a:=a) gt.name gt.own gt.lim h.ver.1 (.inr ⟨gt.gen.1,gt.gen.2,gt.ver⟩) (by simpa using he);exact xp h ht g1 g2 g3 (Int.le_trans g4 hs)
  ·rename_i ht;have hle:s.ths.length<=ci s.ths a.name:=by simpa using ht
   split
   ·exact h
   ·rename_i he;have hth:dR s.ths a.name=false:=by
     rw[Bool.eq_false_iff];intro h9;unfold dR at h9;rw[List.any_eq_true]at h9;obtain⟨x,hx,e⟩:=h9;have h8:ci s.ths a.name < s.ths.length:=by
      unfold ci;have h7:=List.countP_le_length (p:=fun t:Th=>Op.bytesLess t.name a.name) (l:=s.ths);rcases Nat.lt_or_ge (s.ths.countP fun t:Th=>Op.bytesLess t.name a.name) s.ths.length with h6 | h6
      ·exact h6
      ·have h5:=List.countP_eq_length.1 (Nat.le_antisymm h7 h6) x hx;rw[show x.name=a.name by simpa using e,cd]at h5;cases h5
     omega
    rw[hth]at hb';have g:=vu h hs hn hth (lD h.len hb').1 (by simpa using he);rw[MD hle,List.drop_eq_nil_of_le hle]at g;exact g
theorem Ib{s:ex}{a:cm}(h:dP s):dP (je s a).1:=by
 unfold je;split
 ·exact h
 ·rename_i h3;have hs:dP { s with acts:=s.acts+1 }:=⟨h.time,⟨h.ver.1,by have:=h.ver.2;simp only;omega⟩,by have:=h.acts;simp only;omega,h.len,h.rise,h.ths⟩
  simp only;split
  ·exact hs
  ·split
   ·unfold iz;split
    ·exact hs
    ·rename_i hn;refine⟨?_,hs.ver,hs.acts,by simpa using h.len,?_,fun x hx=>?_⟩
     ·have:=h.time;simp only at hn ⊢;omega
     ·simp only[List.map_map];exact h.rise
     ·obtain⟨y,hy,rfl⟩:=List.mem_map.1 hx;exact(h.ths y hy).sta _
   ·split
    ·exact hs
    ·rename_i hn;exact xF hs (by have:=h.ver.2;simp only;omega) (by simpa using hn)
theorem Ge(W:LC)(ok t)(g:Nat)(a1 b1)(c1 d1:Nat)(n p:Lz)(hb:KY W g t a1 c1 b1 d1)(ht:In W ok t (.agg (KV t a1 c1 b1 d1)))(hp:p.length<=140737488351232)(hM:bj W):Calls prog 111 #[.string ⟨n.toArray⟩,.string ⟨p.toArray⟩,.pointer (some ⟨g,0,none⟩)] W fun e w'=>e=.returned (.bool (dr (aw p) t).isSome)/\La W w':=by
 have ST:Ll (Calls prog 112 #[.agg (KV t a1 c1 b1 d1),.string ⟨p.toArray⟩] W fun e w'=>∃ r,e=.returned (.tuple #[r,.bool (dr (aw p) t).isSome])/\La W w'/\In w' ok ((dr (aw p) t).getD aM) r):=gD W ok t _ p ht hp hM;have v0_:=hb.c;generalize (dr (aw p) t).isSome=o at ST ⊢;generalize (dr (aw p) t).getD aM=z at ST;clear hb ht hp hM;go_enter func111,ntmps111;go_wp2_with (go_at_call 112;refine ST.o.mono ?_;rintro e w1 ⟨r,rfl,hb,hr⟩;obtain⟨a2,b2,c2,d2,rfl⟩:=hr.form;have B1:=aa hb;clear hb hr)
 go_ret;exact⟨rfl,ab B1.o (ae _ _)⟩
theorem sT:∀ args w,(callFunc 111 args).run prog w=.ok (.enter 111 args) w:=enters_of func111 (by kernel_rfl) rfl
theorem Hz(w:LC)(ok t l vt vl)(ht:In w ok t vt)(hl:aB w ok l vl)(hM:bj w)(hN:(bA l).length<=4000000)(hP:∀ o∈l,∀ x∈o.paths,x.length<=140737488351232):Calls prog 83 #[vt,vl] w fun e w'=>∃ a c,e=.returned (.slice a (ir t l).length c)/\aB w' (fun k=>w.heap.size<=k) (ir t l) (.slice a (ir t l).length c)/\La w w':=by
 have HT:=aa ht;have HL:=aa hl;have HM:=aa hM;have HP:=aa hP;have HN:=aa hN;obtain⟨a1,b1,c1,d1,rfl⟩:=ht.form;obtain⟨la,lc,rfl⟩:=hl.form;obtain⟨W1,hW1⟩:∃ W,W=w.alloc (.cells (KV t a1 c1 b1 d1) 35):=⟨_,rfl⟩
 have Y1:Ll (La w W1):=aa (by rw[hW1];exact ae _ _);have VB:Ll (KY W1 w.heap.size t a1 c1 b1 d1):=aa (by rw[hW1];exact MN _ _);have HW1:=aa hW1;have JG:Ll (∀ W,La w W->Calls prog 50 #[.agg (KV t a1 c1 b1 d1)] W fun e w'=>e=.returned (.bool (aE t))/\La W w'):=fun W hW=>bG W _ t _ (HT.o.bel hW);have OG:Ll (∀ W,La w W->Calls prog 98 #[.slice la l.length lc] W fun e w'=>e=.returned (.bool (bp l))/\La W w'):=fun W hW=>eZ W _ l _ (HL.o.bel hW) HP.o (HM.o.bel hW);clear ht hl hM hN hP hW1;have v0_:=VB.o.c;go_enter func83,ntmps83;go_upto_region 1 with fail
 rw[<-HW1.o];cases hg:aE t with
 | false=>
  have R:Ll (ir t l=[]):=if_neg (by rw[hg];simp);rw[hg]at JG;clear hg;go_wp2_with (go_at_call 50;refine Lk (JG.o _ Y1.o) fun w2 hb=>?_;have B2:=aa hb;clear hb)
  go_ret;exact⟨none,0,by rw[R.o];rfl,by rw[R.o];exact aB.nil _ _,ab Y1.o B2.o⟩
 | true=>
 rw[hg]at JG;cases hq:bp l with
 | false=>
  have R:Ll (ir t l=[]):=if_neg (by rw[hq];simp);rw[hq]at OG;clear hg hq;go_wp2_with (first
   |(go_at_call 98;refine Lk (OG.o _ (ab Y1.o B2.o)) fun w3 hb=>?_;have B3:=aa hb;clear hb)
   |(go_at_call 50;refine Lk (JG.o _ Y1.o) fun w2 hb=>?_;have B2:=aa hb;clear hb))
  go_ret;exact⟨none,0,by rw[R.o];rfl,by rw[R.o];exact aB.nil _ _,ab (ab Y1.o B2.o) B3.o⟩
 | true=>
 rw[hq]at OG;have R:Ll (ir t l=dV (fun _ p=>(dr (aw p) t).isSome) l):=if_pos ⟨hg,hq⟩;obtain⟨g1,g2,g3⟩:=gz hq;have GR:=aa g3;have GN:=aa (kI (stays:=fun _ p=>(dr (aw p) t).isSome) hq).1;clear hg hq g1 g2 g3;go_upto_region 3 with (first
  |(go_at_call 98;refine Lk (OG.o _ (ab Y1.o B2.o)) fun w3 hb=>?_;have B3:=aa hb;clear hb)
  |(go_at_call 50;refine Lk (JG.o _ Y1.o) fun w2 hb=>?_;have B2:=aa hb;clear hb))
 have Y3:=aa (ab (ab Y1.o B2.o) B3.o);have KP:=Am w3 ok l _ 111 #[.pointer (some ⟨w.heap.size,0,none⟩)] (fun _ p=>(dr (aw p) t).isSome) sT
  (fun W n p hW hnp=>Ge W ok t w.heap.size a1 b1 c1 d1 n p (af (ab (ab B2.o B3.o) hW) VB.o) (HT.o.bel (ab Y3.o hW)) (by obtain⟨o,ho,-,hx⟩:=kL hnp;exact HP.o o ho _ hx) (HM.o.bel (ab Y3.o hW)))
  (HL.o.bel Y3.o) GR.o HN.o (fun o ho x hx=>by have:=HP.o o ho x hx;unfold maxLen;omega)
 rw[<-R.o]at KP;have KPT:=aa KP;rw[<-R.o]at GN;clear KP R;go_wp2_with (go_at_call 101;refine KPT.o.mono ?_;rintro e w4 ⟨oa,oc,rfl,hrow,hb⟩;have B4:=aa hb;have ORW:=aa hrow;clear hb hrow)
 go_ret;exact⟨oa,oc,rfl,(ORW.o.owns (fun o ho=>by have:=sh (GN.o o ho).1;unfold maxLen;omega)).weak fun k hk=>MH Y3.o.size hk,ab Y3.o B4.o⟩
theorem Kj:vE:=fun w ok ok' a b va vb ha hb hn=>(lP w ok ok' a b va vb ha hb (by have:=gE hn;omega)).mono fun _ _ h=>h
variable {W:World}
variable {ok:Nat->Prop}
variable {v:Value}
variable {B:Nat}
theorem xN{C z}(h:In W (fun k=>ok k/\k < B) z v):In W (bg ok B C) z v:=h.weak fun k hk=>.inl hk
theorem zc(w:LC)(ok v b kind vv bv)(hv:In w ok v vv)(hb:In w ok b bv)(hM:bj w)(hW:di w):Calls prog 82 #[vv,.int .i64 kind,bv] w fun e w'=>∃ r,e=.returned (.tuple #[r,.int .i64 (bW v kind b).2])/\In w' (bQ ok w.heap.size) (bW v kind b).1 r/\La w w':=by
 obtain⟨a1,b1,c1,d1,rfl⟩:=hv.form;obtain⟨a2,b2,c2,d2,rfl⟩:=hb.form;have HV:=aa hv.low;have HB:=aa hb.low;have HM:=aa hM;have HW:=aa hW;obtain⟨W3,hW3⟩:∃ W,W=((w.alloc (.cells (KV v a1 c1 b1 d1) 35)).alloc (.cells (KV b a2 c2 b2 d2) 35)).alloc (.cells Lb 35):=⟨_,rfl⟩
 have Y3:Ll (La w W3):=aa (by rw[hW3];exact ab (ab (ae _ _) (ae _ _)) (ae _ _));have X1:Ll (KY W3 w.heap.size v a1 c1 b1 d1):=aa (by rw[hW3];exact lI _ _ _ _);have X2:Ll (KY W3 (w.heap.size+1) b a2 c2 b2 d2):=aa (by rw[hW3];exact mE _ _ _ _);have X3:Ll (Lc W3 (w.heap.size+2)):=aa (by rw[hW3];exact jI _ _ _ _);have HW3:=aa hW3;clear hv hb hM hW hW3;have o0_:=X1.o.c;have p0_:=X2.o.c;go_enter func82,ntmps82;go_upto_region 1 with fail
 rw[<-HW3.o];by_cases h3:kind=3
 ·have e3:(kind == 3)=true:=by simp[h3]
  have H3:=aa h3;clear h3;have CC:=Fn W3 (Lj ok w) v b _ _ (HV.o.bel Y3.o) (HB.o.bel Y3.o);obtain⟨y,ye,hy⟩:∃ y ye,ge v b=(y,ye):=⟨_,_,rfl⟩
  rw[hy]at CC;have CALL:=aa CC;have HY:=aa hy;clear CC hy;go_wp2_with (go_at_call 108;refine CALL.o.mono ?_;rintro e w4 ⟨r,rfl,hb,hr⟩;obtain⟨a3,b3,c3,d3,rfl⟩:=hr.form;have B4:=aa hb;have R4:=aa hr;clear hb hr;have n0_:=(af B4.o X3.o).c;have Z:=aa (cY (w:=w) (ok:=ok) (C:=w.heap.size+3) (g:=w.heap.size+2) (R4.o.weak fun k hk=>by rcases hk with hk | hk;exact .inl hk;exact .inr (by have:=X3.o.lt;omega)) (ab Y3.o B4.o) (by omega) (by omega));have ZB:=aa ((af B4.o X3.o).set (.int .i64 y.kind) (.int .i64 y.n) (.string ⟨y.s.toArray⟩) (.slice a3 y.keys.length c3) (.slice b3 y.l.length d3));have HA:Ll (bW v kind b=(y,ye)):=aa (by unfold bW;rw[if_pos H3.o];exact HY.o))
  have z0_:=ZB.o.c;refine MM (v:=.tuple #[.agg (KV y a3 c3 b3 d3),.int .i64 ye]) ?_ rfl ?_
  ·simp only[ar]at z0_;simp[results,results82,go_sem,z0_]
  ·rw[HA.o];exact⟨_,rfl,Z.o.2,Z.o.1⟩
 ·have e3:(kind == 3)=false:=by rw[MO];exact h3
  have H3:=aa h3;clear h3;by_cases h4:kind=4
  ·have e4:(kind == 4)=true:=by simp[h4]
   have H4:=aa h4;clear h4;obtain⟨ops,oe,hops⟩:∃ ops oe,cU b=(ops,oe):=⟨_,_,rfl⟩
   have RR:=Gu W3 (Lj ok w) b _ (HB.o.bel Y3.o) (HW.o.bel Y3.o);rw[hops]at RR;have HOPS:=aa hops;have READ:Ll (Calls prog 109 #[.agg (KV b a2 c2 b2 d2)] W3 fun e w'=>∃ oa oc,e=.returned (.tuple #[.slice oa ops.length oc,.int .i64 oe])/\eX w' (bQ (Lj ok w) W3.heap.size) ops (.slice oa ops.length oc)/\La W3 w'):=RR.mono fun e w' h=>by
    obtain⟨sl,rfl,h1,h2⟩:=h;obtain⟨oa,oc,rfl⟩:∃ oa oc,sl=.slice oa ops.length oc:=by
     rcases h1.2 with⟨rfl,a,rfl⟩ | ⟨b9,off,c9,rfl,-⟩
     ·exact⟨_,_,rfl⟩
     ·exact⟨_,_,rfl⟩
    exact⟨oa,oc,rfl,h1,h2⟩
   clear RR hops;go_upto_region 6 with (go_at_call 109;refine READ.o.mono ?_;rintro e w5 ⟨oa,oc,rfl,h1,hb⟩;have B5:=aa hb;have O5:=aa h1;clear h1 hb)
   have o0_:=(af B5.o X1.o).c;by_cases he:oe=0
   ·subst he;have CC:=JF Ce w5 (bQ (Lj ok w) W3.heap.size) v ops _ _ (((HV.o.bel Y3.o).bel B5.o).weak fun k hk=>.inl hk) O5.o (HM.o.bel (ab Y3.o B5.o)) (fun _=>Er Kj _ _);obtain⟨y,ye,hy⟩:∃ y ye,qU Ce ops v=(y,ye):=⟨_,_,rfl⟩
    rw[hy]at CC;have CALL:=aa CC;have HY:=aa hy;clear CC hy;go_wp2_with (go_at_call 110;refine CALL.o.mono ?_;rintro e w4 ⟨r,rfl,hb,hr⟩;obtain⟨a3,b3,c3,d3,rfl⟩:=hr.form;have B4:=aa hb;have R4:=aa hr;clear hb hr;have n0_:=(af (ab B5.o B4.o) X3.o).c;have Z:=aa (cY (w:=w) (ok:=ok) (C:=w.heap.size+3) (g:=w.heap.size+2) (R4.o.weak fun k hk=>by rcases hk with (hk | hk) | hk;exact .inl hk;exact .inr (by have:=X3.o.lt;omega);exact .inr (by have:=X3.o.lt;have:=B5.o.size;omega)) (ab (ab Y3.o B5.o) B4.o) (by omega) (by omega));have ZB:=aa ((af (ab B5.o B4.o) X3.o).set (.int .i64 y.kind) (.int .i64 y.n) (.string ⟨y.s.toArray⟩) (.slice a3 y.keys.length c3) (.slice b3 y.l.length d3));have HA:Ll (bW v kind b=(y,ye)):=aa (by unfold bW;rw[if_neg H3.o,if_pos H4.o,HOPS.o,if_neg (by simp)];exact HY.o))
    have z0_:=ZB.o.c;refine MM (v:=.tuple #[.agg (KV y a3 c3 b3 d3),.int .i64 ye]) ?_ rfl ?_
    ·simp only[ar]at z0_;simp[results,results82,go_sem,z0_]
    ·rw[HA.o];exact⟨_,rfl,Z.o.2,Z.o.1⟩
   ·have e0:(oe != 0)=true:=by simpa using he
    have e1:(oe == 0)=false:=by rw[MO];exact he
    have HE:=aa he;clear he;have n0_:=(af B5.o X3.o).c;have Z:=aa (cY (w:=w) (ok:=ok) (C:=w.heap.size+3) (g:=w.heap.size+2) (xN ((HV.o.bel Y3.o).bel B5.o)) (ab Y3.o B5.o) (by omega) (by omega));have ZB:=aa ((af B5.o X3.o).set (.int .i64 v.kind) (.int .i64 v.n) (.string ⟨v.s.toArray⟩) (.slice a1 v.keys.length c1) (.slice b1 v.l.length d1));have HA:Ll (bW v kind b=(v,oe)):=aa (by unfold bW;rw[if_neg H3.o,if_pos H4.o,HOPS.o,if_pos HE.o]);go_wp2_with fail
    have z0_:=ZB.o.c;refine MM (v:=.tuple #[.agg (KV v a1 c1 b1 d1),.int .i64 oe]) ?_ rfl ?_
    ·simp only[ar]at z0_;simp[results,results82,go_sem,z0_]
    ·rw[HA.o];exact⟨_,rfl,Z.o.2,Z.o.1⟩
  ·have e4:(kind == 4)=false:=by rw[MO];exact h4
   have H4:=aa h4;clear h4;have n0_:=(af (MK _ _) X3.o).c;have Z:=aa (cY (w:=w) (ok:=ok) (C:=w.heap.size+3) (g:=w.heap.size+2) (xN (HB.o.bel Y3.o)) (Y3.o) (by omega) (by omega));have ZB:=aa ((af (MK _ _) X3.o).set (.int .i64 b.kind) (.int .i64 b.n) (.string ⟨b.s.toArray⟩) (.slice a2 b.keys.length c2) (.slice b2 b.l.length d2));have HA:Ll (bW v kind b=(b,0)):=aa (by unfold bW;rw[if_neg H3.o,if_neg H4.o]);go_wp2_with fail
   have z0_:=ZB.o.c;refine MM (v:=.tuple #[.agg (KV b a2 c2 b2 d2),.int .i64 0]) ?_ rfl ?_
   ·simp only[ar]at z0_;simp[results,results82,go_sem,z0_]
   ·rw[HA.o];exact⟨_,rfl,Z.o.2,Z.o.1⟩
def cu (t:Th) (a b:Option Addr) (c d:Nat) (oa:Option Addr) (oc:Nat):List Value:=[.string ⟨t.name.toArray⟩,.int .i64 t.value.kind,.int .i64 t.value.n,.string ⟨t.value.s.toArray⟩,.slice a t.value.keys.length c,.slice b t.value.l.length d,.slice oa t.owners.length oc,.int .i64 t.ver,.int .i64 t.gen,.string ⟨t.st.a.toArray⟩,.string ⟨t.st.c.toArray⟩,.int .i64 t.st.ph,.int .i64 t.st.st,.int .i64 t.st.we,.int .i64 t.st.si]
structure cQ (w:World) (ok:Nat->Prop) (t:Th) (a b:Option Addr) (c d:Nat) (oa:Option Addr) (oc:Nat):Prop where
 name:t.name.length<=9223372036854775807
 val:In w ok t.value (.agg (KV t.value a c b d))
 own:aB w ok t.owners (.slice oa t.owners.length oc)
theorem cQ.imp{w w':World}{ok ok' t a b c d oa oc}(h:cQ w ok t a b c d oa oc)(hc:∀ k x,ok k.block->w.cell? k=some x->ok' k.block/\w'.cell? k=some x):cQ w' ok' t a b c d oa oc:=
 ⟨h.name,by obtain⟨d9,h9⟩:=h.val;exact⟨d9,h9.imp hc⟩,h.own.imp hc⟩
theorem cQ.bel{w w':World}{ok t a b c d oa oc}(h:cQ w ok t a b c d oa oc)(hb:La w w'):cQ w' ok t a b c d oa oc:=⟨h.name,h.val.bel hb,h.own.bel hb⟩
theorem cQ.weak{w:World}{ok ok' t a b c d oa oc}(h:cQ w ok t a b c d oa oc)(hk:∀ k,ok k->ok' k):cQ w ok' t a b c d oa oc:=⟨h.name,h.val.weak hk,h.own.weak hk⟩
theorem cQ.low{w:World}{ok t a b c d oa oc}(h:cQ w ok t a b c d oa oc):cQ w (Lj ok w) t a b c d oa oc:=⟨h.name,h.val.low,h.own.low⟩
theorem jS(t a b c d oa oc):∀ u∈cu t a b c d oa oc,u.oneCell'=true:=by
 intro u hu;simp only[cu,List.mem_cons,List.not_mem_nil,or_false]at hu;rcases hu with rfl | rfl | rfl | rfl | rfl | rfl | rfl | rfl | rfl | rfl | rfl | rfl | rfl | rfl | rfl <;> rfl
def cO (w:World) (ok:Nat->Prop) (xs:List Th) (v:Value):Prop:=
 xs.length<=9223372036854775807/\(xs=[]/\(∃ a,v=.slice a 0 0)\/∃ g off c,v=.slice (some ⟨g,off,none⟩) xs.length c/\xs.length<=c/\c<=9223372036854775807 /\
  ∀ i x,xs[i]?=some x->ok g/\∃ (a b:Option Addr) (c d:Nat) (oa:Option Addr) (oc:Nat),(∀ j u,(cu x a b c d oa oc)[j]?=some u->w.cell? ⟨g,off+i * 15+j,none⟩=some u)/\cQ w ok x a b c d oa oc)
theorem cO.imp{w w' ok ok' xs v}(h:cO w ok xs v)(hc:∀ k x,ok k.block->w.cell? k=some x->ok' k.block/\w'.cell? k=some x):cO w' ok' xs v:=by
 refine⟨h.1,?_⟩;rcases h.2 with h | ⟨g,off,c,e,h1,h2,h3⟩
 ·exact .inl h
 ·refine .inr ⟨g,off,c,e,h1,h2,fun i x hx=>?_⟩;obtain⟨q1,a,b,c,d,oa,oc,q2,q3⟩:=h3 i x hx;exact⟨(hc ⟨g,off+i * 15+0,none⟩ _ q1 (q2 0 _ rfl)).1,a,b,c,d,oa,oc,fun j u hu=>(hc ⟨g,off+i * 15+j,none⟩ _ q1 (q2 j u hu)).2,q3.imp hc⟩
theorem cO.bel{w w' ok xs v}(h:cO w ok xs v)(hb:La w w'):cO w' ok xs v:=h.imp fun k x h1 h2=>⟨h1,ah hb h2⟩
theorem cO.weak{w ok ok' xs v}(h:cO w ok xs v)(hk:∀ k,ok k->ok' k):cO w ok' xs v:=h.imp fun k x h1 h2=>⟨hk _ h1,h2⟩
theorem cO.low{w ok xs v}(h:cO w ok xs v):cO w (Lj ok w) xs v:=h.imp fun k x h1 h2=>⟨⟨h1,World.block_lt_of_cell? w k h2⟩,h2⟩
theorem cO.form{w ok xs v}(h:cO w ok xs v):∃ a c,v=.slice a xs.length c:=by
 rcases h.2 with⟨rfl,a,rfl⟩ | ⟨g,off,c,rfl,-⟩
 ·exact⟨a,0,rfl⟩
 ·exact⟨_,_,rfl⟩
theorem cO.at{w:World}{ok xs p n k i}(h:cO w ok xs (.slice p n k))(hi:i < xs.length):∃ g off,p=some ⟨g,off,none⟩/\xs.length<=k/\k<=9223372036854775807/\ok g/\∃ (a b:Option Addr) (c d:Nat) (oa:Option Addr) (oc:Nat),(w.cell? ⟨g,off+i * 15,none⟩=some (.string ⟨xs[i].name.toArray⟩)/\w.cell? ⟨g,off+i * 15+1,none⟩=some (.int .i64 xs[i].value.kind)/\w.cell? ⟨g,off+i * 15+2,none⟩=some (.int .i64 xs[i].value.n)/\w.cell? ⟨g,off+i * 15+3,none⟩=some (.string ⟨xs[i].value.s.toArray⟩)/\w.cell? ⟨g,off+i * 15+4,none⟩=some (.slice a xs[i].value.keys.length c)/\w.cell? ⟨g,off+i * 15+5,none⟩=some (.slice b xs[i].value.l.length d)/\w.cell? ⟨g,off+i * 15+6,none⟩=some (.slice oa xs[i].owners.length oc)/\w.cell? ⟨g,off+i * 15+7,none⟩=some (.int .i64 xs[i].ver)/\w.cell? ⟨g,off+i * 15+8,none⟩=some (.int .i64 xs[i].gen)/\w.cell? ⟨g,off+i * 15+9,none⟩=some (.string ⟨xs[i].st.a.toArray⟩)/\w.cell? ⟨g,off+i * 15+10,none⟩=some (.string ⟨xs[i].st.c.toArray⟩)/\w.cell? ⟨g,off+i * 15+11,none⟩=some (.int .i64 xs[i].st.ph)/\w.cell? ⟨g,off+i * 15+12,none⟩=some (.int .i64 xs[i].st.st)/\w.cell? ⟨g,off+i * 15+13,none⟩=some (.int .i64 xs[i].st.we)/\w.cell? ⟨g,off+i * 15+14,none⟩=some (.int .i64 xs[i].st.si))/\cQ w ok xs[i] a b c d oa oc:=by
 rcases h.2 with⟨e,-⟩ | ⟨g,off,c',e,h1,h2,h3⟩
 ·rw[e]at hi;simp at hi
 ·simp only[Value.slice.injEq]at e;obtain⟨rfl,-,rfl⟩:=e;obtain⟨q1,a,b,c,d,oa,oc,q2,q3⟩:=h3 i xs[i] (Mw hi);exact⟨g,off,rfl,h1,h2,q1,a,b,c,d,oa,oc,⟨q2 0 _ rfl,q2 1 _ rfl,q2 2 _ rfl,q2 3 _ rfl,q2 4 _ rfl,q2 5 _ rfl,q2 6 _ rfl,q2 7 _ rfl,q2 8 _ rfl,q2 9 _ rfl,q2 10 _ rfl,q2 11 _ rfl,q2 12 _ rfl,q2 13 _ rfl,q2 14 _ rfl⟩,q3⟩
def fN (w:World) (g:Nat) (t:Th) (a b:Option Addr) (c d:Nat) (oa:Option Addr) (oc:Nat):Prop:=w.heap[g]?=some (.cells (Ld t a c b d oa oc) 40)
theorem fN.c{w g t a b c d oa oc}(h:fN w g t a b c d oa oc):w.cell? ⟨g,0,none⟩=some (.string ⟨t.name.toArray⟩)/\w.cell? ⟨g,1,none⟩=some (.int .i64 t.value.kind)/\w.cell? ⟨g,2,none⟩=some (.int .i64 t.value.n)/\w.cell? ⟨g,3,none⟩=some (.string ⟨t.value.s.toArray⟩)/\w.cell? ⟨g,4,none⟩=some (.slice a t.value.keys.length c)/\w.cell? ⟨g,5,none⟩=some (.slice b t.value.l.length d)/\w.cell? ⟨g,6,none⟩=some (.slice oa t.owners.length oc)/\w.cell? ⟨g,7,none⟩=some (.int .i64 t.ver)/\w.cell? ⟨g,8,none⟩=some (.int .i64 t.gen)/\w.cell? ⟨g,9,none⟩=some (.string ⟨t.st.a.toArray⟩)/\w.cell? ⟨g,10,none⟩=some (.string ⟨t.st.c.toArray⟩)/\w.cell? ⟨g,11,none⟩=some (.int .i64 t.st.ph)/\w.cell? ⟨g,12,none⟩=some (.int .i64 t.st.st)/\w.cell? ⟨g,13,none⟩=some (.int .i64 t.st.we)/\w.cell? ⟨g,14,none⟩=some (.int .i64 t.st.si):=by
 unfold fN at h;refine⟨?_,?_,?_,?_,?_,?_,?_,?_,?_,?_,?_,?_,?_,?_,?_⟩ <;> simp[World.cell?,h]
theorem fN.f{w g t a b c d oa oc}(h:fN w g t a b c d oa oc):w.frozen? ⟨g,0,none⟩=false/\w.frozen? ⟨g,1,none⟩=false/\w.frozen? ⟨g,2,none⟩=false/\w.frozen? ⟨g,3,none⟩=false/\w.frozen? ⟨g,4,none⟩=false/\w.frozen? ⟨g,5,none⟩=false/\w.frozen? ⟨g,6,none⟩=false/\w.frozen? ⟨g,7,none⟩=false/\w.frozen? ⟨g,8,none⟩=false/\w.frozen? ⟨g,9,none⟩=false/\w.frozen? ⟨g,10,none⟩=false/\w.frozen? ⟨g,11,none⟩=false/\w.frozen? ⟨g,12,none⟩=false/\w.frozen? ⟨g,13,none⟩=false/\w.frozen? ⟨g,14,none⟩=false:=by
 unfold fN at h;refine⟨?_,?_,?_,?_,?_,?_,?_,?_,?_,?_,?_,?_,?_,?_,?_⟩ <;> simp[World.frozen?,h]
theorem fN.bel{w w' g t a b c d oa oc}(h:fN w g t a b c d oa oc)(hb:La w w'):fN w' g t a b c d oa oc:=by
 unfold fN at h ⊢;rw[hb.block _ (MF.1 h).1];exact h
theorem fN.lt{w g t a b c d oa oc}(h:fN w g t a b c d oa oc):g < w.heap.size:=(MF.1 h).1
variable {w w':World}
variable {g S:Nat}
section
def eF (w:LC) (S:Nat) (v:Value) (time ver acts:Int):Prop:=w.heap[S]?=some (.cells #[v,.int .i64 time,.int .i64 ver,.int .i64 acts] 58)
theorem eF.c{time ver acts}(h:eF w S v time ver acts):w.cell? ⟨S,0,none⟩=some v/\w.cell? ⟨S,1,none⟩=some (.int .i64 time)/\w.cell? ⟨S,2,none⟩=some (.int .i64 ver)/\w.cell? ⟨S,3,none⟩=some (.int .i64 acts):=by
 unfold eF at h;refine⟨?_,?_,?_,?_⟩ <;> simp[World.cell?,h]
theorem eF.f{time ver acts}(h:eF w S v time ver acts):w.frozen? ⟨S,0,none⟩=false/\w.frozen? ⟨S,1,none⟩=false/\w.frozen? ⟨S,2,none⟩=false/\w.frozen? ⟨S,3,none⟩=false:=by
 unfold eF at h;refine⟨?_,?_,?_,?_⟩ <;> simp[World.frozen?,h]
theorem eF.bel{time ver acts}(h:eF w S v time ver acts)(hb:La w w'):eF w' S v time ver acts:=(hb.block S (MF.1 h).1).trans h
theorem eF.lt{time ver acts}(h:eF w S v time ver acts):S < w.heap.size:=(MF.1 h).1
theorem fM.c2{i}(h:fM w g i v):w.cell? ⟨g,0,none⟩=some (.string ⟨i.toArray⟩)/\w.cell? ⟨g,1,none⟩=some v/\True:=⟨h.c.1,h.c.2,trivial⟩
theorem mH{l}(h:bk w l v):∃ a c,v=.slice a l.length c:=by
 rcases h.2 with⟨rfl,a,rfl⟩ | ⟨b,off,c,rfl,-⟩
 ·exact⟨_,_,rfl⟩
 ·exact⟨_,_,rfl⟩
theorem nz(t):(bE t).1.length<=9223372036854775807:=by
 unfold bE;cases h:eY t with
 | none=>simp
 | some x=>
  unfold eY at h;split at h
  ·cases h
  ·rename_i hg;have hg2:aE t=true:=by simpa using hg
   split at h
   ·cases h
   ·rename_i m hm;split at h
    ·cases h
    ·rename_i hk;have hk3:m.kind=3:=by
      apply Classical.byContradiction;intro h9;exact hk (.inl h9)
     have hn:=fp (gC (dQ hg2) (lG hm));unfold ce at hn;rw[hk3]at hn;simp[eK]at hn;have hs:x.1=m.s:=by
      split at h
      ·cases h;rfl
      ·split at h
       ·cases h
       ·cases h;rfl
     rw[Option.getD_some,hs];omega
theorem dh(w e):Calls prog 20 #[.int .i64 e] w fun r w'=>r=.returned (.agg #[.int .i64 e,.int .i64 0,.string ⟨#[]⟩])/\La w w':=by
 go_enter func20,ntmps20;go_wp2_with fail
 refine MM (v:=.agg #[.int .i64 e,.int .i64 0,.string ⟨#[]⟩]) ?_ rfl ?_
 ·simp[results,results20,go_sem]
 ·exact⟨rfl,ae _ _⟩
theorem DA(w S len c a time ver acts kind there)(h:eF w S (.slice a len c) time ver acts)(hl:len<=9223372036854775807):Calls prog 31 #[.pointer (some ⟨S,0,none⟩),.int .i64 kind,.bool there] w fun e w'=>e=.returned (.int .i64 (cj len kind there))/\w'=w:=by
 obtain⟨s0,-⟩:=h.c;clear h;by_cases k1:kind=1
 ·have e1:(kind == 1)=true:=by simp[k1]
  cases there
  ·by_cases h8:len=8
   ·have R:Ll (cj len kind false=10):=aa (by simp[cj,k1,h8]);have e8:((len:Int) == 8)=true:=by simp[h8]
    clear k1 h8;go_enter func31,ntmps31;go_wp2_with fail
    go_ret;exact⟨by rw[R.o];first | done | rfl | simp,rfl⟩
   ·have R:Ll (cj len kind false=0):=aa (by simp[cj,k1,h8]);have e8:((len:Int) == 8)=false:=by rw[MO];omega
    clear k1 h8;go_enter func31,ntmps31;go_wp2_with fail
    go_ret;exact⟨by rw[R.o];first | done | rfl | simp,rfl⟩
  ·have R:Ll (cj len kind true=6):=aa (by simp[cj,k1]);clear k1;go_enter func31,ntmps31;go_wp2_with fail
   go_ret;exact⟨by rw[R.o];first | done | rfl | simp,rfl⟩
 ·have e1:(kind == 1)=false:=by rw[MO];exact k1
  by_cases k5:kind=5
  ·have e5:(kind == 5)=true:=by simp[k5]
   cases there
   ·by_cases h8:len=8
    ·have R:Ll (cj len kind false=10):=aa (by simp[cj,k5,h8]);have e8:((len:Int) == 8)=true:=by simp[h8]
     clear k1 k5 h8;go_enter func31,ntmps31;go_wp2_with fail
     go_ret;exact⟨by rw[R.o];first | done | rfl | simp,rfl⟩
    ·have R:Ll (cj len kind false=0):=aa (by simp[cj,k5,h8]);have e8:((len:Int) == 8)=false:=by rw[MO];omega
     clear k1 k5 h8;go_enter func31,ntmps31;go_wp2_with fail
     go_ret;exact⟨by rw[R.o];first | done | rfl | simp,rfl⟩
   ·have R:Ll (cj len kind true=0):=aa (by simp[cj,k5]);clear k1 k5;go_enter func31,ntmps31;go_wp2_with fail
    go_ret;exact⟨by rw[R.o];first | done | rfl | simp,rfl⟩
  ·have e5:(kind == 5)=false:=by rw[MO];exact k5
   cases there
   ·have R:Ll (cj len kind false=3):=aa (by simp[cj,k1,k5]);clear k1 k5;go_enter func31,ntmps31;go_wp2_with fail
    go_ret;exact⟨by rw[R.o];first | done | rfl | simp,rfl⟩
   ·have R:Ll (cj len kind true=0):=aa (by simp[cj,k1,k5]);clear k1 k5;go_enter func31,ntmps31;go_wp2_with fail
    go_ret;exact⟨by rw[R.o];first | done | rfl | simp,rfl⟩
attribute [local go_sem ↓] Go.wp_at_zero Go.wp_at_succ
theorem uN(w:LC)(ok S v time ver acts order t a b c d oa oc)(hs:eF w S v time ver acts)(ht:cQ w ok t a b c d oa oc):Calls prog 29 #[.pointer (some ⟨S,0,none⟩),.agg (Ld t a c b d oa oc),.int .i64 order] w fun e w'=>e=.returned (.tuple #[.agg #[.string ⟨(dA time t order).1.a.toArray⟩,.string ⟨(dA time t order).1.c.toArray⟩,.int .i64 (dA time t order).1.ph,.int .i64 (dA time t order).1.st,.int .i64 (dA time t order).1.we,.int .i64 (dA time t order).1.si],.int .i64 (dA time t order).2])/\La w w':=by
 obtain⟨r,re,hr⟩:∃ r re,dA time t order=(r,re):=⟨_,_,rfl⟩
 rw[hr];obtain⟨W2,hW2⟩:∃ W,W=(w.alloc (.cells (Ld t a c b d oa oc) 40)).alloc (.cells #[.string ⟨#[]⟩,.string ⟨#[]⟩,.int .i64 0,.int .i64 0,.int .i64 0,.int .i64 0] 38):=⟨_,rfl⟩
 have Y2:Ll (La w W2):=aa (by rw[hW2];exact ab (ae _ _) (ae _ _));have TB2:Ll (fN W2 w.heap.size t a b c d oa oc):=aa (by rw[hW2];exact fb _ _ _);have ZB2:Ll (de W2 (w.heap.size+1) ⟨[],[],0,0,0,0⟩):=aa (by rw[hW2];exact et _ _ _);have HW2:=aa hW2;have SB2:=aa (hs.bel Y2.o);have RD:=Hx W2 ok t.value _ (ht.val.bel Y2.o);obtain⟨sp,hsp⟩:∃ sp,bE t.value=sp:=⟨_,rfl⟩
 obtain⟨se,hse⟩:∃ se,cI t.value=se:=⟨_,rfl⟩
 have LSP:Ll (sp.1.length<=9223372036854775807):=aa (by rw[<-hsp];exact nz _);rw[hsp,hse]at RD;obtain⟨im,sps⟩:=sp;have READ:=aa RD;have HNX:Ll (ij im sps t.st time order=(r,re)):=aa (by rw[<-hr];unfold dA;rw[hsp]);clear hW2 RD hr hs ht hsp hse;have t0_:=TB2.o.c;go_enter func29,ntmps29;go_upto_region 1 with fail
 rw[<-HW2.o];go_upto_region 2 with (go_at_call 40;refine READ.o.mono ?_;rintro e w3 ⟨sl,rfl,h1,hb⟩;obtain⟨sa,sc,rfl⟩:=mH h1;have B3:=aa hb;have SP3:=aa h1;clear h1 hb)
 obtain⟨W3,hW3⟩:∃ W,W=w3.alloc (.cells #[.string ⟨im.toArray⟩,.slice sa sps.length sc] 83):=⟨_,rfl⟩
 have A3:Ll (La w3 W3):=aa (by rw[hW3];exact ae _ _);have PB:Ll (fM W3 w3.heap.size im (.slice sa sps.length sc)):=aa (by rw[hW3];exact MN _ _);rw[<-hW3];clear hW3;have B23:=aa (ab B3.o A3.o);have Y3:=aa (ab Y2.o B23.o);have TB:=aa (TB2.o.bel B23.o);have ZB:=aa (ZB2.o.bel B23.o);have SB:=aa (SB2.o.bel B23.o);have NX:Ll (∀ W,La W3 W->Calls prog 41 #[.agg #[.string ⟨im.toArray⟩,.slice sa sps.length sc],.agg (Li t.st),.int .i64 time,.int .i64 order] W fun e w'=>e=.returned (.tuple #[.agg (Li r),.int .i64 re])/\La W w'):=fun W hW=>by
  have:=AK W im sps (.slice sa sps.length sc) t.st time order ((SP3.o.bel A3.o).bel hW) LSP.o;rw[HNX.o]at this;exact this
 clear HNX READ SP3;refine aD (fun wS=>La W3 wS) [11] (by kernel_rfl) (aC _ 1) (fun LI=>?_);refine WT.out ?_;iterate 8
  first
   | refine tk (i:=0) (v:=?_) [8,9,10,11,12] rfl rfl (by decide +kernel) rfl (fun _ _ _ h=>h) LI ?_ ?_
   | refine tk (i:=1) (v:=?_) [2,8,9,10,11,12] rfl rfl (by decide +kernel) rfl (fun _ _ _ h=>h) LI ?_ ?_
   | refine tk (i:=2) (v:=?_) [8,9,10,11,12] rfl rfl (by decide +kernel) rfl (fun _ _ _ h=>h) LI ?_ ?_
   | refine tk (i:=3) (v:=?_) [4,5,6,8,9,10,11,12] rfl rfl (by decide +kernel) rfl (fun _ _ _ h=>h) LI ?_ ?_
   | refine tk (i:=4) (v:=?_) [5,6,8,9,10,11,12] rfl rfl (by decide +kernel) rfl (fun _ _ _ h=>h) LI ?_ ?_
   | refine tk (i:=5) (v:=?_) [6,8,9,10,11,12] rfl rfl (by decide +kernel) rfl (fun _ _ _ h=>h) LI ?_ ?_
   | refine tk (i:=6) (v:=?_) [8,9,10,11,12] rfl rfl (by decide +kernel) rfl (fun _ _ _ h=>h) LI ?_ ?_
   | refine tk (i:=7) (v:=?_) [8,9,10,11,12] rfl rfl (by decide +kernel) rfl (fun _ _ _ h=>h) LI ?_ ?_
  rotate_left
  ·intro wS LN;obtain⟨u0,u1,-⟩:=(PB.o.bel LN).c2;have t0_:=(TB.o.bel LN).c;have s0_:=(SB.o.bel LN).c;go_simp;all_goals with_reducible rfl
  simp only[av,List.set]
 repeat' (first
  | exact nl
  |(refine ip (i:=8) (o:=_) rfl (fun K hK=>?_) ?_
    go_simp;refine Lk (NX.o _ LI) fun w8q hb5=>?_;refine hK.out _ _ (ab LI hb5) (fun LJ=>?_);have B5:=aa LJ;clear hb5;clear hK K;replace LI:=LJ;clear LJ;try simp only[Act.put,Mt,Mu,Mv])
  |(refine jZ (i:=11) (o:=_) (by decide +kernel) rfl (fun K hK=>?_)
    have n0_:=(ZB.o.bel LI).c;have Z9:=aa ((ZB.o.bel LI).set r);have BZ:=aa (bX (ab Y3.o LI) (show w.heap.size<=w.heap.size+1 by omega) r);go_simp;refine hK.out _ _ ?_;clear hK K;try simp only[Act.put,Mt,Mu,Mv])
  |(refine jZ (i:=12) (o:=_) (by decide +kernel) rfl (fun K hK=>?_)
    go_simp;refine hK.out _ _ ?_;clear hK K;try simp only[Act.put,Mt,Mu,Mv])
  |(first
     | refine tk (i:=9) (v:=?_) [11,12] rfl rfl (by decide +kernel) rfl (fun _ _ _ h=>h) (by exact LI) ?_ ?_
     | refine tk (i:=10) (v:=?_) [11,12] rfl rfl (by decide +kernel) rfl (fun _ _ _ h=>h) (by exact LI) ?_ ?_
    rotate_left
    ·intro wS LN;go_simp;all_goals with_reducible rfl
    simp only[av,List.set])
  | refine gc [8] (by decide +kernel) ?_
  | fail)
 all_goals
  refine dn (by kernel_rfl) ?_;have z0_:=Z9.o.c;go_wp2_with fail
  refine MM (v:=.tuple #[.agg (Li r),.int .i64 re]) ?_ rfl ?_
  ·simp only[fR]at z0_;simp[results,results29,go_sem,z0_]
  ·exact⟨rfl,BZ.o⟩
end
theorem nV(w n p v1 v2 v3 v4 v5 v6 v7 v8 v9 v10 v11 v12 v13 v14):Calls prog 43 #[.agg #[.string ⟨n.toArray⟩,v1,v2,v3,v4,v5,v6,v7,v8,v9,v10,v11,v12,v13,v14],.string ⟨p.toArray⟩] w fun e w'=>e=.returned (.int .i64 (Lib.compareBytes n p))/\La w w':=by
 have CALL:Ll (∀ W,Calls prog 44 #[.string ⟨n.toArray⟩,.string ⟨p.toArray⟩] W fun e w'=>e=.returned (.int .i64 (Lib.compareBytes n p))/\w'=W):=fun W=>by
  have:=Tryz.strCompare ⟨n.toArray⟩ ⟨p.toArray⟩ W;simpa only[List.toList_toArray] using this
 obtain⟨r,hr⟩:∃ r,Lib.compareBytes n p=r:=⟨_,rfl⟩
 rw[hr]at CALL ⊢;clear hr;go_enter func43,ntmps43;go_wp2_with (go_at_call 44;refine(CALL.o _).mono ?_;rintro e w' ⟨rfl,hw1⟩;have hw2:=hw1.symm;subst hw2;clear hw1)
 go_ret;exact⟨rfl,ae _ _⟩
theorem yx(w:LC)(ok xs v p)(h:cO w ok xs v)(hr:bD (xs.map Th.name))(hn:xs.length < 4611686018427387904):Calls prog 42 #[v,.string ⟨p.toArray⟩,.func (.func 43) #[] #[]] w fun e w'=>e=.returned (.tuple #[.int .i64 (ci xs p:Nat),.bool ((xs.map Th.name).contains p)])/\La w w':=by
 obtain⟨sa,sc,rfl⟩:=h.form;have H:=aa h;have HR:=aa hr;have LM:(xs.map Th.name).length=xs.length:=List.length_map _;have PL:Ll (ci xs p=(xs.map Th.name).countP (fun x=>Op.bytesLess x p)):=aa (by unfold ci;rw[List.countP_map];rfl);have LMH:=aa LM;clear h hr LM;go_enter func42,ntmps42;go_wp2_with fail
 go_loopg [9,10] xs.length (fun kx s9 s10 wr=>∃ lo hi:Nat,s9=.int .i64 lo/\s10=.int .i64 hi/\lo<=hi/\hi<=xs.length/\hi - lo<=kx/\Ll (gK (xs.map Th.name) p lo hi)/\Ll (La w wr))
 case atStart=>exact⟨0,xs.length,rfl,rfl,Nat.zero_le _,MG _,by omega,aa ⟨fun t x ht=>absurd ht (Nat.not_lt_zero _),fun t x ht hx=>by rw[List.getElem?_eq_none (by rw[LMH.o];exact ht)]at hx;cases hx⟩,MK _ _⟩
 case round=>
  obtain⟨lo,hi,rfl,rfl,hlh,hin,hg,I,BL⟩:=hrel;by_cases hlt:lo < hi
  ·have hm:(lo+hi) / 2 < xs.length:=by omega
   obtain⟨g,off,rfl,j1,j2,-,a,b,c,d,oa,oc,⟨k1,k2,k3,k4,k5,k6,k7,k8,k9,k10,k11,k12,k13,k14,k15⟩,-⟩:=H.o.at hm;have c1:=ah BL.o k1;have c2:=ah BL.o k2;have c3:=ah BL.o k3;have c4:=ah BL.o k4;have c5:=ah BL.o k5;have c6:=ah BL.o k6;have c7:=ah BL.o k7;have c8:=ah BL.o k8;have c9:=ah BL.o k9;have c10:=ah BL.o k10;have c11:=ah BL.o k11;have c12:=ah BL.o k12;have c13:=ah BL.o k13;have c14:=ah BL.o k14;have c15:=ah BL.o k15;clear k1 k2 k3 k4 k5 k6 k7 k8 k9 k10 k11 k12 k13 k14 k15;have UP:Ll (Lib.compareBytes xs[(lo+hi) / 2].name p < 0->gK (xs.map Th.name) p ((lo+hi) / 2+1) hi):=fun h9=>tR HR.o I.o (by rw[LMH.o];exact hm) (by rw[List.getElem_map];exact(ki _ _).1 h9);have DN:Ll (¬Lib.compareBytes xs[(lo+hi) / 2].name p < 0->gK (xs.map Th.name) p lo ((lo+hi) / 2)):=fun h9=>mK HR.o I.o (by rw[LMH.o];exact hm) (by rw[List.getElem_map,Bool.eq_false_iff];exact fun h8=>h9 ((ki _ _).2 h8));have CALL:Ll (∀ W,Calls prog 43 #[.agg #[.string ⟨xs[(lo+hi) / 2].name.toArray⟩,.int .i64 xs[(lo+hi) / 2].value.kind,.int .i64 xs[(lo+hi) / 2].value.n,.string ⟨xs[(lo+hi) / 2].value.s.toArray⟩,.slice a xs[(lo+hi) / 2].value.keys.length c,.slice b xs[(lo+hi) / 2].value.l.length d,.slice oa xs[(lo+hi) / 2].owners.length oc,.int .i64 xs[(lo+hi) / 2].ver,.int .i64 xs[(lo+hi) / 2].gen,.string ⟨xs[(lo+hi) / 2].st.a.toArray⟩,.string ⟨xs[(lo+hi) / 2].st.c.toArray⟩,.int .i64 xs[(lo+hi) / 2].st.ph,.int .i64 xs[(lo+hi) / 2].st.st,.int .i64 xs[(lo+hi) / 2].st.we,.int .i64 xs[(lo+hi) / 2].st.si],.string ⟨p.toArray⟩] W fun e w'=>e=.returned (.int .i64 (Lib.compareBytes xs[(lo+hi) / 2].name p))/\La W w'):=fun W=>nV W _ p _ _ _ _ _ _ _ _ _ _ _ _ _ _;obtain⟨r,hr⟩:∃ r,Lib.compareBytes xs[(lo+hi) / 2].name p=r:=⟨_,rfl⟩
   rw[hr]at CALL UP DN;clear hr;by_cases hyx:r < 0
   ·go_wp2_with (go_at_call 43;refine Lk (CALL.o _) fun w' hb=>?_)
    go_roundg (hi - ((lo+hi) / 2+1))
    case measure=>omega
    case rel=>exact⟨(lo+hi) / 2+1,hi,by rw[show ((lo:Int)+(hi:Int)) / 2+1=(((lo+hi) / 2+1:Nat):Int) by omega],rfl,by omega,hin,MG _,aa (UP.o hyx),aa (ab BL.o hb)⟩
   ·go_wp2_with (go_at_call 43;refine Lk (CALL.o _) fun w' hb=>?_)
    go_roundg ((lo+hi) / 2 - lo)
    case measure=>omega
    case rel=>exact⟨lo,(lo+hi) / 2,rfl,by rw[show ((lo:Int)+(hi:Int)) / 2=(((lo+hi) / 2:Nat):Int) by omega],by omega,by omega,MG _,aa (DN.o hyx),aa (ab BL.o hb)⟩
  ·obtain rfl:hi=lo:=by omega
   have CN:Ll (ci xs p=hi):=aa (by rw[PL.o];exact jm _ p hi (by rw[LMH.o];exact hin) I.o);by_cases hn:hi < xs.length
   ·obtain⟨g,off,rfl,j1,j2,-,a,b,c,d,oa,oc,⟨k1,k2,k3,k4,k5,k6,k7,k8,k9,k10,k11,k12,k13,k14,k15⟩,-⟩:=H.o.at hn;have c1:=ah BL.o k1;have c2:=ah BL.o k2;have c3:=ah BL.o k3;have c4:=ah BL.o k4;have c5:=ah BL.o k5;have c6:=ah BL.o k6;have c7:=ah BL.o k7;have c8:=ah BL.o k8;have c9:=ah BL.o k9;have c10:=ah BL.o k10;have c11:=ah BL.o k11;have c12:=ah BL.o k12;have c13:=ah BL.o k13;have c14:=ah BL.o k14;have c15:=ah BL.o k15;clear k1 k2 k3 k4 k5 k6 k7 k8 k9 k10 k11 k12 k13 k14 k15;have HS:Ll ((xs.map Th.name).contains p=decide (xs[hi].name=p)):=aa (by have:=pz I.o (by rw[LMH.o];exact hn) HR.o;rwa [List.getElem_map]at this);have E0:Ll (Lib.compareBytes xs[hi].name p=0↔xs[hi].name=p):=oO _ _;have CALL:Ll (∀ W,Calls prog 43 #[.agg #[.string ⟨xs[hi].name.toArray⟩,.int .i64 xs[hi].value.kind,.int .i64 xs[hi].value.n,.string ⟨xs[hi].value.s.toArray⟩,.slice a xs[hi].value.keys.length c,.slice b xs[hi].value.l.length d,.slice oa xs[hi].owners.length oc,.int .i64 xs[hi].ver,.int .i64 xs[hi].gen,.string ⟨xs[hi].st.a.toArray⟩,.string ⟨xs[hi].st.c.toArray⟩,.int .i64 xs[hi].st.ph,.int .i64 xs[hi].st.st,.int .i64 xs[hi].st.we,.int .i64 xs[hi].st.si],.string ⟨p.toArray⟩] W fun e w'=>e=.returned (.int .i64 (Lib.compareBytes xs[hi].name p))/\La W w'):=fun W=>nV W _ p _ _ _ _ _ _ _ _ _ _ _ _ _ _;obtain⟨r,hr⟩:∃ r,Lib.compareBytes xs[hi].name p=r:=⟨_,rfl⟩
    rw[hr]at CALL E0;clear hr;by_cases hyx:r=0
    ·have R:Ll ((xs.map Th.name).contains p=true):=aa (by rw[HS.o];exact decide_eq_true (E0.o.1 hyx));subst hyx;go_wp2_with (go_at_call 43;refine Lk (CALL.o _) fun w' hb=>?_)
     go_ret2
     exact⟨by rw[R.o,CN.o];first | done | rfl | simp,ab BL.o hb⟩
    ·have R:Ll ((xs.map Th.name).contains p=false):=aa (by rw[HS.o];exact decide_eq_false (fun h9=>hyx (E0.o.2 h9)));have e9:(r == 0)=false:=by rw[MO];exact hyx
     clear hyx;go_wp2_with (go_at_call 43;refine Lk (CALL.o _) fun w' hb=>?_)
     go_ret2
     exact⟨by rw[R.o,CN.o];first | done | rfl | simp,ab BL.o hb⟩
   ·have R:Ll ((xs.map Th.name).contains p=false):=mI I.o (by rw[LMH.o];omega);go_wp2_with fail
    go_ret2
    exact⟨by rw[R.o,CN.o];first | done | rfl | simp,BL.o⟩
theorem yN(w:LC)(ok xs v p)(h:cO w ok xs v)(hr:bD (xs.map Th.name))(hn:xs.length < 4611686018427387904):Calls prog 30 #[v,.string ⟨p.toArray⟩] w fun e w'=>e=.returned (.tuple #[.int .i64 (ci xs p:Nat),.bool ((xs.map Th.name).contains p)])/\La w w':=by
 have C:=yx w ok xs v p h hr hn;obtain⟨sa,sc,rfl⟩:=h.form;generalize (xs.map Th.name).contains p=o at C ⊢;clear h hr;go_enter func30,ntmps30;go_wp2_with (go_at_call 42;refine C.mono ?_;rintro e w1 ⟨rfl,hb⟩)
 go_ret2
 exact⟨rfl,hb⟩
end Go.Proofs.YtkjeiljdoljjgaaGreatDoor
