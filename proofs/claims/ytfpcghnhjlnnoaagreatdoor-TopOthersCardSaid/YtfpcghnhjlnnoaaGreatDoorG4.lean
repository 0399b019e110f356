import Derived.Test.YtfpcghnhjlnnoaaGreatDoorG1
import Derived.Test.YtfpcghnhjlnnoaaGreatDoorG3
import Derived.Deep.DeepCutAuto
import Derived.Deep.DrawnRows
set_option maxRecDepth 100000
set_option maxHeartbeats 40000000
set_option linter.unusedSimpArgs false
set_option linter.unusedVariables false
namespace Go.Proofs.YtfpcghnhjlnnoaaGreatDoor
open Go.RowKit
open _root_.Go.Proofs.Tryz
variable {k:Nat}
def eK (s:Lz):Bool:=decide (s.length<=60)&&s.all fun c=>decide (c.toNat < 128)
def el (prev:Option Lz):List Lz->Bool
 | []=>true
 | k :: ks=>eK k&&(match prev with | none=>true | some p=>Op.bytesLess p k)&&el (some k) ks
def cp (t:V):Bool:=decide (t.keys.length=0)&&decide (t.l.length=0)
def ce (t:V):Bool:=
 if t.kind=0 then decide (t.n=0)&&decide (t.s=[])&&cp t
 else if t.kind=1 then (decide (t.n=0) || decide (t.n=1))&&decide (t.s=[])&&cp t
 else if t.kind=2 then decide (-9007199254740992<=t.n)&&decide (t.n<=9007199254740992)&&decide (t.s=[])&&cp t
 else if t.kind=3 then decide (t.n=0)&&eK t.s&&cp t
 else if t.kind=4 then decide (t.n=0)&&decide (t.s=[])&&decide (t.keys.length=0)
 else if t.kind=5 then decide (t.n=0)&&decide (t.s=[])&&decide (t.keys.length=t.l.length)&&el none t.keys
 else false
theorem ke(w s)(hs:s.length<=maxLen):Calls prog 117 #[aR s] w fun e w'=>e=.returned (.bool (eK s))/\w'=w:=by
 unfold maxLen at hs;unfold aR;by_cases h60:s.length<=60
 ·have e0:¬(60 < (s.length:Int)):=by omega
  go_enter func117,ntmps117;go_wp2
  go_loop [3] (fun i=>∃ k:Nat,k<=s.length/\i=.int .i64 k/\(s.take k).all (fun c=>decide (c.toNat < 128))=true) (fun i=>s.length - (intOf i).toNat)
  case atStart=>exact⟨0,Nat.zero_le _,rfl,rfl⟩
  case round=>
   obtain⟨k,hk,rfl,hall⟩:=hrel;have HA:=aa hall;clear hall;by_cases hlt:k < s.length
   ·have hb:(s[k].toNat:Int) < 256:=by have:=s[k].toNat_lt;omega
    have L9:k < (ByteArray.mk s.toArray).size:=by simpa [ByteArray.size] using hlt
    have hget:(ByteArray.mk s.toArray)[k]=s[k]:=rfl;by_cases hc:s[k].toNat < 128
    ·have hc':¬(128<=(s[k].toNat:Int)):=by omega
     go_wp2
     go_round
     case rel=>
      refine⟨k+1,by omega,by go_num,?_⟩;rw[List.take_add_one,Mw hlt,List.all_append,HA.o];simp[hc]
     case measure=>simp[intOf];omega
    ·have hc':128<=(s[k].toNat:Int):=by omega
     go_wp2
     go_ret;refine⟨?_,rfl⟩;have:eK s=false:=by
      unfold eK;rw[Bool.and_eq_false_iff];right;rw[List.all_eq_false];exact⟨s[k],List.getElem_mem _,by simp;omega⟩
     rw[this];rfl
   ·have Mc:k=s.length:=by omega
    subst Mc;go_wp2
    go_ret;refine⟨?_,rfl⟩;have:eK s=true:=by
     have:=HA.o;rw[List.take_length]at this;simp[eK,h60,this]
    rw[this];rfl
 ·have e0:60 < (s.length:Int):=by omega
  go_enter func117,ntmps117;go_wp2
  go_ret;exact⟨by rw[show eK s=false by simp[eK,h60]];rfl,rfl⟩
theorem gM(w k n s a1 a2 m1 m2 c1 c2)(l1:m1<=2 ^ 63 - 1)(l2:m2<=2 ^ 63 - 1):Calls prog 116 #[.agg #[.int .i64 k,.int .i64 n,.string s,.slice a1 m1 c1,.slice a2 m2 c2]] w fun e w'=>e=.returned (.bool (decide (m1=0)&&decide (m2=0)))/\La w w':=by
 by_cases hk:m1=0
 ·have e1:((m1:Int) == 0)=true:=by simp[hk]
  have HK:=aa hk;clear hk;by_cases hl:m2=0
  ·have e2:((m2:Int) == 0)=true:=by simp[hl]
   have HL:=aa hl;clear hl;go_enter func116,ntmps116;go_wp2
   go_ret;exact⟨by rw[show (decide (m1=0)&&decide (m2=0))=true by simp[HK.o,HL.o]];rfl,ae _ _⟩
  ·have e2:((m2:Int) == 0)=false:=by rw[MO];omega
   go_enter func116,ntmps116;go_wp2
   go_ret;exact⟨by rw[show (decide (m1=0)&&decide (m2=0))=false by simp only[Bool.and_eq_false_iff,decide_eq_false_iff_not];right;omega];rfl,ae _ _⟩
 ·have e1:((m1:Int) == 0)=false:=by rw[MO];omega
  go_enter func116,ntmps116;go_wp2
  go_ret;exact⟨by rw[show (decide (m1=0)&&decide (m2=0))=false by simp only[Bool.and_eq_false_iff,decide_eq_false_iff_not];left;omega];rfl,ae _ _⟩
def jx (xs:List Lz) (i:Nat):Option Lz:=if i=0 then none else xs[i - 1]?
theorem rq{xs}(h:k < xs.length):el (jx xs k) (xs.drop k)=(eK xs[k]&&(match jx xs k with | none=>true | some p=>Op.bytesLess p xs[k])&&el (jx xs (k+1)) (xs.drop (k+1))):=by
 rw[ME h];have e:jx xs (k+1)=some xs[k]:=by simp[jx,Mw h]
 rw[e];rfl
theorem BS(w ok xs v)(h:ao w ok xs v):Calls prog 118 #[v] w fun e w'=>e=.returned (.bool (el none xs))/\w'=w:=by
 obtain⟨hm,hx⟩:=h;obtain⟨a,c,rfl⟩:=ao.form ⟨hm,hx⟩;unfold maxLen at hm;have HX:=aa hx;clear hx;go_enter func118,ntmps118;go_wp2
 go_loop [7] (fun i=>∃ k:Nat,k<=xs.length/\i=.int .i64 k/\el none xs=el (jx xs k) (xs.drop k)) (fun i=>xs.length - (intOf i).toNat)
 case atStart=>exact⟨0,Nat.zero_le _,rfl,rfl⟩
 case round=>
  obtain⟨k,hk,rfl,hr⟩:=hrel;have HR:=aa hr;clear hr;by_cases hlt:k < xs.length
  ·rcases HX.o with⟨e,_⟩ | ⟨b,off,c',hv,hc1,hc2,Mb⟩
   ·rw[e]at hlt;simp at hlt
   simp only[Value.slice.injEq]at hv;obtain⟨rfl,-,rfl⟩:=hv;have LV:=(Mb k xs[k] (Mw hlt)).2.2;have hl9:=(Mb k xs[k] (Mw hlt)).1;have S:=aa (rq hlt);have hprev:∀ j,k=j+1->w.cell? ⟨b,off+j,none⟩=some (aR xs[k - 1]):=by
    intro j hj;subst hj;exact(Mb j xs[j] (Mw (by omega))).2.2
   have HPV:=aa hprev;clear Mb hprev;unfold aR at LV;cases hpl:eK xs[k] with
   | false=>
    have HPL:=aa hpl;clear hpl;go_wp2_with (go_at_call 117;refine LE (ke _ xs[k] hl9) ?_;rw[HPL.o])
    go_ret;refine⟨?_,rfl⟩;rw[HR.o,S.o,HPL.o];rfl
   | true=>
    have HPL:=aa hpl;clear hpl;cases k with
    | zero=>
     have z:jx xs 0=none:=rfl;rw[Nat.add_zero]at LV;go_wp2_with (go_at_call 117;refine LE (ke _ xs[0] hl9) ?_;rw[HPL.o])
     go_round
     case rel=>exact⟨1,by omega,by go_num,by rw[HR.o,S.o,HPL.o,z];rfl⟩
     case measure=>simp[intOf];omega
    | succ j=>
     have hpc:=HPV.o j rfl;unfold aR at hpc;have z:jx xs (j+1)=some xs[j]:=by simp[jx,Mw (show j < xs.length by omega)]
     have j0:(0:Int) < ((j+1:Nat):Int):=by omega
     have Z:=aa z;clear z;cases hbl:Op.bytesLess xs[j] xs[j+1] with
     | true=>
      have HBL:=aa hbl;go_wp2_with (go_at_call 117;refine LE (ke _ xs[j+1] hl9) ?_;rw[HPL.o])
      go_round
      case rel=>exact⟨j+1+1,by omega,by go_num,by rw[HR.o,S.o,HPL.o,Z.o];simp only[HBL.o];rfl⟩
      case measure=>simp[intOf];omega
     | false=>
      have HBL:=aa hbl;go_wp2_with (go_at_call 117;refine LE (ke _ xs[j+1] hl9) ?_;rw[HPL.o])
      go_ret;refine⟨?_,rfl⟩;rw[HR.o,S.o,HPL.o,Z.o];simp only[HBL.o];rfl
  ·have Mc:k=xs.length:=by omega
   subst Mc;go_wp2
   go_ret;refine⟨?_,rfl⟩;rw[HR.o,List.drop_length];rfl
theorem rP(w ok d t v)(h:bu w ok d t v):Calls prog 89 #[v] w fun e w'=>e=.returned (.bool (ce t))/\La w w':=by
 have H:=aa h;match d,h with
 | d+1,h=>
  obtain⟨ks,ls,rfl,h1,h2,h3,h4,h5⟩:=h;have K4:=aa h4;have HS:=aa h3;obtain⟨a1,c1,rfl⟩:=h4.form;obtain⟨a2,c2,rfl⟩:=h5.form;have l1:=h4.1;have l2:=h5.1;unfold maxLen at l1 l2 h3;unfold aR;clear h4 h5 h1 h2;by_cases k0:t.kind=0
  ·have e0:(t.kind == 0)=true:=by simp[k0]
   have K:=aa k0;clear k0;go_enter func89,ntmps89;go_wp2_with (go_at_call 116;refine Lk (gM _ _ _ _ _ _ _ _ _ _ l1 l2) fun w1 hb1=>?_)
   all_goals
    go_ret;have kk:=K.o;refine⟨?_,?_⟩
    ·(simp_all [ce,cp]) <;> (intros;omega)
    ·first | exact ab (ae _ _) (by assumption) | exact ae _ _
  by_cases k1:t.kind=1
  ·have e1:(t.kind == 1)=true:=by simp[k1]
   have f0:(t.kind == 0)=false:=by simp[k1]
   have K:=aa k1;clear k1;go_enter func89,ntmps89;go_wp2_with (go_at_call 116;refine Lk (gM _ _ _ _ _ _ _ _ _ _ l1 l2) fun w1 hb1=>?_)
   all_goals
    go_ret;have kk:=K.o;refine⟨?_,?_⟩
    ·(simp_all [ce,cp]) <;> (intros;omega)
    ·first | exact ab (ae _ _) (by assumption) | exact ae _ _
  by_cases k2:t.kind=2
  ·have e2:(t.kind == 2)=true:=by simp[k2]
   have f0:(t.kind == 0)=false:=by simp[k2]
   have f1:(t.kind == 1)=false:=by simp[k2]
   have K:=aa k2;clear k2;go_enter func89,ntmps89;go_wp2_with (go_at_call 116;refine Lk (gM _ _ _ _ _ _ _ _ _ _ l1 l2) fun w1 hb1=>?_)
   all_goals
    go_ret;have kk:=K.o;refine⟨?_,?_⟩
    ·(simp_all [ce,cp]) <;> (intros;omega)
    ·first | exact ab (ae _ _) (by assumption) | exact ae _ _
  by_cases k3:t.kind=3
  ·have e3:(t.kind == 3)=true:=by simp[k3]
   have f0:(t.kind == 0)=false:=by simp[k3]
   have f1:(t.kind == 1)=false:=by simp[k3]
   have f2:(t.kind == 2)=false:=by simp[k3]
   have K:=aa k3;clear k3;go_enter func89,ntmps89;go_wp2_with (first | (go_at_call 117;refine LE (ke _ t.s HS.o) ?_) | (go_at_call 116;refine Lk (gM _ _ _ _ _ _ _ _ _ _ l1 l2) fun w1 hb1=>?_))
   all_goals
    go_ret;have kk:=K.o;refine⟨?_,?_⟩
    ·(simp_all [ce,cp]) <;> (intros;omega)
    ·first | exact ab (ae _ _) (by assumption) | exact ae _ _
  by_cases k4:t.kind=4
  ·have e4:(t.kind == 4)=true:=by simp[k4]
   have f0:(t.kind == 0)=false:=by simp[k4]
   have f1:(t.kind == 1)=false:=by simp[k4]
   have f2:(t.kind == 2)=false:=by simp[k4]
   have f3:(t.kind == 3)=false:=by simp[k4]
   have K:=aa k4;clear k4;by_cases hl:t.keys.length=0
   ·have hlb:((t.keys.length:Int) == 0)=true:=by simp[hl]
    have HL:=aa hl;clear hl;go_enter func89,ntmps89;go_wp2
    all_goals
     go_ret;have kk:=K.o;have hl:=HL.o;refine⟨?_,?_⟩
     ·simp_all [ce,cp]
     ·first | exact ab (ae _ _) (by assumption) | exact ae _ _
   ·have hlb:((t.keys.length:Int) == 0)=false:=by rw[MO];omega
    have HL:=aa hl;clear hl;go_enter func89,ntmps89;go_wp2
    all_goals
     go_ret;have kk:=K.o;have hl:=HL.o;refine⟨?_,?_⟩
     ·simp_all [ce,cp]
     ·first | exact ab (ae _ _) (by assumption) | exact ae _ _
  by_cases k5:t.kind=5
  ·have e5:(t.kind == 5)=true:=by simp[k5]
   have f0:(t.kind == 0)=false:=by simp[k5]
   have f1:(t.kind == 1)=false:=by simp[k5]
   have f2:(t.kind == 2)=false:=by simp[k5]
   have f3:(t.kind == 3)=false:=by simp[k5]
   have f4:(t.kind == 4)=false:=by simp[k5]
   have K:=aa k5;clear k5;by_cases hl:t.keys.length=t.l.length
   ·have hlb:((t.keys.length:Int) == (t.l.length:Int))=true:=by simp[hl]
    have HL:=aa hl;clear hl;go_enter func89,ntmps89;go_wp2_with (go_at_call 118;refine LE (BS _ ok t.keys _ (by exact K4.o.bel (ae _ _))) ?_)
    all_goals
     go_ret;have kk:=K.o;have hl:=HL.o;refine⟨?_,?_⟩
     ·simp_all [ce,cp]
     ·first | exact ab (ae _ _) (by assumption) | exact ae _ _
   ·have hlb:((t.keys.length:Int) == (t.l.length:Int))=false:=by rw[MO];omega
    have HL:=aa hl;clear hl;go_enter func89,ntmps89;go_wp2
    all_goals
     go_ret;have kk:=K.o;have hl:=HL.o;refine⟨?_,?_⟩
     ·simp_all [ce,cp]
     ·first | exact ab (ae _ _) (by assumption) | exact ae _ _
  ·have g0:(t.kind == 0)=false:=by simp[k0]
   have g1:(t.kind == 1)=false:=by simp[k1]
   have g2:(t.kind == 2)=false:=by simp[k2]
   have g3:(t.kind == 3)=false:=by simp[k3]
   have g4:(t.kind == 4)=false:=by simp[k4]
   have g5:(t.kind == 5)=false:=by simp[k5]
   have F:Ll (ce t=false):=aa (by simp[ce,k0,k1,k2,k3,k4,k5]);clear k0 k1 k2 k3 k4 k5;go_enter func89,ntmps89;go_wp2
   go_ret;exact⟨by rw[F.o];rfl,ae _ _⟩
variable {w w':World}
variable {ok:Nat->Prop}
variable {v:Value}
variable {t x:V}
variable {g d:Nat}
def bn:Nat->V->Int->Bool × Int
 | 0,_,r=>(false,r - 1)
 | d+1,t,r=>if r - 1 < 0\/ce t=false then (false,r - 1) else t.l.foldl (fun p x=>if p.1 then bn d x p.2 else p) (true,r - 1)
def aE (t:V):Bool:=(bn 12 t 120).1
theorem jU(l:List V)(r:Int):l.foldl (fun p x=>if p.1 then bn d x p.2 else p) (false,r)=(false,r):=by
 induction l with
 | nil=>rfl
 | cons x l ih=>simpa using ih
theorem nt(ih:∀ t r,0<=r->-1<=(bn d t r).2/\(bn d t r).2<=r/\((bn d t r).1=true->0<=(bn d t r).2))(l:List V):∀ r,0<=r ->
 -1<=(l.foldl (fun p x=>if p.1 then bn d x p.2 else p) (true,r)).2/\(l.foldl (fun p x=>if p.1 then bn d x p.2 else p) (true,r)).2<=r/\((l.foldl (fun p x=>if p.1 then bn d x p.2 else p) (true,r)).1=true->0<=(l.foldl (fun p x=>if p.1 then bn d x p.2 else p) (true,r)).2):=by
 induction l with
 | nil=>intro r h;exact⟨by simp only[List.foldl_nil];omega,by simp,fun _=>h⟩
 | cons x l ihl=>
  intro r h;rw[List.foldl_cons];simp only[if_true];obtain⟨h1,h2,h3⟩:=ih x r h;cases hb:(bn d x r).1 with
  | true=>
   have e:bn d x r=(true,(bn d x r).2):=by rw[<-hb]
   rw[e];obtain⟨g1,g2,g3⟩:=ihl (bn d x r).2 (h3 hb);exact⟨g1,by omega,g3⟩
  | false=>
   have e:bn d x r=(false,(bn d x r).2):=by rw[<-hb]
   rw[e,jU];exact⟨h1,h2,by simp⟩
theorem ic(d):∀ t r,0<=r->-1<=(bn d t r).2/\(bn d t r).2<=r/\((bn d t r).1=true->0<=(bn d t r).2):=by
 induction d with
 | zero=>intro t r h;simp only[bn];exact⟨by omega,by omega,by simp⟩
 | succ d ih=>
  intro t r h;simp only[bn];split
  ·exact⟨by simp only;omega,by simp only;omega,by simp⟩
  ·rename_i hc;obtain⟨g1,g2,g3⟩:=nt ih t.l (r - 1) (by omega);exact⟨g1,by omega,g3⟩
def eb (d:Nat) (l:List V) (r:Int):Bool × Int:=l.foldl (fun p x=>if p.1 then bn d x p.2 else p) (true,r)
theorem xV{l:List V}{r p:Int}(hx:l[k]?=some x)(h:eb d (l.take k) r=(true,p)):eb d (l.take (k+1)) r=bn d x p:=by
 unfold eb at h ⊢;rw[List.take_add_one,hx,List.foldl_append,h];rfl
theorem vH{l r p}(h:eb d (l.take k) r=(false,p)):eb d l r=(false,p):=by
 unfold eb at h ⊢;have e:l=l.take k++l.drop k:=(List.take_append_drop k l).symm;rw[e,List.foldl_append,h,jU]
theorem bu.shape(h:bu w ok d t v):∃ (a7 a8:Option Addr) (c7 c8:Nat),v=.agg (KV t a7 c7 a8 c8):=by
 match d,h with
 | d+1,h=>
  obtain⟨ks,ls,e,h1,h2,h3,h4,h5⟩:=h;obtain⟨a1,c1,rfl⟩:=h4.form;obtain⟨a2,c2,rfl⟩:=h5.form;exact⟨_,_,_,_,e⟩
def eH (w:LC) (g:Nat) (r:Int):Prop:=w.heap[g]?=some (.cells #[.int .i64 r] 3)
theorem eH.c{r}(h:eH w g r):w.cell? ⟨g,0,none⟩=some (.int .i64 r)/\w.frozen? ⟨g,0,none⟩=false:=by
 unfold eH at h;exact⟨by simp[World.cell?,h],by simp[World.frozen?,h]⟩
theorem eH.lt{r}(h:eH w g r):g < w.heap.size:=(MF.1 h).1
theorem lC{a:LC}{r}(h:a.grownBy w r)(hg:w.grownBy w' (some g))(hag:a.heap.size<=g):a.grownBy w' r:=
 ⟨hg.os.trans h.os,hg.tape.trans h.tape,hg.output.trans h.output,MH h.size hg.size,fun i hi hr=>(hg.block i (MI hi h.size) (fun e=>by cases e;omega)).trans (h.block i hi hr)⟩
theorem oG{r}(h:eH w g r)(r')(o:Obj):eH ((w.setCell ⟨g,0,none⟩ (.int .i64 r')).alloc o) g r':=by
 have h1:(w.setCell ⟨g,0,none⟩ (.int .i64 r')).heap[g]?=some (.cells #[.int .i64 r'] 3):=ak h 0 _;exact((World.grownBy_alloc _ o none).block g (MF.1 h1).1 (by simp)).trans h1
def Az (D:Nat):Prop:=∀ (w:LC) (ok:Nat->Prop) (d:Nat) (t:V) (v:Value) (g:Nat) (r:Int),bu w ok d t v->(∀ k,ok k->k≠g)->eH w g r->0<=r->r<=120 ->
 Calls prog 69 #[v,.int .i64 D,.pointer (some ⟨g,0,none⟩)] w fun e w'=>e=.returned (.bool (bn D t r).1)/\eH w' g (bn D t r).2/\w.grownBy w' (some g)
theorem Bb:Az 0:=by
 intro w ok d t v g r hv hok hr h0 h1;obtain⟨a7,a8,c7,c8,rfl⟩:=hv.shape;have HR:=aa hr;have hgl:=hr.lt;have hr2:eH (w.alloc (.cells (KV t a7 c7 a8 c8) 36)) g r:=((World.grownBy_alloc w _ none).block g hgl (by simp)).trans hr;have c0_:=hr2.c;have HR2:=aa hr2;clear hr hv hr2;go_enter func69,ntmps69;go_wp2_with fail
 go_ret;exact⟨rfl,oG HR.o _ _,bd (ap (az _ _) _ _) _⟩
theorem Cx(D)(hD:D+1<=12)(ih:Az D):Az (D+1):=by
 intro w ok d t v g r hv hok hr h0 h1;obtain⟨a7,a8,c7,c8,rfl⟩:=hv.shape;have HV:=aa hv;have IH:=aa ih;have HOK:=aa hok;have hgl:=hr.lt;have hr2:eH (w.alloc (.cells (KV t a7 c7 a8 c8) 36)) g r:=((World.grownBy_alloc w _ none).block g hgl (by simp)).trans hr;have c0_:=hr2.c;have HR2:=aa hr2;have d0:((D:Int)+1 == 0)=false:=by rw[MO];omega
 have HR:=aa hr;have c9:∀ o,((w.setCell ⟨g,0,none⟩ (.int .i64 (r - 1))).alloc o).cell? ⟨g,0,none⟩=some (.int .i64 (r - 1)):=fun o=>(oG hr (r - 1) o).c.1;have hne:g≠w.heap.size:=by omega
 clear hr hv hr2 ih hok;by_cases hr0:r - 1 < 0
 ·have F:Ll (bn (D+1) t r=(false,r - 1)):=aa (by simp[bn,hr0]);have hr9:r - 1 < 0:=hr0;go_enter func69,ntmps69;go_wp2_with fail
  go_ret;rw[F.o];exact⟨rfl,oG HR.o _ _,bd (ap (az _ _) _ _) _⟩
 ·have hr9:¬(r - 1 < 0):=hr0;have W1:Ll (eH ((w.setCell ⟨g,0,none⟩ (.int .i64 (r - 1))).alloc (.cells (KV t a7 c7 a8 c8) 36)) g (r - 1)/\KY ((w.setCell ⟨g,0,none⟩ (.int .i64 (r - 1))).alloc (.cells (KV t a7 c7 a8 c8) 36)) w.heap.size t a7 c7 a8 c8 /\
   bu ((w.setCell ⟨g,0,none⟩ (.int .i64 (r - 1))).alloc (.cells (KV t a7 c7 a8 c8) 36)) ok d t (.agg (KV t a7 c7 a8 c8))/\w.grownBy ((w.setCell ⟨g,0,none⟩ (.int .i64 (r - 1))).alloc (.cells (KV t a7 c7 a8 c8) 36)) (some g)):=by
   have L9:(w.setCell ⟨g,0,none⟩ (.int .i64 (r - 1))).heap.size=w.heap.size:=by simp[World.setCell]
   have ga:w.grownBy ((w.setCell ⟨g,0,none⟩ (.int .i64 (r - 1))).alloc (.cells (KV t a7 c7 a8 c8) 36)) (some g):=bd (ap (az _ _) _ _) _;refine⟨oG HR.o _ _,?_,HV.o.grown ga (fun k hk e=>by cases e;exact HOK.o _ hk rfl),ga⟩;have:=MN (w.setCell ⟨g,0,none⟩ (.int .i64 (r - 1))) (.cells (KV t a7 c7 a8 c8) 36);rw[L9]at this;exact this
  obtain⟨w1,hw1⟩:∃ w1,w1=(w.setCell ⟨g,0,none⟩ (.int .i64 (r - 1))).alloc (.cells (KV t a7 c7 a8 c8) 36):=⟨_,rfl⟩
  cases hsh:ce t with
  | false=>
   have F:Ll (bn (D+1) t r=(false,r - 1)):=aa (by simp[bn,hsh]);have HSH:=aa hsh;clear hsh;go_enter func69,ntmps69;go_wp2_with fail
   rw[<-hw1]at W1 ⊢;refine Lk (rP _ ok d t _ (by exact W1.o.2.2.1)) fun w2 hb2=>?_;rw[HSH.o];have G2:Ll (eH w2 g (r - 1)/\w.grownBy w2 (some g)):=⟨(hb2.block g W1.o.1.lt).trans W1.o.1,am W1.o.2.2.2 (aq hb2)⟩
   clear hb2 hw1;go_wp2_with fail
   go_ret;rw[F.o];exact⟨rfl,G2.o⟩
  | true=>
   have F:Ll (bn (D+1) t r=eb D t.l (r - 1)):=aa (by simp[bn,hsh,hr0,eb]);have HSH:=aa hsh;clear hsh;go_enter func69,ntmps69;go_wp2_with fail
   rw[<-hw1]at W1 ⊢;refine Lk (rP _ ok d t _ (by exact W1.o.2.2.1)) fun w2 hb2=>?_;rw[HSH.o];have G2:Ll (eH w2 g (r - 1)/\w.grownBy w2 (some g)/\bu w2 ok d t (.agg (KV t a7 c7 a8 c8))):=⟨(hb2.block g W1.o.1.lt).trans W1.o.1,am W1.o.2.2.2 (aq hb2),W1.o.2.2.1.bel hb2⟩
   have q4:=(af hb2 W1.o.2.1).c.2.2.2.2.1;have rc_:=G2.o.1.c;have l2:t.l.length<=maxLen:=by
    have hv:=HV.o;match d,hv with
    | d+1,hv=>obtain⟨ks,ls,e,h1,h2,h3,h4,h5⟩:=hv;exact h5.1
   unfold maxLen at l2;clear hb2 hw1;go_wp2_with fail
   go_loopg [30] t.l.length (fun gk i wr=>∃ (k:Nat) (p:Int),k<=t.l.length/\gk=t.l.length - k/\i=.int .i64 k/\eb D (t.l.take k) (r - 1)=(true,p)/\0<=p/\p<=120/\eH wr g p/\w.grownBy wr (some g)/\bu wr ok d t (.agg (KV t a7 c7 a8 c8)))
   case atStart=>exact⟨0,r - 1,Nat.zero_le _,rfl,rfl,rfl,by omega,by omega,G2.o⟩
   case round=>
    obtain⟨k,p,hk,hgk,rfl,hf,hp0,hp1,hrm,hg,hvr⟩:=hrel;have A:Ll (gk=t.l.length - k/\eb D (t.l.take k) (r - 1)=(true,p)/\eH wr g p/\w.grownBy wr (some g)/\bu wr ok d t (.agg (KV t a7 c7 a8 c8))):=⟨hgk,hf,hrm,hg,hvr⟩
    clear hgk hf hrm hg rc_ q4;by_cases hlt:k < t.l.length
    ·match d,hvr with
     | d+1,hvr=>
      obtain⟨ks,ls,e,-,-,-,-,h5⟩:=hvr;simp only[Value.agg.injEq,Array.mk.injEq,List.cons.injEq,and_true]at e;obtain⟨-,-,-,-,rfl⟩:=e;obtain⟨_,h5⟩:=h5;rcases h5 with⟨e,_⟩ | ⟨b,off,c,hls,hc1,hc2,Mb⟩
      ·rw[e]at hlt;simp at hlt
      simp only[Value.slice.injEq]at hls;obtain⟨rfl,-,rfl⟩:=hls;obtain⟨v0,v1,v2,v3,v4,g',g0,g1,g2,g3,g4,g5⟩:=Mb k t.l[k] (Mw hlt);have G5:=aa g5;obtain⟨rfl,rfl,rfl,⟨a5,c5,rfl⟩,⟨a6,c6,rfl⟩⟩:=g5.agg;clear Mb g5;unfold maxLen at hc2;go_wp2_with fail
      refine(IH.o _ ok d t.l[k] _ g p (by exact G5.o.bel (ae _ _)) HOK.o (by exact((World.grownBy_alloc wr _ none).block g A.o.2.2.1.lt (by simp)).trans A.o.2.2.1) hp0 hp1).mono ?_;rintro e w3 ⟨rfl,hr3,hg3⟩;have hst:=xV (Mw hlt) A.o.2.1;have hrm:=ic D t.l[k] p hp0;have gg:wr.grownBy w3 (some g):=am (World.grownBy_alloc wr _ _) hg3;have C:Ll (eb D (t.l.take (k+1)) (r - 1)=bn D t.l[k] p/\eH w3 g (bn D t.l[k] p).2/\wr.grownBy w3 (some g)):=⟨hst,hr3,gg⟩
      clear hst hr3 hg3 gg;cases hb:(bn D t.l[k] p).1 with
      | true=>
       have HB:=aa hb;have HRM:=aa hrm;clear hb hrm;go_wp2_with fail
       go_roundg (t.l.length - (k+1))
       case measure=>rw[A.o.1];omega
       case rel=>
        obtain⟨q1,q2,q3⟩:=HRM.o;refine⟨k+1,(bn D t.l[k] p).2,by omega,rfl,by go_num,by rw[C.o.1,<-HB.o],q3 HB.o,by omega,C.o.2.1,am A.o.2.2.2.1 C.o.2.2,?_⟩;exact A.o.2.2.2.2.grown C.o.2.2 (fun j hj e=>by cases e;exact HOK.o _ hj rfl)
      | false=>
       have HB:=aa hb;clear hb hrm;go_wp2_with fail
       go_ret;have e9:bn D t.l[k] p=(false,(bn D t.l[k] p).2):=by rw[<-HB.o]
       have e8:eb D t.l (r - 1)=bn D t.l[k] p:=by
        have:=C.o.1;rw[e9]at this;rw[e9,vH this]
       rw[F.o,e8,HB.o];exact⟨rfl,C.o.2.1,am A.o.2.2.2.1 C.o.2.2⟩
    ·have Mc:k=t.l.length:=by omega
     clear hvr;go_wp2_with fail
     go_ret;have hf:=A.o.2.1;rw[Mc,List.take_length]at hf;rw[F.o,hf];exact⟨rfl,A.o.2.2.1,A.o.2.2.2.1⟩
theorem FQ(D):D<=12->Az D:=by
 induction D with
 | zero=>intro _;exact Bb
 | succ D ih=>intro h;exact Cx D h (ih (by omega))
theorem mr(w ok d t v)(h:bu w ok d t v):Calls prog 52 #[v] w fun e w'=>e=.returned (.bool (aE t))/\La w w':=by
 obtain⟨a7,a8,c7,c8,rfl⟩:=h.shape;have HV:=aa h;clear h;go_enter func52,ntmps52;go_wp2_with fail
 refine(FQ 12 (by omega) _ (Lj ok w) d t _ (w.heap.size+1) 120 (by exact HV.o.below.bel (ab (ae _ _) (ae _ _))) (by intro k hk;omega) (by exact et w _ _) (by omega) (by omega)).mono ?_;rintro e w2 ⟨rfl,hr2,hg2⟩;go_wp2_with fail
 go_ret;exact⟨rfl,bS (lC (bd (bd (az _ _) _) _) hg2 (by omega))⟩
def qW (key:Lz) (keys:List Lz):Nat:=(keys.takeWhile fun a=>Op.bytesLess a key).length
def aG (t:V) (key:Lz) (x:V):V:=
 if aK t then
  match dd key t.keys with
  | some i=>{ t with l:=t.l.take i++x :: t.l.drop (i+1) }
  | none=>{ t with keys:=t.keys.take (qW key t.keys)++key :: t.keys.drop (qW key t.keys),l:=t.l.take (qW key t.keys)++x :: t.l.drop (qW key t.keys) }
 else t
def bH (t:V) (key:Lz):V:=
 match dO t key with
 | some i=>{ t with keys:=t.keys.take i++t.keys.drop (i+1),l:=t.l.take i++t.l.drop (i+1) }
 | none=>t
theorem io{D:Nat}{t:V}{r p:Int}(h:bn D t r=(true,p)):∃ D',D=D'+1/\ce t=true/\0<=r - 1/\eb D' t.l (r - 1)=(true,p):=by
 cases D with
 | zero=>simp[bn]at h
 | succ D=>
  simp only[bn]at h;split at h
  ·cases h
  ·rename_i hc;rw[not_or]at hc;exact⟨D,rfl,by simpa using hc.2,by omega,h⟩
theorem jv{D:Nat}{x:V}{l:List V}{r p:Int}(h:eb D (x :: l) r=(true,p)):∃ q,bn D x r=(true,q)/\eb D l q=(true,p):=by
 unfold eb at h;rw[List.foldl_cons]at h;simp only[if_true]at h;cases hb:(bn D x r).1 with
 | true=>
  have e:bn D x r=(true,(bn D x r).2):=by rw[<-hb]
  rw[e]at h;exact⟨_,e,h⟩
 | false=>
  have e:bn D x r=(false,(bn D x r).2):=by rw[<-hb]
  rw[e,jU]at h;cases h
def fO:Nat->V->Prop
 | 0,_=>False
 | d+1,t=>ce t=true/\∀ x∈t.l,fO d x
theorem yr(D:Nat):∀ (t:V) (r p:Int),bn D t r=(true,p)->fO D t:=by
 induction D with
 | zero=>intro t r p h;simp[bn]at h
 | succ D ih=>
  intro t r p h;obtain⟨D',e,hs,h0,hf⟩:=io h;cases e;refine⟨hs,?_⟩;generalize t.l=l at hf;generalize r - 1=q at hf;induction l generalizing q with
  | nil=>intro x hx;cases hx
  | cons y l ihl=>
   obtain⟨q2,h1,h2⟩:=jv hf;intro x hx;rcases List.mem_cons.1 hx with rfl | hx
   ·exact ih _ _ _ h1
   ·exact ihl q2 h2 x hx
theorem fh{t:V}(h:aE t=true):fO 12 t:=yr 12 t 120 _ (by unfold aE at h;rw[<-h])
def Jd:Nat->V->Prop
 | 0,_=>False
 | d+1,t=>∀ x∈t.l,Jd d x
theorem fO.dep(D:Nat):∀ {t:V},fO D t->Jd D t:=by
 induction D with
 | zero=>intro t h;exact h
 | succ D ih=>intro t h x hx;exact ih (h.2 x hx)
theorem cd(a:List UInt8):Op.bytesLess a a=false:=by
 induction a with
 | nil=>rfl
 | cons c a ih=>simp[Op.bytesLess,ih]
theorem cP:∀ (a b c:List UInt8),Op.bytesLess a b=true->Op.bytesLess b c=true->Op.bytesLess a c=true
 | _,_,[],_,h=>by simp[Op.bytesLess]at h
 | [],_,_ :: _,_,_=>by simp[Op.bytesLess]
 | _ :: _,[],_ :: _,h,_=>by simp[Op.bytesLess]at h
 | x :: a,y :: b,z :: c,h1,h2=>by
  simp only[Op.bytesLess,Bool.or_eq_true,MJ,decide_eq_true_eq,beq_iff_eq]at h1 h2 ⊢;rcases h1 with h1 | ⟨rfl,h1⟩
  ·rcases h2 with h2 | ⟨rfl,h2⟩
   ·exact .inl (by rw[UInt8.lt_iff_toNat_lt]at *;omega)
   ·exact .inl h1
  ·rcases h2 with h2 | ⟨rfl,h2⟩
   ·exact .inl h2
   ·exact .inr ⟨rfl,cP a b c h1 h2⟩
def bD (ks:List (List UInt8)):Prop:=ks.Pairwise fun a b=>Op.bytesLess a b=true
theorem rJ(ks:List (List UInt8)):∀ (p:Option (List UInt8)),el p ks=true->(∀ a∈p,∀ k∈ks,Op.bytesLess a k=true)/\bD ks/\∀ k∈ks,eK k=true:=by
 induction ks with
 | nil=>intro p _;exact⟨fun _ _ _ h=>by (cases h),List.Pairwise.nil,fun _ h=>by cases h⟩
 | cons k ks ih=>
  intro p h;simp only[el,MJ]at h;obtain⟨⟨h1,h2⟩,h3⟩:=h;obtain⟨g1,g2,g3⟩:=ih _ h3;refine⟨?_,List.Pairwise.cons (fun a ha=>g1 k rfl a ha) g2,fun a ha=>?_⟩
  ·intro a ha x hx;simp only[Option.mem_def]at ha;subst ha;rcases List.mem_cons.1 hx with rfl | hx
   ·exact h2
   ·exact cP _ _ _ h2 (g1 k rfl x hx)
  ·rcases List.mem_cons.1 ha with rfl | ha
   ·exact h1
   ·exact g3 a ha
theorem Ix{a b:List UInt8}(h:Op.bytesLess a b=true):a≠b:=by
 rintro rfl;rw[cd]at h;cases h
def eo (k:List UInt8):List (List UInt8 × V)->Option V
 | []=>none
 | p :: ps=>if p.1=k then some p.2 else eo k ps
theorem dU(k:List UInt8)(a b:List (List UInt8 × V)):eo k (a++b)=(eo k a).or (eo k b):=by
 induction a with
 | nil=>rfl
 | cons p a ih=>
  rw[List.cons_append,eo,eo];split
  ·rfl
  ·exact ih
theorem mG{k:List UInt8}{ps:List (List UInt8 × V)}(h:∀ p∈ps,p.1≠k):eo k ps=none:=by
 induction ps with
 | nil=>rfl
 | cons p ps ih=>rw[eo,if_neg (h p (by simp)),ih fun q hq=>h q (by simp[hq])]
theorem uL(k:List UInt8):∀ (ks:List (List UInt8)) (l:List V),ks.length=l.length->((dd k ks).bind fun i=>l[i]?)=eo k (ks.zip l)
 | [],l,_=>rfl
 | a :: ks,[],h=>by simp at h
 | a :: ks,x :: l,h=>by
  rw[dd,List.zip_cons_cons,eo];by_cases e:a=k
  ·rw[if_pos e,if_pos e];rfl
  ·rw[if_neg e,if_neg e,<-uL k ks l (by simpa using h)];cases dd k ks <;> simp
theorem ft{t:V}(h:aK t=true)(k:List UInt8):aS t k=eo k (t.keys.zip t.l):=by
 have hl:t.keys.length=t.l.length:=by
  simp only[aK,MJ,decide_eq_true_eq]at h;exact h.2
 rw[aS,dO,if_pos h,uL k _ _ hl]
theorem mR(ks:List (List UInt8))(l:List V)(i:Nat)(h:ks.length=l.length):ks.zip l=(ks.take i).zip (l.take i)++(ks.drop i).zip (l.drop i):=by
 rw[<-List.zip_append (by simp[h]),List.take_append_drop,List.take_append_drop]
theorem oM(ks:List (List UInt8))(l:List V)(i j:Nat)(k:List UInt8)(x:V)(h:ks.length=l.length):(ks.take i++k :: ks.drop j).zip (l.take i++x :: l.drop j)=(ks.take i).zip (l.take i)++(k,x) :: (ks.drop j).zip (l.drop j):=by
 rw[List.zip_append (by simp[h]),List.zip_cons_cons]
theorem lf{k:List UInt8}{ks:List (List UInt8)}{l:List V}(h:k ∉ ks):eo k (ks.zip l)=none:=
 mG fun p hp e=>h (by rw[<-e];exact(List.of_mem_zip hp).1)
theorem nT{ks:List (List UInt8)}(h:bD ks):ks.Nodup:=List.Pairwise.imp (fun h=>Ix h) h
theorem oU{k:List UInt8}{ks:List (List UInt8)}(h:dd k ks=none):k ∉ ks:=by
 induction ks with
 | nil=>simp
 | cons a ks ih=>
  rw[dd]at h;split at h
  ·cases h
  ·rename_i hne;simp only[Option.map_eq_none_iff]at h;simp only[List.mem_cons,not_or];exact⟨fun e=>hne e.symm,ih h⟩
theorem tZ{ks:List (List UInt8)}{i:Nat}{k:List UInt8}(h:ks[i]?=some k):ks.drop i=k :: ks.drop (i+1):=by
 obtain⟨h1,h2⟩:=Mz.1 h;rw[ME h1,h2]
theorem wU{ks:List (List UInt8)}{i:Nat}{k:List UInt8}(h:ks[i]?=some k):ks=ks.take i++k :: ks.drop (i+1):=by
 rw[<-tZ h,List.take_append_drop]
theorem ku{t:V}(h:aK t=true)(key:List UInt8)(x:V):aK (aG t key x)=true:=by
 have hl:t.keys.length=t.l.length:=by
  simp only[aK,MJ,decide_eq_true_eq]at h;exact h.2
 have hk:t.kind=5:=by
  simp only[aK,MJ,decide_eq_true_eq]at h;exact h.1
 unfold aG;rw[if_pos h];cases hi:dd key t.keys with
 | some i=>
  have:=(iw hi).1;simp only[aK,hk,decide_true,Bool.true_and,decide_eq_true_eq,Mx,MC,My,MB];omega
 | none=>
  simp only[aK,hk,decide_true,Bool.true_and,decide_eq_true_eq,Mx,MC,My,MB];omega
theorem pQ{t:V}(h:aK t=true)(key:List UInt8)(x:V):aS (aG t key x) key=some x:=by
 have hl:t.keys.length=t.l.length:=by
  simp only[aK,MJ,decide_eq_true_eq]at h;exact h.2
 rw[ft (ku h key x)];unfold aG;rw[if_pos h];cases hi:dd key t.keys with
 | some i=>
  obtain⟨h1,h2⟩:=iw hi;simp only;have e:(t.keys.zip (t.l.take i++x :: t.l.drop (i+1)))=(t.keys.take i++key :: t.keys.drop (i+1)).zip (t.l.take i++x :: t.l.drop (i+1)):=by rw[<-wU h2]
  rw[e,oM _ _ _ _ _ _ hl,dU];have:eo key ((t.keys.take i).zip (t.l.take i))=none:=by
   have hm:(dd key (t.keys.take i))=none:=by
    cases hq:dd key (t.keys.take i) with
    | none=>rfl
    | some j=>
     exfalso;obtain⟨g1,g2⟩:=iw hq;have:dd key t.keys=some j:=by
      have e2:∀ (a b:List (List UInt8)) (j:Nat),dd key a=some j->dd key (a++b)=some j:=by
       intro a;induction a with
       | nil=>intro b j h;cases h
       | cons c a ih=>
        intro b j h;rw[dd]at h;rw[List.cons_append,dd];split at h
        ·rename_i hc;rw[if_pos hc];exact h
        ·rename_i hc;rw[if_neg hc];simp only[Option.map_eq_some_iff]at h ⊢;obtain⟨m,hm,rfl⟩:=h;exact⟨m,ih b m hm,rfl⟩
      have:=e2 (t.keys.take i) (t.keys.drop i) j hq;rwa [List.take_append_drop]at this
     rw[hi]at this;cases this;simp at g1;omega
   exact lf (oU hm)
  rw[this,eo,if_pos rfl];rfl
 | none=>
  simp only;rw[oM _ _ _ _ _ _ hl,dU];have hn:=oU hi;rw[lf (fun hm=>hn (List.mem_of_mem_take hm)),eo,if_pos rfl];rfl
theorem mJ{t:V}(h:aK t=true)(key other:List UInt8)(x:V)(hne:other≠key):aS (aG t key x) other=aS t other:=by
 have hl:t.keys.length=t.l.length:=by
  simp only[aK,MJ,decide_eq_true_eq]at h;exact h.2
 rw[ft (ku h key x),ft h];unfold aG;rw[if_pos h];cases hi:dd key t.keys with
 | some i=>
  obtain⟨h1,h2⟩:=iw hi;simp only;have e:(t.keys.zip (t.l.take i++x :: t.l.drop (i+1)))=(t.keys.take i++key :: t.keys.drop (i+1)).zip (t.l.take i++x :: t.l.drop (i+1)):=by rw[<-wU h2]
  rw[e,oM _ _ _ _ _ _ hl,dU,eo,if_neg (fun e=>hne e.symm),mR t.keys t.l i hl,dU];congr 1
  have hli:i < t.l.length:=by omega
  rw[tZ h2,ME hli,List.zip_cons_cons,eo,if_neg (fun e=>hne e.symm)]
 | none=>
  simp only;rw[oM _ _ _ _ _ _ hl,dU,eo,if_neg (fun e=>hne e.symm),mR t.keys t.l (qW key t.keys) hl,dU]
theorem xS(t:V)(key:List UInt8)(x:V):(aG t key x).l.length<=t.l.length+1:=by
 unfold aG;split
 ·cases hi:dd key t.keys with
  | some i=>simp only[Mx,MC,My,MB];omega
  | none=>simp only[Mx,MC,My,MB];omega
 ·omega
variable {y:V}
variable {n i:Nat}
def wZ:Nat->Lz->Option Nat
 | a,[]=>some a
 | a,c :: r=>if 48<=c.toNat/\c.toNat<=57 then wZ (a * 10+(c.toNat - 48)) r else none
def Lw (s:Lz):Option Nat:=
 if s=[]\/4 < s.length\/(s.head?=some 48/\s≠[48]) then none else wZ 0 s
def cX (n:Nat) (s:Lz):Option Nat:=
 if s=[45] then some n else (Lw s).bind fun i=>if i<=n then some i else none
def cg (t:V) (s:Lz):Option V:=if t.kind=4 then (cX t.l.length s).bind fun i=>t.l[i]? else aS t s
def bL (x:V) (t:V) (s:Lz):Option V:=
 if t.kind=5 then some (aG t s x) else if t.kind=4 then (cX t.l.length s).map fun i=>{ t with l:=t.l.take i++x :: t.l.drop i } else none
def aY (x:V) (t:V) (s:Lz):Option V:=
 (cg t s).bind fun _=>if t.kind=5 then some (aG t s x) else (cX t.l.length s).map fun i=>{ t with l:=t.l.take i++x :: t.l.drop (i+1) }
def ch (t:V) (s:Lz):Option V:=
 (cg t s).bind fun _=>if t.kind=5 then some (bH t s) else (cX t.l.length s).map fun i=>{ t with l:=t.l.take i++t.l.drop (i+1) }
def dM (how:V->Lz->Option V):List Lz->V->Option V
 | [],_=>none
 | [s],t=>how t s
 | s :: r :: rs,t=>(cg t s).bind fun y=>(dM how (r :: rs) y).bind fun y'=>aY y' t s
def mh:List Lz->V->Option V
 | [],t=>some t
 | s :: r,t=>(cg t s).bind (mh r)
theorem pV{s}(h:cX n s=some i):i<=n:=by
 unfold cX at h;split at h
 ·cases h;omega
 ·rw[Option.bind_eq_some_iff]at h;obtain⟨j,-,h⟩:=h;split at h
  ·cases h;assumption
  ·cases h
theorem DK{s}(h:cg t s=some y):y∈t.l:=by
 unfold cg at h;split at h
 ·rw[Option.bind_eq_some_iff]at h;obtain⟨i,-,h⟩:=h;exact List.mem_of_getElem? h
 ·unfold aS at h;rw[Option.bind_eq_some_iff]at h;obtain⟨i,-,h⟩:=h;exact List.mem_of_getElem? h
theorem qw{s}(h:cg t s=some y):(t.kind=5/\aK t=true/\aS t s=some y)\/(t.kind=4/\∃ i,cX t.l.length s=some i/\i < t.l.length/\t.l[i]?=some y):=by
 unfold cg at h;split at h
 ·rename_i hk;rw[Option.bind_eq_some_iff]at h;obtain⟨i,h1,h⟩:=h;exact .inr ⟨hk,i,h1,(Mz.1 h).1,h⟩
 ·refine .inl ?_;have h0:=h;unfold aS at h;rw[Option.bind_eq_some_iff]at h;obtain⟨i,h1,h⟩:=h;obtain⟨f1,-⟩:=fW h1;have f2:=f1;simp only[aK,MJ,decide_eq_true_eq]at f2;exact⟨f2.1,f1,h0⟩
theorem Ai(t):(⟨t.kind,t.n,t.s,t.keys,t.l⟩:V)=t:=by cases t;rfl
def qJ:Nat->V->Nat
 | 0,_=>0
 | D+1,t=>1+(t.l.map (qJ D)).sum
theorem zZ(D):∀ (t:V) (r p:Int),0<=r->(bn D t r=(true,p)↔fO D t/\(qJ D t:Int)<=r/\p=r - qJ D t):=by
 induction D with
 | zero=>intro t r p _;simp[bn,fO]
 | succ D ih=>
  have hf:∀ (l:List V) (r p:Int),0<=r->(eb D l r=(true,p)↔(∀ x∈l,fO D x)/\(((l.map (qJ D)).sum:Nat):Int)<=r/\p=r - ((l.map (qJ D)).sum:Nat)):=by
   intro l;induction l with
   | nil=>intro r p h;simp[eb];omega
   | cons y l ihl=>
    intro r p h;constructor
    ·intro hg;obtain⟨q,h1,h2⟩:=jv hg;obtain⟨a1,a2,a3⟩:=(ih y r q h).1 h1;obtain⟨b1,b2,b3⟩:=(ihl q p (by omega)).1 h2;refine⟨?_,?_,?_⟩
     ·intro x hx;rcases List.mem_cons.1 hx with rfl | hx
      ·exact a1
      ·exact b1 x hx
     ·simp only[List.map_cons,List.sum_cons];omega
     ·simp only[List.map_cons,List.sum_cons];omega
    ·rintro⟨h1,h2,h3⟩;simp only[List.map_cons,List.sum_cons]at h2 h3;have e1:=(ih y r (r - qJ D y) h).2 ⟨h1 y (by simp),by omega,rfl⟩;have e2:=(ihl (r - qJ D y) p (by omega)).2 ⟨fun x hx=>h1 x (by simp[hx]),by omega,by omega⟩;unfold eb at e2 ⊢;rw[List.foldl_cons];simp only[if_true];rw[e1];exact e2
  intro t r p h;constructor
  ·intro hg;obtain⟨D',e,hs,h0,hg⟩:=io hg;cases e;obtain⟨b1,b2,b3⟩:=(hf t.l (r - 1) p h0).1 hg;refine⟨⟨hs,b1⟩,?_,?_⟩
   ·simp only[qJ];omega
   ·simp only[qJ];omega
  ·rintro⟨⟨h1,h2⟩,h3,h4⟩;simp only[qJ]at h3 h4;have e:=(hf t.l (r - 1) p (by omega)).2 ⟨h2,by omega,by omega⟩;simp only[bn];rw[if_neg (by rw[h1];simp;omega)];exact e
theorem FU(t):aE t=true↔fO 12 t/\qJ 12 t<=120:=by
 unfold aE;constructor
 ·intro h;obtain⟨a,b,-⟩:=(zZ 12 t 120 _ (by omega)).1 (show bn 12 t 120=(true,(bn 12 t 120).2) by rw[<-h]);exact⟨a,by omega⟩
 ·rintro⟨a,b⟩;have:=(zZ 12 t 120 (120 - qJ 12 t) (by omega)).2 ⟨a,by omega,rfl⟩;rw[this]
theorem GZ{f:V->Nat}{l:List V}(h:x∈l):f x<=(l.map f).sum:=by
 induction l with
 | nil=>cases h
 | cons y l ih=>
  simp only[List.map_cons,List.sum_cons];rcases List.mem_cons.1 h with rfl | h
  ·omega
  ·have:=ih h;omega
theorem JJ(D t)(h:fO (D+1) t):t.l.length<=qJ (D+1) t:=by
 simp only[qJ];obtain⟨-,h⟩:=h;generalize t.l=l at h;induction l with
 | nil=>simp
 | cons y l ih=>
  have h1:=ih fun x hx=>h x (by simp[hx]);simp only[List.map_cons,List.sum_cons,My];have:1<=qJ D y:=by
   have:=h y (by simp);cases D with
   | zero=>exact this.elim
   | succ D=>simp only[qJ];omega
  omega
def dz (t:V):Prop:=∃ D,fO D t/\qJ D t<=120
theorem dQ(h:aE t=true):dz t:=⟨12,(FU t).1 h⟩
theorem hU(h:dz t):t.l.length<=120:=by
 obtain⟨D,h1,h2⟩:=h;cases D with
 | zero=>exact h1.elim
 | succ D=>have:=JJ D t h1;omega
theorem fp(h:dz t):ce t=true:=by
 obtain⟨D,h1,h2⟩:=h;cases D with
 | zero=>exact h1.elim
 | succ D=>exact h1.1
theorem gC(h:dz t)(hx:x∈t.l):dz x:=by
 obtain⟨D,h1,h2⟩:=h;cases D with
 | zero=>exact h1.elim
 | succ D=>
  refine⟨D,h1.2 x hx,?_⟩;have:=GZ (f:=qJ D) hx;simp only[qJ]at h2;omega
theorem lu{s}(h:dz t)(hm:cg t s=some y):dz y:=gC h (DK hm)
theorem gu(hs:ce t=true)(hk:t.kind=5):aK t=true/\el none t.keys=true/\t.n=0/\t.s=[]:=by
 unfold ce at hs;rw[hk]at hs;simp only[Int.reduceEq,if_false,if_true,MJ,decide_eq_true_eq]at hs;obtain⟨⟨⟨a1,a2⟩,a3⟩,a4⟩:=hs;exact⟨by simp[aK,hk,a3],a4,a1,a2⟩
theorem vq(h:dz t)(hk:t.kind=5):aK t=true:=(gu (fp h) hk).1
theorem Hh{α:Type}(l:List α)(i):(l.take i++l.drop (i+1)).Sublist l:=by
 have:l=l.take i++l.drop i:=(List.take_append_drop i l).symm;conv=>rhs;rw[this]
 exact List.Sublist.append (List.Sublist.refl _) (by
  rw[<-List.drop_drop];exact List.drop_sublist _ _)
def aM:V:=⟨0,0,[],[],[]⟩
def fP (sp:List Lz × Int) (v:V):V × Int:=
 if sp.2≠0 then (aM,sp.2) else if aE v=false then (aM,1) else match mh sp.1 v with | some y=>(y,0) | none=>(aM,3)
def aX (how:V->Lz->Option V) (sp:List Lz × Int) (v:V):V × Int:=
 if sp.2≠0 then (v,sp.2) else if sp.1=[]\/aE v=false then (v,1) else match dM how sp.1 v with | none=>(v,3) | some w=>if aE w then (w,0) else (v,2)
def ep (how:V->V->Lz->Option V) (p:Lz) (sp:List Lz × Int) (v x:V):V × Int:=
 if aE x=false then (v,1) else if p=[]/\aE v=true then (x,0) else aX (how x) sp v
theorem Jp{sp:List Lz × Int}{v}(h0:sp.2=0)(hg:aE v=true)(hy:mh sp.1 v=some y):fP sp v=(y,0):=by
 unfold fP;rw[if_neg (by simp[h0]),if_neg (by simp[hg]),hy]
theorem uu{sp:List Lz × Int}{v}(h:fP sp v=(y,0)):aE v=true/\sp.2=0/\mh sp.1 v=some y:=by
 unfold fP at h;split at h
 ·rename_i h0;simp only[Prod.mk.injEq]at h;exact absurd h.2 h0
 ·rename_i h0;split at h
  ·simp at h
  ·rename_i h1;split at h
   ·rename_i z hz;simp only[Prod.mk.injEq,and_true]at h;subst h;exact⟨by simpa using h1,by simpa using h0,hz⟩
   ·simp at h
variable {wr:World}
variable {ok':Nat->Prop}
variable {c:Nat}
theorem gQ{xs a}(h:ao w ok xs (.slice a n c))(hk:k < xs.length):∃ b off,a=some ⟨b,off,none⟩/\xs.length<=c/\c<=maxLen/\w.cell? ⟨b,off+k,none⟩=some (.string ⟨xs[k].toArray⟩):=by
 rcases h.2 with⟨e,_⟩ | ⟨b,off,c',e,h1,h2,Mb⟩
 ·rw[e]at hk;simp at hk
 ·simp only[Value.slice.injEq]at e;obtain⟨rfl,-,rfl⟩:=e;exact⟨b,off,rfl,h1,h2,(Mb k xs[k] (Mw hk)).2.2⟩
theorem D2{R:V->Value->Prop}{xs}(h:cS w ok R xs v)(hx:x∈xs):∃ y,R x y:=by
 rcases h.2 with⟨e,_⟩ | ⟨b,off,c,e,h1,h2,h3⟩
 ·rw[e]at hx;cases hx
 ·obtain⟨i,hi⟩:=List.getElem?_of_mem hx;obtain⟨v0,v1,v2,v3,v4,-,-,-,-,-,-,g⟩:=h3 i x hi;exact⟨_,g⟩
theorem yR(a b:Lz):ByteArray.mk a.toArray++ByteArray.mk b.toArray=ByteArray.mk (a++b).toArray:=by
 apply ByteArray.ext;simp
variable {B:Nat}
def In (w:LC) (ok:Nat->Prop) (t:V) (v:Value):Prop:=∃ d,bu w ok d t v
theorem bu.is(h:bu w ok d t v):In w ok t v:=⟨d,h⟩
theorem In.bel(h:In w ok t v)(hb:La w w'):In w' ok t v:=by
 obtain⟨d,h⟩:=h;exact⟨d,h.bel hb⟩
theorem In.weak(h:In w ok t v)(hk:∀ k,ok k->ok' k):In w ok' t v:=by
 obtain⟨d,h⟩:=h;exact⟨d,h.weak hk⟩
theorem In.grown(h:In w ok t v)(hg:w.grownBy w' (some g))(hr:∀ k,ok k->k≠g):In w' ok t v:=by
 obtain⟨d,h⟩:=h;exact⟨d,h.grown hg fun k hk e=>hr k hk (by cases e;rfl)⟩
theorem In.at(h:In w ok t v):∃ d,bu w ok (d+1) t v:=by
 obtain⟨d,h⟩:=h;exact⟨d,h.succ⟩
theorem In.two{xv}(h:In w ok t v)(hx:In w ok x xv):∃ d,bu w ok (d+1) t v/\bu w ok d x xv:=by
 obtain⟨d,h⟩:=h;obtain⟨d',h'⟩:=hx;exact⟨d+d',bu.le (by omega) h,bu.le (by omega) h'⟩
theorem In.form(h:In w ok t v):∃ (a7 a8:Option Addr) (c7 c8:Nat),v=.agg (KV t a7 c7 a8 c8):=by
 obtain⟨d,h⟩:=h;exact h.shape
theorem In.lens(h:In w ok t v):t.keys.length<=9223372036854775807/\t.l.length<=9223372036854775807/\t.s.length<=9223372036854775807:=by
 obtain⟨d,h⟩:=h.at;obtain⟨ks,ls,-,-,-,h3,h4,h5⟩:=h;exact⟨h4.1,h5.1,h3⟩
def bg (ok:Nat->Prop) (B C:Nat):Nat->Prop:=bQ (fun k=>ok k/\k < B) C
theorem In.low(h:In w ok t v):In w (Lj ok w) t v:=by
 obtain⟨d,h⟩:=h;exact⟨d,h.below⟩
theorem jB{C}(h1:B<=g)(h2:g < C):∀ k,bg ok B C k->k≠g:=by
 intro k hk e;rcases hk with hk | hk <;> omega
theorem ik{C}(h:B<=C):∀ k,bg ok B C k->bQ ok B k:=by
 intro k hk;rcases hk with hk | hk
 ·exact .inl hk.1
 ·exact .inr (by omega)
theorem aO{C}:∀ k,(ok k/\k < B)->bg ok B C k:=fun _ h=>.inl h
theorem oH:∀ k,(ok k/\k < B)->bQ ok B k:=fun _ h=>.inl h.1
theorem In.box{C}(h:In w (bg ok B C) t v)(h1:B<=g)(h2:g < C)(d0 d1 d2 d3 d4):In (ar w g d0 d1 d2 d3 d4) (bg ok B C) t v:=
 h.grown (aI w g _ _ _ _ _) (jB h1 h2)
theorem aP{w1}(h:La w w1)(hg:w.heap.size<=g)(d0 d1 d2 d3 d4):La w (ar w1 g d0 d1 d2 d3 d4):=bS (eD (aq h) hg _ _ _ _ _)
theorem In.item{k n s ks a m}(h:In w ok t (.agg #[k,n,s,ks,.slice a m c]))(hi:i < t.l.length):∃ b off a5 c5 a6 c6,a=some ⟨b,off,none⟩/\t.l.length<=c/\c<=9223372036854775807/\w.cell? ⟨b,off+i * 5,none⟩=some (.int .i64 t.l[i].kind)/\w.cell? ⟨b,off+i * 5+1,none⟩=some (.int .i64 t.l[i].n)/\w.cell? ⟨b,off+i * 5+2,none⟩=some (.string ⟨t.l[i].s.toArray⟩) /\
 w.cell? ⟨b,off+i * 5+3,none⟩=some (.slice a5 t.l[i].keys.length c5)/\w.cell? ⟨b,off+i * 5+4,none⟩=some (.slice a6 t.l[i].l.length c6)/\In w ok t.l[i] (.agg #[.int .i64 t.l[i].kind,.int .i64 t.l[i].n,.string ⟨t.l[i].s.toArray⟩,.slice a5 t.l[i].keys.length c5,.slice a6 t.l[i].l.length c6]):=by
 obtain⟨d,h⟩:=h.at;obtain⟨ks',ls,e,-,-,-,-,h5⟩:=h;simp only[Value.agg.injEq,Array.mk.injEq,List.cons.injEq,and_true]at e;obtain⟨-,-,-,-,rfl⟩:=e;obtain⟨-,h5⟩:=h5;rcases h5 with⟨e,_⟩ | ⟨b,off,c',e,h1,h2,Mb⟩
 ·rw[e]at hi;simp at hi
 ·simp only[Value.slice.injEq]at e;obtain⟨rfl,-,rfl⟩:=e;obtain⟨v0,v1,v2,v3,v4,-,g0,g1,g2,g3,g4,g5⟩:=Mb i t.l[i] (Mw hi);obtain⟨rfl,rfl,rfl,⟨a5,c5,rfl⟩,⟨a6,c6,rfl⟩⟩:=g5.agg;exact⟨b,off,a5,c5,a6,c6,rfl,h1,h2,g0,g1,g2,g3,g4,g5.is⟩
def cZ (w:LC) (ok:Nat->Prop) (m:Option V) (x:Value) (b:Bool):Prop:=b=m.isSome/\∃ y,In w ok y x/\∀ z,m=some z->y=z
theorem cZ.some{x}(h:In w ok y x):cZ w ok (some y) x true:=⟨rfl,y,h,fun z e=>by cases e;rfl⟩
theorem cZ.none{x}(h:In w ok y x):cZ w ok none x false:=⟨rfl,y,h,fun z e=>by cases e⟩
theorem fG(w ok):In w ok aM (.agg Lb):=⟨1,_,_,rfl,by unfold dW;simp[aM],by unfold dW;simp[aM],by simp[aM,maxLen],⟨by simp[aM,maxLen],.inl ⟨rfl,none,rfl⟩⟩,⟨by simp[aM,maxLen],.inl ⟨rfl,none,rfl⟩⟩⟩
theorem bG(w ok t v)(h:In w ok t v):Calls prog 52 #[v] w fun e w'=>e=.returned (.bool (aE t))/\La w w':=by
 obtain⟨d,h⟩:=h;exact mr w ok d t v h
theorem co(w ok t v key)(h:In w ok t v):Calls prog 53 #[v,aR key] w fun e w'=>∃ x b,e=.returned (.tuple #[x,.bool b])/\La w w'/\cZ w' ok (aS t key) x b:=by
 obtain⟨d,h⟩:=h;refine(ny w ok d t v key h).mono ?_;rintro e w' ⟨x,b,rfl,hb,hm⟩;refine⟨x,b,rfl,hb,?_⟩;cases hq:aS t key with
 | none=>rw[hq]at hm;rw[hm.1,hm.2];exact cZ.none (fG w' ok)
 | some y=>rw[hq]at hm;rw[hm.1];exact cZ.some hm.2.is
theorem Ac(w ok k n)(hk:dW k)(hn:dW n):In w ok ⟨k,n,[],[],[]⟩ (.agg #[.int .i64 k,.int .i64 n,.string ⟨#[]⟩,.slice none 0 0,.slice none 0 0]):=⟨1,_,_,rfl,hk,hn,by simp[maxLen],⟨by simp[maxLen],.inl ⟨rfl,none,rfl⟩⟩,⟨by simp[maxLen],.inl ⟨rfl,none,rfl⟩⟩⟩
theorem In.key{k n s ls a m}(h:In w ok t (.agg #[k,n,s,.slice a m c,ls]))(hi:i < t.keys.length):∃ b off,a=some ⟨b,off,none⟩/\t.keys.length<=c/\c<=9223372036854775807/\w.cell? ⟨b,off+i,none⟩=some (.string ⟨t.keys[i].toArray⟩)/\t.keys[i].length<=9223372036854775807:=by
 obtain⟨d,h⟩:=h.at;obtain⟨ks',ls',e,-,-,-,h4,-⟩:=h;simp only[Value.agg.injEq,Array.mk.injEq,List.cons.injEq,and_true]at e;obtain⟨-,-,-,rfl,-⟩:=e;obtain⟨-,h4⟩:=h4;rcases h4 with⟨e,_⟩ | ⟨b,off,c',e,h1,h2,Mb⟩
 ·rw[e]at hi;simp at hi
 ·simp only[Value.slice.injEq]at e;obtain⟨rfl,-,rfl⟩:=e;obtain⟨g1,-,g3⟩:=Mb i t.keys[i] (Mw hi);exact⟨b,off,rfl,h1,h2,g3,g1⟩
theorem ig(w ok t v key)(h:In w ok t v):Calls prog 53 #[v,aR key] w fun e w'=>∃ x,e=.returned (.tuple #[x,.bool (aS t key).isSome])/\La w w'/\In w' ok ((aS t key).getD aM) x:=by
 obtain⟨d,h⟩:=h;refine(ny w ok d t v key h).mono ?_;rintro e w' ⟨x,b,rfl,hb,hm⟩;cases hq:aS t key with
 | none=>rw[hq]at hm;rw[hm.1,hm.2];exact⟨_,rfl,hb,fG w' ok⟩
 | some y=>rw[hq]at hm;rw[hm.1];exact⟨_,rfl,hb,hm.2.is⟩
theorem vB(w b)(p1 p2 p3:jY)(q1:w.cell? ⟨b,0,none⟩=some p1.v)(q2:w.cell? ⟨b,1,none⟩=some p2.v)(q3:w.cell? ⟨b,2,none⟩=some p3.v)(s1:du w 5 p1.v p1.n p1.cells)(s2:du w 5 p2.v p2.n p2.cells)(s3:du w 5 p3.v p3.n p3.cells)(hn:p1.n+p2.n+p3.n<=1000000):Calls prog 199 #[.slice (some ⟨b,0,none⟩) 3 3] w fun e w'=>∃ v,e=.returned v/\w'.ownsRow w.heap.size 36 5 v (p1.n+p2.n+p3.n) (p1.cells++p2.cells++p3.cells)/\La w w':=by
 refine(Av w b 0 3 [p1,p2,p3] ?_ (by simp[dl];omega) (by simp) (by simp)).mono ?_
 ·intro i p hp;match i,hp with
  | 0,hp=>simp at hp;subst hp;exact⟨q1,s1⟩
  | 1,hp=>simp at hp;subst hp;exact⟨q2,s2⟩
  | 2,hp=>simp at hp;subst hp;exact⟨q3,s3⟩
 ·rintro e w' ⟨v,rfl,h1,h2⟩;refine⟨v,rfl,?_,h2⟩;have e1:dl [p1,p2,p3]=p1.n+p2.n+p3.n:=by simp[dl];omega
  have e2:fQ [p1,p2,p3]=p1.cells++p2.cells++p3.cells:=by simp[fQ]
  rw[e1,e2]at h1;exact h1
theorem Ew(w b)(p1 p2 p3:jY)(q1:w.cell? ⟨b,0,none⟩=some p1.v)(q2:w.cell? ⟨b,1,none⟩=some p2.v)(q3:w.cell? ⟨b,2,none⟩=some p3.v)(s1:du w 1 p1.v p1.n p1.cells)(s2:du w 1 p2.v p2.n p2.cells)(s3:du w 1 p3.v p3.n p3.cells)(hn:p1.n+p2.n+p3.n<=1000000):Calls prog 200 #[.slice (some ⟨b,0,none⟩) 3 3] w fun e w'=>∃ v,e=.returned v/\w'.ownsRow w.heap.size 9 1 v (p1.n+p2.n+p3.n) (p1.cells++p2.cells++p3.cells)/\La w w':=by
 refine(At w b 0 3 [p1,p2,p3] ?_ (by simp[dl];omega) (by simp) (by simp)).mono ?_
 ·intro i p hp;match i,hp with
  | 0,hp=>simp at hp;subst hp;exact⟨q1,s1⟩
  | 1,hp=>simp at hp;subst hp;exact⟨q2,s2⟩
  | 2,hp=>simp at hp;subst hp;exact⟨q3,s3⟩
 ·rintro e w' ⟨v,rfl,h1,h2⟩;refine⟨v,rfl,?_,h2⟩;have e1:dl [p1,p2,p3]=p1.n+p2.n+p3.n:=by simp[dl];omega
  have e2:fQ [p1,p2,p3]=p1.cells++p2.cells++p3.cells:=by simp[fQ]
  rw[e1,e2]at h1;exact h1
theorem Jg{w2 v1 v3 n1 n3 N cs1 cs3}(key)(s1:du w2 1 v1 n1 cs1)(s3:du w2 1 v3 n3 cs3)(hN:n1+1+n3=N)(hn:N<=1000000)(W)(e1:W.heap=((w2.alloc (.cells #[.string key] 9)).alloc (.cells #[v1,.slice (some ⟨w2.heap.size,0,none⟩) 1 1,v3] 33)).heap)(e2:W.os=w2.os)(e3:W.tape=w2.tape)(e4:W.output=w2.output):Calls prog 200 #[.slice (some ⟨w2.heap.size+1,0,none⟩) 3 3] W fun e w'=>∃ g cap,e=.returned (.slice (some ⟨g,0,none⟩) N cap)/\w'.ownsRow w2.heap.size 9 1 (.slice (some ⟨g,0,none⟩) N cap) N (cs1++[.string key]++cs3)/\La w2 w':=by
 have LY:La w2 W:=by
  have:=ab (ae w2 (.cells #[.string key] 9)) (ae _ (.cells #[v1,.slice (some ⟨w2.heap.size,0,none⟩) 1 1,v3] 33));exact⟨e2,e3,e4,by rw[e1];exact this.size,fun k hk=>by rw[e1];exact this.block k hk⟩
 have ha:=fb w2 (.cells #[.string key] 9) (.cells #[v1,.slice (some ⟨w2.heap.size,0,none⟩) 1 1,v3] 33);have hb:=et w2 (.cells #[.string key] 9) (.cells #[v1,.slice (some ⟨w2.heap.size,0,none⟩) 1 1,v3] 33);rw[<-e1]at ha hb;refine(Ew W (w2.heap.size+1) ⟨v1,n1,cs1⟩ ⟨_,1,_⟩ ⟨v3,n3,cs3⟩ (by simp[World.cell?,hb]) (by simp[World.cell?,hb]) (by simp[World.cell?,hb]) (s1.bel LY) (Kp ha rfl) (s3.bel LY) (by simp only;omega)).mono ?_;rintro e w' ⟨v,rfl,ho,hb9⟩;simp only at ho;rw[hN]at ho;have ho':=cV ho LY.size;rcases ho'.2 with⟨_,h0⟩ | ⟨g,cap,cur,e,rest⟩
 ·omega
 ·subst e;exact⟨g,cap,rfl,ho',ab LY hb9⟩
theorem EJ{w2 v1 v3 n1 n3 N cs1 cs3}(k n s a7 a8 l7 c7 l8 c8)(s1:du w2 5 v1 n1 cs1)(s3:du w2 5 v3 n3 cs3)(hN:n1+1+n3=N)(hn:N<=1000000)(W)(e1:W.heap=((w2.alloc (.cells #[.int .i64 k,.int .i64 n,.string s,.slice a7 l7 c7,.slice a8 l8 c8] 36)).alloc (.cells #[v1,.slice (some ⟨w2.heap.size,0,none⟩) 1 1,v3] 34)).heap)(e2:W.os=w2.os)(e3:W.tape=w2.tape)(e4:W.output=w2.output):Calls prog 199 #[.slice (some ⟨w2.heap.size+1,0,none⟩) 3 3] W fun e w'=>∃ g cap,e=.returned (.slice (some ⟨g,0,none⟩) N cap)/\w'.ownsRow w2.heap.size 36 5 (.slice (some ⟨g,0,none⟩) N cap) N (cs1++[.int .i64 k,.int .i64 n,.string s,.slice a7 l7 c7,.slice a8 l8 c8]++cs3)/\La w2 w':=by
 have LY:La w2 W:=by
  have:=ab (ae w2 (.cells #[.int .i64 k,.int .i64 n,.string s,.slice a7 l7 c7,.slice a8 l8 c8] 36)) (ae _ (.cells #[v1,.slice (some ⟨w2.heap.size,0,none⟩) 1 1,v3] 34));exact⟨e2,e3,e4,by rw[e1];exact this.size,fun k hk=>by rw[e1];exact this.block k hk⟩
 have ha:=fb w2 (.cells #[.int .i64 k,.int .i64 n,.string s,.slice a7 l7 c7,.slice a8 l8 c8] 36) (.cells #[v1,.slice (some ⟨w2.heap.size,0,none⟩) 1 1,v3] 34);have hb:=et w2 (.cells #[.int .i64 k,.int .i64 n,.string s,.slice a7 l7 c7,.slice a8 l8 c8] 36) (.cells #[v1,.slice (some ⟨w2.heap.size,0,none⟩) 1 1,v3] 34);rw[<-e1]at ha hb;refine(vB W (w2.heap.size+1) ⟨v1,n1,cs1⟩ ⟨_,1,_⟩ ⟨v3,n3,cs3⟩ (by simp[World.cell?,hb]) (by simp[World.cell?,hb]) (by simp[World.cell?,hb]) (s1.bel LY) (Gj ha (Ji _ _ _ _ _ _ _ _ _)) (s3.bel LY) (by simp only;omega)).mono ?_;rintro e w' ⟨v,rfl,ho,hb9⟩;simp only at ho;rw[hN]at ho;have ho':=cV ho LY.size;rcases ho'.2 with⟨_,h0⟩ | ⟨g,cap,cur,e,rest⟩
 ·omega
 ·subst e;exact⟨g,cap,rfl,ho',ab LY hb9⟩
def vW:Prop:=∀ (w:LC) (ok:Nat->Prop) (d:Nat) (t x:V) (v xv:Value) (key:Lz),bu w ok (d+1) t v->bu w ok d x xv->aK t=true->t.l.length<=100000->key.length<=maxLen ->
 Calls prog 166 #[v,aR key,xv] w fun e w'=>∃ r,e=.returned r/\bu w' (bQ ok w.heap.size) (d+1) (aG t key x) r/\La w w'
theorem yV(a s):∀ x∈Lib.split s [a],x.length<=s.length:=by
 induction s with
 | nil=>rw[gX];simp
 | cons b r ih=>
  by_cases h:b=a
  ·subst h;rw[hE];intro x hx;rcases List.mem_cons.1 hx with rfl | hx
   ·simp
   ·have:=ih x hx;simp only[My];omega
  ·rw[eM a b r h];cases hr:Lib.split r [a] with
   | nil=>exact absurd hr (iN a r)
   | cons y ys=>
    rw[hr]at ih;intro x hx;rcases List.mem_cons.1 hx with rfl | hx
    ·have:=ih y (by simp);simp only[My];omega
    ·have:=ih x (by simp[hx]);simp only[My];omega
theorem vM(a s):(Lib.split s [a]).length<=s.length+1:=by
 induction s with
 | nil=>rw[gX];simp
 | cons b r ih=>
  by_cases h:b=a
  ·subst h;rw[hE];simp only[My];omega
  ·rw[eM a b r h];cases hr:Lib.split r [a] with
   | nil=>exact absurd hr (iN a r)
   | cons y ys=>
    rw[hr]at ih;simp only[My]at ih ⊢;omega
theorem uR(X r)(h:X.data.toList=r):Lib.countB X ⟨#[47]⟩+1=(Lib.split r [47]).length/\(Lib.splitB ⟨#[47]⟩ 0 (Lib.countB X ⟨#[47]⟩) X).map Value.string=(Lib.split r [47]).map aR:=by
 have h1:=Lib.splitB_all ⟨#[47]⟩ (by decide) 0 _ X rfl;have h2:=Lib.splitB_data ⟨#[47]⟩ 0 (Lib.countB X ⟨#[47]⟩) X;have e:Lib.splitK ([47]:Lz) 0 (Lib.countB X ⟨#[47]⟩) X.data.toList=Lib.split r [47]:=by
  subst h;rfl
 have h3:(Lib.splitB ⟨#[47]⟩ 0 (Lib.countB X ⟨#[47]⟩) X).map (fun x=>x.data.toList)=Lib.split r [47]:=h2.trans e;refine⟨?_,?_⟩
 ·rw[<-h3,List.length_map,h1]
 ·rw[<-h3,List.map_map];apply List.map_congr_left;intro x _;simp only[Function.comp,aR]
def jP (ns:List Lz) (k:Nat):List Lz:=(ns.take k).map bK++ns.drop k
theorem EK{ns}(h:k < ns.length):(jP ns k)[k]?=some ns[k]:=by
 unfold jP;rw[List.getElem?_append_right (by simp;omega)];have:k - ((ns.take k).map bK).length=0:=by simp;omega
 rw[this,List.getElem?_drop,Nat.add_zero,Mw h]
theorem Hs{ns}(h:k < ns.length):(jP ns k).set k (bK ns[k])=jP ns (k+1):=by
 unfold jP;have hl:((ns.take k).map bK).length=k:=by simp;omega
 rw[List.set_append_right _ _ (by omega),hl,Nat.sub_self,ME h,Mu,List.take_add_one,Mw h];simp only[List.map_append,Option.toList_some,List.map_cons,List.map_nil,List.append_assoc,List.cons_append,List.nil_append]
theorem mU{l:List Lz}(h:w.heap[g]?=some (.cells (l.map aR).toArray 9)){x:Lz}(hk:l[k]?=some x):w.cell? ⟨g,k,none⟩=some (.string ⟨x.toArray⟩)/\w.frozen? ⟨g,k,none⟩=false:=by
 constructor
 ·simp[World.cell?,h,hk,aR]
 ·simp[World.frozen?,h]
theorem wj(w:LC)(c r)(hc:c=47)(hp:r.length+1<=2000)(hw:br (c :: r)=true)(hM:bj w):Calls prog 167 #[aR (c :: r)] w fun e w'=>∃ (a:Option Addr) (cap:Nat),e=.returned (.tuple #[.slice a ((Lib.split r [47]).map bK).length cap,.int .i64 0]) /\
 ao w' (fun k=>w.heap.size<=k) ((Lib.split r [47]).map bK) (.slice a ((Lib.split r [47]).map bK).length cap)/\La w w':=by
 subst hc;have HM:=aa hM;clear hM;have HW:=aa hw;clear hw;unfold aR;have hne:(ByteArray.mk (47 :: r).toArray == ByteArray.mk #[])=false:=Aq (by simp);have L9:0 < (ByteArray.mk (47 :: r).toArray).size:=by rw[eS];simp
 have hget:(ByteArray.mk (47 :: r).toArray)[0]=47:=rfl;have e0:¬(2000 < (r.length:Int)+1):=by omega
 go_enter func167,ntmps167;go_wp2_with fail
 refine(vV _ (47 :: r) (by simp;omega)).mono ?_;rintro e w1 ⟨rfl,hw1⟩;rw[HW.o,hw1];clear hw1;go_wp2_with fail
 obtain⟨m,hm⟩:=HM.o;obtain⟨X,hX⟩:∃ X,(ByteArray.mk (47 :: r).toArray).extract 1 (ByteArray.mk (47 :: r).toArray).size=X:=⟨_,rfl⟩
 have hXd:X.data.toList=r:=by
  rw[<-hX,Lib.extract_to_end];simp
 have hXs:X.size=r.length:=by rw[Lib.size_eq,hXd]
 have hX2:(ByteArray.mk (47 :: r).toArray).extract 1 (r.length+1)=X:=by rw[<-hX,eS];rfl
 rw[hX2];clear hX hX2;refine(Tryz.strings_Split X ⟨#[47]⟩ m w (by omega) hm (by decide)).mono ?_;rintro e w2 ⟨rfl,hw2⟩;obtain⟨hn,hcells⟩:=uR X r hXd;rw[hn];rw[hcells]at hw2;obtain⟨ns,hns⟩:∃ ns,Lib.split r [47]=ns:=⟨_,rfl⟩
 have NL:Ll (∀ x∈ns,x.length<=2000):=aa (by rw[<-hns];intro x hx;have:=yV 47 r x hx;omega);have nl:ns.length<=2000:=by rw[<-hns];have:=vM 47 r;omega
 rw[hns]at hw2 ⊢;have HNS:=aa hns;clear hns hcells hn hXd hXs hm m;have h2:w2.heap[w.heap.size]?=some (.cells ((jP ns 0).map aR).toArray 9):=by
  rw[hw2];have:jP ns 0=ns:=by simp[jP]
  rw[this];exact MN w _
 have b2:La w w2:=by rw[hw2];exact ae _ _
 have S2:Ll (w2.heap[w.heap.size]?=some (.cells ((jP ns 0).map aR).toArray 9)/\La w w2):=⟨h2,b2⟩
 clear h2 b2 hw2;go_wp2_with fail
 go_loopg [27] ns.length (fun gk i wr=>∃ k:Nat,k<=ns.length/\gk=ns.length - k/\i=.int .i64 k/\wr.heap[w.heap.size]?=some (.cells ((jP ns k).map aR).toArray 9)/\La w wr)
 case atStart=>exact⟨0,Nat.zero_le _,rfl,rfl,S2.o.1,S2.o.2⟩
 case round=>
  obtain⟨k,hk,hgk,rfl,hh,hbl⟩:=hrel;have GK:=aa hgk;have A:Ll (wr.heap[w.heap.size]?=some (.cells ((jP ns k).map aR).toArray 9)/\La w wr):=⟨hh,hbl⟩
  clear hgk hh hbl;by_cases hlt:k < ns.length
  ·obtain⟨c1,f1⟩:=mU A.o.1 (EK hlt);have hnk:ns[k].length<=2000:=NL.o _ (List.getElem_mem _);have HM1:=aa (HM.o.bel A.o.2);go_wp2_with fail
   refine Lk (wm _ ns[k] (by omega) (by exact HM1.o)) fun w3 hb3=>?_;have hb3':w3.heap[w.heap.size]?=some (.cells ((jP ns k).map aR).toArray 9):=by
    have hlt2:w.heap.size < wr.heap.size:=(MF.1 A.o.1).1;rw[hb3.block _ hlt2];exact A.o.1
   have B3:Ll (w3.heap[w.heap.size]?=some (.cells ((jP ns k).map aR).toArray 9)/\La w w3):=⟨hb3',ab A.o.2 hb3⟩
   obtain⟨c2,f2⟩:=mU B3.o.1 (EK hlt);clear hb3 hb3' c1 f1;unfold aR;go_wp2_with fail
   go_roundg (ns.length - (k+1))
   case measure=>rw[GK.o];omega
   case rel=>
    refine⟨k+1,by omega,rfl,by go_num,?_,?_⟩
    ·have:=ak B3.o.1 k (.string ⟨(bK ns[k]).toArray⟩);rw[this];have e9:((jP ns k).map aR).toArray.setIfInBounds k (.string ⟨(bK ns[k]).toArray⟩)=((jP ns (k+1)).map aR).toArray:=by
      rw[<-Hs hlt,List.map_set];simp[aR]
     rw[e9]
    ·exact bS (bi (aq B3.o.2) (MG _) _ _)
  ·have Mc:k=ns.length:=by omega
   subst Mc;have e3:jP ns ns.length=ns.map bK:=by simp[jP]
   go_wp2_with fail
   refine MM (v:=.tuple #[.slice (some ⟨w.heap.size,0,none⟩) ns.length ns.length,.int .i64 0]) (by simp[results,results167,go_sem] <;> rfl) rfl ?_;rw[HNS.o];refine⟨some ⟨w.heap.size,0,none⟩,ns.length,by rw[List.length_map],⟨by rw[List.length_map];unfold maxLen;omega,.inr ⟨w.heap.size,0,ns.length,by rw[List.length_map],by rw[List.length_map];exact MG _,by unfold maxLen;omega,?_⟩⟩,A.o.2⟩;intro i x hx;have h9:=A.o.1;rw[e3]at h9;refine⟨?_,MG _,?_⟩
   ·simp only[List.getElem?_map,Option.map_eq_some_iff]at hx;obtain⟨y,hy,rfl⟩:=hx;have h1:=NL.o y (List.mem_of_getElem? hy);have h2:(Lib.replaceAll y [126,49] [47]).length<=y.length:=qD (by simp) (by simp) (by simp) _ y (MG _);have h3:(bK y).length<=(Lib.replaceAll y [126,49] [47]).length:=qD (by simp) (by simp) (by simp) _ _ (MG _);unfold maxLen;omega
   ·have:=(mU h9 hx).1;rw[Nat.zero_add];exact this
theorem ta(w:LC)(c r)(hl:r.length+1<=140737488351232)(hb:c≠47\/2000 < (c :: r).length\/br (c :: r)=false):Calls prog 167 #[aR (c :: r)] w fun e w'=>e=.returned (.tuple #[.slice none 0 0,.int .i64 1])/\La w w':=by
 unfold aR;have hne:(ByteArray.mk (c :: r).toArray == ByteArray.mk #[])=false:=Aq (by simp);have L9:0 < (ByteArray.mk (c :: r).toArray).size:=by rw[eS];simp
 have hget:(ByteArray.mk (c :: r).toArray)[0]=c:=rfl;have hbyte:(c.toNat:Int) < 256:=by have:=c.toNat_lt;omega
 by_cases hc:c=47
 ·have n1:((c.toNat:Int) != 47)=false:=by rw[hc];rfl
  have q1:((c.toNat:Int) == 47)=true:=by rw[hc];rfl
  by_cases h2:2000 < r.length+1
  ·have e0:2000 < (r.length:Int)+1:=by omega
   clear hc hb;go_enter func167,ntmps167;go_wp2_with fail
   refine MM (v:=.tuple #[.slice none 0 0,.int .i64 1]) (by simp[results,results167,go_sem] <;> rfl) rfl ?_;exact⟨rfl,MK _ _⟩
  ·have e0:¬(2000 < (r.length:Int)+1):=by omega
   have HW:Ll (br (c :: r)=false):=aa (by
    rcases hb with h | h | h
    ·exact absurd hc h
    ·simp only[My]at h;omega
    ·exact h)
   clear hc hb;go_enter func167,ntmps167;go_wp2_with fail
   refine(vV _ (c :: r) (by simp;omega)).mono ?_;rintro e w1 ⟨rfl,hw1⟩;rw[HW.o,hw1];clear hw1;go_wp2_with fail
   refine MM (v:=.tuple #[.slice none 0 0,.int .i64 1]) (by simp[results,results167,go_sem] <;> rfl) rfl ?_;exact⟨rfl,MK _ _⟩
 ·have n1:((c.toNat:Int) != 47)=true:=by
   have:c.toNat≠47:=fun e=>hc (UInt8.toNat_inj.1 e);simp only[bne_iff_ne,ne_eq];omega
  have q1:((c.toNat:Int) == 47)=false:=by
   have:c.toNat≠47:=fun e=>hc (UInt8.toNat_inj.1 e);rw[MO];omega
  clear hc hb;go_enter func167,ntmps167;go_wp2_with fail
  refine MM (v:=.tuple #[.slice none 0 0,.int .i64 1]) (by simp[results,results167,go_sem] <;> rfl) rfl ?_;exact⟨rfl,MK _ _⟩
theorem tM(w:LC):Calls prog 167 #[aR []] w fun e w'=>e=.returned (.tuple #[.slice none 0 0,.int .i64 0])/\La w w':=by
 unfold aR;have hne:(ByteArray.mk ([]:Lz).toArray == ByteArray.mk #[])=true:=zN (by simp);go_enter func167,ntmps167;go_wp2_with fail
 refine MM (v:=.tuple #[.slice none 0 0,.int .i64 0]) (by simp[results,results167,go_sem] <;> rfl) rfl ?_;exact⟨rfl,MK _ _⟩
theorem iO(w:LC)(p)(hp:p.length<=140737488351232)(hM:bj w):Calls prog 167 #[aR p] w fun e w'=>∃ (b:List Lz) (ee:Int) (a:Option Addr) (cap:Nat),e=.returned (.tuple #[.slice a b.length cap,.int .i64 ee])/\ax p=(b,ee) /\
 ao w' (fun k=>w.heap.size<=k) b (.slice a b.length cap)/\La w w':=by
 cases p with
 | nil=>
  refine Lk (tM w) fun w' hb=>?_;exact⟨[],0,none,0,rfl,rfl,⟨by simp[maxLen],.inl ⟨rfl,none,rfl⟩⟩,hb⟩
 | cons c r=>
  by_cases h:c≠47\/2000 < (c :: r).length\/br (c :: r)=false
  ·refine Lk (ta w c r (by simpa using hp) h) fun w' hb=>?_;refine⟨[],1,none,0,rfl,?_,⟨by simp[maxLen],.inl ⟨rfl,none,rfl⟩⟩,hb⟩;simp only[ax];rw[if_pos h]
  ·have h':=h;simp only[not_or,Decidable.not_not,Bool.not_eq_false]at h';refine(wj w c r h'.1 (by have:=h'.2.1;simp only[My]at this;omega) h'.2.2 hM).mono ?_;rintro e w' ⟨a,cap,rfl,hs,hb⟩;refine⟨_,0,a,cap,rfl,?_,hs,hb⟩;simp only[ax];rw[if_neg h]
theorem lm{xs a}(h:ao w ok xs (.slice a n c))(hk:k < xs.length):∃ b off,a=some ⟨b,off,none⟩/\xs.length<=c/\c<=maxLen/\w.cell? ⟨b,off+k,none⟩=some (.string ⟨xs[k].toArray⟩):=by
 rcases h.2 with⟨e,_⟩ | ⟨b,off,c',e,h1,h2,Mb⟩
 ·rw[e]at hk;simp at hk
 ·simp only[Value.slice.injEq]at e;obtain⟨rfl,-,rfl⟩:=e;exact⟨b,off,rfl,h1,h2,(Mb k xs[k] (Mw hk)).2.2⟩
theorem Dc(p q):(Lib.hasPrefix q p&&Lib.hasPrefix (Lib.trimPrefix q p) [47])=(p++[47]).isPrefixOf q:=by
 unfold Lib.trimPrefix Lib.hasPrefix;by_cases h:p.isPrefixOf q=true
 ·obtain⟨r,rfl⟩:=List.isPrefixOf_iff_prefix.1 h;rw[h,if_pos rfl,List.drop_left,Bool.true_and];rw[Bool.eq_iff_iff,List.isPrefixOf_iff_prefix,List.isPrefixOf_iff_prefix,List.prefix_append_right_inj]
 ·have h2:p.isPrefixOf q=false:=Bool.eq_false_iff.2 h;have h3:(p++[47]).isPrefixOf q=false:=by
   rw[Bool.eq_false_iff];intro h9;obtain⟨r,rfl⟩:=List.isPrefixOf_iff_prefix.1 h9;exact h (List.isPrefixOf_iff_prefix.2 ⟨[47]++r,by simp⟩)
  rw[h2,h3];rfl
theorem FL(w:LC)(p q):Calls prog 136 #[aR p,aR q] w fun e w'=>e=.returned (.bool ((p++[47]).isPrefixOf q))/\w'=w:=by
 have CA:=aa (Dc p q);unfold aR;have hpx:=Tryz.strings_CutPrefix ⟨q.toArray⟩ ⟨p.toArray⟩ w;simp only[List.toList_toArray]at hpx;go_enter func136,ntmps136;go_wp2_with fail
 refine hpx.mono ?_;rintro e w1 ⟨rfl,hw1⟩;have hw2:=hw1.symm;subst hw2;clear hpx hw1;cases hb:Lib.hasPrefix q p with
 | false=>
  have R:Ll ((p++[47]).isPrefixOf q=false):=aa (by rw[<-CA.o,hb];rfl);clear hb;go_wp2_with fail
  go_ret;exact⟨by rw[R.o];first | done | rfl,rfl⟩
 | true=>
  have R:Ll ((p++[47]).isPrefixOf q=Lib.hasPrefix (Lib.trimPrefix q p) [47]):=aa (by rw[<-CA.o,hb];rfl);clear hb;have hpy:=Tryz.strings_HasPrefix ⟨(Lib.trimPrefix q p).toArray⟩ ⟨#[47]⟩ w;simp only[List.toList_toArray]at hpy;go_wp2_with fail
  refine hpy.mono ?_;rintro e w2 ⟨rfl,hw3⟩;have hw4:=hw3.symm;subst hw4;clear hpy hw3;go_wp2_with fail
  go_ret;exact⟨by rw[R.o];first | done | rfl,rfl⟩
def Ob (t:V):Prop:=t.kind=5/\t.n=0/\t.s=[]/\t.keys.length=t.l.length/\bD t.keys
theorem Ob.paired(h:Ob t):aK t=true:=by simp[aK,h.1,h.2.2.2.1]
def jM:V:=⟨5,0,[],[],[]⟩
theorem AA:Ob jM:=⟨rfl,rfl,rfl,rfl,List.Pairwise.nil⟩
theorem Jb(hs:ce t=true)(hk:t.kind=5):Ob t:=by
 obtain⟨h1,h2,h3,h4⟩:=gu hs hk;simp only[aK,MJ,decide_eq_true_eq]at h1;exact⟨hk,h3,h4,h1.2,(rJ _ _ h2).2.1⟩
theorem vd{k}{ps:List (Lz × V)}(h:eo k ps=some x):(k,x)∈ps:=by
 induction ps with
 | nil=>cases h
 | cons p ps ih=>
  rw[eo]at h;split at h
  ·rename_i e;cases h;rw[<-e];simp
  ·simp[ih h]
theorem wH:∀ (a b:List (Lz × V)),(a.map Prod.fst).Pairwise (fun x y=>Op.bytesLess x y=true)->(b.map Prod.fst).Pairwise (fun x y=>Op.bytesLess x y=true)->(∀ k,eo k a=eo k b)->a=b
 | [],[],_,_,_=>rfl
 | [],q :: b,_,_,h=>by have:=h q.1;simp[eo]at this
 | p :: a,[],_,_,h=>by have:=h p.1;simp[eo]at this
 | p :: a,q :: b,ha,hb,h=>by
  rw[List.map_cons,List.pairwise_cons]at ha hb;have less:∀ x y:Lz,Op.bytesLess x y=true->Op.bytesLess y x=true->False:=fun x y h1 h2=>by
   have:=cP x y x h1 h2;rw[cd]at this;cases this
  have hk:p.1=q.1:=by
   have h1:=h p.1;have h2:=h q.1;rw[eo,if_pos rfl,eo]at h1;rw[eo]at h2;split at h1
   ·rename_i e;exact e.symm
   ·rename_i e;have m1:=vd h1.symm;have l1:=hb.1 p.1 (List.mem_map.2 ⟨_,m1,rfl⟩);rw[if_neg (fun e'=>e e'.symm),eo,if_pos rfl]at h2;have m2:=vd h2;have l2:=ha.1 q.1 (List.mem_map.2 ⟨_,m2,rfl⟩);exact(less _ _ l1 l2).elim
  have hv:p.2=q.2:=by
   have h1:=h p.1;rw[eo,if_pos rfl,eo,if_pos hk.symm]at h1;exact Option.some.inj h1
  have hp:p=q:=Prod.ext hk hv;subst hp;congr 1
  refine wH a b ha.2 hb.2 fun k=>?_;have h1:=h k;rw[eo,eo]at h1;by_cases e:p.1=k
  ·have n1:eo k a=none:=mG fun r hr e'=>by
    have:=ha.1 r.1 (List.mem_map.2 ⟨r,hr,rfl⟩);rw[e,<-e',cd]at this;cases this
   have n2:eo k b=none:=mG fun r hr e'=>by
    have:=hb.1 r.1 (List.mem_map.2 ⟨r,hr,rfl⟩);rw[e,<-e',cd]at this;cases this
   rw[n1,n2]
  ·rwa [if_neg e,if_neg e]at h1
theorem G8{a b:List Lz}{c d:List V}(h1:a.length=c.length)(h2:b.length=d.length)(h:a.zip c=b.zip d):a=b/\c=d:=by
 have e1:=congrArg (List.map Prod.fst) h;have e2:=congrArg (List.map Prod.snd) h;rw[List.map_fst_zip (by omega),List.map_fst_zip (by omega)]at e1;rw[List.map_snd_zip (by omega),List.map_snd_zip (by omega)]at e2;exact⟨e1,e2⟩
theorem JO{u}(ht:Ob t)(hu:Ob u)(h:∀ k,aS t k=aS u k):t=u:=by
 have hz:t.keys.zip t.l=u.keys.zip u.l:=wH _ _
  (by rw[List.map_fst_zip (by have:=ht.2.2.2.1;omega)];exact ht.2.2.2.2)
  (by rw[List.map_fst_zip (by have:=hu.2.2.2.1;omega)];exact hu.2.2.2.2)
  fun k=>by rw[<-ft ht.paired,<-ft hu.paired];exact h k
 obtain⟨e1,e2⟩:=G8 ht.2.2.2.1 hu.2.2.2.1 hz;rw[<-Ai t,<-Ai u,ht.1,hu.1,ht.2.1,hu.2.1,ht.2.2.1,hu.2.2.1,e1,e2]
theorem hJ:∀ (a b:Lz),Op.bytesLess a b=false->a≠b->Op.bytesLess b a=true
 | [],[],_,h=>absurd rfl h
 | [],_ :: _,h,_=>by simp[Op.bytesLess]at h
 | _ :: _,[],_,_=>by simp[Op.bytesLess]
 | x :: a,y :: b,h,hne=>by
  simp only[Op.bytesLess,Bool.or_eq_false_iff,decide_eq_false_iff_not,Bool.and_eq_false_iff]at h;simp only[Op.bytesLess,Bool.or_eq_true,MJ,decide_eq_true_eq,beq_iff_eq];by_cases e:x=y
  ·subst e;refine .inr ⟨rfl,hJ a b ?_ (fun e=>hne (by rw[e]))⟩;rcases h.2 with h2 | h2
   ·simp at h2
   ·exact h2
  ·left;have h1:=h.1;rw[UInt8.lt_iff_toNat_lt]at *;have:x.toNat≠y.toNat:=fun e'=>e (UInt8.toNat_inj.1 e');omega
theorem Dw{key ks}(h:bD ks)(hn:key ∉ ks):bD (ks.take (qW key ks)++key :: ks.drop (qW key ks)):=by
 unfold bD at *;induction ks with
 | nil=>simp[qW]
 | cons a ks ih=>
  rw[List.pairwise_cons]at h;simp only[List.mem_cons,not_or]at hn;unfold qW;rw[List.takeWhile_cons];split
  ·rename_i hl;simp only[My,List.take_succ_cons,List.drop_succ_cons,List.cons_append];rw[List.pairwise_cons];refine⟨?_,ih h.2 hn.2⟩;intro x hx;rw[List.mem_append]at hx;rcases hx with hx | hx
   ·exact h.1 x (List.mem_of_mem_take hx)
   ·rcases List.mem_cons.1 hx with rfl | hx
    ·exact hl
    ·exact h.1 x (List.mem_of_mem_drop hx)
  ·rename_i hl;simp only[List.length_nil,List.take_zero,List.drop_zero,List.nil_append];have hka:=hJ _ _ (by simpa using hl) (fun e=>hn.1 e.symm);rw[List.pairwise_cons];refine⟨?_,List.pairwise_cons.2 h⟩;intro x hx;rcases List.mem_cons.1 hx with rfl | hx
   ·exact hka
   ·exact cP _ _ _ hka (h.1 x hx)
theorem mo(h:Ob t)(k x):Ob (aG t k x):=by
 have hp:=h.paired;have hp':=ku hp k x;simp only[aK,MJ,decide_eq_true_eq]at hp';refine⟨hp'.1,?_,?_,hp'.2,?_⟩
 ·unfold aG;rw[if_pos hp];split <;> exact h.2.1
 ·unfold aG;rw[if_pos hp];split <;> exact h.2.2.1
 ·unfold aG;rw[if_pos hp];split
  ·exact h.2.2.2.2
  ·rename_i hi;exact Dw h.2.2.2.2 (oU hi)
theorem ie(h:Ob t)(k):Ob (bH t k):=by
 unfold bH;split
 ·rename_i i hi;obtain⟨-,-,h1,h2⟩:=fW hi;have hl:=h.2.2.2.1;refine⟨h.1,h.2.1,h.2.2.1,?_,h.2.2.2.2.sublist (Hh _ _)⟩;simp only[Mx,MC,MB];omega
 ·exact h
theorem mg(h:Ob t){k k'}(hne:k'≠k):aS (bH t k) k'=aS t k':=by
 have ho:=ie h k;rw[ft ho.paired,ft h.paired];have hl:=h.2.2.2.1;unfold bH at ho ⊢;cases hi:dO t k with
 | none=>rfl
 | some i=>
  obtain⟨-,h0,h1,h2⟩:=fW hi;have hk:=(iw h0).2;simp only;rw[List.zip_append (by simp[hl]),dU,mR t.keys t.l i hl,dU];congr 1
  rw[tZ hk,ME h1,List.zip_cons_cons,eo,if_neg (fun e=>hne e.symm)]
theorem rt(t k):(bH t k).l.length<=t.l.length:=by
 unfold bH;split
 ·simp only[Mx,MC,MB];omega
 ·omega
theorem Ao{step:V->Lz × V->V}(ho:∀ v p,Ob v->Ob (step v p)):∀ (ps:List (Lz × V)) (v:V),Ob v->Ob (ps.foldl step v)
 | [],_,h=>h
 | p :: ps,v,h=>Ao ho ps _ (ho v p h)
theorem wV{step:V->Lz × V->V}(ho:∀ v p,Ob v->Ob (step v p))(hf:∀ v p k,Ob v->k≠p.1->aS (step v p) k=aS v k){k}:∀ (ps:List (Lz × V)) (v:V),Ob v->(∀ p∈ps,p.1≠k)->aS (ps.foldl step v) k=aS v k
 | [],_,_,_=>rfl
 | p :: ps,v,h,hn=>by
  rw[List.foldl_cons,wV ho hf ps _ (ho v p h) fun q hq=>hn q (by simp[hq]),hf v p k h fun e=>hn p (by simp) e.symm]
theorem xt(h:Ob t):((t.keys.zip t.l).map Prod.fst).Nodup:=by
 rw[List.map_fst_zip (by have:=h.2.2.2.1;omega)];exact nT h.2.2.2.2
def fu (f:V->V->V) (v:V) (p:Lz × V):V:=if p.2.kind=0 then bH v p.1 else aG v p.1 (f ((aS v p.1).getD aM) p.2)
def cD (v:V):V:=if v.kind=5 then v else jM
def dH:Nat->V->V->V
 | 0,_,p=>p
 | D+1,v,p=>if p.kind=5 then (p.keys.zip p.l).foldl (fu (dH D)) (cD v) else p
theorem wP(f:V->V->V)(v)(p:Lz × V)(h:Ob v):Ob (fu f v p):=by
 unfold fu;split
 ·exact ie h _
 ·exact mo h _ _
theorem C5(f:V->V->V)(v)(p:Lz × V)(k)(h:Ob v)(hk:k≠p.1):aS (fu f v p) k=aS v k:=by
 unfold fu;split
 ·exact mg h hk
 ·exact mJ h.paired _ _ _ hk
theorem ul{v}(h:v.kind=5->Ob v):Ob (cD v):=by
 unfold cD;split
 ·exact h (by assumption)
 ·exact AA
theorem lG{k}(h:aS t k=some x):x∈t.l:=by
 unfold aS at h;rw[Option.bind_eq_some_iff]at h;obtain⟨i,-,h⟩:=h;exact List.mem_of_getElem? h
theorem zO(h:dz t):t.kind=5->Ob t:=Jb (fp h)
theorem rU:dz aM:=⟨1,⟨rfl,fun x hx=>by cases hx⟩,by simp[qJ,aM]⟩
theorem F8{v}(h:dz v)(k):dz ((aS (cD v) k).getD aM):=by
 unfold cD;split
 ·cases hm:aS v k with
  | none=>exact rU
  | some x=>exact gC h (lG hm)
 ·exact rU
abbrev xB (B b:Nat) (l:Lz) (w:LC):Prop:=Lib.IsBuilderF 245 5 B b (Lib.byteCells l) w
theorem xB.bel{b l}(h:xB B b l w)(hb:La w w'):xB B b l w':=by
 rcases h with⟨h1,v,h2,h3,h4⟩ | ⟨h1,v,h2,h3,h4⟩
 ·exact .inl ⟨h1,v,(hb.block _ (MF.1 h2).1).trans h2,h3.kept (aq (r:=none) hb) (by cases v.ownBlock <;> simp),h4⟩
 ·exact .inr ⟨h1,v,(hb.block _ (MF.1 h2).1).trans h2,h3.kept (aq (r:=none) hb) (by cases v.ownBlock <;> simp),h4⟩
theorem tI(B b l w)(h:xB B b l w)(hl:l.length<=1000000000)(hB:B<=w.heap.size):Calls prog 222 #[.pointer (some ⟨b,0,none⟩),.int .u8 47] w fun e w'=>e=.returned .nilIface/\xB B b (l++[47]) w'/\Below B w w':=by
 have hl2:(Lib.byteCells l).length=l.length:=by simp[Lib.byteCells]
 refine(Any.Builder_WriteByte_k Tryz.laysB167 Tryz.laysB_extra B b (Lib.byteCells l) 47 w h (by omega) hB).mono ?_;rintro e w' ⟨rfl,h1,h2,-⟩;refine⟨rfl,.inr ?_,h2⟩;have e1:Lib.byteCells (l++[47])=Lib.byteCells l++[.int .u8 47]:=by simp[Lib.byteCells]
 rw[e1];exact h1
theorem oS(B b l s w)(h:xB B b l w)(hl:l.length<=1000000000)(hs:s.length<=1000000000)(hB:B<=w.heap.size):Calls prog 223 #[.pointer (some ⟨b,0,none⟩),.string ⟨s.toArray⟩] w fun e w'=>e=.returned (.tuple #[.int .i64 s.length,.nilIface])/\xB B b (l++s) w'/\Below B w w':=by
 have hl2:(Lib.byteCells l).length=l.length:=by simp[Lib.byteCells]
 refine(Any.Builder_WriteString_k Tryz.laysB166 Tryz.laysB_extra B b (Lib.byteCells l) ⟨s.toArray⟩ w h (by rw[eS];omega) hB).mono ?_;rintro e w' ⟨rfl,h1,h2,-⟩;refine⟨by rw[eS],.inr ?_,h2⟩;have e1:Lib.byteCells (l++s)=Lib.byteCells l++Lib.strCells ⟨s.toArray⟩:=by simp[Lib.byteCells,Lib.strCells]
 rw[e1];exact h1
theorem BR(B b l w)(h:xB B b l w)(hB:B<=w.heap.size):Calls prog 225 #[.pointer (some ⟨b,0,none⟩)] w fun e w'=>e=.returned (.string ⟨l.toArray⟩)/\Below B w w':=by
 refine(Any.Builder_String_any_k Tryz.laysB169 Tryz.laysB_extra B b l w h hB).mono ?_;rintro e w' ⟨rfl,-,h2,-⟩;exact⟨rfl,h2⟩
theorem CD(w:LC)(s)(hs:s.length<=10000000)(hM:bj w):Calls prog 224 #[aR s] w fun e w'=>e=.returned (aR (dY s))/\La w w':=by
 have HM:=aa hM;clear hM;unfold aR;go_enter func224,ntmps224;go_wp2_with fail
 refine Lk (oP _ s [126] [126,48] (by omega) (by simp) (by simp) (by exact HM.o)) fun w1 hb1=>?_;have HB1:=aa hb1;have HM1:=aa (HM.o.bel hb1);have hl:(Lib.replaceAll s [126] [126,48]).length<=2 * s.length:=by
  rw[IU];generalize s=s;induction s with
  | nil=>simp
  | cons c s ih=>
   have:(if c=126 then [126,48] else [c]:Lz).length<=2:=by split <;> simp
   simp only[List.flatMap_cons,Mx,My];omega
 clear hb1;go_wp2_with fail
 refine Lk (oP _ (Lib.replaceAll s [126] [126,48]) [47] [126,49] (by omega) (by simp) (by simp) (by exact HM1.o)) fun w2 hb2=>?_;have HB2:=aa hb2;clear hb2;go_wp2_with fail
 go_ret;exact⟨rfl,ab HB1.o HB2.o⟩
theorem CV{l:List Lz}(h:k < l.length):aU (l.take (k+1))=aU (l.take k)++[47]++dY l[k]:=by
 unfold aU;rw[List.take_add_one,Mw h,List.flatMap_append];simp
theorem rZ(l k):(aU (l.take k)).length<=(aU l).length:=by
 have:aU l=aU (l.take k)++aU (l.drop k):=by
  unfold aU;rw[<-List.flatMap_append,List.take_append_drop]
 rw[this,Mx];omega
theorem Ij(w:LC)(o:Obj)(ho:o=.cells #[.pointer none,.slice none 0 0] 245):xB w.heap.size w.heap.size [] (w.alloc o):=by
 subst ho;exact .inl ⟨MG _,.slice none 0 0,MN w _,World.ownsRowF_of (World.ownsRow_nil _ _ _ _),by simp[Value.ownBlock]⟩
theorem AJ(w:LC)(ok l v)(hl:ao w ok l v)(hn:∀ x∈l,x.length<=10000000)(hj:(aU l).length<=10000000)(hM:bj w):Calls prog 195 #[v] w fun e w'=>e=.returned (aR (aU l))/\La w w':=by
 obtain⟨a1,c1,rfl⟩:=hl.form;have HL:=aa hl;have HN:=aa hn;have HM:=aa hM;have hl1:=hl.1;unfold maxLen at hl1;clear hl hn hM;have S0:Ll (xB w.heap.size w.heap.size (aU (l.take 0)) (w.alloc (.cells #[.pointer none,.slice none 0 0] 245))/\La w (w.alloc (.cells #[.pointer none,.slice none 0 0] 245))):=⟨Ij w _ rfl,ae _ _⟩
 unfold aR;go_enter func195,ntmps195;go_wp2_with fail
 go_loopg [8] l.length (fun gk i wr=>∃ k:Nat,k<=l.length/\gk=l.length - k/\i=.int .i64 k/\xB w.heap.size w.heap.size (aU (l.take k)) wr/\La w wr)
 case atStart=>exact⟨0,Nat.zero_le _,rfl,rfl,S0.o.1,S0.o.2⟩
 case round=>
  obtain⟨k,hk,hgk,rfl,hh,hbl⟩:=hrel;have GK:=aa hgk;have A:Ll (xB w.heap.size w.heap.size (aU (l.take k)) wr/\La w wr):=⟨hh,hbl⟩
  clear hgk hh hbl;have hpart:=rZ l k;by_cases hlt:k < l.length
  ·obtain⟨kb,ko,rfl,hc1,hc2,hc⟩:=lm HL.o hlt;have c9:wr.cell? ⟨kb,ko+k,none⟩=some (.string ⟨l[k].toArray⟩):=ah A.o.2 hc;have hpart2:=rZ l (k+1);have JT:=aa (CV hlt);have hlk:l[k].length<=10000000:=HN.o _ (List.getElem_mem _);have hmk:(dY l[k]).length<=10000000:=by
    have e:=congrArg List.length JT.o;simp only[Mx,My,List.length_nil]at e;omega
   clear hc;unfold maxLen at hc2;go_wp2_with fail
   refine(tI w.heap.size w.heap.size (aU (l.take k)) _ (by exact A.o.1) (by omega) (by exact A.o.2.size)).mono ?_;rintro e w1 ⟨rfl,hB1,hb1⟩;have A1:Ll (xB w.heap.size w.heap.size (aU (l.take k)++[47]) w1/\La w w1):=⟨hB1,A.o.2.trans hb1⟩
   clear hB1 hb1;have M1:=aa (HM.o.bel A1.o.2);go_wp2_with fail
   refine Lk (CD _ l[k] (by omega) (by exact M1.o)) fun w2 hb2=>?_;have A2:Ll (xB w.heap.size w.heap.size (aU (l.take k)++[47]) w2/\La w w2):=⟨A1.o.1.bel hb2,ab A1.o.2 hb2⟩
   clear hb2;unfold aR;go_wp2_with fail
   refine(oS w.heap.size w.heap.size (aU (l.take k)++[47]) (dY l[k]) _ (by exact A2.o.1) (by simp only[Mx,My,List.length_nil];omega) (by omega) (by exact A2.o.2.size)).mono ?_;rintro e w3 ⟨rfl,hB3,hb3⟩;have A3:Ll (xB w.heap.size w.heap.size (aU (l.take (k+1))) w3/\La w w3):=⟨by rw[JT.o];exact hB3,A2.o.2.trans hb3⟩
   clear hB3 hb3;go_wp2_with fail
   go_roundg (l.length - (k+1))
   case measure=>rw[GK.o];omega
   case rel=>exact⟨k+1,by omega,rfl,by go_num,A3.o.1,A3.o.2⟩
  ·have Mc:k=l.length:=by omega
   subst Mc;have A4:Ll (xB w.heap.size w.heap.size (aU l) wr/\La w wr):=⟨by have:=A.o.1;rwa [List.take_length]at this,A.o.2⟩
   clear A;go_wp2_with fail
   refine Lk (BR w.heap.size w.heap.size (aU l) _ (by exact A4.o.1) (by exact A4.o.2.size)) fun w1 hb1=>?_;have HB1:=aa hb1;clear hb1;go_wp2_with fail
   go_ret;exact⟨rfl,A4.o.2.trans HB1.o⟩
end Go.Proofs.YtfpcghnhjlnnoaaGreatDoor
