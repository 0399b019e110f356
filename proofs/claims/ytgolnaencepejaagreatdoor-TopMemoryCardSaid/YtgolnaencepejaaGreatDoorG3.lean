import Derived.Test.YtgolnaencepejaaGreatDoorG1
import Derived.Test.YtgolnaencepejaaGreatDoorG2
import Derived.Deep.DeepCutAuto
set_option maxRecDepth 100000
set_option maxHeartbeats 40000000
set_option linter.unusedSimpArgs false
set_option linter.unusedVariables false
namespace Go.Proofs.YtgolnaencepejaaGreatDoor
open Go.RowKit
open _root_.Go.Proofs.Tryz
theorem rP(w ok d t v)(h:bu w ok d t v):Calls prog 81 #[v] w fun e w'=>e=.returned (.bool (ce t))/\La w w':=by
 have H:=aa h;match d,h with
 | d+1,h=>
  obtain⟨ks,ls,rfl,h1,h2,h3,h4,h5⟩:=h;have K4:=aa h4;have HS:=aa h3;obtain⟨a1,c1,rfl⟩:=h4.form;obtain⟨a2,c2,rfl⟩:=h5.form;have l1:=h4.1;have l2:=h5.1;unfold maxLen at l1 l2 h3;unfold aR;clear h4 h5 h1 h2;by_cases k0:t.kind=0
  ·have e0:(t.kind == 0)=true:=by simp[k0]
   have K:=aa k0;clear k0;go_enter func81,ntmps81;go_wp2_with (go_at_call 108;refine Lk (gM _ _ _ _ _ _ _ _ _ _ l1 l2) fun w1 hb1=>?_)
   all_goals
    go_ret;have kk:=K.o;refine⟨?_,?_⟩
    ·(simp_all [ce,cp]) <;> (intros;omega)
    ·first | exact ab (ae _ _) (by assumption) | exact ae _ _
  by_cases k1:t.kind=1
  ·have e1:(t.kind == 1)=true:=by simp[k1]
   have f0:(t.kind == 0)=false:=by simp[k1]
   have K:=aa k1;clear k1;go_enter func81,ntmps81;go_wp2_with (go_at_call 108;refine Lk (gM _ _ _ _ _ _ _ _ _ _ l1 l2) fun w1 hb1=>?_)
   all_goals
    go_ret;have kk:=K.o;refine⟨?_,?_⟩
    ·(simp_all [ce,cp]) <;> (intros;omega)
    ·first | exact ab (ae _ _) (by assumption) | exact ae _ _
  by_cases k2:t.kind=2
  ·have e2:(t.kind == 2)=true:=by simp[k2]
   have f0:(t.kind == 0)=false:=by simp[k2]
   have f1:(t.kind == 1)=false:=by simp[k2]
   have K:=aa k2;clear k2;go_enter func81,ntmps81;go_wp2_with (go_at_call 108;refine Lk (gM _ _ _ _ _ _ _ _ _ _ l1 l2) fun w1 hb1=>?_)
   all_goals
    go_ret;have kk:=K.o;refine⟨?_,?_⟩
    ·(simp_all [ce,cp]) <;> (intros;omega)
    ·first | exact ab (ae _ _) (by assumption) | exact ae _ _
  by_cases k3:t.kind=3
  ·have e3:(t.kind == 3)=true:=by simp[k3]
   have f0:(t.kind == 0)=false:=by simp[k3]
   have f1:(t.kind == 1)=false:=by simp[k3]
   have f2:(t.kind == 2)=false:=by simp[k3]
   have K:=aa k3;clear k3;go_enter func81,ntmps81;go_wp2_with (first | (go_at_call 109;refine LE (ke _ t.s HS.o) ?_) | (go_at_call 108;refine Lk (gM _ _ _ _ _ _ _ _ _ _ l1 l2) fun w1 hb1=>?_))
   all_goals
    go_ret;have kk:=K.o;refine⟨?_,?_⟩
    ·(simp_all [ce,cp]) <;> (intros;omega)
    ·first | exact ab (ae _ _) (by assumption) | exact ae _ _
  by_cases k4:t.kind=4
  ·have e4:(t.kind == 4)=true:=by simp[k4]
   have f0:(t.kind == 0)=false:=by simp[k4]
   have f1:(t.kind == 1)=false:=by simp[k4]
   have f2:(t.kind == 2)=false:=by simp[k4]
   have f3:(t.kind == 3)=false:=by simp[k4]
   have K:=aa k4;clear k4;by_cases hl:t.keys.length=0
   ·have hlb:((t.keys.length:Int) == 0)=true:=by simp[hl]
    have HL:=aa hl;clear hl;go_enter func81,ntmps81;go_wp2
    all_goals
     go_ret;have kk:=K.o;have hl:=HL.o;refine⟨?_,?_⟩
     ·simp_all [ce,cp]
     ·first | exact ab (ae _ _) (by assumption) | exact ae _ _
   ·have hlb:((t.keys.length:Int) == 0)=false:=by rw[MO];omega
    have HL:=aa hl;clear hl;go_enter func81,ntmps81;go_wp2
    all_goals
     go_ret;have kk:=K.o;have hl:=HL.o;refine⟨?_,?_⟩
     ·simp_all [ce,cp]
     ·first | exact ab (ae _ _) (by assumption) | exact ae _ _
  by_cases k5:t.kind=5
  ·have e5:(t.kind == 5)=true:=by simp[k5]
   have f0:(t.kind == 0)=false:=by simp[k5]
   have f1:(t.kind == 1)=false:=by simp[k5]
   have f2:(t.kind == 2)=false:=by simp[k5]
   have f3:(t.kind == 3)=false:=by simp[k5]
   have f4:(t.kind == 4)=false:=by simp[k5]
   have K:=aa k5;clear k5;by_cases hl:t.keys.length=t.l.length
   ·have hlb:((t.keys.length:Int) == (t.l.length:Int))=true:=by simp[hl]
    have HL:=aa hl;clear hl;go_enter func81,ntmps81;go_wp2_with (go_at_call 110;refine LE (BS _ ok t.keys _ (by exact K4.o.bel (ae _ _))) ?_)
    all_goals
     go_ret;have kk:=K.o;have hl:=HL.o;refine⟨?_,?_⟩
     ·simp_all [ce,cp]
     ·first | exact ab (ae _ _) (by assumption) | exact ae _ _
   ·have hlb:((t.keys.length:Int) == (t.l.length:Int))=false:=by rw[MO];omega
    have HL:=aa hl;clear hl;go_enter func81,ntmps81;go_wp2
    all_goals
     go_ret;have kk:=K.o;have hl:=HL.o;refine⟨?_,?_⟩
     ·simp_all [ce,cp]
     ·first | exact ab (ae _ _) (by assumption) | exact ae _ _
  ·have g0:(t.kind == 0)=false:=by simp[k0]
   have g1:(t.kind == 1)=false:=by simp[k1]
   have g2:(t.kind == 2)=false:=by simp[k2]
   have g3:(t.kind == 3)=false:=by simp[k3]
   have g4:(t.kind == 4)=false:=by simp[k4]
   have g5:(t.kind == 5)=false:=by simp[k5]
   have F:Ll (ce t=false):=aa (by simp[ce,k0,k1,k2,k3,k4,k5]);clear k0 k1 k2 k3 k4 k5;go_enter func81,ntmps81;go_wp2
   go_ret;exact⟨by rw[F.o];rfl,ae _ _⟩
variable {w w':World}
variable {ok:Nat->Prop}
variable {v:Value}
variable {t x:V}
variable {g k d:Nat}
def bn:Nat->V->Int->Bool × Int
 | 0,_,r=>(false,r - 1)
 | d+1,t,r=>if r - 1 < 0\/ce t=false then (false,r - 1) else t.l.foldl (fun p x=>if p.1 then bn d x p.2 else p) (true,r - 1)
def aE (t:V):Bool:=(bn 12 t 120).1
theorem jU(l:List V)(r:Int):l.foldl (fun p x=>if p.1 then bn d x p.2 else p) (false,r)=(false,r):=by
 induction l with
 | nil=>rfl
 | cons x l ih=>simpa using ih
theorem nt(ih:∀ t r,0<=r->-1<=(bn d t r).2/\(bn d t r).2<=r/\((bn d t r).1=true->0<=(bn d t r).2))(l:List V):∀ r,0<=r ->
 -1<=(l.foldl (fun p x=>if p.1 then bn d x p.2 else p) (true,r)).2/\(l.foldl (fun p x=>if p.1 then bn d x p.2 else p) (true,r)).2<=r/\((l.foldl (fun p x=>if p.1 then bn d x p.2 else p) (true,r)).1=true->0<=(l.foldl (fun p x=>if p.1 then bn d x p.2 else p) (true,r)).2):=by
 induction l with
 | nil=>intro r h;exact⟨by simp only[List.foldl_nil];omega,by simp,fun _=>h⟩
 | cons x l ihl=>
  intro r h;rw[List.foldl_cons];simp only[if_true];obtain⟨h1,h2,h3⟩:=ih x r h;cases hb:(bn d x r).1 with
  | true=>
   have e:bn d x r=(true,(bn d x r).2):=by rw[<-hb]
   rw[e];obtain⟨g1,g2,g3⟩:=ihl (bn d x r).2 (h3 hb);exact⟨g1,by omega,g3⟩
  | false=>
   have e:bn d x r=(false,(bn d x r).2):=by rw[<-hb]
   rw[e,jU];exact⟨h1,h2,by simp⟩
theorem ic(d):∀ t r,0<=r->-1<=(bn d t r).2/\(bn d t r).2<=r/\((bn d t r).1=true->0<=(bn d t r).2):=by
 induction d with
 | zero=>intro t r h;simp only[bn];exact⟨by omega,by omega,by simp⟩
 | succ d ih=>
  intro t r h;simp only[bn];split
  ·exact⟨by simp only;omega,by simp only;omega,by simp⟩
  ·rename_i hc;obtain⟨g1,g2,g3⟩:=nt ih t.l (r - 1) (by omega);exact⟨g1,by omega,g3⟩
def eb (d:Nat) (l:List V) (r:Int):Bool × Int:=l.foldl (fun p x=>if p.1 then bn d x p.2 else p) (true,r)
theorem xV{l:List V}{r p:Int}(hx:l[k]?=some x)(h:eb d (l.take k) r=(true,p)):eb d (l.take (k+1)) r=bn d x p:=by
 unfold eb at h ⊢;rw[List.take_add_one,hx,List.foldl_append,h];rfl
theorem vH{l r p}(h:eb d (l.take k) r=(false,p)):eb d l r=(false,p):=by
 unfold eb at h ⊢;have e:l=l.take k++l.drop k:=(List.take_append_drop k l).symm;rw[e,List.foldl_append,h,jU]
theorem bu.shape(h:bu w ok d t v):∃ (a7 a8:Option Addr) (c7 c8:Nat),v=.agg (KV t a7 c7 a8 c8):=by
 match d,h with
 | d+1,h=>
  obtain⟨ks,ls,e,h1,h2,h3,h4,h5⟩:=h;obtain⟨a1,c1,rfl⟩:=h4.form;obtain⟨a2,c2,rfl⟩:=h5.form;exact⟨_,_,_,_,e⟩
def eH (w:LC) (g:Nat) (r:Int):Prop:=w.heap[g]?=some (.cells #[.int .i64 r] 3)
theorem eH.c{r}(h:eH w g r):w.cell? ⟨g,0,none⟩=some (.int .i64 r)/\w.frozen? ⟨g,0,none⟩=false:=by
 unfold eH at h;exact⟨by simp[World.cell?,h],by simp[World.frozen?,h]⟩
theorem eH.lt{r}(h:eH w g r):g < w.heap.size:=(MF.1 h).1
theorem lC{a:LC}{r}(h:a.grownBy w r)(hg:w.grownBy w' (some g))(hag:a.heap.size<=g):a.grownBy w' r:=
 ⟨hg.os.trans h.os,hg.tape.trans h.tape,hg.output.trans h.output,MH h.size hg.size,fun i hi hr=>(hg.block i (MI hi h.size) (fun e=>by cases e;omega)).trans (h.block i hi hr)⟩
theorem oG{r}(h:eH w g r)(r')(o:Obj):eH ((w.setCell ⟨g,0,none⟩ (.int .i64 r')).alloc o) g r':=by
 have h1:(w.setCell ⟨g,0,none⟩ (.int .i64 r')).heap[g]?=some (.cells #[.int .i64 r'] 3):=ak h 0 _;exact((World.grownBy_alloc _ o none).block g (MF.1 h1).1 (by simp)).trans h1
def Az (D:Nat):Prop:=∀ (w:LC) (ok:Nat->Prop) (d:Nat) (t:V) (v:Value) (g:Nat) (r:Int),bu w ok d t v->(∀ k,ok k->k≠g)->eH w g r->0<=r->r<=120 ->
 Calls prog 61 #[v,.int .i64 D,.pointer (some ⟨g,0,none⟩)] w fun e w'=>e=.returned (.bool (bn D t r).1)/\eH w' g (bn D t r).2/\w.grownBy w' (some g)
theorem Bb:Az 0:=by
 intro w ok d t v g r hv hok hr h0 h1;obtain⟨a7,a8,c7,c8,rfl⟩:=hv.shape;have HR:=aa hr;have hgl:=hr.lt;have hr2:eH (w.alloc (.cells (KV t a7 c7 a8 c8) 39)) g r:=((World.grownBy_alloc w _ none).block g hgl (by simp)).trans hr;have c0_:=hr2.c;have HR2:=aa hr2;clear hr hv hr2;go_enter func61,ntmps61;go_wp2_with fail
 go_ret;exact⟨rfl,oG HR.o _ _,bd (ap (az _ _) _ _) _⟩
theorem Cx(D)(hD:D+1<=12)(ih:Az D):Az (D+1):=by
 intro w ok d t v g r hv hok hr h0 h1;obtain⟨a7,a8,c7,c8,rfl⟩:=hv.shape;have HV:=aa hv;have IH:=aa ih;have HOK:=aa hok;have hgl:=hr.lt;have hr2:eH (w.alloc (.cells (KV t a7 c7 a8 c8) 39)) g r:=((World.grownBy_alloc w _ none).block g hgl (by simp)).trans hr;have c0_:=hr2.c;have HR2:=aa hr2;have d0:((D:Int)+1 == 0)=false:=by rw[MO];omega
 have HR:=aa hr;have c9:∀ o,((w.setCell ⟨g,0,none⟩ (.int .i64 (r - 1))).alloc o).cell? ⟨g,0,none⟩=some (.int .i64 (r - 1)):=fun o=>(oG hr (r - 1) o).c.1;have hne:g≠w.heap.size:=by omega
 clear hr hv hr2 ih hok;by_cases hr0:r - 1 < 0
 ·have F:Ll (bn (D+1) t r=(false,r - 1)):=aa (by simp[bn,hr0]);have hr9:r - 1 < 0:=hr0;go_enter func61,ntmps61;go_wp2_with fail
  go_ret;rw[F.o];exact⟨rfl,oG HR.o _ _,bd (ap (az _ _) _ _) _⟩
 ·have hr9:¬(r - 1 < 0):=hr0;have W1:Ll (eH ((w.setCell ⟨g,0,none⟩ (.int .i64 (r - 1))).alloc (.cells (KV t a7 c7 a8 c8) 39)) g (r - 1)/\KY ((w.setCell ⟨g,0,none⟩ (.int .i64 (r - 1))).alloc (.cells (KV t a7 c7 a8 c8) 39)) w.heap.size t a7 c7 a8 c8 /\
   bu ((w.setCell ⟨g,0,none⟩ (.int .i64 (r - 1))).alloc (.cells (KV t a7 c7 a8 c8) 39)) ok d t (.agg (KV t a7 c7 a8 c8))/\w.grownBy ((w.setCell ⟨g,0,none⟩ (.int .i64 (r - 1))).alloc (.cells (KV t a7 c7 a8 c8) 39)) (some g)):=by
   have L9:(w.setCell ⟨g,0,none⟩ (.int .i64 (r - 1))).heap.size=w.heap.size:=by simp[World.setCell]
   have ga:w.grownBy ((w.setCell ⟨g,0,none⟩ (.int .i64 (r - 1))).alloc (.cells (KV t a7 c7 a8 c8) 39)) (some g):=bd (ap (az _ _) _ _) _;refine⟨oG HR.o _ _,?_,HV.o.grown ga (fun k hk e=>by cases e;exact HOK.o _ hk rfl),ga⟩;have:=MN (w.setCell ⟨g,0,none⟩ (.int .i64 (r - 1))) (.cells (KV t a7 c7 a8 c8) 39);rw[L9]at this;exact this
  obtain⟨w1,hw1⟩:∃ w1,w1=(w.setCell ⟨g,0,none⟩ (.int .i64 (r - 1))).alloc (.cells (KV t a7 c7 a8 c8) 39):=⟨_,rfl⟩
  cases hsh:ce t with
  | false=>
   have F:Ll (bn (D+1) t r=(false,r - 1)):=aa (by simp[bn,hsh]);have HSH:=aa hsh;clear hsh;go_enter func61,ntmps61;go_wp2_with fail
   rw[<-hw1]at W1 ⊢;refine Lk (rP _ ok d t _ (by exact W1.o.2.2.1)) fun w2 hb2=>?_;rw[HSH.o];have G2:Ll (eH w2 g (r - 1)/\w.grownBy w2 (some g)):=⟨(hb2.block g W1.o.1.lt).trans W1.o.1,am W1.o.2.2.2 (aq hb2)⟩
   clear hb2 hw1;go_wp2_with fail
   go_ret;rw[F.o];exact⟨rfl,G2.o⟩
  | true=>
   have F:Ll (bn (D+1) t r=eb D t.l (r - 1)):=aa (by simp[bn,hsh,hr0,eb]);have HSH:=aa hsh;clear hsh;go_enter func61,ntmps61;go_wp2_with fail
   rw[<-hw1]at W1 ⊢;refine Lk (rP _ ok d t _ (by exact W1.o.2.2.1)) fun w2 hb2=>?_;rw[HSH.o];have G2:Ll (eH w2 g (r - 1)/\w.grownBy w2 (some g)/\bu w2 ok d t (.agg (KV t a7 c7 a8 c8))):=⟨(hb2.block g W1.o.1.lt).trans W1.o.1,am W1.o.2.2.2 (aq hb2),W1.o.2.2.1.bel hb2⟩
   have q4:=(af hb2 W1.o.2.1).c.2.2.2.2.1;have rc_:=G2.o.1.c;have l2:t.l.length<=maxLen:=by
    have hv:=HV.o;match d,hv with
    | d+1,hv=>obtain⟨ks,ls,e,h1,h2,h3,h4,h5⟩:=hv;exact h5.1
   unfold maxLen at l2;clear hb2 hw1;go_wp2_with fail
   go_loopg [30] t.l.length (fun gk i wr=>∃ (k:Nat) (p:Int),k<=t.l.length/\gk=t.l.length - k/\i=.int .i64 k/\eb D (t.l.take k) (r - 1)=(true,p)/\0<=p/\p<=120/\eH wr g p/\w.grownBy wr (some g)/\bu wr ok d t (.agg (KV t a7 c7 a8 c8)))
   case atStart=>exact⟨0,r - 1,Nat.zero_le _,rfl,rfl,rfl,by omega,by omega,G2.o⟩
   case round=>
    obtain⟨k,p,hk,hgk,rfl,hf,hp0,hp1,hrm,hg,hvr⟩:=hrel;have A:Ll (gk=t.l.length - k/\eb D (t.l.take k) (r - 1)=(true,p)/\eH wr g p/\w.grownBy wr (some g)/\bu wr ok d t (.agg (KV t a7 c7 a8 c8))):=⟨hgk,hf,hrm,hg,hvr⟩
    clear hgk hf hrm hg rc_ q4;by_cases hlt:k < t.l.length
    ·match d,hvr with
     | d+1,hvr=>
      obtain⟨ks,ls,e,-,-,-,-,h5⟩:=hvr;simp only[Value.agg.injEq,Array.mk.injEq,List.cons.injEq,and_true]at e;obtain⟨-,-,-,-,rfl⟩:=e;obtain⟨_,h5⟩:=h5;rcases h5 with⟨e,_⟩ | ⟨b,off,c,hls,hc1,hc2,Mb⟩
      ·rw[e]at hlt;simp at hlt
      simp only[Value.slice.injEq]at hls;obtain⟨rfl,-,rfl⟩:=hls;obtain⟨v0,v1,v2,v3,v4,g',g0,g1,g2,g3,g4,g5⟩:=Mb k t.l[k] (Mw hlt);have G5:=aa g5;obtain⟨rfl,rfl,rfl,⟨a5,c5,rfl⟩,⟨a6,c6,rfl⟩⟩:=g5.agg;clear Mb g5;unfold maxLen at hc2;go_wp2_with fail
      refine(IH.o _ ok d t.l[k] _ g p (by exact G5.o.bel (ae _ _)) HOK.o (by exact((World.grownBy_alloc wr _ none).block g A.o.2.2.1.lt (by simp)).trans A.o.2.2.1) hp0 hp1).mono ?_;rintro e w3 ⟨rfl,hr3,hg3⟩;have hst:=xV (Mw hlt) A.o.2.1;have hrm:=ic D t.l[k] p hp0;have gg:wr.grownBy w3 (some g):=am (World.grownBy_alloc wr _ _) hg3;have C:Ll (eb D (t.l.take (k+1)) (r - 1)=bn D t.l[k] p/\eH w3 g (bn D t.l[k] p).2/\wr.grownBy w3 (some g)):=⟨hst,hr3,gg⟩
      clear hst hr3 hg3 gg;cases hb:(bn D t.l[k] p).1 with
      | true=>
       have HB:=aa hb;have HRM:=aa hrm;clear hb hrm;go_wp2_with fail
       go_roundg (t.l.length - (k+1))
       case measure=>rw[A.o.1];omega
       case rel=>
        obtain⟨q1,q2,q3⟩:=HRM.o;refine⟨k+1,(bn D t.l[k] p).2,by omega,rfl,by go_num,by rw[C.o.1,<-HB.o],q3 HB.o,by omega,C.o.2.1,am A.o.2.2.2.1 C.o.2.2,?_⟩;exact A.o.2.2.2.2.grown C.o.2.2 (fun j hj e=>by cases e;exact HOK.o _ hj rfl)
      | false=>
       have HB:=aa hb;clear hb hrm;go_wp2_with fail
       go_ret;have e9:bn D t.l[k] p=(false,(bn D t.l[k] p).2):=by rw[<-HB.o]
       have e8:eb D t.l (r - 1)=bn D t.l[k] p:=by
        have:=C.o.1;rw[e9]at this;rw[e9,vH this]
       rw[F.o,e8,HB.o];exact⟨rfl,C.o.2.1,am A.o.2.2.2.1 C.o.2.2⟩
    ·have Mc:k=t.l.length:=by omega
     clear hvr;go_wp2_with fail
     go_ret;have hf:=A.o.2.1;rw[Mc,List.take_length]at hf;rw[F.o,hf];exact⟨rfl,A.o.2.2.1,A.o.2.2.2.1⟩
theorem FQ(D):D<=12->Az D:=by
 induction D with
 | zero=>intro _;exact Bb
 | succ D ih=>intro h;exact Cx D h (ih (by omega))
theorem mr(w ok d t v)(h:bu w ok d t v):Calls prog 43 #[v] w fun e w'=>e=.returned (.bool (aE t))/\La w w':=by
 obtain⟨a7,a8,c7,c8,rfl⟩:=h.shape;have HV:=aa h;clear h;go_enter func43,ntmps43;go_wp2_with fail
 refine(FQ 12 (by omega) _ (Lj ok w) d t _ (w.heap.size+1) 120 (by exact HV.o.below.bel (ab (ae _ _) (ae _ _))) (by intro k hk;omega) (by exact et w _ _) (by omega) (by omega)).mono ?_;rintro e w2 ⟨rfl,hr2,hg2⟩;go_wp2_with fail
 go_ret;exact⟨rfl,bS (lC (bd (bd (az _ _) _) _) hg2 (by omega))⟩
theorem io{D:Nat}{t:V}{r p:Int}(h:bn D t r=(true,p)):∃ D',D=D'+1/\ce t=true/\0<=r - 1/\eb D' t.l (r - 1)=(true,p):=by
 cases D with
 | zero=>simp[bn]at h
 | succ D=>
  simp only[bn]at h;split at h
  ·cases h
  ·rename_i hc;rw[not_or]at hc;exact⟨D,rfl,by simpa using hc.2,by omega,h⟩
theorem jv{D:Nat}{x:V}{l:List V}{r p:Int}(h:eb D (x :: l) r=(true,p)):∃ q,bn D x r=(true,q)/\eb D l q=(true,p):=by
 unfold eb at h;rw[List.foldl_cons]at h;simp only[if_true]at h;cases hb:(bn D x r).1 with
 | true=>
  have e:bn D x r=(true,(bn D x r).2):=by rw[<-hb]
  rw[e]at h;exact⟨_,e,h⟩
 | false=>
  have e:bn D x r=(false,(bn D x r).2):=by rw[<-hb]
  rw[e,jU]at h;cases h
def fO:Nat->V->Prop
 | 0,_=>False
 | d+1,t=>ce t=true/\∀ x∈t.l,fO d x
theorem yr(D:Nat):∀ (t:V) (r p:Int),bn D t r=(true,p)->fO D t:=by
 induction D with
 | zero=>intro t r p h;simp[bn]at h
 | succ D ih=>
  intro t r p h;obtain⟨D',e,hs,h0,hf⟩:=io h;cases e;refine⟨hs,?_⟩;generalize t.l=l at hf;generalize r - 1=q at hf;induction l generalizing q with
  | nil=>intro x hx;cases hx
  | cons y l ihl=>
   obtain⟨q2,h1,h2⟩:=jv hf;intro x hx;rcases List.mem_cons.1 hx with rfl | hx
   ·exact ih _ _ _ h1
   ·exact ihl q2 h2 x hx
theorem fh{t:V}(h:aE t=true):fO 12 t:=yr 12 t 120 _ (by unfold aE at h;rw[<-h])
def Jd:Nat->V->Prop
 | 0,_=>False
 | d+1,t=>∀ x∈t.l,Jd d x
theorem fO.dep(D:Nat):∀ {t:V},fO D t->Jd D t:=by
 induction D with
 | zero=>intro t h;exact h
 | succ D ih=>intro t h x hx;exact ih (h.2 x hx)
theorem cd(a:List UInt8):Op.bytesLess a a=false:=by
 induction a with
 | nil=>rfl
 | cons c a ih=>simp[Op.bytesLess,ih]
theorem cP:∀ (a b c:List UInt8),Op.bytesLess a b=true->Op.bytesLess b c=true->Op.bytesLess a c=true
 | _,_,[],_,h=>by simp[Op.bytesLess]at h
 | [],_,_ :: _,_,_=>by simp[Op.bytesLess]
 | _ :: _,[],_ :: _,h,_=>by simp[Op.bytesLess]at h
 | x :: a,y :: b,z :: c,h1,h2=>by
  simp only[Op.bytesLess,Bool.or_eq_true,MJ,decide_eq_true_eq,beq_iff_eq]at h1 h2 ⊢;rcases h1 with h1 | ⟨rfl,h1⟩
  ·rcases h2 with h2 | ⟨rfl,h2⟩
   ·exact .inl (by rw[UInt8.lt_iff_toNat_lt]at *;omega)
   ·exact .inl h1
  ·rcases h2 with h2 | ⟨rfl,h2⟩
   ·exact .inl h2
   ·exact .inr ⟨rfl,cP a b c h1 h2⟩
def bD (ks:List (List UInt8)):Prop:=ks.Pairwise fun a b=>Op.bytesLess a b=true
theorem rJ(ks:List (List UInt8)):∀ (p:Option (List UInt8)),el p ks=true->(∀ a∈p,∀ k∈ks,Op.bytesLess a k=true)/\bD ks/\∀ k∈ks,eK k=true:=by
 induction ks with
 | nil=>intro p _;exact⟨fun _ _ _ h=>by (cases h),List.Pairwise.nil,fun _ h=>by cases h⟩
 | cons k ks ih=>
  intro p h;simp only[el,MJ]at h;obtain⟨⟨h1,h2⟩,h3⟩:=h;obtain⟨g1,g2,g3⟩:=ih _ h3;refine⟨?_,List.Pairwise.cons (fun a ha=>g1 k rfl a ha) g2,fun a ha=>?_⟩
  ·intro a ha x hx;simp only[Option.mem_def]at ha;subst ha;rcases List.mem_cons.1 hx with rfl | hx
   ·exact h2
   ·exact cP _ _ _ h2 (g1 k rfl x hx)
  ·rcases List.mem_cons.1 ha with rfl | ha
   ·exact h1
   ·exact g3 a ha
theorem Ix{a b:List UInt8}(h:Op.bytesLess a b=true):a≠b:=by
 rintro rfl;rw[cd]at h;cases h
def eo (k:List UInt8):List (List UInt8 × V)->Option V
 | []=>none
 | p :: ps=>if p.1=k then some p.2 else eo k ps
theorem dU(k:List UInt8)(a b:List (List UInt8 × V)):eo k (a++b)=(eo k a).or (eo k b):=by
 induction a with
 | nil=>rfl
 | cons p a ih=>
  rw[List.cons_append,eo,eo];split
  ·rfl
  ·exact ih
theorem mG{k:List UInt8}{ps:List (List UInt8 × V)}(h:∀ p∈ps,p.1≠k):eo k ps=none:=by
 induction ps with
 | nil=>rfl
 | cons p ps ih=>rw[eo,if_neg (h p (by simp)),ih fun q hq=>h q (by simp[hq])]
theorem uL(k:List UInt8):∀ (ks:List (List UInt8)) (l:List V),ks.length=l.length->((dd k ks).bind fun i=>l[i]?)=eo k (ks.zip l)
 | [],l,_=>rfl
 | a :: ks,[],h=>by simp at h
 | a :: ks,x :: l,h=>by
  rw[dd,List.zip_cons_cons,eo];by_cases e:a=k
  ·rw[if_pos e,if_pos e];rfl
  ·rw[if_neg e,if_neg e,<-uL k ks l (by simpa using h)];cases dd k ks <;> simp
theorem ft{t:V}(h:aK t=true)(k:List UInt8):aS t k=eo k (t.keys.zip t.l):=by
 have hl:t.keys.length=t.l.length:=by
  simp only[aK,MJ,decide_eq_true_eq]at h;exact h.2
 rw[aS,dO,if_pos h,uL k _ _ hl]
theorem mR(ks:List (List UInt8))(l:List V)(i:Nat)(h:ks.length=l.length):ks.zip l=(ks.take i).zip (l.take i)++(ks.drop i).zip (l.drop i):=by
 rw[<-List.zip_append (by simp[h]),List.take_append_drop,List.take_append_drop]
theorem oM(ks:List (List UInt8))(l:List V)(i j:Nat)(k:List UInt8)(x:V)(h:ks.length=l.length):(ks.take i++k :: ks.drop j).zip (l.take i++x :: l.drop j)=(ks.take i).zip (l.take i)++(k,x) :: (ks.drop j).zip (l.drop j):=by
 rw[List.zip_append (by simp[h]),List.zip_cons_cons]
theorem lf{k:List UInt8}{ks:List (List UInt8)}{l:List V}(h:k ∉ ks):eo k (ks.zip l)=none:=
 mG fun p hp e=>h (by rw[<-e];exact(List.of_mem_zip hp).1)
theorem nT{ks:List (List UInt8)}(h:bD ks):ks.Nodup:=List.Pairwise.imp (fun h=>Ix h) h
theorem oU{k:List UInt8}{ks:List (List UInt8)}(h:dd k ks=none):k ∉ ks:=by
 induction ks with
 | nil=>simp
 | cons a ks ih=>
  rw[dd]at h;split at h
  ·cases h
  ·rename_i hne;simp only[Option.map_eq_none_iff]at h;simp only[List.mem_cons,not_or];exact⟨fun e=>hne e.symm,ih h⟩
theorem tZ{ks:List (List UInt8)}{i:Nat}{k:List UInt8}(h:ks[i]?=some k):ks.drop i=k :: ks.drop (i+1):=by
 obtain⟨h1,h2⟩:=Mz.1 h;rw[ME h1,h2]
theorem wU{ks:List (List UInt8)}{i:Nat}{k:List UInt8}(h:ks[i]?=some k):ks=ks.take i++k :: ks.drop (i+1):=by
 rw[<-tZ h,List.take_append_drop]
theorem ku{t:V}(h:aK t=true)(key:List UInt8)(x:V):aK (aG t key x)=true:=by
 have hl:t.keys.length=t.l.length:=by
  simp only[aK,MJ,decide_eq_true_eq]at h;exact h.2
 have hk:t.kind=5:=by
  simp only[aK,MJ,decide_eq_true_eq]at h;exact h.1
 unfold aG;rw[if_pos h];cases hi:dd key t.keys with
 | some i=>
  have:=(iw hi).1;simp only[aK,hk,decide_true,Bool.true_and,decide_eq_true_eq,Mx,MC,My,MB];omega
 | none=>
  simp only[aK,hk,decide_true,Bool.true_and,decide_eq_true_eq,Mx,MC,My,MB];omega
theorem pQ{t:V}(h:aK t=true)(key:List UInt8)(x:V):aS (aG t key x) key=some x:=by
 have hl:t.keys.length=t.l.length:=by
  simp only[aK,MJ,decide_eq_true_eq]at h;exact h.2
 rw[ft (ku h key x)];unfold aG;rw[if_pos h];cases hi:dd key t.keys with
 | some i=>
  obtain⟨h1,h2⟩:=iw hi;simp only;have e:(t.keys.zip (t.l.take i++x :: t.l.drop (i+1)))=(t.keys.take i++key :: t.keys.drop (i+1)).zip (t.l.take i++x :: t.l.drop (i+1)):=by rw[<-wU h2]
  rw[e,oM _ _ _ _ _ _ hl,dU];have:eo key ((t.keys.take i).zip (t.l.take i))=none:=by
   have hm:(dd key (t.keys.take i))=none:=by
    cases hq:dd key (t.keys.take i) with
    | none=>rfl
    | some j=>
     exfalso;obtain⟨g1,g2⟩:=iw hq;have:dd key t.keys=some j:=by
      have e2:∀ (a b:List (List UInt8)) (j:Nat),dd key a=some j->dd key (a++b)=some j:=by
       intro a;induction a with
       | nil=>intro b j h;cases h
       | cons c a ih=>
        intro b j h;rw[dd]at h;rw[List.cons_append,dd];split at h
        ·rename_i hc;rw[if_pos hc];exact h
        ·rename_i hc;rw[if_neg hc];simp only[Option.map_eq_some_iff]at h ⊢;obtain⟨m,hm,rfl⟩:=h;exact⟨m,ih b m hm,rfl⟩
      have:=e2 (t.keys.take i) (t.keys.drop i) j hq;rwa [List.take_append_drop]at this
     rw[hi]at this;cases this;simp at g1;omega
   exact lf (oU hm)
  rw[this,eo,if_pos rfl];rfl
 | none=>
  simp only;rw[oM _ _ _ _ _ _ hl,dU];have hn:=oU hi;rw[lf (fun hm=>hn (List.mem_of_mem_take hm)),eo,if_pos rfl];rfl
theorem mJ{t:V}(h:aK t=true)(key other:List UInt8)(x:V)(hne:other≠key):aS (aG t key x) other=aS t other:=by
 have hl:t.keys.length=t.l.length:=by
  simp only[aK,MJ,decide_eq_true_eq]at h;exact h.2
 rw[ft (ku h key x),ft h];unfold aG;rw[if_pos h];cases hi:dd key t.keys with
 | some i=>
  obtain⟨h1,h2⟩:=iw hi;simp only;have e:(t.keys.zip (t.l.take i++x :: t.l.drop (i+1)))=(t.keys.take i++key :: t.keys.drop (i+1)).zip (t.l.take i++x :: t.l.drop (i+1)):=by rw[<-wU h2]
  rw[e,oM _ _ _ _ _ _ hl,dU,eo,if_neg (fun e=>hne e.symm),mR t.keys t.l i hl,dU];congr 1
  have hli:i < t.l.length:=by omega
  rw[tZ h2,ME hli,List.zip_cons_cons,eo,if_neg (fun e=>hne e.symm)]
 | none=>
  simp only;rw[oM _ _ _ _ _ _ hl,dU,eo,if_neg (fun e=>hne e.symm),mR t.keys t.l (qW key t.keys) hl,dU]
theorem xS(t:V)(key:List UInt8)(x:V):(aG t key x).l.length<=t.l.length+1:=by
 unfold aG;split
 ·cases hi:dd key t.keys with
  | some i=>simp only[Mx,MC,My,MB];omega
  | none=>simp only[Mx,MC,My,MB];omega
 ·omega
variable {y:V}
variable {n i:Nat}
def wZ:Nat->Lz->Option Nat
 | a,[]=>some a
 | a,c :: r=>if 48<=c.toNat/\c.toNat<=57 then wZ (a * 10+(c.toNat - 48)) r else none
def Lw (s:Lz):Option Nat:=
 if s=[]\/4 < s.length\/(s.head?=some 48/\s≠[48]) then none else wZ 0 s
def cX (n:Nat) (s:Lz):Option Nat:=
 if s=[45] then some n else (Lw s).bind fun i=>if i<=n then some i else none
def cg (t:V) (s:Lz):Option V:=if t.kind=4 then (cX t.l.length s).bind fun i=>t.l[i]? else aS t s
def bL (x:V) (t:V) (s:Lz):Option V:=
 if t.kind=5 then some (aG t s x) else if t.kind=4 then (cX t.l.length s).map fun i=>{ t with l:=t.l.take i++x :: t.l.drop i } else none
def aY (x:V) (t:V) (s:Lz):Option V:=
 (cg t s).bind fun _=>if t.kind=5 then some (aG t s x) else (cX t.l.length s).map fun i=>{ t with l:=t.l.take i++x :: t.l.drop (i+1) }
def ch (t:V) (s:Lz):Option V:=
 (cg t s).bind fun _=>if t.kind=5 then some (bH t s) else (cX t.l.length s).map fun i=>{ t with l:=t.l.take i++t.l.drop (i+1) }
def dM (how:V->Lz->Option V):List Lz->V->Option V
 | [],_=>none
 | [s],t=>how t s
 | s :: r :: rs,t=>(cg t s).bind fun y=>(dM how (r :: rs) y).bind fun y'=>aY y' t s
def mh:List Lz->V->Option V
 | [],t=>some t
 | s :: r,t=>(cg t s).bind (mh r)
theorem pV{s}(h:cX n s=some i):i<=n:=by
 unfold cX at h;split at h
 ·cases h;omega
 ·rw[Option.bind_eq_some_iff]at h;obtain⟨j,-,h⟩:=h;split at h
  ·cases h;assumption
  ·cases h
theorem DK{s}(h:cg t s=some y):y∈t.l:=by
 unfold cg at h;split at h
 ·rw[Option.bind_eq_some_iff]at h;obtain⟨i,-,h⟩:=h;exact List.mem_of_getElem? h
 ·unfold aS at h;rw[Option.bind_eq_some_iff]at h;obtain⟨i,-,h⟩:=h;exact List.mem_of_getElem? h
theorem qw{s}(h:cg t s=some y):(t.kind=5/\aK t=true/\aS t s=some y)\/(t.kind=4/\∃ i,cX t.l.length s=some i/\i < t.l.length/\t.l[i]?=some y):=by
 unfold cg at h;split at h
 ·rename_i hk;rw[Option.bind_eq_some_iff]at h;obtain⟨i,h1,h⟩:=h;exact .inr ⟨hk,i,h1,(Mz.1 h).1,h⟩
 ·refine .inl ?_;have h0:=h;unfold aS at h;rw[Option.bind_eq_some_iff]at h;obtain⟨i,h1,h⟩:=h;obtain⟨f1,-⟩:=fW h1;have f2:=f1;simp only[aK,MJ,decide_eq_true_eq]at f2;exact⟨f2.1,f1,h0⟩
theorem Ai(t):(⟨t.kind,t.n,t.s,t.keys,t.l⟩:V)=t:=by cases t;rfl
def qJ:Nat->V->Nat
 | 0,_=>0
 | D+1,t=>1+(t.l.map (qJ D)).sum
theorem zZ(D):∀ (t:V) (r p:Int),0<=r->(bn D t r=(true,p)↔fO D t/\(qJ D t:Int)<=r/\p=r - qJ D t):=by
 induction D with
 | zero=>intro t r p _;simp[bn,fO]
 | succ D ih=>
  have hf:∀ (l:List V) (r p:Int),0<=r->(eb D l r=(true,p)↔(∀ x∈l,fO D x)/\(((l.map (qJ D)).sum:Nat):Int)<=r/\p=r - ((l.map (qJ D)).sum:Nat)):=by
   intro l;induction l with
   | nil=>intro r p h;simp[eb];omega
   | cons y l ihl=>
    intro r p h;constructor
    ·intro hg;obtain⟨q,h1,h2⟩:=jv hg;obtain⟨a1,a2,a3⟩:=(ih y r q h).1 h1;obtain⟨b1,b2,b3⟩:=(ihl q p (by omega)).1 h2;refine⟨?_,?_,?_⟩
     ·intro x hx;rcases List.mem_cons.1 hx with rfl | hx
      ·exact a1
      ·exact b1 x hx
     ·simp only[List.map_cons,List.sum_cons];omega
     ·simp only[List.map_cons,List.sum_cons];omega
    ·rintro⟨h1,h2,h3⟩;simp only[List.map_cons,List.sum_cons]at h2 h3;have e1:=(ih y r (r - qJ D y) h).2 ⟨h1 y (by simp),by omega,rfl⟩;have e2:=(ihl (r - qJ D y) p (by omega)).2 ⟨fun x hx=>h1 x (by simp[hx]),by omega,by omega⟩;unfold eb at e2 ⊢;rw[List.foldl_cons];simp only[if_true];rw[e1];exact e2
  intro t r p h;constructor
  ·intro hg;obtain⟨D',e,hs,h0,hg⟩:=io hg;cases e;obtain⟨b1,b2,b3⟩:=(hf t.l (r - 1) p h0).1 hg;refine⟨⟨hs,b1⟩,?_,?_⟩
   ·simp only[qJ];omega
   ·simp only[qJ];omega
  ·rintro⟨⟨h1,h2⟩,h3,h4⟩;simp only[qJ]at h3 h4;have e:=(hf t.l (r - 1) p (by omega)).2 ⟨h2,by omega,by omega⟩;simp only[bn];rw[if_neg (by rw[h1];simp;omega)];exact e
theorem FU(t):aE t=true↔fO 12 t/\qJ 12 t<=120:=by
 unfold aE;constructor
 ·intro h;obtain⟨a,b,-⟩:=(zZ 12 t 120 _ (by omega)).1 (show bn 12 t 120=(true,(bn 12 t 120).2) by rw[<-h]);exact⟨a,by omega⟩
 ·rintro⟨a,b⟩;have:=(zZ 12 t 120 (120 - qJ 12 t) (by omega)).2 ⟨a,by omega,rfl⟩;rw[this]
theorem GZ{f:V->Nat}{l:List V}(h:x∈l):f x<=(l.map f).sum:=by
 induction l with
 | nil=>cases h
 | cons y l ih=>
  simp only[List.map_cons,List.sum_cons];rcases List.mem_cons.1 h with rfl | h
  ·omega
  ·have:=ih h;omega
theorem JJ(D t)(h:fO (D+1) t):t.l.length<=qJ (D+1) t:=by
 simp only[qJ];obtain⟨-,h⟩:=h;generalize t.l=l at h;induction l with
 | nil=>simp
 | cons y l ih=>
  have h1:=ih fun x hx=>h x (by simp[hx]);simp only[List.map_cons,List.sum_cons,My];have:1<=qJ D y:=by
   have:=h y (by simp);cases D with
   | zero=>exact this.elim
   | succ D=>simp only[qJ];omega
  omega
def dz (t:V):Prop:=∃ D,fO D t/\qJ D t<=120
theorem dQ(h:aE t=true):dz t:=⟨12,(FU t).1 h⟩
theorem hU(h:dz t):t.l.length<=120:=by
 obtain⟨D,h1,h2⟩:=h;cases D with
 | zero=>exact h1.elim
 | succ D=>have:=JJ D t h1;omega
theorem fp(h:dz t):ce t=true:=by
 obtain⟨D,h1,h2⟩:=h;cases D with
 | zero=>exact h1.elim
 | succ D=>exact h1.1
theorem gC(h:dz t)(hx:x∈t.l):dz x:=by
 obtain⟨D,h1,h2⟩:=h;cases D with
 | zero=>exact h1.elim
 | succ D=>
  refine⟨D,h1.2 x hx,?_⟩;have:=GZ (f:=qJ D) hx;simp only[qJ]at h2;omega
theorem lu{s}(h:dz t)(hm:cg t s=some y):dz y:=gC h (DK hm)
theorem gu(hs:ce t=true)(hk:t.kind=5):aK t=true/\el none t.keys=true/\t.n=0/\t.s=[]:=by
 unfold ce at hs;rw[hk]at hs;simp only[Int.reduceEq,if_false,if_true,MJ,decide_eq_true_eq]at hs;obtain⟨⟨⟨a1,a2⟩,a3⟩,a4⟩:=hs;exact⟨by simp[aK,hk,a3],a4,a1,a2⟩
theorem vq(h:dz t)(hk:t.kind=5):aK t=true:=(gu (fp h) hk).1
theorem Hh{α:Type}(l:List α)(i):(l.take i++l.drop (i+1)).Sublist l:=by
 have:l=l.take i++l.drop i:=(List.take_append_drop i l).symm;conv=>rhs;rw[this]
 exact List.Sublist.append (List.Sublist.refl _) (by
  rw[<-List.drop_drop];exact List.drop_sublist _ _)
def aM:V:=⟨0,0,[],[],[]⟩
def fP (sp:List Lz × Int) (v:V):V × Int:=
 if sp.2≠0 then (aM,sp.2) else if aE v=false then (aM,1) else match mh sp.1 v with | some y=>(y,0) | none=>(aM,3)
def aX (how:V->Lz->Option V) (sp:List Lz × Int) (v:V):V × Int:=
 if sp.2≠0 then (v,sp.2) else if sp.1=[]\/aE v=false then (v,1) else match dM how sp.1 v with | none=>(v,3) | some w=>if aE w then (w,0) else (v,2)
def ep (how:V->V->Lz->Option V) (p:Lz) (sp:List Lz × Int) (v x:V):V × Int:=
 if aE x=false then (v,1) else if p=[]/\aE v=true then (x,0) else aX (how x) sp v
theorem Jp{sp:List Lz × Int}{v}(h0:sp.2=0)(hg:aE v=true)(hy:mh sp.1 v=some y):fP sp v=(y,0):=by
 unfold fP;rw[if_neg (by simp[h0]),if_neg (by simp[hg]),hy]
theorem uu{sp:List Lz × Int}{v}(h:fP sp v=(y,0)):aE v=true/\sp.2=0/\mh sp.1 v=some y:=by
 unfold fP at h;split at h
 ·rename_i h0;simp only[Prod.mk.injEq]at h;exact absurd h.2 h0
 ·rename_i h0;split at h
  ·simp at h
  ·rename_i h1;split at h
   ·rename_i z hz;simp only[Prod.mk.injEq,and_true]at h;subst h;exact⟨by simpa using h1,by simpa using h0,hz⟩
   ·simp at h
variable {wr:World}
variable {ok':Nat->Prop}
variable {c:Nat}
def ru (w wr:LC) (ok ok':Nat->Prop) (d:Nat) (a b:V) (k n:Int) (s:Lz) (nk nl:Nat) (a1 a2 b1 b2:Option Addr) (c1 c2 d1 d2:Nat):Prop:=
 ag wr w.heap.size (.int .i64 k) (.int .i64 n) (.string ⟨s.toArray⟩) (.slice a1 nk c1) (.slice a2 nl c2) /\
 ag wr (w.heap.size+1) (.int .i64 k) (.int .i64 n) (.string ⟨s.toArray⟩) (.slice b1 nk d1) (.slice b2 nl d2) /\
 bu wr ok d a (.agg #[.int .i64 k,.int .i64 n,.string ⟨s.toArray⟩,.slice a1 nk c1,.slice a2 nl c2]) /\
 bu wr ok' d b (.agg #[.int .i64 k,.int .i64 n,.string ⟨s.toArray⟩,.slice b1 nk d1,.slice b2 nl d2])/\La w wr
theorem ru.below{a b k n s nk nl a1 a2 b1 b2 c1 c2 d1 d2}(h:ru w wr ok ok' d a b k n s nk nl a1 a2 b1 b2 c1 c2 d1 d2)(hb:La wr w'):ru w w' ok ok' d a b k n s nk nl a1 a2 b1 b2 c1 c2 d1 d2:=
 ⟨af hb h.1,af hb h.2.1,h.2.2.1.bel hb,h.2.2.2.1.bel hb,ab h.2.2.2.2 hb⟩
theorem ru.drewN{a b k n s nk nl a1 a2 b1 b2 c1 c2 d1 d2}(h:ru w wr ok ok' d a b k n s nk nl a1 a2 b1 b2 c1 c2 d1 d2)(m):ru w (wr.drewN m) ok ok' d a b k n s nk nl a1 a2 b1 b2 c1 c2 d1 d2:=
 h.below ⟨rfl,rfl,rfl,MG _,fun _ _=>rfl⟩
theorem gQ{xs a}(h:ao w ok xs (.slice a n c))(hk:k < xs.length):∃ b off,a=some ⟨b,off,none⟩/\xs.length<=c/\c<=maxLen/\w.cell? ⟨b,off+k,none⟩=some (.string ⟨xs[k].toArray⟩):=by
 rcases h.2 with⟨e,_⟩ | ⟨b,off,c',e,h1,h2,Mb⟩
 ·rw[e]at hk;simp at hk
 ·simp only[Value.slice.injEq]at e;obtain⟨rfl,-,rfl⟩:=e;exact⟨b,off,rfl,h1,h2,(Mb k xs[k] (Mw hk)).2.2⟩
theorem D2{R:V->Value->Prop}{xs}(h:cS w ok R xs v)(hx:x∈xs):∃ y,R x y:=by
 rcases h.2 with⟨e,_⟩ | ⟨b,off,c,e,h1,h2,h3⟩
 ·rw[e]at hx;cases hx
 ·obtain⟨i,hi⟩:=List.getElem?_of_mem hx;obtain⟨v0,v1,v2,v3,v4,-,-,-,-,-,-,g⟩:=h3 i x hi;exact⟨_,g⟩
theorem yR(a b:Lz):ByteArray.mk a.toArray++ByteArray.mk b.toArray=ByteArray.mk (a++b).toArray:=by
 apply ByteArray.ext;simp
variable {B:Nat}
def In (w:LC) (ok:Nat->Prop) (t:V) (v:Value):Prop:=∃ d,bu w ok d t v
theorem bu.is(h:bu w ok d t v):In w ok t v:=⟨d,h⟩
theorem In.bel(h:In w ok t v)(hb:La w w'):In w' ok t v:=by
 obtain⟨d,h⟩:=h;exact⟨d,h.bel hb⟩
theorem In.weak(h:In w ok t v)(hk:∀ k,ok k->ok' k):In w ok' t v:=by
 obtain⟨d,h⟩:=h;exact⟨d,h.weak hk⟩
theorem In.grown(h:In w ok t v)(hg:w.grownBy w' (some g))(hr:∀ k,ok k->k≠g):In w' ok t v:=by
 obtain⟨d,h⟩:=h;exact⟨d,h.grown hg fun k hk e=>hr k hk (by cases e;rfl)⟩
theorem In.at(h:In w ok t v):∃ d,bu w ok (d+1) t v:=by
 obtain⟨d,h⟩:=h;exact⟨d,h.succ⟩
theorem In.two{xv}(h:In w ok t v)(hx:In w ok x xv):∃ d,bu w ok (d+1) t v/\bu w ok d x xv:=by
 obtain⟨d,h⟩:=h;obtain⟨d',h'⟩:=hx;exact⟨d+d',bu.le (by omega) h,bu.le (by omega) h'⟩
theorem In.form(h:In w ok t v):∃ (a7 a8:Option Addr) (c7 c8:Nat),v=.agg (KV t a7 c7 a8 c8):=by
 obtain⟨d,h⟩:=h;exact h.shape
theorem In.lens(h:In w ok t v):t.keys.length<=9223372036854775807/\t.l.length<=9223372036854775807/\t.s.length<=9223372036854775807:=by
 obtain⟨d,h⟩:=h.at;obtain⟨ks,ls,-,-,-,h3,h4,h5⟩:=h;exact⟨h4.1,h5.1,h3⟩
def bg (ok:Nat->Prop) (B C:Nat):Nat->Prop:=bQ (fun k=>ok k/\k < B) C
theorem In.low(h:In w ok t v):In w (Lj ok w) t v:=by
 obtain⟨d,h⟩:=h;exact⟨d,h.below⟩
theorem jB{C}(h1:B<=g)(h2:g < C):∀ k,bg ok B C k->k≠g:=by
 intro k hk e;rcases hk with hk | hk <;> omega
theorem ik{C}(h:B<=C):∀ k,bg ok B C k->bQ ok B k:=by
 intro k hk;rcases hk with hk | hk
 ·exact .inl hk.1
 ·exact .inr (by omega)
theorem aO{C}:∀ k,(ok k/\k < B)->bg ok B C k:=fun _ h=>.inl h
theorem oH:∀ k,(ok k/\k < B)->bQ ok B k:=fun _ h=>.inl h.1
theorem In.box{C}(h:In w (bg ok B C) t v)(h1:B<=g)(h2:g < C)(d0 d1 d2 d3 d4):In (ar w g d0 d1 d2 d3 d4) (bg ok B C) t v:=
 h.grown (aI w g _ _ _ _ _) (jB h1 h2)
theorem aP{w1}(h:La w w1)(hg:w.heap.size<=g)(d0 d1 d2 d3 d4):La w (ar w1 g d0 d1 d2 d3 d4):=bS (eD (aq h) hg _ _ _ _ _)
theorem In.item{k n s ks a m}(h:In w ok t (.agg #[k,n,s,ks,.slice a m c]))(hi:i < t.l.length):∃ b off a5 c5 a6 c6,a=some ⟨b,off,none⟩/\t.l.length<=c/\c<=9223372036854775807/\w.cell? ⟨b,off+i * 5,none⟩=some (.int .i64 t.l[i].kind)/\w.cell? ⟨b,off+i * 5+1,none⟩=some (.int .i64 t.l[i].n)/\w.cell? ⟨b,off+i * 5+2,none⟩=some (.string ⟨t.l[i].s.toArray⟩) /\
 w.cell? ⟨b,off+i * 5+3,none⟩=some (.slice a5 t.l[i].keys.length c5)/\w.cell? ⟨b,off+i * 5+4,none⟩=some (.slice a6 t.l[i].l.length c6)/\In w ok t.l[i] (.agg #[.int .i64 t.l[i].kind,.int .i64 t.l[i].n,.string ⟨t.l[i].s.toArray⟩,.slice a5 t.l[i].keys.length c5,.slice a6 t.l[i].l.length c6]):=by
 obtain⟨d,h⟩:=h.at;obtain⟨ks',ls,e,-,-,-,-,h5⟩:=h;simp only[Value.agg.injEq,Array.mk.injEq,List.cons.injEq,and_true]at e;obtain⟨-,-,-,-,rfl⟩:=e;obtain⟨-,h5⟩:=h5;rcases h5 with⟨e,_⟩ | ⟨b,off,c',e,h1,h2,Mb⟩
 ·rw[e]at hi;simp at hi
 ·simp only[Value.slice.injEq]at e;obtain⟨rfl,-,rfl⟩:=e;obtain⟨v0,v1,v2,v3,v4,-,g0,g1,g2,g3,g4,g5⟩:=Mb i t.l[i] (Mw hi);obtain⟨rfl,rfl,rfl,⟨a5,c5,rfl⟩,⟨a6,c6,rfl⟩⟩:=g5.agg;exact⟨b,off,a5,c5,a6,c6,rfl,h1,h2,g0,g1,g2,g3,g4,g5.is⟩
def cZ (w:LC) (ok:Nat->Prop) (m:Option V) (x:Value) (b:Bool):Prop:=b=m.isSome/\∃ y,In w ok y x/\∀ z,m=some z->y=z
theorem cZ.some{x}(h:In w ok y x):cZ w ok (some y) x true:=⟨rfl,y,h,fun z e=>by cases e;rfl⟩
theorem cZ.none{x}(h:In w ok y x):cZ w ok none x false:=⟨rfl,y,h,fun z e=>by cases e⟩
theorem fG(w ok):In w ok aM (.agg Lb):=⟨1,_,_,rfl,by unfold dW;simp[aM],by unfold dW;simp[aM],by simp[aM,maxLen],⟨by simp[aM,maxLen],.inl ⟨rfl,none,rfl⟩⟩,⟨by simp[aM,maxLen],.inl ⟨rfl,none,rfl⟩⟩⟩
theorem bG(w ok t v)(h:In w ok t v):Calls prog 43 #[v] w fun e w'=>e=.returned (.bool (aE t))/\La w w':=by
 obtain⟨d,h⟩:=h;exact mr w ok d t v h
theorem co(w ok t v key)(h:In w ok t v):Calls prog 44 #[v,aR key] w fun e w'=>∃ x b,e=.returned (.tuple #[x,.bool b])/\La w w'/\cZ w' ok (aS t key) x b:=by
 obtain⟨d,h⟩:=h;refine(ny w ok d t v key h).mono ?_;rintro e w' ⟨x,b,rfl,hb,hm⟩;refine⟨x,b,rfl,hb,?_⟩;cases hq:aS t key with
 | none=>rw[hq]at hm;rw[hm.1,hm.2];exact cZ.none (fG w' ok)
 | some y=>rw[hq]at hm;rw[hm.1];exact cZ.some hm.2.is
theorem Ac(w ok k n)(hk:dW k)(hn:dW n):In w ok ⟨k,n,[],[],[]⟩ (.agg #[.int .i64 k,.int .i64 n,.string ⟨#[]⟩,.slice none 0 0,.slice none 0 0]):=⟨1,_,_,rfl,hk,hn,by simp[maxLen],⟨by simp[maxLen],.inl ⟨rfl,none,rfl⟩⟩,⟨by simp[maxLen],.inl ⟨rfl,none,rfl⟩⟩⟩
theorem In.key{k n s ls a m}(h:In w ok t (.agg #[k,n,s,.slice a m c,ls]))(hi:i < t.keys.length):∃ b off,a=some ⟨b,off,none⟩/\t.keys.length<=c/\c<=9223372036854775807/\w.cell? ⟨b,off+i,none⟩=some (.string ⟨t.keys[i].toArray⟩)/\t.keys[i].length<=9223372036854775807:=by
 obtain⟨d,h⟩:=h.at;obtain⟨ks',ls',e,-,-,-,h4,-⟩:=h;simp only[Value.agg.injEq,Array.mk.injEq,List.cons.injEq,and_true]at e;obtain⟨-,-,-,rfl,-⟩:=e;obtain⟨-,h4⟩:=h4;rcases h4 with⟨e,_⟩ | ⟨b,off,c',e,h1,h2,Mb⟩
 ·rw[e]at hi;simp at hi
 ·simp only[Value.slice.injEq]at e;obtain⟨rfl,-,rfl⟩:=e;obtain⟨g1,-,g3⟩:=Mb i t.keys[i] (Mw hi);exact⟨b,off,rfl,h1,h2,g3,g1⟩
theorem ig(w ok t v key)(h:In w ok t v):Calls prog 44 #[v,aR key] w fun e w'=>∃ x,e=.returned (.tuple #[x,.bool (aS t key).isSome])/\La w w'/\In w' ok ((aS t key).getD aM) x:=by
 obtain⟨d,h⟩:=h;refine(ny w ok d t v key h).mono ?_;rintro e w' ⟨x,b,rfl,hb,hm⟩;cases hq:aS t key with
 | none=>rw[hq]at hm;rw[hm.1,hm.2];exact⟨_,rfl,hb,fG w' ok⟩
 | some y=>rw[hq]at hm;rw[hm.1];exact⟨_,rfl,hb,hm.2.is⟩
def ow (o:Option Nat):Value:=.tuple #[.int .i64 (o.getD 0:Nat),.bool o.isSome]
theorem Dd{s:Lz}{m:Nat}(h:k < s.length):wZ m (s.drop k)=if 48<=s[k].toNat/\s[k].toNat<=57 then wZ (m * 10+(s[k].toNat - 48)) (s.drop (k+1)) else none:=by
 rw[ME h,wZ]
theorem mX(w s)(hs:s.length<=9223372036854775807):Calls prog 249 #[aR s] w fun e w'=>e=.returned (ow (Lw s))/\w'=w:=by
 unfold aR;have hF:∀ w':LC,w'=w->Lw s=none->(Ending.returned (.tuple #[.int .i64 0,.bool false])=Ending.returned (ow (Lw s))/\w'=w):=by
  intro w' h1 h2;rw[h2];exact⟨rfl,h1⟩
 have HF:=aa hF;clear hF;cases s with
 | nil=>
  have HP:Ll (Lw []=none):=aa rfl;have hne:(ByteArray.mk ([]:Lz).toArray == ByteArray.mk #[])=true:=zN (by simp);go_enter func249,ntmps249;go_wp2_with fail
  refine MM (v:=.tuple #[.int .i64 0,.bool false]) (by simp[results,results249,go_sem] <;> rfl) rfl ?_;exact HF.o _ rfl HP.o
 | cons c r=>
  have hne:(ByteArray.mk (c :: r).toArray == ByteArray.mk #[])=false:=Aq (by simp);have L9:0 < (ByteArray.mk (c :: r).toArray).size:=by rw[eS];simp
  have hget:(ByteArray.mk (c :: r).toArray)[0]=c:=rfl;have hbyte:(c.toNat:Int) < 256:=by have:=c.toNat_lt;omega
  by_cases h4:4 < r.length+1
  ·have h4':4 < (r.length:Int)+1:=by omega
   have HP:Ll (Lw (c :: r)=none):=aa (by unfold Lw;rw[if_pos (.inr (.inl h4))]);go_enter func249,ntmps249;go_wp2_with fail
   refine MM (v:=.tuple #[.int .i64 0,.bool false]) (by simp[results,results249,go_sem] <;> rfl) rfl ?_;exact HF.o _ rfl HP.o
  ·have h4':¬(4 < (r.length:Int)+1):=by omega
   by_cases hb:c=48/\r≠[]
   ·have HP:Ll (Lw (c :: r)=none):=aa (by unfold Lw;rw[if_pos (.inr (.inr ⟨by rw[hb.1];rfl,by intro e;simp only[List.cons.injEq]at e;exact hb.2 e.2⟩))]);have q1:((c.toNat:Int) == 48)=true:=by rw[hb.1];rfl
    have q2:(c == 48)=true:=by rw[beq_iff_eq];exact hb.1
    have q3:r.isEmpty=false:=by cases r with | nil=>exact absurd rfl hb.2 | cons _ _=>rfl
    clear hb;go_enter func249,ntmps249;go_wp2_with fail
    refine MM (v:=.tuple #[.int .i64 0,.bool false]) (by simp[results,results249,go_sem] <;> rfl) rfl ?_;exact HF.o _ rfl HP.o
   ·have HP:Ll (Lw (c :: r)=wZ 0 (c :: r)):=aa (by
     unfold Lw;rw[if_neg];rintro (h | h | ⟨h1,h2⟩)
     ·cases h
     ·exact h4 h
     ·simp only[List.head?_cons,Option.some.injEq]at h1;exact hb ⟨h1,fun e=>h2 (by rw[h1,e])⟩)
    have hq:((c.toNat:Int) == 48)=false\/((c.toNat:Int) == 48)=true/\(c == 48)=true/\r.isEmpty=true:=by
     by_cases hc:c=48
     ·have hr:r=[]:=Decidable.byContradiction fun h=>hb ⟨hc,h⟩;exact .inr ⟨by rw[hc];rfl,by rw[hc];rfl,by rw[hr];rfl⟩
     ·refine .inl ?_;rw[MO];intro e;exact hc (UInt8.toNat_inj.1 (by show c.toNat=48;omega))
    clear hb;have hl4:(c :: r).length<=4:=by simp only[My];omega
    rcases hq with q1 | ⟨q1,q2,q3⟩
    all_goals
     go_enter func249,ntmps249;go_wp2_with fail
     go_loop [4,5] (fun n i=>∃ k m:Nat,k<=(c :: r).length/\i=.int .i64 k/\n=.int .i64 m/\wZ 0 (c :: r)=wZ m ((c :: r).drop k)/\m+1<=10 ^ k) (fun _ i=>(c :: r).length - (intOf i).toNat)
     case atStart=>exact⟨0,0,Nat.zero_le _,rfl,rfl,rfl,by simp⟩
     case round=>
      obtain⟨k,m,hk,rfl,rfl,hrec,hm⟩:=hrel;have HR:=aa hrec;clear hrec;have hp4:10 ^ k<=10 ^ 4:=Nat.pow_le_pow_right (by omega) (by omega);have HM:=aa hm;have hm4:m<=9999:=by simp only[Nat.reducePow]at hp4;omega
      clear hm hp4;by_cases hlt:k < (c :: r).length
      ·have hlt':(k:Int) < (r.length:Int)+1:=by simp only[My]at hlt;omega
       have hb:((c :: r)[k].toNat:Int) < 256:=by have:=(c :: r)[k].toNat_lt;omega
       have hszk:k < (ByteArray.mk (c :: r).toArray).size:=by rw[eS];exact hlt
       have hgetk:(ByteArray.mk (c :: r).toArray)[k]=(c :: r)[k]:=rfl;have ND:=aa (Dd (m:=m) hlt);by_cases hlo:(c :: r)[k].toNat < 48
       ·have e1:((c :: r)[k].toNat:Int) < 48:=by omega
        go_wp2_with fail
        refine MM (v:=.tuple #[.int .i64 0,.bool false]) (by simp[results,results249,go_sem] <;> rfl) rfl ?_;exact HF.o _ rfl (by rw[HP.o,HR.o,ND.o,if_neg (by omega)])
       ·have e1:¬(((c :: r)[k].toNat:Int) < 48):=by omega
        by_cases hhi:57 < (c :: r)[k].toNat
        ·have e2:57 < ((c :: r)[k].toNat:Int):=by omega
         go_wp2_with fail
         refine MM (v:=.tuple #[.int .i64 0,.bool false]) (by simp[results,results249,go_sem] <;> rfl) rfl ?_;exact HF.o _ rfl (by rw[HP.o,HR.o,ND.o,if_neg (by omega)])
        ·have e2:¬(57 < ((c :: r)[k].toNat:Int)):=by omega
         have hw1:IntKind.u8.wrap (((c :: r)[k].toNat:Int) - 48)=((c :: r)[k].toNat:Int) - 48:=by rw[IntKind.wrap_u8];omega
         go_wp2_with fail
         go_round
         case rel=>
          refine⟨k+1,m * 10+((c :: r)[k].toNat - 48),hlt,by go_num,?_,by rw[HR.o,ND.o,if_pos (by omega)],?_⟩
          ·go_num
          ·have:=HM.o;rw[Nat.pow_succ];omega
         case measure=>simp[intOf];omega
      ·have Mc:k=(c :: r).length:=by omega
       have hlt':¬((k:Int) < (r.length:Int)+1):=by simp only[My]at hlt;omega
       have HKE:=aa Mc;clear hlt Mc;go_wp2_with fail
       refine MM (v:=.tuple #[.int .i64 m,.bool true]) (by simp[results,results249,go_sem] <;> rfl) rfl ?_;rw[HP.o,HR.o,HKE.o,List.drop_length];exact⟨rfl,rfl⟩
theorem jb(w a n c s)(hn:n<=9223372036854775807)(hs:s.length<=9223372036854775807):Calls prog 233 #[.slice a n c,aR s] w fun e w'=>e=.returned (ow (cX n s))/\w'=w:=by
 by_cases h:s=[45]
 ·have hb:(s == [45])=true:=by rw[beq_iff_eq];exact h
  have HP:Ll (cX n s=some n):=aa (by unfold cX;rw[if_pos h]);clear h;unfold aR;go_enter func233,ntmps233;go_wp2_with fail
  refine MM (v:=.tuple #[.int .i64 n,.bool true]) (by simp[results,results233,go_sem] <;> rfl) rfl ?_;rw[HP.o];exact⟨rfl,rfl⟩
 ·have hb:(s == [45])=false:=by rw[MO];exact h
  cases hq:Lw s with
  | none=>
   have HP:Ll (cX n s=none):=aa (by unfold cX;rw[if_neg h,hq];rfl);have HQ:=aa hq;clear h hq;unfold aR;go_enter func233,ntmps233;go_wp2_with fail
   refine(mX _ s hs).mono ?_;rintro e w1 ⟨rfl,hw⟩;rw[hw,HQ.o];unfold ow;clear hw;go_wp2_with fail
   refine MM (v:=.tuple #[.int .i64 0,.bool false]) (by simp[results,results233,go_sem] <;> rfl) rfl ?_;rw[HP.o];exact⟨rfl,rfl⟩
  | some i=>
   have HQ:=aa hq;by_cases hi:i<=n
   ·have HP:Ll (cX n s=some i):=aa (by unfold cX;rw[if_neg h,hq,Option.bind_some,if_pos hi]);have e1:¬((n:Int) < (i:Int)):=by omega
    clear h hq;unfold aR;go_enter func233,ntmps233;go_wp2_with fail
    refine(mX _ s hs).mono ?_;rintro e w1 ⟨rfl,hw⟩;rw[hw,HQ.o];unfold ow;clear hw;go_wp2_with fail
    refine MM (v:=.tuple #[.int .i64 i,.bool true]) (by simp[results,results233,go_sem] <;> rfl) rfl ?_;rw[HP.o];exact⟨rfl,rfl⟩
   ·have HP:Ll (cX n s=none):=aa (by unfold cX;rw[if_neg h,hq,Option.bind_some,if_neg hi]);have e1:(n:Int) < (i:Int):=by omega
    clear h hq;unfold aR;go_enter func233,ntmps233;go_wp2_with fail
    refine(mX _ s hs).mono ?_;rintro e w1 ⟨rfl,hw⟩;rw[hw,HQ.o];unfold ow;clear hw;go_wp2_with fail
    refine MM (v:=.tuple #[.int .i64 0,.bool false]) (by simp[results,results233,go_sem] <;> rfl) rfl ?_;rw[HP.o];exact⟨rfl,rfl⟩
theorem Dc(p q):(Lib.hasPrefix q p&&Lib.hasPrefix (Lib.trimPrefix q p) [47])=(p++[47]).isPrefixOf q:=by
 unfold Lib.trimPrefix Lib.hasPrefix;by_cases h:p.isPrefixOf q=true
 ·obtain⟨r,rfl⟩:=List.isPrefixOf_iff_prefix.1 h;rw[h,if_pos rfl,List.drop_left,Bool.true_and];rw[Bool.eq_iff_iff,List.isPrefixOf_iff_prefix,List.isPrefixOf_iff_prefix,List.prefix_append_right_inj]
 ·have h2:p.isPrefixOf q=false:=Bool.eq_false_iff.2 h;have h3:(p++[47]).isPrefixOf q=false:=by
   rw[Bool.eq_false_iff];intro h9;obtain⟨r,rfl⟩:=List.isPrefixOf_iff_prefix.1 h9;exact h (List.isPrefixOf_iff_prefix.2 ⟨[47]++r,by simp⟩)
  rw[h2,h3];rfl
theorem FL(w:LC)(p q):Calls prog 128 #[aR p,aR q] w fun e w'=>e=.returned (.bool ((p++[47]).isPrefixOf q))/\w'=w:=by
 have CA:=aa (Dc p q);unfold aR;have hpx:=Tryz.strings_CutPrefix ⟨q.toArray⟩ ⟨p.toArray⟩ w;simp only[List.toList_toArray]at hpx;go_enter func128,ntmps128;go_wp2_with fail
 refine hpx.mono ?_;rintro e w1 ⟨rfl,hw1⟩;have hw2:=hw1.symm;subst hw2;clear hpx hw1;cases hb:Lib.hasPrefix q p with
 | false=>
  have R:Ll ((p++[47]).isPrefixOf q=false):=aa (by rw[<-CA.o,hb];rfl);clear hb;go_wp2_with fail
  go_ret;exact⟨by rw[R.o];first | done | rfl,rfl⟩
 | true=>
  have R:Ll ((p++[47]).isPrefixOf q=Lib.hasPrefix (Lib.trimPrefix q p) [47]):=aa (by rw[<-CA.o,hb];rfl);clear hb;have hpy:=Tryz.strings_HasPrefix ⟨(Lib.trimPrefix q p).toArray⟩ ⟨#[47]⟩ w;simp only[List.toList_toArray]at hpy;go_wp2_with fail
  refine hpy.mono ?_;rintro e w2 ⟨rfl,hw3⟩;have hw4:=hw3.symm;subst hw4;clear hpy hw3;go_wp2_with fail
  go_ret;exact⟨by rw[R.o];first | done | rfl,rfl⟩
def Ob (t:V):Prop:=t.kind=5/\t.n=0/\t.s=[]/\t.keys.length=t.l.length/\bD t.keys
theorem Ob.paired(h:Ob t):aK t=true:=by simp[aK,h.1,h.2.2.2.1]
def jM:V:=⟨5,0,[],[],[]⟩
theorem AA:Ob jM:=⟨rfl,rfl,rfl,rfl,List.Pairwise.nil⟩
theorem Jb(hs:ce t=true)(hk:t.kind=5):Ob t:=by
 obtain⟨h1,h2,h3,h4⟩:=gu hs hk;simp only[aK,MJ,decide_eq_true_eq]at h1;exact⟨hk,h3,h4,h1.2,(rJ _ _ h2).2.1⟩
theorem vd{k}{ps:List (Lz × V)}(h:eo k ps=some x):(k,x)∈ps:=by
 induction ps with
 | nil=>cases h
 | cons p ps ih=>
  rw[eo]at h;split at h
  ·rename_i e;cases h;rw[<-e];simp
  ·simp[ih h]
theorem wH:∀ (a b:List (Lz × V)),(a.map Prod.fst).Pairwise (fun x y=>Op.bytesLess x y=true)->(b.map Prod.fst).Pairwise (fun x y=>Op.bytesLess x y=true)->(∀ k,eo k a=eo k b)->a=b
 | [],[],_,_,_=>rfl
 | [],q :: b,_,_,h=>by have:=h q.1;simp[eo]at this
 | p :: a,[],_,_,h=>by have:=h p.1;simp[eo]at this
 | p :: a,q :: b,ha,hb,h=>by
  rw[List.map_cons,List.pairwise_cons]at ha hb;have less:∀ x y:Lz,Op.bytesLess x y=true->Op.bytesLess y x=true->False:=fun x y h1 h2=>by
   have:=cP x y x h1 h2;rw[cd]at this;cases this
  have hk:p.1=q.1:=by
   have h1:=h p.1;have h2:=h q.1;rw[eo,if_pos rfl,eo]at h1;rw[eo]at h2;split at h1
   ·rename_i e;exact e.symm
   ·rename_i e;have m1:=vd h1.symm;have l1:=hb.1 p.1 (List.mem_map.2 ⟨_,m1,rfl⟩);rw[if_neg (fun e'=>e e'.symm),eo,if_pos rfl]at h2;have m2:=vd h2;have l2:=ha.1 q.1 (List.mem_map.2 ⟨_,m2,rfl⟩);exact(less _ _ l1 l2).elim
  have hv:p.2=q.2:=by
   have h1:=h p.1;rw[eo,if_pos rfl,eo,if_pos hk.symm]at h1;exact Option.some.inj h1
  have hp:p=q:=Prod.ext hk hv;subst hp;congr 1
  refine wH a b ha.2 hb.2 fun k=>?_;have h1:=h k;rw[eo,eo]at h1;by_cases e:p.1=k
  ·have n1:eo k a=none:=mG fun r hr e'=>by
    have:=ha.1 r.1 (List.mem_map.2 ⟨r,hr,rfl⟩);rw[e,<-e',cd]at this;cases this
   have n2:eo k b=none:=mG fun r hr e'=>by
    have:=hb.1 r.1 (List.mem_map.2 ⟨r,hr,rfl⟩);rw[e,<-e',cd]at this;cases this
   rw[n1,n2]
  ·rwa [if_neg e,if_neg e]at h1
theorem G8{a b:List Lz}{c d:List V}(h1:a.length=c.length)(h2:b.length=d.length)(h:a.zip c=b.zip d):a=b/\c=d:=by
 have e1:=congrArg (List.map Prod.fst) h;have e2:=congrArg (List.map Prod.snd) h;rw[List.map_fst_zip (by omega),List.map_fst_zip (by omega)]at e1;rw[List.map_snd_zip (by omega),List.map_snd_zip (by omega)]at e2;exact⟨e1,e2⟩
theorem JO{u}(ht:Ob t)(hu:Ob u)(h:∀ k,aS t k=aS u k):t=u:=by
 have hz:t.keys.zip t.l=u.keys.zip u.l:=wH _ _
  (by rw[List.map_fst_zip (by have:=ht.2.2.2.1;omega)];exact ht.2.2.2.2)
  (by rw[List.map_fst_zip (by have:=hu.2.2.2.1;omega)];exact hu.2.2.2.2)
  fun k=>by rw[<-ft ht.paired,<-ft hu.paired];exact h k
 obtain⟨e1,e2⟩:=G8 ht.2.2.2.1 hu.2.2.2.1 hz;rw[<-Ai t,<-Ai u,ht.1,hu.1,ht.2.1,hu.2.1,ht.2.2.1,hu.2.2.1,e1,e2]
theorem hJ:∀ (a b:Lz),Op.bytesLess a b=false->a≠b->Op.bytesLess b a=true
 | [],[],_,h=>absurd rfl h
 | [],_ :: _,h,_=>by simp[Op.bytesLess]at h
 | _ :: _,[],_,_=>by simp[Op.bytesLess]
 | x :: a,y :: b,h,hne=>by
  simp only[Op.bytesLess,Bool.or_eq_false_iff,decide_eq_false_iff_not,Bool.and_eq_false_iff]at h;simp only[Op.bytesLess,Bool.or_eq_true,MJ,decide_eq_true_eq,beq_iff_eq];by_cases e:x=y
  ·subst e;refine .inr ⟨rfl,hJ a b ?_ (fun e=>hne (by rw[e]))⟩;rcases h.2 with h2 | h2
   ·simp at h2
   ·exact h2
  ·left;have h1:=h.1;rw[UInt8.lt_iff_toNat_lt]at *;have:x.toNat≠y.toNat:=fun e'=>e (UInt8.toNat_inj.1 e');omega
theorem Dw{key ks}(h:bD ks)(hn:key ∉ ks):bD (ks.take (qW key ks)++key :: ks.drop (qW key ks)):=by
 unfold bD at *;induction ks with
 | nil=>simp[qW]
 | cons a ks ih=>
  rw[List.pairwise_cons]at h;simp only[List.mem_cons,not_or]at hn;unfold qW;rw[List.takeWhile_cons];split
  ·rename_i hl;simp only[My,List.take_succ_cons,List.drop_succ_cons,List.cons_append];rw[List.pairwise_cons];refine⟨?_,ih h.2 hn.2⟩;intro x hx;rw[List.mem_append]at hx;rcases hx with hx | hx
   ·exact h.1 x (List.mem_of_mem_take hx)
   ·rcases List.mem_cons.1 hx with rfl | hx
    ·exact hl
    ·exact h.1 x (List.mem_of_mem_drop hx)
  ·rename_i hl;simp only[List.length_nil,List.take_zero,List.drop_zero,List.nil_append];have hka:=hJ _ _ (by simpa using hl) (fun e=>hn.1 e.symm);rw[List.pairwise_cons];refine⟨?_,List.pairwise_cons.2 h⟩;intro x hx;rcases List.mem_cons.1 hx with rfl | hx
   ·exact hka
   ·exact cP _ _ _ hka (h.1 x hx)
theorem mo(h:Ob t)(k x):Ob (aG t k x):=by
 have hp:=h.paired;have hp':=ku hp k x;simp only[aK,MJ,decide_eq_true_eq]at hp';refine⟨hp'.1,?_,?_,hp'.2,?_⟩
 ·unfold aG;rw[if_pos hp];split <;> exact h.2.1
 ·unfold aG;rw[if_pos hp];split <;> exact h.2.2.1
 ·unfold aG;rw[if_pos hp];split
  ·exact h.2.2.2.2
  ·rename_i hi;exact Dw h.2.2.2.2 (oU hi)
theorem ie(h:Ob t)(k):Ob (bH t k):=by
 unfold bH;split
 ·rename_i i hi;obtain⟨-,-,h1,h2⟩:=fW hi;have hl:=h.2.2.2.1;refine⟨h.1,h.2.1,h.2.2.1,?_,h.2.2.2.2.sublist (Hh _ _)⟩;simp only[Mx,MC,MB];omega
 ·exact h
theorem mg(h:Ob t){k k'}(hne:k'≠k):aS (bH t k) k'=aS t k':=by
 have ho:=ie h k;rw[ft ho.paired,ft h.paired];have hl:=h.2.2.2.1;unfold bH at ho ⊢;cases hi:dO t k with
 | none=>rfl
 | some i=>
  obtain⟨-,h0,h1,h2⟩:=fW hi;have hk:=(iw h0).2;simp only;rw[List.zip_append (by simp[hl]),dU,mR t.keys t.l i hl,dU];congr 1
  rw[tZ hk,ME h1,List.zip_cons_cons,eo,if_neg (fun e=>hne e.symm)]
theorem rt(t k):(bH t k).l.length<=t.l.length:=by
 unfold bH;split
 ·simp only[Mx,MC,MB];omega
 ·omega
theorem Ao{step:V->Lz × V->V}(ho:∀ v p,Ob v->Ob (step v p)):∀ (ps:List (Lz × V)) (v:V),Ob v->Ob (ps.foldl step v)
 | [],_,h=>h
 | p :: ps,v,h=>Ao ho ps _ (ho v p h)
theorem wV{step:V->Lz × V->V}(ho:∀ v p,Ob v->Ob (step v p))(hf:∀ v p k,Ob v->k≠p.1->aS (step v p) k=aS v k){k}:∀ (ps:List (Lz × V)) (v:V),Ob v->(∀ p∈ps,p.1≠k)->aS (ps.foldl step v) k=aS v k
 | [],_,_,_=>rfl
 | p :: ps,v,h,hn=>by
  rw[List.foldl_cons,wV ho hf ps _ (ho v p h) fun q hq=>hn q (by simp[hq]),hf v p k h fun e=>hn p (by simp) e.symm]
theorem xt(h:Ob t):((t.keys.zip t.l).map Prod.fst).Nodup:=by
 rw[List.map_fst_zip (by have:=h.2.2.2.1;omega)];exact nT h.2.2.2.2
def fu (f:V->V->V) (v:V) (p:Lz × V):V:=if p.2.kind=0 then bH v p.1 else aG v p.1 (f ((aS v p.1).getD aM) p.2)
def cD (v:V):V:=if v.kind=5 then v else jM
def dH:Nat->V->V->V
 | 0,_,p=>p
 | D+1,v,p=>if p.kind=5 then (p.keys.zip p.l).foldl (fu (dH D)) (cD v) else p
theorem wP(f:V->V->V)(v)(p:Lz × V)(h:Ob v):Ob (fu f v p):=by
 unfold fu;split
 ·exact ie h _
 ·exact mo h _ _
theorem C5(f:V->V->V)(v)(p:Lz × V)(k)(h:Ob v)(hk:k≠p.1):aS (fu f v p) k=aS v k:=by
 unfold fu;split
 ·exact mg h hk
 ·exact mJ h.paired _ _ _ hk
theorem ul{v}(h:v.kind=5->Ob v):Ob (cD v):=by
 unfold cD;split
 ·exact h (by assumption)
 ·exact AA
theorem lG{k}(h:aS t k=some x):x∈t.l:=by
 unfold aS at h;rw[Option.bind_eq_some_iff]at h;obtain⟨i,-,h⟩:=h;exact List.mem_of_getElem? h
theorem zO(h:dz t):t.kind=5->Ob t:=Jb (fp h)
theorem rU:dz aM:=⟨1,⟨rfl,fun x hx=>by cases hx⟩,by simp[qJ,aM]⟩
theorem F8{v}(h:dz v)(k):dz ((aS (cD v) k).getD aM):=by
 unfold cD;split
 ·cases hm:aS v k with
  | none=>exact rU
  | some x=>exact gC h (lG hm)
 ·exact rU
section
open Go.Lib (index count replaceK replaceAll split splitK)
def HO:Nat->V->Prop
 | 0,_=>False
 | D+1,t=>(t.kind=5->Ob t)/\∀ x∈t.l,HO D x
def fL (t:V):Prop:=∃ D,HO D t
theorem HO.succ:∀ (D:Nat) {t:V},HO D t->HO (D+1) t
 | 0,_,h=>h.elim
 | D+1,_,h=>⟨h.1,fun x hx=>HO.succ D (h.2 x hx)⟩
theorem HO.le{D E}(h:D<=E)(ht:HO D t):HO E t:=by
 induction h with
 | refl=>exact ht
 | step _ ih=>exact ih.succ
theorem fO.ho:∀ (D:Nat) {t:V},fO D t->HO D t
 | 0,_,h=>h
 | D+1,_,h=>⟨fun hk=>Jb h.1 hk,fun x hx=>fO.ho D (h.2 x hx)⟩
theorem kg(h:aE t=true):fL t:=⟨12,(fh h).ho⟩
theorem fL.ob(h:fL t)(hk:t.kind=5):Ob t:=by
 obtain⟨D,h⟩:=h;cases D with
 | zero=>exact h.elim
 | succ D=>exact h.1 hk
theorem tV{k}(h:fL t)(hm:aS t k=some x):fL x:=by
 obtain⟨D,h⟩:=h;cases D with
 | zero=>exact h.elim
 | succ D=>exact⟨D,h.2 x (lG hm)⟩
theorem uw:fL aM:=⟨1,fun h=>by simp[aM]at h,fun x hx=>by simp[aM]at hx⟩
theorem Eo:fL jM:=⟨1,fun _=>AA,fun x hx=>by simp[jM]at hx⟩
theorem Bs(h:fL t):fL (cD t):=by
 unfold cD;split
 ·exact h
 ·exact Eo
theorem fL.obOf(h:fL t):Ob (cD t):=ul h.ob
theorem lV(h:fL t)(k):fL ((aS t k).getD aM):=by
 cases hm:aS t k with
 | none=>exact uw
 | some x=>exact tV h hm
theorem kC(t k):aS (cD t) k=aS t k:=by
 unfold cD;split
 ·rfl
 ·rename_i h;simp[aS,dO,aK,h,jM,dd]
theorem Gy{k}(h:y∈(aG t k x).l):y∈t.l\/y=x:=by
 unfold aG at h;split at h
 ·split at h
  ·simp only[List.mem_append,List.mem_cons]at h;rcases h with h | h | h
   ·exact .inl (List.mem_of_mem_take h)
   ·exact .inr h
   ·exact .inl (List.mem_of_mem_drop h)
  ·simp only[List.mem_append,List.mem_cons]at h;rcases h with h | h | h
   ·exact .inl (List.mem_of_mem_take h)
   ·exact .inr h
   ·exact .inl (List.mem_of_mem_drop h)
 ·exact .inl h
theorem zl{k}(h:y∈(bH t k).l):y∈t.l:=by
 unfold bH at h;split at h
 ·simp only[List.mem_append]at h;rcases h with h | h
  ·exact List.mem_of_mem_take h
  ·exact List.mem_of_mem_drop h
 ·exact h
theorem vL(ht:fL t)(ho:Ob t)(hx:fL x)(k):fL (aG t k x):=by
 obtain⟨D,ht⟩:=ht;obtain⟨E,hx⟩:=hx;cases D with
 | zero=>exact ht.elim
 | succ D=>
  refine⟨D+E+1,fun _=>mo ho k x,fun y hy=>?_⟩;rcases Gy hy with h | rfl
  ·exact(ht.2 y h).le (by omega)
  ·exact hx.le (by omega)
theorem nU(ht:fL t)(ho:Ob t)(k):fL (bH t k):=by
 obtain⟨D,ht⟩:=ht;cases D with
 | zero=>exact ht.elim
 | succ D=>exact⟨D+1,fun _=>ie ho k,fun y hy=>ht.2 y (zl hy)⟩
theorem Dk(h:Ob t){k}(hm:aS t k=some y):aG t k y=t:=by
 refine JO (mo h k y) h fun k'=>?_;by_cases e:k'=k
 ·rw[e,pQ h.paired,hm]
 ·rw[mJ h.paired _ _ _ e]
def dr:List Lz->V->Option V
 | [],v=>some v
 | n :: ns,v=>(aS v n).bind (dr ns)
def cK:List Lz->V->V->V
 | [],v,x=>if v.kind=5/\x.kind=5 then v else x
 | n :: ns,v,x=>aG (cD v) n (cK ns ((aS v n).getD aM) x)
theorem iY:∀ (ns:List Lz) (v x:V),fL v->fL x->fL (cK ns v x)
 | [],v,x,hv,hx=>by unfold cK;split <;> assumption
 | n :: ns,v,x,hv,hx=>vL (Bs hv) hv.obOf (iY ns _ x (lV hv n) hx) n
theorem vZ{ns}(h:ns≠[]):dr ns aM=none:=by
 cases ns with
 | nil=>exact absurd rfl h
 | cons n ns=>simp[dr,aS,dO,aK,aM]
theorem uO:∀ (ns:List Lz) (v x:V),fL v->dr ns (cK ns v x)=some (if ((dr ns v).getD aM).kind=5/\x.kind=5 then (dr ns v).getD aM else x)
 | [],v,x,hv=>by simp only[dr,cK,Option.getD_some];rfl
 | n :: ns,v,x,hv=>by
  unfold cK;rw[dr,pQ hv.obOf.paired,Option.bind_some,uO ns _ x (lV hv n)];rw[dr];cases hm:aS v n with
  | some y=>simp
  | none=>
   simp only[Option.getD_none,Option.bind_none];cases ns with
   | nil=>simp only[dr,Option.getD_some];rfl
   | cons m ns=>rw[vZ (by simp)];rfl
theorem jt:∀ (ns b:List Lz) (v x:V),fL v->¬ns <+: b->¬b <+: ns->dr b (cK ns v x)=dr b v
 | [],b,v,x,hv,h1,_=>absurd (List.nil_prefix) h1
 | n :: ns,[],v,x,hv,_,h2=>absurd (List.nil_prefix) h2
 | n :: ns,m :: bs,v,x,hv,h1,h2=>by
  unfold cK;rw[dr,dr];by_cases e:m=n
  ·subst e;rw[pQ hv.obOf.paired,Option.bind_some,jt ns bs _ x (lV hv m) (fun h=>h1 (List.cons_prefix_cons.2 ⟨rfl,h⟩)) (fun h=>h2 (List.cons_prefix_cons.2 ⟨rfl,h⟩))];cases hm:aS v m with
   | some y=>rfl
   | none=>
    have:bs≠[]:=fun e=>h2 (by rw[e];exact List.cons_prefix_cons.2 ⟨rfl,List.nil_prefix⟩);simp[vZ this]
  ·rw[mJ hv.obOf.paired _ _ _ e,kC]
theorem gB{n ns v}(h:dr (n :: ns) v=some y):v.kind=5/\∃ z,aS v n=some z/\dr ns z=some y:=by
 unfold dr at h;cases hm:aS v n with
 | none=>rw[hm]at h;cases h
 | some z=>
  rw[hm]at h;refine⟨?_,z,rfl,h⟩;by_cases hk:v.kind=5
  ·exact hk
  ·simp[aS,dO,aK,hk]at hm
def gI:List Lz->V->V
 | [],v=>v
 | [n],v=>bH v n
 | n :: m :: ns,v=>if (gI (m :: ns) ((aS v n).getD aM)).l=[] then bH v n else aG v n (gI (m :: ns) ((aS v n).getD aM))
theorem tr:∀ (ns:List Lz) (v:V),fL v->v.kind=5->(∃ y,dr ns v=some y)->fL (gI ns v)/\(gI ns v).kind=(if ns=[] then v.kind else 5)
 | [],v,hv,_,_=>⟨hv,by simp[gI]⟩
 | [n],v,hv,hk,_=>⟨nU hv (hv.ob hk) n,(ie (hv.ob hk) n).1⟩
 | n :: m :: ns,v,hv,hk,⟨y,hy⟩=>by
  obtain⟨-,z,hm,hz⟩:=gB hy;have hkz:z.kind=5:=(gB hz).1;have ih:=tr (m :: ns) z (tV hv hm) hkz ⟨y,hz⟩;unfold gI;rw[hm,Option.getD_some];split
  ·exact⟨nU hv (hv.ob hk) n,(ie (hv.ob hk) n).1⟩
  ·exact⟨vL hv (hv.ob hk) ih.1 n,(mo (hv.ob hk) n _).1⟩
def jF (a b:List Lz):Prop:=¬a <+: b/\¬b <+: a
theorem jF.symm{a b}(h:jF a b):jF b a:=⟨h.2,h.1⟩
theorem jF.cons{a b}(h:jF a b)(k):jF (k :: a) (k :: b):=
 ⟨fun e=>h.1 (List.cons_prefix_cons.1 e).2,fun e=>h.2 (List.cons_prefix_cons.1 e).2⟩
theorem rj{k m}(h:k≠m)(a b):jF (k :: a) (m :: b):=
 ⟨fun e=>h (List.cons_prefix_cons.1 e).1,fun e=>h (List.cons_prefix_cons.1 e).1.symm⟩
def jK:Nat->V->List (List Lz)
 | 0,_=>[]
 | D+1,v=>(v.keys.zip v.l).flatMap fun p=>if p.2.kind=5/\p.2.l≠[] then (jK D p.2).map (p.1 :: ·) else [[p.1]]
def Ja (x:V):Prop:=¬(x.kind=5/\x.l≠[])
theorem zm{D v ns}(h:ns∈jK (D+1) v):∃ k x,(k,x)∈v.keys.zip v.l/\((x.kind=5/\x.l≠[])/\(∃ r,r∈jK D x/\ns=k :: r)\/Ja x/\ns=[k]):=by
 unfold jK at h;rw[List.mem_flatMap]at h;obtain⟨⟨k,x⟩,hp,h⟩:=h;refine⟨k,x,hp,?_⟩;by_cases hc:x.kind=5/\x.l≠[]
 ·rw[if_pos hc,List.mem_map]at h;obtain⟨r,hr,rfl⟩:=h;exact .inl ⟨hc,r,hr,rfl⟩
 ·rw[if_neg hc,List.mem_singleton]at h;exact .inr ⟨hc,h⟩
theorem Gt{D v ns}(h:ns∈jK D v):ns≠[]:=by
 cases D with
 | zero=>simp[jK]at h
 | succ D=>
  obtain⟨k,x,-,⟨-,r,-,rfl⟩ | ⟨-,rfl⟩⟩:=zm h <;> simp
theorem uU{ps:List (Lz × V)}(hn:(ps.map Prod.fst).Nodup){k}(h:(k,x)∈ps):eo k ps=some x:=by
 induction ps with
 | nil=>cases h
 | cons p ps ih=>
  rw[List.map_cons,List.nodup_cons]at hn;rcases List.mem_cons.1 h with e | h
  ·subst e;simp[eo]
  ·have:p.1≠k:=fun e=>hn.1 (by rw[e];exact List.mem_map.2 ⟨(k,x),h,rfl⟩);rw[eo,if_neg this,ih hn.2 h]
theorem qI{v k}(h:Ob v)(hx:(k,x)∈v.keys.zip v.l):aS v k=some x:=by
 rw[ft h.paired];exact uU (xt h) hx
theorem HO.item{D v k}(h:HO (D+1) v)(hx:(k,x)∈v.keys.zip v.l):HO D x:=h.2 x (List.of_mem_zip hx).2
theorem AM:∀ (D:Nat) (v:V) (ns:List Lz),HO D v->v.kind=5->ns∈jK D v->∃ x,dr ns v=some x/\Ja x
 | 0,v,ns,h,_,_=>h.elim
 | D+1,v,ns,h,hk,hn=>by
  obtain⟨k,x,hp,⟨hc,r,hr,rfl⟩ | ⟨hl,rfl⟩⟩:=zm hn
  ·obtain⟨y,h1,h2⟩:=AM D x r (h.item hp) hc.1 hr;exact⟨y,by rw[dr,qI (h.1 hk) hp];exact h1,h2⟩
  ·exact⟨x,by rw[dr,qI (h.1 hk) hp];rfl,hl⟩
theorem rS:∀ (D:Nat) (v:V),HO D v->v.kind=5->(jK D v).Pairwise jF
 | 0,v,h,_=>h.elim
 | D+1,v,h,hk=>by
  have hnd:=xt (h.1 hk);have hit:∀ p∈v.keys.zip v.l,HO D p.2:=fun p hp=>h.item (k:=p.1) (x:=p.2) hp;unfold jK;generalize v.keys.zip v.l=ps at *;clear h hk;induction ps with
  | nil=>exact List.Pairwise.nil
  | cons p ps ih=>
   rw[List.map_cons,List.nodup_cons]at hnd;rw[List.flatMap_cons,List.pairwise_append];refine⟨?_,ih hnd.2 (fun q hq=>hit q (List.mem_cons_of_mem _ hq)),?_⟩
   ·by_cases hc:p.2.kind=5/\p.2.l≠[]
    ·rw[if_pos hc];rw[List.pairwise_map];exact(rS D p.2 (hit p (by simp)) hc.1).imp fun h=>h.cons _
    ·rw[if_neg hc];simp
   ·intro a ha b hb;rw[List.mem_flatMap]at hb;obtain⟨q,hq,hb⟩:=hb;have hne:p.1≠q.1:=fun e=>hnd.1 (by rw[e];exact List.mem_map.2 ⟨q,hq,rfl⟩);have ha':∃ r,a=p.1 :: r:=by
     split at ha
     ·rw[List.mem_map]at ha;obtain⟨r,-,rfl⟩:=ha;exact⟨r,rfl⟩
     ·rw[List.mem_singleton]at ha;exact⟨[],ha⟩
    have hb':∃ r,b=q.1 :: r:=by
     split at hb
     ·rw[List.mem_map]at hb;obtain⟨r,-,rfl⟩:=hb;exact⟨r,rfl⟩
     ·rw[List.mem_singleton]at hb;exact⟨[],hb⟩
    obtain⟨r,rfl⟩:=ha';obtain⟨s,rfl⟩:=hb';exact rj hne r s
def il (LQ:V) (L:List (List Lz)) (v:V):V:=L.foldl (fun v a=>cK a v ((dr a LQ).getD aM)) v
theorem Aa:∀ (ns:List Lz) (v x:V),fL v->dr ns v=some x->fL x
 | [],v,x,h,e=>by cases e;exact h
 | n :: ns,v,x,h,e=>by
  obtain⟨-,z,hm,hz⟩:=gB e;exact Aa ns z x (tV h hm) hz
theorem jW{LQ}(h:fL LQ)(a):fL ((dr a LQ).getD aM):=by
 cases e:dr a LQ with
 | none=>exact uw
 | some x=>exact Aa a LQ x h e
theorem Cd{ns}(h:ns≠[]){v}(hv:fL v):(cK ns v x).kind=5:=by
 cases ns with
 | nil=>exact absurd rfl h
 | cons n ns=>unfold cK;exact(mo hv.obOf n _).1
theorem qj{LQ}(hw:fL LQ):∀ (L:List (List Lz)) (v:V),(∀ a∈L,a≠[])->fL v->v.kind=5->fL (il LQ L v)/\(il LQ L v).kind=5
 | [],v,_,h,hk=>⟨h,hk⟩
 | a :: L,v,hne,h,hk=>qj hw L _ (fun b hb=>hne b (by simp[hb])) (iY a v _ h (jW hw a)) (Cd (hne a (by simp)) h)
theorem qC{LQ}(hw:fL LQ){b}:∀ (L:List (List Lz)) (v:V),(∀ a∈L,jF a b)->fL v->dr b (il LQ L v)=dr b v
 | [],v,_,_=>rfl
 | a :: L,v,hL,h=>by
  have e:il LQ (a :: L) v=il LQ L (cK a v ((dr a LQ).getD aM)):=rfl;rw[e,qC hw L _ (fun c hc=>hL c (by simp[hc])) (iY a v _ h (jW hw a)),jt a b v _ h (hL a (by simp)).1 (hL a (by simp)).2]
theorem rL{LQ}(hw:fL LQ){b}:∀ (L:List (List Lz)) (v:V),L.Pairwise jF->fL v->b∈L ->
 dr b (il LQ L v)=some (if ((dr b v).getD aM).kind=5/\((dr b LQ).getD aM).kind=5 then (dr b v).getD aM else (dr b LQ).getD aM)
 | [],v,_,_,hb=>by cases hb
 | a :: L,v,hp,h,hb=>by
  rw[List.pairwise_cons]at hp;have e:il LQ (a :: L) v=il LQ L (cK a v ((dr a LQ).getD aM)):=rfl;rw[e];rcases List.mem_cons.1 hb with rfl | hb
  ·rw[qC hw L _ (fun c hc=>(hp.1 c hc).symm) (iY _ v _ h (jW hw _)),uO _ v _ h]
  ·rw[rL hw L _ hp.2 (iY a v _ h (jW hw a)) hb];have ha:=hp.1 b hb;rw[jt a b v _ h ha.1 ha.2]
def iI (keep:List Lz->Bool) (had:List (List Lz)) (v:V):V:=had.foldl (fun v p=>if (dr p v).isSome&&!keep p then gI p v else v) v
theorem mS{keep:List Lz->Bool}:∀ (had:List (List Lz)) (v:V),(∀ p∈had,p≠[])->fL v->v.kind=5->fL (iI keep had v)/\(iI keep had v).kind=5
 | [],v,_,h,hk=>⟨h,hk⟩
 | p :: had,v,hne,h,hk=>by
  have e:iI keep (p :: had) v=iI keep had (if (dr p v).isSome&&!keep p then gI p v else v):=rfl;rw[e];split
  ·rename_i hc;rw[MJ,Option.isSome_iff_exists]at hc;obtain⟨h1,h2⟩:=tr p v h hk hc.1;rw[if_neg (hne p (by simp))]at h2;exact mS had _ (fun q hq=>hne q (by simp[hq])) h1 h2
  ·exact mS had _ (fun q hq=>hne q (by simp[hq])) h hk
theorem kz(n ns):aU (n :: ns)=47 :: (dY n++aU ns):=by simp[aU]
theorem vT(a b):aU (a++b)=aU a++aU b:=by simp[aU]
def aboveP (p q:Lz):Bool:=(p++[47]).isPrefixOf q
end
section
open Go.Lib (index count replaceK replaceAll split splitK)
def rp (c:UInt8):Bool:=decide (97<=c.toNat)&&decide (c.toNat<=122)
def bT (s:Lz):Bool:=!s.isEmpty&&decide (s.length<=12)&&s.all rp
def aw (p:Lz):List Lz:=(ax p).1
def oh (p:Lz):Bool:=decide ((ax p).2=0)&&!(aw p).isEmpty
theorem mO{p b}(h:ax p=(b,0)):p.length<=2000/\aU b=p:=by
 refine⟨?_,zd p b h⟩;cases p with
 | nil=>simp
 | cons c r=>
  simp only[ax]at h;split at h
  ·simp at h
  ·rename_i h9;simp only[not_or]at h9;omega
theorem jh(s):s.length<=(dY s).length/\(dY s).length<=2 * s.length:=by
 rw[iR];refine⟨?_,GY s⟩;induction s with
 | nil=>simp
 | cons c r ih2=>
  simp only[List.flatMap_cons,Mx,My];have:1<=(iq c).length:=by unfold iq;split <;> (try split) <;> simp
  omega
theorem sL{b x}(h:x∈b):x.length<=(aU b).length:=by
 induction b with
 | nil=>cases h
 | cons y ys ih=>
  rw[kz];simp only[My,Mx];rcases List.mem_cons.1 h with rfl | h
  ·have:=(jh x).1;omega
  ·have:=ih h;omega
theorem uM{p}(h:oh p=true):ax p=(aw p,0)/\aw p≠[]/\aU (aw p)=p:=by
 unfold oh at h;rw[MJ,decide_eq_true_eq]at h;have e:ax p=(aw p,0):=by unfold aw;rw[<-h.1]
 refine⟨e,fun h9=>by rw[h9]at h;simp at h,(mO e).2⟩
theorem Kh{ns}(h:(aU ns).length<=2000)(hne:ns≠[]):oh (aU ns)=true/\aw (aU ns)=ns:=by
 have e:=yh ns h;have e2:aw (aU ns)=ns:=by unfold aw;rw[e]
 refine⟨?_,e2⟩;unfold oh;rw[e2,e];cases ns with
 | nil=>exact absurd rfl hne
 | cons a r=>rfl
def dg:List Lz->Bool
 | []=>true
 | [_]=>true
 | a :: b :: r=>Op.bytesLess a b&&dg (b :: r)
theorem gZ:∀ (l:List Lz),dg l=true↔bD l
 | []=>by simp[dg,bD]
 | [a]=>by simp[dg,bD]
 | a :: b :: r=>by
  rw[dg,MJ,gZ (b :: r)];unfold bD;rw[List.pairwise_cons (a:=a)];constructor
  ·rintro⟨h1,h2⟩;refine⟨fun x hx=>?_,h2⟩;rcases List.mem_cons.1 hx with rfl | hx
   ·exact h1
   ·exact cP _ _ _ h1 ((List.pairwise_cons.1 h2).1 x hx)
  ·rintro⟨h1,h2⟩;exact⟨h1 b (by simp),h2⟩
theorem lX:∀ (l:List Lz),dg l=true↔∀ i x y,l[i]?=some x->l[i+1]?=some y->Op.bytesLess x y=true
 | []=>by simp[dg]
 | [a]=>by
  simp only[dg,true_iff];intro i x y h1 h2;simp at h2
 | a :: b :: r=>by
  rw[dg,MJ,lX (b :: r)];constructor
  ·rintro⟨h1,h2⟩ i x y hx hy;cases i with
   | zero=>simp at hx hy;subst hx;subst hy;exact h1
   | succ i=>exact h2 i x y (by simpa using hx) (by simpa using hy)
  ·intro h;exact⟨h 0 a b rfl rfl,fun i x y hx hy=>h (i+1) x y (by simpa using hx) (by simpa using hy)⟩
def jj (l:List Lz):Bool:=!l.isEmpty&&l.all oh&&dg l
structure aL where
 name:Lz
 paths:List Lz
def ol (o:aL):Bool:=bT o.name&&jj o.paths
def bp (l:List aL):Bool:=decide (l.length<=6)&&l.all ol&&dg (l.map aL.name)
def yU (x:Lz):List Lz->List Lz
 | []=>[x]
 | y :: ys=>if Op.bytesLess y x then y :: yU x ys else x :: y :: ys
def ix (l:List Lz):List Lz:=l.foldr yU []
def xA (a b:Lz):Prop:=Op.bytesLess b a=false
theorem Hy{a b}(h1:xA a b)(h2:xA b a):a=b:=by
 apply Classical.byContradiction;intro h;have:=hJ a b h2 h;rw[h1]at this;cases this
theorem pA{a b}(h:Op.bytesLess a b=true):xA a b:=by
 unfold xA;cases e:Op.bytesLess b a with
 | false=>rfl
 | true=>have:=cP _ _ _ h e;rw[cd]at this;cases this
theorem ln{a b}(h:xA a b)(hne:a≠b):Op.bytesLess a b=true:=hJ b a h fun e=>hne e.symm
theorem rE{a b c}(h1:xA a b)(h2:xA b c):xA a c:=by
 by_cases e:a=b
 ·rw[e];exact h2
 by_cases e2:b=c
 ·rw[<-e2];exact h1
 exact pA (cP _ _ _ (ln h1 e) (ln h2 e2))
theorem oX(x):∀ (l:List Lz),(yU x l).Perm (x :: l)
 | []=>List.Perm.refl _
 | y :: ys=>by
  unfold yU;split
  ·exact((oX x ys).cons y).trans (List.Perm.swap x y ys)
  ·exact List.Perm.refl _
theorem fU:∀ (l:List Lz),(ix l).Perm l
 | []=>List.Perm.refl _
 | x :: l=>(oX x (ix l)).trans ((fU l).cons x)
theorem qH(x):∀ (l:List Lz),l.Pairwise xA->(yU x l).Pairwise xA
 | [],_=>by simp[yU]
 | y :: ys,h=>by
  rw[List.pairwise_cons]at h;unfold yU;split
  ·rename_i hl;rw[List.pairwise_cons];refine⟨fun z hz=>?_,qH x ys h.2⟩;rcases List.mem_cons.1 ((oX x ys).mem_iff.1 hz) with rfl | hz
   ·exact pA hl
   ·exact h.1 z hz
  ·rename_i hl;have hxy:xA x y:=by unfold xA;simpa using hl
   rw[List.pairwise_cons,List.pairwise_cons];refine⟨fun z hz=>?_,h⟩;rcases List.mem_cons.1 hz with rfl | hz
   ·exact hxy
   ·exact rE hxy (h.1 z hz)
theorem jR:∀ (l:List Lz),(ix l).Pairwise xA
 | []=>List.Pairwise.nil
 | x :: l=>qH x _ (jR l)
theorem Ig{l m}(hp:m.Perm l)(hs:m.Pairwise xA):m=ix l:=
 List.Perm.eq_of_pairwise (fun a b _ _ h1 h2=>Hy h1 h2) hs (jR l) (hp.trans (fU l).symm)
def au (t:V):List Lz:=if t.kind=5/\aE t=true then ix ((jK 12 t).map aU) else []
theorem qh(hs:ce t=true)(hk:t.kind=5):∀ k∈t.keys,k.length<=60:=by
 intro k h;have:=(rJ _ _ (gu hs hk).2.1).2.2 k h;simp only[eK,MJ,decide_eq_true_eq]at this;exact this.1
theorem tj:∀ (D:Nat) (t:V) (ns:List Lz),fO D t->t.kind=5->ns∈jK D t->(aU ns).length<=121 * D
 | 0,_,_,h,_,_=>h.elim
 | D+1,t,ns,h,hk,hn=>by
  have key:∀ k x,(k,x)∈t.keys.zip t.l->k.length<=60:=fun k x hp=>qh h.1 hk k (List.of_mem_zip hp).1;obtain⟨k,x,hp,⟨hc,r,hr,rfl⟩ | ⟨hl,rfl⟩⟩:=zm hn
  ·have:=tj D x r (h.2 x (List.of_mem_zip hp).2) hc.1 hr;have h1:=key k x hp;have h2:=(jh k).2;rw[kz];simp only[My,Mx];omega
  ·have h1:=key k x hp;have h2:=(jh k).2;rw[kz];simp only[My,Mx,aU,List.flatMap_nil,List.length_nil];omega
structure uq (t:V) (L:List Lz):Prop where
 rises:bD L
 good:∀ p∈L,oh p=true
 names:∀ ns,ns∈L.map aw↔ns∈jK 12 t
 apart:(L.map aw).Pairwise jF
theorem FM(hk:t.kind=5)(hg:aE t=true){ns}(h:ns∈jK 12 t):oh (aU ns)=true/\aw (aU ns)=ns:=
 Kh (by have:=tj 12 t ns (fh hg) hk h;omega) (Gt h)
theorem mM(hk:t.kind=5)(hg:aE t=true):uq t (au t):=by
 have ho:=(fh hg).ho;have e:au t=ix ((jK 12 t).map aU):=if_pos ⟨hk,hg⟩;have hp:=fU ((jK 12 t).map aU);have hmm:((jK 12 t).map aU).map aw=jK 12 t:=by
  rw[List.map_map];conv=>rhs;rw[<-List.map_id (jK 12 t)]
  exact List.map_congr_left fun ns hns=>(FM hk hg hns).2
 have hpn:((au t).map aw).Perm (jK 12 t):=by rw[e];have:=hp.map aw;rwa [hmm]at this
 have hap:=rS 12 t ho hk;have hap2:((au t).map aw).Pairwise jF:=(hpn.pairwise_iff (fun h=>h.symm)).2 hap;refine⟨?_,?_,fun ns=>hpn.mem_iff,hap2⟩
 ·have h1:(au t).Pairwise xA:=by rw[e];exact jR _
  have h2:(au t).Pairwise (·≠·):=by
   rw[List.pairwise_map]at hap2;exact hap2.imp fun h e=>h.1 (by rw[e];exact List.prefix_rfl)
  exact(h1.and h2).imp fun⟨h3,h4⟩=>ln h3 h4
 ·intro p h;rw[e]at h;obtain⟨ns,hn,rfl⟩:=List.mem_map.1 (hp.mem_iff.1 h);exact(FM hk hg hn).1
open Classical in
noncomputable def fK (LQ v:V) (p:Lz):Bool:=
 match dr (aw p) v with
 | none=>true
 | some x=>!decide (x=(dr (aw p) LQ).getD aM)&&!(decide (x.kind=5)&&decide (((dr (aw p) LQ).getD aM).kind=5))
noncomputable def aV (LQ v:V) (L:List Lz) (p:Lz):Bool:=
 if L.contains p then fK LQ v p else L.any fun q=>aboveP q p || aboveP p q
def dV (stays:Lz->Lz->Bool) (l:List aL):List aL:=
 (l.map fun o=>⟨o.name,o.paths.filter (stays o.name)⟩).filter fun o=>!o.paths.isEmpty
def eu (blk:Lz->Bool) (who:Lz) (l:List aL):List (Lz × Lz):=
 l.flatMap fun o=>(o.paths.filter fun p=>o.name != who&&blk p).map fun p=>(o.name,p)
def cq (l:List aL) (who:Lz):List Lz:=
 match l.find? (fun o=>o.name == who) with
 | some o=>o.paths
 | none=>[]
def concF (l:List aL) (p:Lz):Bool:=l.any fun o=>o.paths.any fun q=>q == p || aboveP q p || aboveP p q
def dj (L:List Lz) (LX:List aL) (had:List Lz) (v:V):V:=
 had.foldl (fun v p=>if (dr (aw p) v).isSome&&!(L.contains p || concF LX p) then gI (aw p) v else v) v
def ed (LQ:V) (L:List Lz) (v:V):V:=L.foldl (fun v p=>cK (aw p) v ((dr (aw p) LQ).getD aM)) v
def bB (l:List aL) (who:Lz):Nat:=l.countP fun o=>Op.bytesLess o.name who
def bP (LX:List aL) (o:aL):List aL:=
 if o.paths=[] then LX else LX.take (bB LX o.name)++o :: LX.drop (bB LX o.name)
noncomputable def cG (v LQ:V) (l:List aL) (who:Lz):List aL:=dV (fun n p=>n != who&&!aV LQ v (au LQ) p) l
noncomputable def gO (v LQ:V) (l:List aL) (who:Lz):V:=ed LQ (au LQ) (dj (au LQ) (cG v LQ l who) (cq l who) v)
noncomputable def eC (v:V) (l:List aL) (who:Lz) (LQ:V) (force:Bool):V × List aL × List (Lz × Lz) × Int:=
 if (v.kind=5/\aE v=true)/\(LQ.kind=5/\aE LQ=true)/\bp l=true/\bT who=true then
  if eu (aV LQ v (au LQ)) who l≠[]/\force=false then (v,l,eu (aV LQ v (au LQ)) who l,5)
  else if aE (gO v LQ l who)=true/\(bP (cG v LQ l who) ⟨who,au LQ⟩).length<=6 then
   (gO v LQ l who,bP (cG v LQ l who) ⟨who,au LQ⟩,[],0)
  else (v,l,[],2)
 else (v,l,[],1)
def ir (v:V) (l:List aL):List aL:=if aE v=true/\bp l=true then dV (fun _ p=>(dr (aw p) v).isSome) l else []
end
theorem lH(w:LC)(p)(hp:p.length<=140737488351232)(hM:bj w):Calls prog 130 #[aR p] w fun e w'=>∃ (a:Option Addr) (c:Nat),e=.returned (.slice a (aw p).length c)/\ao w' (fun k=>w.heap.size<=k) (aw p) (.slice a (aw p).length c)/\La w w':=by
 have HM:=aa hM;clear hM;go_enter func130,ntmps130;go_wp2_with fail
 refine(iO _ p hp (by exact HM.o)).mono ?_;rintro e w1 ⟨ns,ee,na,nc,rfl,hsp,hns,hb1⟩;have R:Ll (aw p=ns):=aa (by unfold aw;rw[hsp]);have K:=aa hns;have B:=aa hb1;clear hsp hns hb1;go_wp2_with fail
 go_ret;refine⟨na,nc,?_,?_,B.o⟩
 ·rw[R.o];rfl
 ·rw[R.o];exact K.o
def yE (w:LC) (ok:Nat->Prop) (t:V) (ns:List Lz) (na:Option Addr) (nc k:Nat) (wr:LC):Prop:=
 ∃ (y:V) (a5 a6:Option Addr) (c5 c6:Nat),dr ns t=dr (ns.drop k) y/\KY wr w.heap.size y a5 c5 a6 c6/\Lc wr (w.heap.size+1)/\La w wr /\
  In wr (Lj ok w) y (.agg (KV y a5 c5 a6 c6))/\ao wr (fun k=>w.heap.size+2<=k) ns (.slice na ns.length nc)
theorem gD(w:LC)(ok t v p)(h:In w ok t v)(hp:p.length<=140737488351232)(hM:bj w):Calls prog 106 #[v,aR p] w fun e w'=>∃ r,e=.returned (.tuple #[r,.bool (dr (aw p) t).isSome])/\La w w'/\In w' ok ((dr (aw p) t).getD aM) r:=by
 have H:=aa h.low;have HMM:=aa hM;obtain⟨l1,l2,l3⟩:=h.lens;obtain⟨a1,a2,c1,c2,rfl⟩:=h.form;clear h hM;go_enter func106,ntmps106;go_wp2_with fail
 refine(lH _ p hp (by exact HMM.o.bel (ab (ae _ _) (ae _ _)))).mono ?_;rintro e w1 ⟨na,nc,rfl,hns,hb1⟩;obtain⟨ns,hnp⟩:∃ ns,aw p=ns:=⟨_,rfl⟩
 rw[hnp]at hns ⊢;have NP:=aa hnp;clear hnp;have nlen:=hns.1;unfold maxLen at nlen;have S0:Ll (yE w ok t ns na nc 0 w1):=⟨t,a1,a2,c1,c2,rfl,af hb1 (fb w _ _),af hb1 (et w _ _),ab (ab (ae _ _) (ae _ _)) hb1,H.o.bel (ab (ab (ae _ _) (ae _ _)) hb1),hns.imp fun a x hx hc=>⟨by simpa using hx,hc⟩⟩
 clear hb1 hns;go_wp2_with fail
 go_loopg [13] ns.length (fun gk i wr=>∃ k:Nat,k<=ns.length/\gk=ns.length - k/\i=.int .i64 k/\yE w ok t ns na nc k wr)
 case atStart=>exact⟨0,Nat.zero_le _,rfl,rfl,S0.o⟩
 case round=>
  obtain⟨k,hk,hgk,rfl,y,a5,a6,c5,c6,i1,i2,i3,i4,i5,i6⟩:=hrel;have GK:=aa hgk;have I:Ll (dr ns t=dr (ns.drop k) y/\KY wr w.heap.size y a5 c5 a6 c6/\Lc wr (w.heap.size+1)/\La w wr/\In wr (Lj ok w) y (.agg (KV y a5 c5 a6 c6))/\ao wr (fun k=>w.heap.size+2<=k) ns (.slice na ns.length nc)):=⟨i1,i2,i3,i4,i5,i6⟩
  have p0_:=i2.c;clear hgk i1 i2 i3 i4 i5 i6;by_cases hlt:k < ns.length
  ·obtain⟨nb,no,rfl,hc1,hc2,hc⟩:=lm I.o.2.2.2.2.2 hlt;unfold maxLen at hc2;go_wp2_with fail
   refine(ig _ (Lj ok w) y _ ns[k] (by exact I.o.2.2.2.2.1)).mono ?_;rintro e w3 ⟨r,rfl,hb3,hu⟩;obtain⟨u,hu9⟩:∃ u,(aS y ns[k]).getD aM=u:=⟨_,rfl⟩
   rw[hu9]at hu;obtain⟨b5,b6,d5,d6,rfl⟩:=hu.form;have LW:=ab hb3 (ae w3 (.cells (KV u b5 d5 b6 d6) 39));have K3:Ll (KY (w3.alloc (.cells (KV u b5 d5 b6 d6) 39)) w.heap.size y a5 c5 a6 c6/\Lc (w3.alloc (.cells (KV u b5 d5 b6 d6) 39)) (w.heap.size+1)/\La w (w3.alloc (.cells (KV u b5 d5 b6 d6) 39))/\KY (w3.alloc (.cells (KV u b5 d5 b6 d6) 39)) w3.heap.size u b5 d5 b6 d6/\In (w3.alloc (.cells (KV u b5 d5 b6 d6) 39)) (Lj ok w) u (.agg (KV u b5 d5 b6 d6))/\ao (w3.alloc (.cells (KV u b5 d5 b6 d6) 39)) (fun k=>w.heap.size+2<=k) ns (.slice (some ⟨nb,no,none⟩) ns.length nc)):=⟨af LW I.o.2.1,af LW I.o.2.2.1,ab I.o.2.2.2.1 LW,MN w3 _,hu.bel (ae _ _),I.o.2.2.2.2.2.bel LW⟩
   have GS:Ll (dr (ns.drop k) y=(aS y ns[k]).bind (dr (ns.drop (k+1)))):=aa (by rw[ME hlt,dr]);clear hb3 LW hu hc;have o0_:=K3.o.1.c;have q0_:=K3.o.2.2.2.1.c;cases hm:aS y ns[k] with
   | none=>
    have x0_:=(K3.o.2.1).c;have Z:=aa (aP K3.o.2.2.1 (Nat.le_succ w.heap.size) (.int .i64 0) (.int .i64 0) (.string ⟨#[]⟩) (.slice none 0 0) (.slice none 0 0));have ZB:=aa ((K3.o.2.1).set (.int .i64 0) (.int .i64 0) (.string ⟨#[]⟩) (.slice none 0 0) (.slice none 0 0));have HA:Ll (dr ns t=none):=aa (by rw[I.o.1,GS.o,hm];rfl);clear hm hu9;rw[Option.isSome_none];go_wp2_with fail
    have z0_:=ZB.o.c;refine MM (v:=.tuple #[.agg Lb,.bool false]) ?_ rfl ?_
    ·simp only[ar]at z0_;simp[results,results106,go_sem,z0_]
    ·refine⟨_,by rw[NP.o,HA.o];rfl,Z.o,?_⟩;rw[NP.o,HA.o];exact fG _ _
   | some z9=>
    rw[hm,Option.getD_some]at hu9;subst hu9;have HM:=aa hm;have FIN:Ll (yE w ok t ns (some ⟨nb,no,none⟩) nc (k+1) (LG (w3.alloc (.cells (KV z9 b5 d5 b6 d6) 39)) w.heap.size z9 b5 d5 b6 d6)):=by
     have g1:=aI (w3.alloc (.cells (KV z9 b5 d5 b6 d6) 39)) w.heap.size (.int .i64 z9.kind) (.int .i64 z9.n) (.string ⟨z9.s.toArray⟩) (.slice b5 z9.keys.length d5) (.slice b6 z9.l.length d6);refine⟨z9,b5,b6,d5,d6,?_,K3.o.1.set _ _ _ _ _,K3.o.2.1.grown g1 (by simp),aP K3.o.2.2.1 (MG _) _ _ _ _ _,K3.o.2.2.2.2.1.grown g1 (fun k hk=>by omega),K3.o.2.2.2.2.2.imp (eJ g1 (fun k hk e=>by cases e;omega))⟩;rw[I.o.1,GS.o,HM.o];rfl
    clear hm K3;rw[Option.isSome_some];go_wp2_with fail
    go_roundg (ns.length - (k+1))
    case measure=>rw[GK.o];omega
    case rel=>exact⟨k+1,hlt,rfl,by go_num,FIN.o⟩
  ·have Mc:k=ns.length:=by omega
   subst Mc;have x0_:=I.o.2.2.1.c;have Z:=aa (LH (aP I.o.2.2.2.1 (Nat.le_succ w.heap.size)) y a5 c5 a6 c6);have ZI:=aa ((I.o.2.2.2.2.1.grown (LH (aI wr (w.heap.size+1)) y a5 c5 a6 c6) (fun k hk=>by omega)).weak fun k hk=>hk.1);have ZB:=aa (LH I.o.2.2.1.set y a5 c5 a6 c6);have HA:Ll (dr ns t=some y):=aa (by rw[I.o.1,List.drop_length];rfl);go_wp2_with fail
   have z0_:=ZB.o.c;refine MM (v:=.tuple #[.agg (KV y a5 c5 a6 c6),.bool true]) ?_ rfl ?_
   ·simp only[ar]at z0_;simp[results,results106,go_sem,z0_]
   ·refine⟨_,by rw[NP.o,HA.o];rfl,Z.o,?_⟩;rw[NP.o,HA.o];exact ZI.o
def aB (w:LC) (ok:Nat->Prop) (xs:List aL) (v:Value):Prop:=
 xs.length<=maxLen/\(xs=[]/\(∃ a,v=.slice a 0 0)\/∃ b off c,v=.slice (some ⟨b,off,none⟩) xs.length c/\xs.length<=c/\c<=maxLen /\
  ∀ i x,xs[i]?=some x->∃ a n c',x.name.length<=maxLen/\ok b/\w.cell? ⟨b,off+i * 2,none⟩=some (aR x.name)/\w.cell? ⟨b,off+i * 2+1,none⟩=some (.slice a n c')/\ao w ok x.paths (.slice a n c'))
theorem aB.imp{xs}(h:aB w ok xs v)(hc:∀ a x,ok a.block->w.cell? a=some x->ok' a.block/\w'.cell? a=some x):aB w' ok' xs v:=by
 refine⟨h.1,?_⟩;rcases h.2 with h | ⟨b,off,c,e,h1,h2,h3⟩
 ·exact .inl h
 ·refine .inr ⟨b,off,c,e,h1,h2,fun i x hx=>?_⟩;obtain⟨a,n,c',g1,g2,g3,g4,g5⟩:=h3 i x hx;exact⟨a,n,c',g1,(hc ⟨b,off+i * 2,none⟩ _ g2 g3).1,(hc ⟨b,off+i * 2,none⟩ _ g2 g3).2,(hc ⟨b,off+i * 2+1,none⟩ _ g2 g4).2,g5.imp hc⟩
theorem aB.bel{xs}(h:aB w ok xs v)(hb:La w w'):aB w' ok xs v:=
 h.imp fun a x h1 h2=>⟨h1,ah hb h2⟩
theorem aB.low{xs}(h:aB w ok xs v):aB w (Lj ok w) xs v:=
 h.imp fun a x h1 h2=>⟨⟨h1,World.block_lt_of_cell? w a h2⟩,h2⟩
theorem aB.weak{xs}(h:aB w ok xs v)(hk:∀ k,ok k->ok' k):aB w ok' xs v:=
 h.imp fun a x h1 h2=>⟨hk _ h1,h2⟩
theorem aB.form{xs}(h:aB w ok xs v):∃ a c,v=.slice a xs.length c:=by
 rcases h.2 with⟨rfl,a,rfl⟩ | ⟨b,off,c,rfl,-⟩
 ·exact⟨a,0,rfl⟩
 ·exact⟨_,_,rfl⟩
theorem aB.at{xs a}(h:aB w ok xs (.slice a n c))(hk:k < xs.length):∃ b off pa pc,a=some ⟨b,off,none⟩/\xs.length<=c/\c<=9223372036854775807/\w.cell? ⟨b,off+k * 2,none⟩=some (.string ⟨xs[k].name.toArray⟩)/\w.cell? ⟨b,off+k * 2+1,none⟩=some (.slice pa xs[k].paths.length pc) /\
 ao w ok xs[k].paths (.slice pa xs[k].paths.length pc)/\xs[k].name.length<=9223372036854775807:=by
 rcases h.2 with⟨e,_⟩ | ⟨b,off,c',e,h1,h2,h3⟩
 ·rw[e]at hk;simp at hk
 ·simp only[Value.slice.injEq]at e;obtain⟨rfl,-,rfl⟩:=e;obtain⟨a,n,c',g1,g2,g3,g4,g5⟩:=h3 k xs[k] (Mw hk);obtain⟨a9,c9,e9⟩:=g5.form;simp only[Value.slice.injEq]at e9;obtain⟨rfl,rfl,rfl⟩:=e9;exact⟨b,off,a,c',rfl,h1,h2,g3,g4,g5,g1⟩
theorem aB.nil(w ok):aB w ok [] (.slice none 0 0):=⟨by simp,.inl ⟨rfl,none,rfl⟩⟩
theorem rl{a b}{t:TypeId}(h:w.heap[g]?=some (.cells #[a,b] t)):w.cell? ⟨g,0,none⟩=some a/\w.cell? ⟨g,1,none⟩=some b:=by
 refine⟨?_,?_⟩ <;> simp[World.cell?,h]
theorem pR{xs:List Lz}{j:Nat}(h:j+1 < xs.length):dg (xs.take (j+2))=(dg (xs.take (j+1))&&Op.bytesLess xs[j] xs[j+1]):=by
 rw[Bool.eq_iff_iff,MJ,lX,lX];constructor
 ·intro h9;refine⟨fun i x y hx hy=>h9 i x y ?_ ?_,h9 j _ _ ?_ ?_⟩
  ·rw[List.getElem?_take]at hx ⊢;split at hx;rw[if_pos (by omega)];exact hx;cases hx
  ·rw[List.getElem?_take]at hy ⊢;split at hy;rw[if_pos (by omega)];exact hy;cases hy
  ·rw[List.getElem?_take,if_pos (by omega)];exact Mw (by omega)
  ·rw[List.getElem?_take,if_pos (by omega)];exact Mw h
 ·rintro⟨h1,h2⟩ i x y hx hy;by_cases e:i=j
  ·subst e;rw[List.getElem?_take,if_pos (by omega),Mw (by omega)]at hx;rw[List.getElem?_take,if_pos (by omega),Mw h]at hy;cases hx;cases hy;exact h2
  ·refine h1 i x y ?_ ?_
   ·rw[List.getElem?_take]at hx hy ⊢;split at hy <;> split at hx <;> (try cases hy) <;> (try cases hx);rw[if_pos (by omega)];assumption
   ·rw[List.getElem?_take]at hy ⊢;split at hy <;> (try cases hy);rw[if_pos (by omega)];assumption
theorem rB(xs:List Lz):dg (xs.take 1)=true:=by
 cases xs with
 | nil=>rfl
 | cons a r=>rfl
theorem EF{xs}(hk:k < xs.length)(h:oh xs[k]=false):jj xs=false:=by
 have:xs.all oh=false:=by rw[List.all_eq_false];exact⟨xs[k],List.getElem_mem _,by simp[h]⟩
 simp[jj,this]
theorem sm{xs j}(hj:j+1 < xs.length)(h:Op.bytesLess xs[j] xs[j+1]=false):dg xs=false:=by
 rw[Bool.eq_false_iff];intro h9;rw[lX]at h9;have:=h9 j _ _ (Mw (by omega)) (Mw hj);rw[h]at this;cases this
theorem ED{xs j}(hj:j+1 < xs.length)(h:Op.bytesLess xs[j] xs[j+1]=false):jj xs=false:=by
 simp[jj,sm hj h]
theorem vz{α:Type}{p:α->Bool}{xs:List α}(hk:k < xs.length)(h:(xs.take k).all p=true)(h2:p xs[k]=true):(xs.take (k+1)).all p=true:=by
 rw[List.take_succ_eq_append_getElem hk,List.all_append,h];simp[h2]
def Jh (w:LC) (g:Nat) (lb:Array Value) (xs:List Lz) (p:Lz->Bool):Prop:=
 ∀ (W:LC) (x:Lz),La w W->x∈xs->Calls prog g (#[.string ⟨x.toArray⟩]++lb) W fun e w'=>e=.returned (.bool (p x))/\La W w'
theorem uA{α:Type}{p:α->Bool}{xs:List α}(hk:k < xs.length)(h:(xs.take k).any p=false)(h2:p xs[k]=false):(xs.take (k+1)).any p=false:=by
 rw[List.take_succ_eq_append_getElem hk,List.any_append,h];simp[h2]
theorem xi{α:Type}{p:α->Bool}{xs:List α}(hk:k < xs.length)(h2:p xs[k]=true):xs.any p=true:=by
 rw[List.any_eq_true];exact⟨xs[k],List.getElem_mem _,h2⟩
theorem Nr(w:LC)(ok xs v g)(lb:Array Value)(p:Lz->Bool)(h:ao w ok xs v)(eg:∀ args w,(callFunc g args).run prog w=.ok (.enter g args) w)(hp:Jh w g lb xs p):Calls prog 156 #[v,.func (.func g) #[] lb] w fun e w'=>(∃ r:Int,e=.returned (.int .i64 r)/\(decide (0<=r)=xs.any p))/\La w w':=by
 obtain⟨a,c,rfl⟩:=h.form;have H:=aa h;have HP:=aa hp;have ll:=h.1;unfold maxLen at ll;clear h hp;go_enter func156,ntmps156;go_wp2
 go_loopg [5,8] xs.length (fun gk _ i wr=>∃ k:Nat,k<=xs.length/\gk=xs.length - k/\i=.int .i64 k/\Ll ((xs.take k).any p=false)/\Ll (La w wr))
 case atStart=>exact⟨0,Nat.zero_le _,rfl,rfl,rfl,MK _ _⟩
 case round=>
  obtain⟨k,hk,hgk,rfl,HA,BL⟩:=hrel;have GK:=aa hgk;clear hgk;by_cases hlt:k < xs.length
  ·obtain⟨b,off,rfl,j1,j2,k1⟩:=gQ H.o hlt;unfold maxLen at j2;have c1:=ah BL.o k1;have w2:(k:Int) < (xs.length:Int):=by omega
   clear k1;have CALL:=HP.o wr xs[k] BL.o (List.getElem_mem _);have T0:Ll (p xs[k]=false->(xs.take (k+1)).any p=false):=fun h9=>uA hlt HA.o h9;have T1:Ll (p xs[k]=true->xs.any p=true):=fun h9=>xi hlt h9;obtain⟨o,ho⟩:∃ o,p xs[k]=o:=⟨_,rfl⟩
   rw[ho]at CALL T0 T1;clear ho;cases o with
   | false=>
    go_wp2_with (go_at_fn g;refine CALL.mono ?_;rintro e w1 ⟨rfl,hb⟩)
    go_roundg (xs.length - (k+1))
    case measure=>rw[GK.o];omega
    case rel=>exact⟨k+1,hlt,rfl,by go_num,aa (T0.o (by simp)),aa (ab BL.o hb)⟩
   | true=>
    go_wp2_with (go_at_fn g;refine CALL.mono ?_;rintro e w1 ⟨rfl,hb⟩)
    go_ret;refine⟨⟨k,rfl,?_⟩,ab BL.o hb⟩;rw[T1.o (by simp)];simp
  ·have d1:¬(k:Int) < (xs.length:Int):=by omega
   have Mc:k=xs.length:=by omega
   have R:Ll (xs.any p=false):=aa (by have:=HA.o;rwa [Mc,List.take_length]at this);clear Mc;go_wp2
   go_ret;exact⟨⟨-1,rfl,by rw[R.o];rfl⟩,BL.o⟩
theorem l9(w:LC)(ok xs v g)(lb:Array Value)(p:Lz->Bool)(h:ao w ok xs v)(eg:∀ args w,(callFunc g args).run prog w=.ok (.enter g args) w)(hp:Jh w g lb xs p):Calls prog 126 #[v,.func (.func g) #[] lb] w fun e w'=>e=.returned (.bool (xs.any p))/\La w w':=by
 obtain⟨a,c,rfl⟩:=h.form;have C:=Nr w ok xs _ g lb p h eg hp;clear h hp;go_enter func126,ntmps126;go_wp2_with (go_at_call 156;refine C.mono ?_;rintro e w1 ⟨⟨r,rfl,hr⟩,hb⟩)
 go_ret;exact⟨by rw[<-hr];rfl,hb⟩
def IW (w:LC) (ok:Nat->Prop) (g:Nat) (lb:Array Value) (xs:List aL) (p:aL->Bool):Prop:=
 ∀ (W:LC) (x:aL) (pa:Option Addr) (pc:Nat),La w W->x∈xs->ao W ok x.paths (.slice pa x.paths.length pc)->Calls prog g (#[.agg #[.string ⟨x.name.toArray⟩,.slice pa x.paths.length pc]]++lb) W fun e w'=>e=.returned (.bool (p x))/\La W w'
theorem EG(w ok xs v g)(lb:Array Value)(p:aL->Bool)(h:aB w ok xs v)(eg:∀ args w,(callFunc g args).run prog w=.ok (.enter g args) w)(hp:IW w ok g lb xs p):Calls prog 196 #[v,.func (.func g) #[] lb] w fun e w'=>(∃ r:Int,e=.returned (.int .i64 r)/\(decide (0<=r)=xs.any p))/\La w w':=by
 obtain⟨a,c,rfl⟩:=h.form;have H:=aa h;have HP:=aa hp;have ll:=h.1;unfold maxLen at ll;clear h hp;go_enter func196,ntmps196;go_wp2
 go_loopg [5,8] xs.length (fun gk _ i wr=>∃ k:Nat,k<=xs.length/\gk=xs.length - k/\i=.int .i64 k/\Ll ((xs.take k).any p=false)/\Ll (La w wr))
 case atStart=>exact⟨0,Nat.zero_le _,rfl,rfl,rfl,MK _ _⟩
 case round=>
  obtain⟨k,hk,hgk,rfl,HA,BL⟩:=hrel;have GK:=aa hgk;clear hgk;by_cases hlt:k < xs.length
  ·obtain⟨b,off,pa,pc,rfl,j1,j2,k1,k2,k3,k4⟩:=H.o.at hlt;have c1:=ah BL.o k1;have c2:=ah BL.o k2;have w2:(k:Int) < (xs.length:Int):=by omega
   have CALL:=HP.o wr xs[k] pa pc BL.o (List.getElem_mem _) (k3.imp fun a x h1 h2=>⟨h1,ah BL.o h2⟩);clear k1 k2 k3;have T0:Ll (p xs[k]=false->(xs.take (k+1)).any p=false):=fun h9=>uA hlt HA.o h9;have T1:Ll (p xs[k]=true->xs.any p=true):=fun h9=>xi hlt h9;obtain⟨o,ho⟩:∃ o,p xs[k]=o:=⟨_,rfl⟩
   rw[ho]at CALL T0 T1;clear ho;cases o with
   | false=>
    go_wp2_with (go_at_fn g;refine CALL.mono ?_;rintro e w1 ⟨rfl,hb⟩)
    go_roundg (xs.length - (k+1))
    case measure=>rw[GK.o];omega
    case rel=>exact⟨k+1,hlt,rfl,by go_num,aa (T0.o (by simp)),aa (ab BL.o hb)⟩
   | true=>
    go_wp2_with (go_at_fn g;refine CALL.mono ?_;rintro e w1 ⟨rfl,hb⟩)
    go_ret;refine⟨⟨k,rfl,?_⟩,ab BL.o hb⟩;rw[T1.o (by simp)];simp
  ·have d1:¬(k:Int) < (xs.length:Int):=by omega
   have Mc:k=xs.length:=by omega
   have R:Ll (xs.any p=false):=aa (by have:=HA.o;rwa [Mc,List.take_length]at this);clear Mc;go_wp2
   go_ret;exact⟨⟨-1,rfl,by rw[R.o];rfl⟩,BL.o⟩
theorem sU(w ok xs v g)(lb:Array Value)(p:aL->Bool)(h:aB w ok xs v)(eg:∀ args w,(callFunc g args).run prog w=.ok (.enter g args) w)(hp:IW w ok g lb xs p):Calls prog 160 #[v,.func (.func g) #[] lb] w fun e w'=>e=.returned (.bool (xs.any p))/\La w w':=by
 obtain⟨a,c,rfl⟩:=h.form;have C:=EG w ok xs _ g lb p h eg hp;clear h hp;go_enter func160,ntmps160;go_wp2_with (go_at_call 196;refine C.mono ?_;rintro e w1 ⟨⟨r,rfl,hr⟩,hb⟩)
 go_ret;exact⟨by rw[<-hr];rfl,hb⟩
theorem ki:∀ (a b:Lz),Lib.compareBytes a b < 0↔Op.bytesLess a b=true
 | [],[]=>by simp[Lib.compareBytes,Op.bytesLess]
 | [],_ :: _=>by simp[Lib.compareBytes,Op.bytesLess]
 | _ :: _,[]=>by simp[Lib.compareBytes,Op.bytesLess]
 | x :: a,y :: b=>by
  have ih:=ki a b;simp only[Lib.compareBytes,Op.bytesLess,Bool.or_eq_true,MJ,decide_eq_true_eq,beq_iff_eq];by_cases h1:x < y
  ·simp[h1]
  ·by_cases h2:y < x
   ·have:x≠y:=fun e=>by subst e;exact h1 h2
    simp[h1,h2,this]
   ·have:x=y:=by
     rw[UInt8.lt_iff_toNat_lt]at h1 h2;exact UInt8.toNat_inj.1 (by omega)
    simp[h1,h2,this,ih]
theorem oO:∀ (a b:Lz),Lib.compareBytes a b=0↔a=b
 | [],[]=>by simp[Lib.compareBytes]
 | [],_ :: _=>by simp[Lib.compareBytes]
 | _ :: _,[]=>by simp[Lib.compareBytes]
 | x :: a,y :: b=>by
  have ih:=oO a b;simp only[Lib.compareBytes,List.cons.injEq];by_cases h1:x < y
  ·have:x≠y:=fun e=>by subst e;exact UInt8.lt_irrefl _ h1
   simp[h1,this]
  ·by_cases h2:y < x
   ·have:x≠y:=fun e=>by subst e;exact h1 h2
    simp[h1,h2,this]
   ·have:x=y:=by
     rw[UInt8.lt_iff_toNat_lt]at h1 h2;exact UInt8.toNat_inj.1 (by omega)
    simp[h1,h2,this,ih]
def gK (ks:List Lz) (p:Lz) (lo hi:Nat):Prop:=(∀ t x,t < lo->ks[t]?=some x->Op.bytesLess x p=true)/\(∀ t x,hi<=t->ks[t]?=some x->Op.bytesLess x p=false)
theorem tR{ks p lo hi m}(hr:bD ks)(h:gK ks p lo hi)(hm:m < ks.length)(hl:Op.bytesLess ks[m] p=true):gK ks p (m+1) hi:=by
 refine⟨fun t x ht hx=>?_,h.2⟩;by_cases e:t=m
 ·subst e;rw[Mw hm]at hx;cases hx;exact hl
 ·obtain⟨ht2,rfl⟩:=Mz.1 hx;exact cP _ _ _ (List.pairwise_iff_getElem.1 hr t m ht2 hm (by omega)) hl
theorem mK{ks p lo hi m}(hr:bD ks)(h:gK ks p lo hi)(hm:m < ks.length)(hl:Op.bytesLess ks[m] p=false):gK ks p lo m:=by
 refine⟨h.1,fun t x ht hx=>?_⟩;by_cases e:t=m
 ·subst e;rw[Mw hm]at hx;cases hx;exact hl
 ·obtain⟨ht2,rfl⟩:=Mz.1 hx;cases h9:Op.bytesLess ks[t] p with
  | false=>rfl
  | true=>
   have:=cP _ _ _ (List.pairwise_iff_getElem.1 hr m t hm ht2 (by omega)) h9;rw[hl]at this;cases this
theorem jm:∀ (ks:List Lz) (p:Lz) (i:Nat),i<=ks.length->gK ks p i i->ks.countP (fun x=>Op.bytesLess x p)=i
 | [],p,i,hi,_=>by simp at hi;simp[hi]
 | a :: r,p,0,_,h=>by
  rw[List.countP_eq_zero];intro x hx;obtain⟨t,ht,rfl⟩:=List.getElem_of_mem hx;rw[h.2 t _ (Nat.zero_le _) (Mw ht)];simp
 | a :: r,p,i+1,hi,h=>by
  rw[List.countP_cons_of_pos (p:=fun x=>Op.bytesLess x p) (h.1 0 a (by omega) rfl),jm r p i (by simpa using hi) ⟨fun t x ht hx=>h.1 (t+1) x (by omega) (by simpa using hx),fun t x ht hx=>h.2 (t+1) x (by omega) (by simpa using hx)⟩]
theorem pz{ks p}(h:gK ks p i i)(hi:i < ks.length)(hr:bD ks):ks.contains p=decide (ks[i]=p):=by
 rw[Bool.eq_iff_iff,List.contains_iff_mem,decide_eq_true_eq];constructor
 ·intro hm;obtain⟨t,ht,e⟩:=List.getElem_of_mem hm;have h1:i<=t:=by
   apply Classical.byContradiction;intro h9;have:=h.1 t _ (by omega) (Mw ht);rw[e,cd]at this;cases this
  by_cases e2:t=i
  ·subst e2;exact e
  ·have h3:=List.pairwise_iff_getElem.1 hr i t hi ht (by omega);rw[e,h.2 i _ (MG _) (Mw hi)]at h3;cases h3
 ·intro e;rw[<-e];exact List.getElem_mem _
theorem mI{ks p}(h:gK ks p i i)(hi:ks.length<=i):ks.contains p=false:=by
 rw[Bool.eq_false_iff];intro hm;rw[List.contains_iff_mem]at hm;obtain⟨t,ht,e⟩:=List.getElem_of_mem hm;have:=h.1 t _ (by omega) (Mw ht);rw[e,cd]at this;cases this
theorem yg(w:LC)(ok xs v p)(h:ao w ok xs v)(hr:bD xs)(hn:xs.length < 4611686018427387904):Calls prog 155 #[v,.string ⟨p.toArray⟩,.func (.func 35) #[] #[]] w fun e w'=>e=.returned (.tuple #[.int .i64 (xs.countP (fun x=>Op.bytesLess x p):Nat),.bool (xs.contains p)])/\La w w':=by
 obtain⟨a,c,rfl⟩:=h.form;have H:=aa h;have HR:=aa hr;clear h hr;go_enter func155,ntmps155;go_wp2
 go_loopg [9,10] xs.length (fun kx s9 s10 wr=>∃ lo hi:Nat,s9=.int .i64 lo/\s10=.int .i64 hi/\lo<=hi/\hi<=xs.length/\hi - lo<=kx/\Ll (gK xs p lo hi)/\Ll (La w wr))
 case atStart=>exact⟨0,xs.length,rfl,rfl,Nat.zero_le _,MG _,by omega,aa ⟨fun t x ht=>absurd ht (Nat.not_lt_zero _),fun t x ht hx=>by rw[List.getElem?_eq_none ht]at hx;cases hx⟩,MK _ _⟩
 case round=>
  obtain⟨lo,hi,rfl,rfl,hlh,hin,hg,I,BL⟩:=hrel;by_cases hlt:lo < hi
  ·have hm:(lo+hi) / 2 < xs.length:=by omega
   obtain⟨b,off,rfl,j1,j2,k1⟩:=gQ H.o hm;unfold maxLen at j2;have c1:=ah BL.o k1;clear k1;have UP:Ll (Lib.compareBytes xs[(lo+hi) / 2] p < 0->gK xs p ((lo+hi) / 2+1) hi):=fun h9=>tR HR.o I.o hm ((ki _ _).1 h9);have DN:Ll (¬Lib.compareBytes xs[(lo+hi) / 2] p < 0->gK xs p lo ((lo+hi) / 2)):=fun h9=>mK HR.o I.o hm (by rw[Bool.eq_false_iff];exact fun h8=>h9 ((ki _ _).2 h8));have CALL:=Tryz.strCompare ⟨xs[(lo+hi) / 2].toArray⟩ ⟨p.toArray⟩ wr;simp only[List.toList_toArray]at CALL;obtain⟨r,hr⟩:∃ r,Lib.compareBytes xs[(lo+hi) / 2] p=r:=⟨_,rfl⟩
   rw[hr]at CALL UP DN;clear hr;by_cases hyx:r < 0
   ·go_wp2_with (go_at_call 35;refine CALL.mono ?_;rintro e w' ⟨rfl,hw1⟩;have hw2:=hw1.symm;subst hw2;clear hw1)
    go_roundg (hi - ((lo+hi) / 2+1))
    case measure=>omega
    case rel=>exact⟨(lo+hi) / 2+1,hi,by rw[show ((lo:Int)+(hi:Int)) / 2+1=(((lo+hi) / 2+1:Nat):Int) by omega],rfl,by omega,hin,MG _,aa (UP.o hyx),BL⟩
   ·go_wp2_with (go_at_call 35;refine CALL.mono ?_;rintro e w' ⟨rfl,hw1⟩;have hw2:=hw1.symm;subst hw2;clear hw1)
    go_roundg ((lo+hi) / 2 - lo)
    case measure=>omega
    case rel=>exact⟨lo,(lo+hi) / 2,rfl,by rw[show ((lo:Int)+(hi:Int)) / 2=(((lo+hi) / 2:Nat):Int) by omega],by omega,by omega,MG _,aa (DN.o hyx),BL⟩
  ·obtain rfl:hi=lo:=by omega
   have CN:=aa (jm xs p hi hin I.o);by_cases hn:hi < xs.length
   ·obtain⟨b,off,rfl,j1,j2,k1⟩:=gQ H.o hn;unfold maxLen at j2;have c1:=ah BL.o k1;clear k1;have HS:=aa (pz I.o hn HR.o);have E0:Ll (Lib.compareBytes xs[hi] p=0↔xs[hi]=p):=oO _ _;have CALL:=Tryz.strCompare ⟨xs[hi].toArray⟩ ⟨p.toArray⟩ wr;simp only[List.toList_toArray]at CALL;obtain⟨r,hr⟩:∃ r,Lib.compareBytes xs[hi] p=r:=⟨_,rfl⟩
    rw[hr]at CALL E0;clear hr;by_cases hyx:r=0
    ·have R:Ll (xs.contains p=true):=aa (by rw[HS.o];exact decide_eq_true (E0.o.1 hyx));subst hyx;go_wp2_with (go_at_call 35;refine CALL.mono ?_;rintro e w' ⟨rfl,hw1⟩;have hw2:=hw1.symm;subst hw2;clear hw1)
     go_ret2
     exact⟨by rw[R.o,CN.o];first | done | rfl | simp,BL.o⟩
    ·have R:Ll (xs.contains p=false):=aa (by rw[HS.o];exact decide_eq_false (fun h9=>hyx (E0.o.2 h9)));have e9:(r == 0)=false:=by rw[MO];exact hyx
     clear hyx;go_wp2_with (go_at_call 35;refine CALL.mono ?_;rintro e w' ⟨rfl,hw1⟩;have hw2:=hw1.symm;subst hw2;clear hw1)
     go_ret2
     exact⟨by rw[R.o,CN.o];first | done | rfl | simp,BL.o⟩
   ·have R:=aa (mI I.o (by omega));go_wp2
    go_ret2
    exact⟨by rw[R.o,CN.o];first | done | rfl | simp,BL.o⟩
theorem nP(w n p v):Calls prog 165 #[.agg #[.string ⟨n.toArray⟩,v],.string ⟨p.toArray⟩] w fun e w'=>e=.returned (.int .i64 (Lib.compareBytes n p))/\La w w':=by
 have CALL:Ll (∀ W,Calls prog 35 #[.string ⟨n.toArray⟩,.string ⟨p.toArray⟩] W fun e w'=>e=.returned (.int .i64 (Lib.compareBytes n p))/\w'=W):=fun W=>by
  have:=Tryz.strCompare ⟨n.toArray⟩ ⟨p.toArray⟩ W;simpa only[List.toList_toArray] using this
 obtain⟨r,hr⟩:∃ r,Lib.compareBytes n p=r:=⟨_,rfl⟩
 rw[hr]at CALL ⊢;clear hr;go_enter func165,ntmps165;go_wp2_with (go_at_call 35;refine(CALL.o _).mono ?_;rintro e w' ⟨rfl,hw1⟩;have hw2:=hw1.symm;subst hw2;clear hw1)
 go_ret;exact⟨rfl,ae _ _⟩
theorem xP(w:LC)(ok xs v p)(h:aB w ok xs v)(hr:bD (xs.map aL.name))(hn:xs.length < 4611686018427387904):Calls prog 164 #[v,.string ⟨p.toArray⟩,.func (.func 165) #[] #[]] w fun e w'=>e=.returned (.tuple #[.int .i64 (bB xs p:Nat),.bool ((xs.map aL.name).contains p)])/\La w w':=by
 obtain⟨a,c,rfl⟩:=h.form;have H:=aa h;have HR:=aa hr;have LM:(xs.map aL.name).length=xs.length:=List.length_map _;have PL:Ll (bB xs p=(xs.map aL.name).countP (fun x=>Op.bytesLess x p)):=aa (by unfold bB;rw[List.countP_map];rfl);have LMH:=aa LM;clear h hr LM;go_enter func164,ntmps164;go_wp2
 go_loopg [9,10] xs.length (fun kx s9 s10 wr=>∃ lo hi:Nat,s9=.int .i64 lo/\s10=.int .i64 hi/\lo<=hi/\hi<=xs.length/\hi - lo<=kx/\Ll (gK (xs.map aL.name) p lo hi)/\Ll (La w wr))
 case atStart=>exact⟨0,xs.length,rfl,rfl,Nat.zero_le _,MG _,by omega,aa ⟨fun t x ht=>absurd ht (Nat.not_lt_zero _),fun t x ht hx=>by rw[List.getElem?_eq_none (by rw[LMH.o];exact ht)]at hx;cases hx⟩,MK _ _⟩
 case round=>
  obtain⟨lo,hi,rfl,rfl,hlh,hin,hg,I,BL⟩:=hrel;by_cases hlt:lo < hi
  ·have hm:(lo+hi) / 2 < xs.length:=by omega
   obtain⟨b,off,pa,pc,rfl,j1,j2,k1,k2,-,-⟩:=H.o.at hm;have c1:=ah BL.o k1;have c2:=ah BL.o k2;clear k1 k2;have UP:Ll (Lib.compareBytes xs[(lo+hi) / 2].name p < 0->gK (xs.map aL.name) p ((lo+hi) / 2+1) hi):=fun h9=>tR HR.o I.o (by rw[LMH.o];exact hm) (by rw[List.getElem_map];exact(ki _ _).1 h9);have DN:Ll (¬Lib.compareBytes xs[(lo+hi) / 2].name p < 0->gK (xs.map aL.name) p lo ((lo+hi) / 2)):=fun h9=>mK HR.o I.o (by rw[LMH.o];exact hm) (by rw[List.getElem_map,Bool.eq_false_iff];exact fun h8=>h9 ((ki _ _).2 h8));have CALL:Ll (∀ W,Calls prog 165 #[.agg #[.string ⟨xs[(lo+hi) / 2].name.toArray⟩,.slice pa xs[(lo+hi) / 2].paths.length pc],.string ⟨p.toArray⟩] W fun e w'=>e=.returned (.int .i64 (Lib.compareBytes xs[(lo+hi) / 2].name p))/\La W w'):=fun W=>nP W _ p _;obtain⟨r,hr⟩:∃ r,Lib.compareBytes xs[(lo+hi) / 2].name p=r:=⟨_,rfl⟩
   rw[hr]at CALL UP DN;clear hr;by_cases hyx:r < 0
   ·go_wp2_with (go_at_call 165;refine Lk (CALL.o _) fun w' hb=>?_)
    go_roundg (hi - ((lo+hi) / 2+1))
    case measure=>omega
    case rel=>exact⟨(lo+hi) / 2+1,hi,by rw[show ((lo:Int)+(hi:Int)) / 2+1=(((lo+hi) / 2+1:Nat):Int) by omega],rfl,by omega,hin,MG _,aa (UP.o hyx),aa (ab BL.o hb)⟩
   ·go_wp2_with (go_at_call 165;refine Lk (CALL.o _) fun w' hb=>?_)
    go_roundg ((lo+hi) / 2 - lo)
    case measure=>omega
    case rel=>exact⟨lo,(lo+hi) / 2,rfl,by rw[show ((lo:Int)+(hi:Int)) / 2=(((lo+hi) / 2:Nat):Int) by omega],by omega,by omega,MG _,aa (DN.o hyx),aa (ab BL.o hb)⟩
  ·obtain rfl:hi=lo:=by omega
   have CN:Ll (bB xs p=hi):=aa (by rw[PL.o];exact jm _ p hi (by rw[LMH.o];exact hin) I.o);by_cases hn:hi < xs.length
   ·obtain⟨b,off,pa,pc,rfl,j1,j2,k1,k2,-,-⟩:=H.o.at hn;have c1:=ah BL.o k1;have c2:=ah BL.o k2;clear k1 k2;have HS:Ll ((xs.map aL.name).contains p=decide (xs[hi].name=p)):=aa (by have:=pz I.o (by rw[LMH.o];exact hn) HR.o;rwa [List.getElem_map]at this);have E0:Ll (Lib.compareBytes xs[hi].name p=0↔xs[hi].name=p):=oO _ _;have CALL:Ll (∀ W,Calls prog 165 #[.agg #[.string ⟨xs[hi].name.toArray⟩,.slice pa xs[hi].paths.length pc],.string ⟨p.toArray⟩] W fun e w'=>e=.returned (.int .i64 (Lib.compareBytes xs[hi].name p))/\La W w'):=fun W=>nP W _ p _;obtain⟨r,hr⟩:∃ r,Lib.compareBytes xs[hi].name p=r:=⟨_,rfl⟩
    rw[hr]at CALL E0;clear hr;by_cases hyx:r=0
    ·have R:Ll ((xs.map aL.name).contains p=true):=aa (by rw[HS.o];exact decide_eq_true (E0.o.1 hyx));subst hyx;go_wp2_with (go_at_call 165;refine Lk (CALL.o _) fun w' hb=>?_)
     go_ret2
     exact⟨by rw[R.o,CN.o];first | done | rfl | simp,ab BL.o hb⟩
    ·have R:Ll ((xs.map aL.name).contains p=false):=aa (by rw[HS.o];exact decide_eq_false (fun h9=>hyx (E0.o.2 h9)));have e9:(r == 0)=false:=by rw[MO];exact hyx
     clear hyx;go_wp2_with (go_at_call 165;refine Lk (CALL.o _) fun w' hb=>?_)
     go_ret2
     exact⟨by rw[R.o,CN.o];first | done | rfl | simp,ab BL.o hb⟩
   ·have R:Ll ((xs.map aL.name).contains p=false):=mI I.o (by rw[LMH.o];omega);go_wp2
    go_ret2
    exact⟨by rw[R.o,CN.o];first | done | rfl | simp,BL.o⟩
theorem qo(w:LC)(ok xs v p)(h:aB w ok xs v)(hr:bD (xs.map aL.name))(hn:xs.length < 4611686018427387904):Calls prog 133 #[v,.string ⟨p.toArray⟩] w fun e w'=>e=.returned (.tuple #[.int .i64 (bB xs p:Nat),.bool ((xs.map aL.name).contains p)])/\La w w':=by
 have C:=xP w ok xs v p h hr hn;obtain⟨a,c,rfl⟩:=h.form;generalize (xs.map aL.name).contains p=o at C ⊢;clear h hr;go_enter func133,ntmps133;go_wp2_with (go_at_call 164;refine C.mono ?_;rintro e w1 ⟨rfl,hb⟩)
 go_ret2
 exact⟨rfl,hb⟩
section
open Go.Lib (index count replaceK replaceAll split splitK)
theorem zH(LQ L v):ed LQ L v=il LQ (L.map aw) v:=by
 unfold ed il;rw[List.foldl_map]
def pd (L:List Lz) (LX:List aL) (ns:List Lz):Bool:=L.contains (aU ns) || concF LX (aU ns)
theorem pp(L LX):∀ (had:List Lz) (v:V),(∀ p∈had,oh p=true)->dj L LX had v=iI (pd L LX) (had.map aw) v
 | [],v,_=>rfl
 | p :: had,v,h=>by
  have e1:dj L LX (p :: had) v=dj L LX had (if (dr (aw p) v).isSome&&!(L.contains p || concF LX p) then gI (aw p) v else v):=rfl;have e2:iI (pd L LX) ((p :: had).map aw) v=iI (pd L LX) (had.map aw) (if (dr (aw p) v).isSome&&!pd L LX (aw p) then gI (aw p) v else v):=rfl;have e3:pd L LX (aw p)=(L.contains p || concF LX p):=by unfold pd;rw[(uM (h p (by simp))).2.2]
  rw[e1,e2,e3];exact pp L LX had _ fun q hq=>h q (by simp[hq])
theorem gz{l}(h:bp l=true):l.length<=6/\(∀ o∈l,bT o.name=true/\jj o.paths=true)/\bD (l.map aL.name):=by
 unfold bp at h;rw[MJ,MJ,decide_eq_true_eq,List.all_eq_true,gZ]at h;exact⟨h.1.1,fun o ho=>by have:=h.1.2 o ho;unfold ol at this;rwa [MJ]at this,h.2⟩
theorem Em{l}(h1:l.length<=6)(h2:∀ o∈l,bT o.name=true/\jj o.paths=true)(h3:bD (l.map aL.name)):bp l=true:=by
 unfold bp;rw[MJ,MJ,decide_eq_true_eq,List.all_eq_true,gZ];exact⟨⟨h1,fun o ho=>by unfold ol;rw[MJ];exact h2 o ho⟩,h3⟩
theorem mT{l}(h:jj l=true):l≠[]/\(∀ p∈l,oh p=true)/\bD l:=by
 unfold jj at h;rw[MJ,MJ,List.all_eq_true,gZ]at h;exact⟨fun e=>by rw[e]at h;simp at h,h.1.2,h.2⟩
theorem EY{l}(h1:l≠[])(h2:∀ p∈l,oh p=true)(h3:bD l):jj l=true:=by
 unfold jj;rw[MJ,MJ,List.all_eq_true,gZ];exact⟨⟨by cases l with | nil=>exact absurd rfl h1 | cons a r=>rfl,h2⟩,h3⟩
theorem nr{a b}(h:a.Sublist b)(hb:bD b):bD a:=List.Pairwise.sublist h hb
theorem oE{stays:Lz->Lz->Bool}{l o}(h:o∈dV stays l):∃ x∈l,o=⟨x.name,x.paths.filter (stays x.name)⟩/\o.paths≠[]:=by
 unfold dV at h;rw[List.mem_filter,List.mem_map]at h;obtain⟨⟨x,hx,rfl⟩,h⟩:=h;exact⟨x,hx,rfl,fun e=>by simp only at e;simp[e]at h⟩
theorem qB(stays:Lz->Lz->Bool)(l):((dV stays l).map aL.name).Sublist (l.map aL.name):=by
 unfold dV;have h:=(List.filter_sublist (p:=fun o:aL=>!o.paths.isEmpty) (l:=l.map fun o=>(⟨o.name,o.paths.filter (stays o.name)⟩:aL))).map aL.name;rwa [List.map_map]at h
theorem kI{stays:Lz->Lz->Bool}{l}(h:bp l=true):(∀ o∈dV stays l,bT o.name=true/\jj o.paths=true)/\bD ((dV stays l).map aL.name):=by
 obtain⟨-,h2,h3⟩:=gz h;refine⟨fun o ho=>?_,nr (qB stays l) h3⟩;obtain⟨x,hx,rfl,hne⟩:=oE ho;obtain⟨h4,h5⟩:=h2 x hx;obtain⟨-,h6,h7⟩:=mT h5;exact⟨h4,EY hne (fun p hp=>h6 p (List.mem_filter.1 hp).1) (nr List.filter_sublist h7)⟩
theorem kl:∀ (l:List aL) (n:Lz),bD (l.map aL.name)->(∀ o∈l.take (bB l n),Op.bytesLess o.name n=true)/\(∀ o∈l.drop (bB l n),Op.bytesLess o.name n=false)
 | [],n,_=>by simp
 | o :: l,n,h=>by
  unfold bD at h;rw[List.map_cons,List.pairwise_cons]at h;obtain⟨h1,h2⟩:=kl l n h.2;cases e:Op.bytesLess o.name n with
  | true=>
   have ec:bB (o :: l) n=bB l n+1:=by unfold bB;rw[List.countP_cons_of_pos (by exact e)]
   rw[ec,List.take_succ_cons,List.drop_succ_cons];refine⟨fun x hx=>?_,h2⟩;rcases List.mem_cons.1 hx with rfl | hx
   ·exact e
   ·exact h1 x hx
  | false=>
   have hz:bB (o :: l) n=0:=by
    unfold bB;rw[List.countP_eq_zero];intro x hx h9;rcases List.mem_cons.1 hx with rfl | hx
    ·rw[e]at h9;cases h9
    ·have:=cP _ _ _ (h.1 x.name (List.mem_map.2 ⟨x,hx,rfl⟩)) h9;rw[e]at this;cases this
   rw[hz,List.take_zero,List.drop_zero];refine⟨fun x hx=>(by cases hx),fun x hx=>?_⟩;rcases List.mem_cons.1 hx with rfl | hx
   ·exact e
   ·cases e9:Op.bytesLess x.name n with
    | false=>rfl
    | true=>
     have:=cP _ _ _ (h.1 x.name (List.mem_map.2 ⟨x,hx,rfl⟩)) e9;rw[e]at this;cases this
theorem qd{l o}(h:bD (l.map aL.name))(hn:∀ x∈l,x.name≠o.name):bD ((bP l o).map aL.name):=by
 unfold bP;split
 ·exact h
 ·obtain⟨h1,h2⟩:=kl l o.name h;have hl:l=l.take (bB l o.name)++l.drop (bB l o.name):=(List.take_append_drop _ _).symm;unfold bD at h ⊢;rw[hl,List.map_append,List.pairwise_append]at h;rw[List.map_append,List.map_cons,List.pairwise_append,List.pairwise_cons];obtain⟨g1,g2,g3⟩:=h;have hle:∀ b∈(l.drop (bB l o.name)).map aL.name,Op.bytesLess o.name b=true:=by
   intro b hb;obtain⟨x,hx,rfl⟩:=List.mem_map.1 hb;exact hJ _ _ (h2 x hx) (hn x (List.mem_of_mem_drop hx))
  refine⟨g1,⟨hle,g2⟩,?_⟩;intro a ha b hb;rcases List.mem_cons.1 hb with rfl | hb
  ·obtain⟨x,hx,rfl⟩:=List.mem_map.1 ha;exact h1 x hx
  ·exact g3 a ha b hb
theorem qz{l o x}:x∈bP l o↔x∈l\/o.paths≠[]/\x=o:=by
 unfold bP;split
 ·rename_i h;simp[h]
 ·rename_i h;rw[List.mem_append,List.mem_cons];conv=>rhs;rw[<-List.take_append_drop (bB l o.name) l,List.mem_append]
  constructor
  ·rintro (h1 | h1 | h1)
   ·exact .inl (.inl h1)
   ·exact .inr ⟨h,h1⟩
   ·exact .inl (.inr h1)
  ·rintro ((h1 | h1) | ⟨-,h1⟩)
   ·exact .inl h1
   ·exact .inr (.inr h1)
   ·exact .inr (.inl h1)
theorem DJ{l:List aL}(h:bD (l.map aL.name)){x y:aL}(hx:x∈l)(hy:y∈l)(e:x.name=y.name):x=y:=by
 induction l with
 | nil=>cases hx
 | cons o l ih=>
  unfold bD at h;rw[List.map_cons,List.pairwise_cons]at h;have no:∀ z∈l,o.name≠z.name:=fun z hz e9=>by
   have:=h.1 z.name (List.mem_map.2 ⟨z,hz,rfl⟩);rw[e9,cd]at this;cases this
  rcases List.mem_cons.1 hx with hx1 | hx1 <;> rcases List.mem_cons.1 hy with hy1 | hy1
  ·rw[hx1,hy1]
  ·rw[hx1]at e;exact absurd e (no y hy1)
  ·rw[hy1]at e;exact absurd e.symm (no x hx1)
  ·exact ih h.2 hx1 hy1
theorem wK{l}(h:bD (l.map aL.name)){o}(ho:o∈l):cq l o.name=o.paths:=by
 unfold cq;cases e:l.find? (fun x=>x.name == o.name) with
 | none=>
  rw[List.find?_eq_none]at e;exact absurd (e o ho) (by simp)
 | some y=>
  have h1:=List.mem_of_find?_eq_some e;have h2:=List.find?_some e;rw[beq_iff_eq]at h2;rw[DJ h h1 ho h2]
theorem pk{l who}(h:∀ o∈l,o.name≠who):cq l who=[]:=by
 unfold cq;cases e:l.find? (fun x=>x.name == who) with
 | none=>rfl
 | some y=>
  have h2:=List.find?_some e;rw[beq_iff_eq]at h2;exact absurd h2 (h y (List.mem_of_find?_eq_some e))
theorem lB{l}(h:bp l=true)(who):∀ p∈cq l who,oh p=true:=by
 intro p hp;unfold cq at hp;cases e:l.find? (fun x=>x.name == who) with
 | none=>rw[e]at hp;cases hp
 | some y=>
  rw[e]at hp;exact(mT ((gz h).2.1 y (List.mem_of_find?_eq_some e)).2).2.1 p hp
structure vh (v:V) (l:List aL) (who:Lz) (LQ:V):Prop where
 vk:v.kind=5
 vg:aE v=true
 wk:LQ.kind=5
 wg:aE LQ=true
 lg:bp l=true
 whog:bT who=true
theorem mA{v LQ l who}:∀ o∈cG v LQ l who,o.name≠who:=by
 intro o ho e;obtain⟨x,hx,rfl,hne⟩:=oE ho;apply hne;simp only at e ⊢;rw[List.filter_eq_nil_iff];intro p _;simp[e]
theorem rF{v l who LQ}(h:vh v l who LQ):gO v LQ l who=il LQ ((au LQ).map aw) (iI (pd (au LQ) (cG v LQ l who)) ((cq l who).map aw) v):=by
 unfold gO;rw[zH,pp _ _ _ _ (lB h.lg who)]
theorem vh.cleared{v l who LQ}(h:vh v l who LQ)(keep:List Lz->Bool):fL (iI keep ((cq l who).map aw) v)/\(iI keep ((cq l who).map aw) v).kind=5:=
 mS _ _ (fun p hp=>by obtain⟨q,hq,rfl⟩:=List.mem_map.1 hp;exact(uM (lB h.lg who q hq)).2.1) (kg h.vg) h.vk
theorem vh.lv{v l who LQ}(h:vh v l who LQ):uq LQ (au LQ):=mM h.wk h.wg
theorem vh.at{v l who LQ}(h:vh v l who LQ){ns}(hn:ns∈(au LQ).map aw):∃ y,dr ns (gO v LQ l who)=some y/\(y=(dr ns LQ).getD aM\/y.kind=5/\((dr ns LQ).getD aM).kind=5):=by
 rw[rF h,rL (kg h.wg) _ _ h.lv.apart (h.cleared _).1 hn];refine⟨_,rfl,?_⟩;split
 ·rename_i hc;exact .inr hc
 ·exact .inl rfl
theorem FY{LQ v p}(h:dr (aw p) v=some y)(hy:y=(dr (aw p) LQ).getD aM\/y.kind=5/\((dr (aw p) LQ).getD aM).kind=5):fK LQ v p=false:=by
 unfold fK;rw[h];simp only;rcases hy with hy | hy
 ·simp[hy]
 ·rw[decide_eq_true hy.1,decide_eq_true hy.2];simp
theorem Ca{LQ v p}(h:fK LQ v p=false):∃ y,dr (aw p) v=some y/\(y=(dr (aw p) LQ).getD aM\/y.kind=5/\((dr (aw p) LQ).getD aM).kind=5):=by
 unfold fK at h;cases e:dr (aw p) v with
 | none=>rw[e]at h;cases h
 | some y=>
  rw[e]at h;simp only[Bool.and_eq_false_iff,Bool.not_eq_false',MJ,decide_eq_true_eq]at h;exact⟨y,rfl,h⟩
theorem vF(stays:Lz->Lz->Bool)(a b):dV stays (a++b)=dV stays a++dV stays b:=by simp[dV]
theorem ug{v l who LQ force w m}{c:List (Lz × Lz)}(h:eC v l who LQ force=(w,m,c,0)):vh v l who LQ/\w=gO v LQ l who/\m=bP (cG v LQ l who) ⟨who,au LQ⟩/\c=[]/\aE w=true/\m.length<=6/\(force=false->eu (aV LQ v (au LQ)) who l=[]):=by
 unfold eC at h;split at h
 ·rename_i h1;split at h
  ·simp at h
  ·rename_i h2;split at h
   ·rename_i h3;simp only[Prod.mk.injEq]at h;obtain⟨rfl,rfl,rfl,-⟩:=h;refine⟨⟨h1.1.1,h1.1.2,h1.2.1.1,h1.2.1.2,h1.2.2.1,h1.2.2.2⟩,rfl,rfl,rfl,h3.1,h3.2,fun hf=>?_⟩;apply Classical.byContradiction;intro h9;exact h2 ⟨h9,hf⟩
   ·simp at h
 ·simp at h
theorem yZ{v l who LQ force w m}{c:List (Lz × Lz)}(h:eC v l who LQ force=(w,m,c,0)):bp m=true/\cq m who=au LQ/\w.kind=5:=by
 obtain⟨A,hw,hm,-,hg,h6,-⟩:=ug h;obtain⟨k1,k2⟩:=kI (stays:=fun n p=>n != who&&!aV LQ v (au LQ) p) A.lg;have hr:bD (m.map aL.name):=by rw[hm];exact qd k2 mA
 refine⟨Em h6 (fun o ho=>?_) hr,?_,?_⟩
 ·rw[hm,qz]at ho;rcases ho with ho | ⟨h1,rfl⟩
  ·exact k1 o ho
  ·exact⟨A.whog,EY h1 A.lv.good A.lv.rises⟩
 ·by_cases he:au LQ=[]
  ·rw[he];refine pk fun o ho=>?_;rw[hm,qz]at ho;rcases ho with ho | ⟨h1,-⟩
   ·exact mA o ho
   ·exact absurd he h1
  ·have hin:(⟨who,au LQ⟩:aL)∈m:=by rw[hm,qz];exact .inr ⟨he,rfl⟩
   exact wK hr hin
 ·rw[hw,rF A];exact(qj (kg A.wg) _ _ (fun a ha=>Gt ((A.lv.names a).1 ha)) (A.cleared _).1 (A.cleared _).2).2
end
def fa:V->Nat
 | ⟨_,_,_,_,l⟩=>1+(l.map fa).sum
def cnts (xs:List V):Nat:=(xs.map fa).sum
theorem qf:cnts []=0:=rfl
theorem er(x xs):cnts (x :: xs)=fa x+cnts xs:=by simp[cnts]
theorem df(t):fa t=1+cnts t.l:=by cases t;rw[fa];rfl
theorem iV{xs:List V}(h:k < xs.length):cnts (xs.drop k)=fa xs[k]+cnts (xs.drop (k+1)):=by
 rw[ME h,er]
theorem uF:∀ (xs:List V),xs.length<=cnts xs
 | []=>MG _
 | x :: xs=>by
  have:=uF xs;have:=df x;rw[er,My];omega
theorem pC{xs}(h:x∈xs):fa x<=cnts xs:=by
 induction xs with
 | nil=>cases h
 | cons y xs ih=>
  rw[er];rcases List.mem_cons.1 h with rfl | h
  ·omega
  ·have:=ih h;omega
theorem JQ(D):∀ (t:V),fO D t->fa t=qJ D t:=by
 induction D with
 | zero=>intro t h;exact h.elim
 | succ D ih=>
  intro t h;rw[df,qJ];congr 1
  obtain⟨-,h⟩:=h;generalize t.l=l at h;induction l with
  | nil=>rfl
  | cons y l ihl=>
   rw[er,ih y (h y (by simp)),ihl fun x hx=>h x (by simp[hx])];simp
theorem gE(h:dz t):fa t<=120:=by
 obtain⟨D,h1,h2⟩:=h;rw[JQ D t h1];exact h2
def mu (ls:List (List V)):Nat:=(ls.map fun l=>1+cnts l).sum
theorem sP(ls:List (List V))(l):mu (ls++[l])=mu ls+(1+cnts l):=by simp[mu]
theorem Jo(ls:List (List V)):ls.length<=mu ls:=by
 unfold mu;induction ls with
 | nil=>simp
 | cons l ls ih=>simp only[List.map_cons,List.sum_cons,My];omega
def bJ (w:LC) (ok:Nat->Prop) (xs:List V) (v:Value):Prop:=In w ok ⟨0,0,[],[],xs⟩ (.agg #[.int .i64 0,.int .i64 0,.string ⟨#[]⟩,.slice none 0 0,v])
theorem bJ.bel{xs}(h:bJ w ok xs v)(hb:La w w'):bJ w' ok xs v:=In.bel h hb
theorem bJ.weak{xs}(h:bJ w ok xs v)(hk:∀ k,ok k->ok' k):bJ w ok' xs v:=In.weak h hk
theorem bJ.grown{xs}(h:bJ w ok xs v)(hg:w.grownBy w' (some g))(hr:∀ k,ok k->k≠g):bJ w' ok xs v:=In.grown h hg hr
theorem bJ.form{xs}(h:bJ w ok xs v):∃ a c,v=.slice a xs.length c:=by
 obtain⟨a7,a8,c7,c8,e⟩:=In.form h;simp only[Value.agg.injEq,Array.mk.injEq,List.cons.injEq,and_true]at e;exact⟨a8,c8,e.2.2.2.2⟩
theorem bJ.len{xs}(h:bJ w ok xs v):xs.length<=9223372036854775807:=(In.lens h).2.1
theorem In.vals{k n s ks ls}(h:In w ok t (.agg #[k,n,s,ks,ls])):bJ w ok t.l ls:=by
 obtain⟨d,h⟩:=h.at;obtain⟨ks',ls',e,-,-,-,-,h5⟩:=h;simp only[Value.agg.injEq,Array.mk.injEq,List.cons.injEq,and_true]at e;obtain⟨-,-,-,-,rfl⟩:=e;exact⟨d+1,_,_,rfl,by unfold dW;simp,by unfold dW;simp,by simp[maxLen],⟨by simp[maxLen],.inl ⟨rfl,none,rfl⟩⟩,h5⟩
theorem bJ.item{xs a m}(h:bJ w ok xs (.slice a m c))(hi:i < xs.length):∃ b off a5 c5 a6 c6,a=some ⟨b,off,none⟩/\xs.length<=c/\c<=9223372036854775807/\w.cell? ⟨b,off+i * 5,none⟩=some (.int .i64 xs[i].kind)/\w.cell? ⟨b,off+i * 5+1,none⟩=some (.int .i64 xs[i].n)/\w.cell? ⟨b,off+i * 5+2,none⟩=some (.string ⟨xs[i].s.toArray⟩) /\
 w.cell? ⟨b,off+i * 5+3,none⟩=some (.slice a5 xs[i].keys.length c5)/\w.cell? ⟨b,off+i * 5+4,none⟩=some (.slice a6 xs[i].l.length c6)/\In w ok xs[i] (.agg #[.int .i64 xs[i].kind,.int .i64 xs[i].n,.string ⟨xs[i].s.toArray⟩,.slice a5 xs[i].keys.length c5,.slice a6 xs[i].l.length c6]):=
 In.item h hi
theorem bJ.blk{xs b off m}(h:bJ w ok xs (.slice (some ⟨b,off,none⟩) m c))(hi:i < xs.length):ok b:=by
 obtain⟨d,h⟩:=In.at h;obtain⟨ks',ls,e,-,-,-,-,h5⟩:=h;simp only[Value.agg.injEq,Array.mk.injEq,List.cons.injEq,and_true]at e;obtain⟨-,-,-,-,rfl⟩:=e;obtain⟨-,h5⟩:=h5;rcases h5 with⟨e,_⟩ | ⟨b',off',c',e,h1,h2,Mb⟩
 ·simp only at e;rw[e]at hi;simp at hi
 ·simp only[Value.slice.injEq,Option.some.injEq,Addr.mk.injEq]at e;obtain⟨⟨rfl,-,-⟩,-,-⟩:=e;obtain⟨_,_,_,_,_,g,_⟩:=Mb i xs[i] (Mw hi);exact g
theorem Fd{c0 c1 c2 c3 c4}(h:In w ok t (.agg #[c0,c1,c2,c3,c4]))(hb:ag w g c0 c1 c2 c3 c4)(hok:ok g):bJ w ok [t] (.slice (some ⟨g,0,none⟩) 1 1):=by
 obtain⟨d,h⟩:=h;obtain⟨b0,b1,b2,b3,b4,-⟩:=hb.c;refine⟨d+1,_,_,rfl,by unfold dW;simp,by unfold dW;simp,by simp[maxLen],⟨by simp[maxLen],.inl ⟨rfl,none,rfl⟩⟩,by simp[maxLen],.inr ⟨g,0,1,rfl,by simp,by simp[maxLen],?_⟩⟩;intro i x hx;cases i with
 | zero=>
  simp only[List.getElem?_cons_zero,Option.some.injEq]at hx;subst hx;exact⟨c0,c1,c2,c3,c4,hok,by simpa using b0,by simpa using b1,by simpa using b2,by simpa using b3,by simpa using b4,h⟩
 | succ i=>simp at hx
theorem Gi{e:TypeId}{size xs}(h:w.ownsRow B e size v n xs)(hb:La w w'):w'.ownsRow B e size v n xs:=h.kept (aq (r:=none) hb) (by cases v.ownBlock <;> simp)
def gq (w:LC) (ok:Nat->Prop) (ls:List (List V)) (cs:List Value):Prop:=cs.length=ls.length/\∀ (j:Nat) (l:List V) (c:Value),ls[j]?=some l->cs[j]?=some c->bJ w ok l c
theorem gq.imp{ls:List (List V)}{cs}(h:gq w ok ls cs)(hi:∀ l c,bJ w ok l c->bJ w' ok l c):gq w' ok ls cs:=
 ⟨h.1,fun j l c h1 h2=>hi l c (h.2 j l c h1 h2)⟩
theorem gq.push{ls:List (List V)}{cs}(h:gq w ok ls cs){l c}(hl:bJ w ok l c):gq w ok (ls++[l]) (cs++[c]):=by
 refine⟨by simp[h.1],fun j l' c' h1 h2=>?_⟩;by_cases hj:j < ls.length
 ·rw[List.getElem?_append_left hj]at h1;rw[List.getElem?_append_left (by rw[h.1];exact hj)]at h2;exact h.2 j l' c' h1 h2
 ·have:j < (ls++[l]).length:=(Mz.1 h1).1;simp only[Mx,My,List.length_nil]at this;have e:j=ls.length:=by omega
  subst e;rw[List.getElem?_append_right (by omega)]at h1;rw[List.getElem?_append_right (by rw[h.1];omega)]at h2;simp only[Nat.sub_self,List.getElem?_cons_zero,Option.some.injEq]at h1;rw[h.1]at h2;simp only[Nat.sub_self,List.getElem?_cons_zero,Option.some.injEq]at h2;rw[<-h1,<-h2];exact hl
theorem gq.pop{ls:List (List V)}{l cs}(h:gq w ok (ls++[l]) cs):∃ ds c,cs=ds++[c]/\gq w ok ls ds/\bJ w ok l c:=by
 have hl:cs.length=ls.length+1:=by simpa using h.1
 obtain⟨ds,c,rfl⟩:∃ ds c,cs=ds++[c]:=⟨cs.dropLast,cs.getLast (by intro e;rw[e]at hl;simp at hl),(List.dropLast_concat_getLast _).symm⟩
 have hd:ds.length=ls.length:=by simpa using hl
 refine⟨ds,c,rfl,⟨hd,fun j l' c' h1 h2=>?_⟩,?_⟩
 ·have h3:=(Mz.1 h1).1;exact h.2 j l' c' (by rw[List.getElem?_append_left h3];exact h1) (by rw[List.getElem?_append_left (by omega)];exact h2)
 ·exact h.2 ls.length l c (by simp) (by rw[<-hd];simp)
def ev (w:LC) (B:Nat) (ok:Nat->Prop) (ls:List (List V)) (g cap:Nat):Prop:=
 ∃ cs,w.ownsRow B 37 1 (.slice (some ⟨g,0,none⟩) ls.length cap) ls.length cs/\gq w ok ls cs/\∀ k,ok k->k≠g
theorem ev.lt{ls:List (List V)}{cap}(h:ev w B ok ls g cap):B<=g/\g < w.heap.size:=by
 obtain⟨cs,h,-,-⟩:=h;rcases h.2 with⟨e,_⟩ | ⟨g',cap',cur,e,h1,h2,_⟩
 ·cases e
 ·cases e;exact⟨h1,(MF.1 h2).1⟩
theorem ev.cap{ls:List (List V)}{cap}(h:ev w B ok ls g cap):ls.length<=cap/\cap<=9223372036854775807:=by
 obtain⟨cs,h,-,-⟩:=h;rcases h.2 with⟨e,_⟩ | ⟨g',cap',cur,e,h1,h2,h3,h4,_⟩
 ·cases e
 ·cases e;exact⟨h3,h4⟩
theorem ev.bel{ls:List (List V)}{cap}(h:ev w B ok ls g cap)(hb:La w w'):ev w' B ok ls g cap:=by
 obtain⟨cs,h1,h2,h3⟩:=h;exact⟨cs,Gi h1 hb,h2.imp fun _ _ h=>h.bel hb,h3⟩
theorem ev.far{ls:List (List V)}{cap g'}(h:ev w B ok ls g cap)(hg:w.grownBy w' (some g'))(hne:g≠g')(hok:∀ k,ok k->k≠g'):ev w' B ok ls g cap:=by
 obtain⟨cs,h1,h2,h3⟩:=h;exact⟨cs,h1.kept hg (by simp[Value.ownBlock,hne]),h2.imp fun _ _ h=>h.grown hg hok,h3⟩
theorem ev.pop{ls:List (List V)}{l cap}(h:ev w B ok (ls++[l]) g cap):∃ c,w.cell? ⟨g,ls.length,none⟩=some c/\bJ w ok l c/\ev w B ok ls g cap:=by
 obtain⟨cs,h1,h2,h3⟩:=h;obtain⟨ds,c,rfl,h4,h5⟩:=h2.pop;rcases h1.2 with⟨e,_⟩ | ⟨g',cap',cur,e,q1,q2,q3,q4,q5,q6⟩
 ·cases e
 ·cases e;have hl:ds.length=ls.length:=h4.1;simp only[Mx,My,List.length_nil,Nat.mul_one]at q3 q6;refine⟨c,?_,h5,ds,⟨by simp[hl],.inr ⟨g,cap,cur,rfl,q1,q2,by omega,q4,q5,?_⟩⟩,h4,h3⟩
  ·have:cur.toList[ls.length]?=some c:=by
    have e9:(cur.toList.take (ls.length+(0+1)))[ls.length]?=(ds++[c])[ls.length]?:=by rw[q6]
    rw[List.getElem?_take_of_lt (by omega)]at e9;rw[e9,<-hl];simp
   simp only[World.cell?,q2];simpa using this
  ·have:=congrArg (List.take ls.length) q6;rw[List.take_take,Nat.min_eq_left (by omega),List.take_append_of_le_length (by omega),MD (show ds.length<=ls.length by omega)]at this;simpa using this
theorem Ti:(prog.info? 37).map (fun i=>(i.zero,i.size,i.bytes))=some (some (.slice none 0 0),1,24):=by kernel_rfl
theorem Fm{ls:List (List V)}{cap nb l c}(hW:ev w B ok ls g cap)(hnb:w.heap[nb]?=some (.cells #[c] 37))(hv:bJ w ok l c)(hn:ls.length<=5000000000000)(hlow:∀ k,ok k->k < w.heap.size)(ty:TypeId):∃ g' cap' w',(Builtin.append_ #[86,86] ty #[.slice (some ⟨g,0,none⟩) ls.length cap,.slice (some ⟨nb,0,none⟩) 1 1]).run prog w=.ok (.slice (some ⟨g',0,none⟩) (ls.length+1) cap') w'/\ev w' B ok (ls++[l]) g' cap'/\w.grownBy w' (some g)/\(g'=g\/w.heap.size=g'):=by
 obtain⟨i0,hi,hz0,hz1,hz2⟩:=info_parts Ti;have hgl:=hW.lt;obtain⟨cs,h1,h2,h3⟩:=hW;obtain⟨a9,c9,rfl⟩:=hv.form;obtain⟨g',cap',w',hr,ho,hg,hat,hlt⟩:=run_append_lies (P:=prog) w 86 ty B 37 i0 _ 1 24 underlying86 hi hz0 hz1 hz2 rfl (by decide) _ ls.length cs h1 ⟨nb,0,none⟩ 1 1 [.slice a9 l.length c9] rfl
  (World.news_of_block (cs:=#[.slice a9 l.length c9]) hnb) (by intro u hu;simp only[List.mem_cons,List.not_mem_nil,or_false]at hu;subst hu;rfl) (by decide) (by unfold maxLen;omega) (by omega) (by omega) w.heap.size rfl
 have hgb:w.grownBy w' (some g):=by simpa [Value.ownBlock] using hg
 refine⟨g',cap',w',hr,⟨cs++[.slice a9 l.length c9],by simpa using ho,(h2.imp fun _ _ h=>h.grown hgb h3).push (hv.grown hgb h3),?_⟩,hgb,?_⟩
 ·intro k hk;rcases hat with hat | hat
  ·simp only[Value.ownBlock,Option.some.injEq]at hat;rw[<-hat];exact h3 k hk
  ·have:=hlow k hk;omega
 ·rcases hat with hat | hat
  ·simp only[Value.ownBlock,Option.some.injEq]at hat;exact .inl hat.symm
  ·exact .inr hat.symm
theorem Io{o:Oper}{a}{K:Act->LC->Prop}{Q:Exit->Act->LC->Prop}(s x:Operand)(ho:o.op=.call { callee:=.builtin .append,args:=#[s,x],argTypes:=#[86,86] }){ls:List (List V)}{cap nb l c}(hs:a.eval s=.slice (some ⟨g,0,none⟩) ls.length cap)(hx:a.eval x=.slice (some ⟨nb,0,none⟩) 1 1)(hW:ev w B ok ls g cap)(hnb:w.heap[nb]?=some (.cells #[c] 37))(hv:bJ w ok l c)(hn:ls.length<=5000000000000)(hlow:∀ k,ok k->k < w.heap.size)(hK:∀ g' cap' w',ev w' B ok (ls++[l]) g' cap'->w.grownBy w' (some g)->(g'=g\/w.heap.size=g')->K (a.put o.dst (.slice (some ⟨g',0,none⟩) (ls.length+1) cap')) w'):o.wp prog a w K Q:=by
 obtain⟨g',cap',w',hr,h2,h3,h4⟩:=Fm hW hnb hv hn hlow o.type;unfold Oper.wp execOp;simp only[ho,resolve,invoke,builtin,Sem.run_bind,Sem.run_pure,Result.andThen_ok,List.map_toArray,List.map_cons,List.map_nil,hs,hx,hr];exact hK g' cap' w' h2 h3 h4
theorem kG{ops:Array Oper}{o:Oper}{a}{K:Act->LC->Prop}{Q:Exit->Act->LC->Prop}{E:Prop}(hgd:o.guard=none)(s x:Operand)(ho:o.op=.call { callee:=.builtin .append,args:=#[s,x],argTypes:=#[86,86] }){ls:List (List V)}{cap nb l c}(hs:a.eval s=.slice (some ⟨g,0,none⟩) ls.length cap)(hx:a.eval x=.slice (some ⟨nb,0,none⟩) 1 1)(hW:ev w B ok ls g cap)(hnb:w.heap[nb]?=some (.cells #[c] 37))(hv:bJ w ok l c)(hn:ls.length<=5000000000000)(hlow:∀ k,ok k->k < w.heap.size)(hK:∀ g' cap' w',ev w' B ok (ls++[l]) g' cap'->w.grownBy w' (some g)->(g'=g\/w.heap.size=g')->K (a.put o.dst (.slice (some ⟨g',0,none⟩) (ls.length+1) cap')) w'):if Region.wanted o (yielded ops a.tmps)=true then Oper.wp prog o a w K Q else E:=by
 have hw:Region.wanted o (yielded ops a.tmps)=true:=by simp[Region.wanted,hgd]
 rw[if_pos hw];exact Io s x ho hs hx hW hnb hv hn hlow hK
variable {W:World}
def kw (ok:Nat->Prop) (B i:Nat):Nat->Prop:=fun k=>(ok k/\k < B)\/k=i
theorem JB{H}(h1:B<=H)(h2:i < H):∀ k,kw ok B i k->k < H:=by
 intro k hk;rcases hk with hk | hk <;> omega
theorem iL(h1:B<=g)(h2:i≠g):∀ k,kw ok B i k->k≠g:=by
 intro k hk;rcases hk with hk | hk <;> omega
theorem aj{a}(h:La a w)(o:Obj):La a (w.alloc o):=ab h (ae w o)
theorem ai{a}(h:La a w):La a w.drew:=h.drew
theorem IL{a}(h:La a w):a.heap.size<=w.heap.size:=h.size
theorem Gf{a g'}(h:La a w)(q:w.grownBy w' (some g))(o:g'=g\/w.heap.size=g'):a.grownBy w' (some g)/\(g'=g\/a.heap.size<=g'):=
 ⟨am (aq h) q,o.imp id fun e=>by have:=h.size;omega⟩
theorem dt{v:Obj}(h:w.heap[k]?=some v)(o:Obj):(w.alloc o).heap[k]?=some v:=
 ((World.grownBy_alloc w o none).block k (MF.1 h).1 (by simp)).trans h
theorem bI(w:LC)(o1 o2 o3 o4 o5 o6:Obj)(i)(hi:i < 6):((((((w.alloc o1).alloc o2).alloc o3).alloc o4).alloc o5).alloc o6).heap[w.heap.size+i]?=[o1,o2,o3,o4,o5,o6][i]?:=by
 rcases (show i=0\/i=1\/i=2\/i=3\/i=4\/i=5 by omega) with rfl | rfl | rfl | rfl | rfl | rfl
 ·exact dt (dt (dt (dt (dt (MN w o1) _) _) _) _) _
 ·exact dt (dt (dt (dt (by simpa using MN (w.alloc o1) o2) _) _) _) _
 ·exact dt (dt (dt (by simpa using MN ((w.alloc o1).alloc o2) o3) _) _) _
 ·exact dt (dt (by simpa using MN (((w.alloc o1).alloc o2).alloc o3) o4) _) _
 ·exact dt (by simpa using MN ((((w.alloc o1).alloc o2).alloc o3).alloc o4) o5) _
 ·simpa using MN (((((w.alloc o1).alloc o2).alloc o3).alloc o4).alloc o5) o6
def SE (w:LC) (ok ok':Nat->Prop) (ia ib:Nat) (ls rs:List (List V)) (gL gR cL cR:Nat) (wr:LC):Prop:=
 ev wr w.heap.size (kw ok w.heap.size ia) ls gL cL/\ev wr w.heap.size (kw ok' w.heap.size ib) rs gR cR/\gL≠gR/\ia≠gL/\ia≠gR/\ib≠gL/\ib≠gR/\ia < wr.heap.size/\ib < wr.heap.size/\La w wr
theorem SE.bel{wr':LC}{ia ib}{ls rs:List (List V)}{gL gR cL cR}(h:SE w ok ok' ia ib ls rs gL gR cL cR wr)(hb:La wr wr'):SE w ok ok' ia ib ls rs gL gR cL cR wr':=by
 obtain⟨h3,h4,h5,h6,h7,h8,h9,h10,h11,h12⟩:=h;exact⟨h3.bel hb,h4.bel hb,h5,h6,h7,h8,h9,MI h10 hb.size,MI h11 hb.size,ab h12 hb⟩
theorem SE.swap{ia ib}{ls rs:List (List V)}{gL gR cL cR}(h:SE w ok ok' ia ib ls rs gL gR cL cR wr):SE w ok' ok ib ia rs ls gR gL cR cL wr:=by
 obtain⟨h3,h4,h5,h6,h7,h8,h9,h10,h11,h12⟩:=h;exact⟨h4,h3,h5.symm,h9,h8,h7,h6,h11,h10,h12⟩
theorem SE.lows{ia ib}{ls rs:List (List V)}{gL gR cL cR}(h:SE w ok ok' ia ib ls rs gL gR cL cR wr):∀ k,kw ok w.heap.size ia k->k < wr.heap.size:=JB h.2.2.2.2.2.2.2.2.2.size h.2.2.2.2.2.2.2.1
theorem vJ{w4 w5 w6:LC}{ia ib}{ls rs:List (List V)}{gL gR cL cR g5 g6 c5 c6 lx ly}(h:SE w ok ok' ia ib ls rs gL gR cL cR w4)(q5:w4.grownBy w5 (some gL))(h5:ev w5 w.heap.size (kw ok w.heap.size ia) (ls++[lx]) g5 c5)(o5:g5=gL\/w4.heap.size<=g5)(q6:w5.grownBy w6 (some gR))(h6:ev w6 w.heap.size (kw ok' w.heap.size ib) (rs++[ly]) g6 c6)(o6:g6=gR\/w5.heap.size<=g6):SE w ok ok' ia ib (ls++[lx]) (rs++[ly]) g5 g6 c5 c6 w6:=by
 obtain⟨h3,h4,e1,e2,e3,e4,e5,e6,e7,hB⟩:=h;have l3:=h3.lt;have l4:=h4.lt;have l5:=h5.lt;have s5:=q5.size;have s6:=q6.size;have hn:g5≠gR:=by omega
 refine⟨h5.far q6 hn (iL l4.1 e3),h6,by omega,by omega,by omega,by omega,by omega,by omega,by omega,?_⟩;exact bS (lC (lC (aq hB) q5 l3.1) q6 l4.1)
def SI (w:LC) (ok ok':Nat->Prop) (ia ib:Nat) (ls rs:List (List V)) (lv rv:Value) (wr:LC):Prop:=
 ∃ gL gR cL cR,lv=.slice (some ⟨gL,0,none⟩) ls.length cL/\rv=.slice (some ⟨gR,0,none⟩) rs.length cR/\SE w ok ok' ia ib ls rs gL gR cL cR wr
theorem SI.bel{wr':LC}{ia ib}{ls rs:List (List V)}{lv rv}(h:SI w ok ok' ia ib ls rs lv rv wr)(hb:La wr wr'):SI w ok ok' ia ib ls rs lv rv wr':=by
 obtain⟨gL,gR,cL,cR,h1,h2,h3⟩:=h;exact⟨gL,gR,cL,cR,h1,h2,h3.bel hb⟩
theorem Iv{t:TypeId}(h:w.heap[g]?=some (.cells #[v] t))(hB:B<=g):w.ownsRow B t 1 (.slice (some ⟨g,0,none⟩) 1 1) 1 [v]:=
 ⟨rfl,.inr ⟨g,1,#[v],rfl,hB,h,MG _,by simp[maxLen],rfl,rfl⟩⟩
theorem uB{c0 c1 c2 c3 c4}(hx:In w (kw ok B i) t (.agg #[c0,c1,c2,c3,c4]))(h1:ag w i c0 c1 c2 c3 c4)(h2:w.heap[g]?=some (.cells #[.slice (some ⟨i,0,none⟩) 1 1] 37))(hB:B<=g)(hne:i≠g):ev w B (kw ok B i) [[t]] g 1:=by
 refine⟨[.slice (some ⟨i,0,none⟩) 1 1],Iv h2 hB,⟨rfl,?_⟩,iL hB hne⟩;intro j l c h3 h4;cases j with
 | zero=>
  simp only[List.getElem?_cons_zero,Option.some.injEq]at h3 h4;subst h3 h4;exact Fd hx h1 (.inr rfl)
 | succ j=>simp at h3
theorem iU{ia ib gL gR a b a0 a1 a2 a3 a4 b0 b1 b2 b3 b4}(ha:In w ok a (.agg #[a0,a1,a2,a3,a4]))(hb:In w ok' b (.agg #[b0,b1,b2,b3,b4]))(hB:La w W)(h1:W.heap[gL]?=some (.cells #[.slice (some ⟨ia,0,none⟩) 1 1] 37))(h2:W.heap[gR]?=some (.cells #[.slice (some ⟨ib,0,none⟩) 1 1] 37))(h3:ag W ia a0 a1 a2 a3 a4)(h4:ag W ib b0 b1 b2 b3 b4)(hn:gL≠gR/\ia≠gL/\ia≠gR/\ib≠gL/\ib≠gR/\w.heap.size<=gL/\w.heap.size<=gR):SI w ok ok' ia ib [[a]] [[b]] (.slice (some ⟨gL,0,none⟩) 1 1) (.slice (some ⟨gR,0,none⟩) 1 1) W:=by
 obtain⟨n1,n2,n3,n4,n5,n6,n7⟩:=hn;have k1:In W (kw ok w.heap.size ia) a (.agg #[a0,a1,a2,a3,a4]):=(ha.low.bel hB).weak fun k hk=>.inl hk;have k2:In W (kw ok' w.heap.size ib) b (.agg #[b0,b1,b2,b3,b4]):=(hb.low.bel hB).weak fun k hk=>.inl hk;exact⟨gL,gR,1,1,rfl,rfl,uB k1 h3 h1 n6 n2,uB k2 h4 h2 n7 n5,n1,n2,n3,n4,n5,h3.lt,h4.lt,hB⟩
def PL (ls rs:List (List V)):Prop:=rs.length=ls.length/\∀ (j:Nat) (l r:List V),ls[j]?=some l->rs[j]?=some r->r.length=l.length
theorem PL.push{ls rs:List (List V)}(h:PL ls rs){l r}(hl:r.length=l.length):PL (ls++[l]) (rs++[r]):=by
 refine⟨by simp[h.1],fun j l' r' h1 h2=>?_⟩;by_cases hj:j < ls.length
 ·rw[List.getElem?_append_left hj]at h1;rw[List.getElem?_append_left (by rw[h.1];exact hj)]at h2;exact h.2 j l' r' h1 h2
 ·have:j < (ls++[l]).length:=(Mz.1 h1).1;simp only[Mx,My,List.length_nil]at this;have e:j=ls.length:=by omega
  subst e;rw[List.getElem?_append_right (by omega)]at h1;rw[List.getElem?_append_right (by rw[h.1];omega)]at h2;simp only[Nat.sub_self,List.getElem?_cons_zero,Option.some.injEq]at h1;rw[h.1]at h2;simp only[Nat.sub_self,List.getElem?_cons_zero,Option.some.injEq]at h2;rw[<-h1,<-h2];exact hl
theorem PL.pop{ls rs:List (List V)}{l}(h:PL (ls++[l]) rs):∃ qs r,rs=qs++[r]/\PL ls qs/\r.length=l.length:=by
 have hl:rs.length=ls.length+1:=by simpa using h.1
 obtain⟨qs,r,rfl⟩:∃ qs r,rs=qs++[r]:=⟨rs.dropLast,rs.getLast (by intro e;rw[e]at hl;simp at hl),(List.dropLast_concat_getLast _).symm⟩
 have hd:qs.length=ls.length:=by simpa using hl
 refine⟨qs,r,rfl,⟨hd,fun j l' r' h1 h2=>?_⟩,?_⟩
 ·have h3:=(Mz.1 h1).1;exact h.2 j l' r' (by rw[List.getElem?_append_left h3];exact h1) (by rw[List.getElem?_append_left (by omega)];exact h2)
 ·exact h.2 ls.length l r (by simp) (by rw[<-hd];simp)
theorem Kx{α:Type}(ls:List α):ls=[]\/∃ ms l,ls=ms++[l]:=by
 cases ls with
 | nil=>exact .inl rfl
 | cons x xs=>exact .inr ⟨(x :: xs).dropLast,(x :: xs).getLast (by simp),(List.dropLast_concat_getLast _).symm⟩
theorem kK{xs ys:List V}(h1:k < xs.length)(h2:k < ys.length):(xs.drop k=ys.drop k↔xs[k]=ys[k]/\xs.drop (k+1)=ys.drop (k+1)):=by
 rw[ME h1,ME h2,List.cons.injEq]
theorem mZ{α:Type}{a b:List α}{x y:α}:(a++[x]=b++[y]↔a=b/\x=y):=by
 constructor
 ·intro h;exact List.append_inj' h rfl |>.imp id fun e=>List.cons.inj e |>.1
 ·rintro⟨rfl,rfl⟩;rfl
def Je (w:LC) (a b:V) (e:Ending) (w':LC):Prop:=∃ r,e=.returned (.bool r)/\(r=true↔a=b)/\La w w'
def SJ (w:LC) (ok ok':Nat->Prop) (ia ib:Nat) (a b:V) (xs ys:List V) (xv yv:Value) (M k:Nat) (lv rv:Value) (wr:LC):Prop:=
 ∃ ls rs,(a=b↔ls=rs/\xs.drop k=ys.drop k)/\PL ls rs/\mu ls+cnts (xs.drop k)+1<=M/\M<=2000000000001/\bJ wr (kw ok w.heap.size ia) xs xv/\bJ wr (kw ok' w.heap.size ib) ys yv/\SI w ok ok' ia ib ls rs lv rv wr
theorem SJ.bel{wr':LC}{ia ib a b xs ys xv yv M lv rv}(h:SJ w ok ok' ia ib a b xs ys xv yv M k lv rv wr)(hb:La wr wr'):SJ w ok ok' ia ib a b xs ys xv yv M k lv rv wr':=by
 obtain⟨ls,rs,h1,h2,h3,h4,h5,h6,h7⟩:=h;exact⟨ls,rs,h1,h2,h3,h4,h5.bel hb,h6.bel hb,h7.bel hb⟩
theorem C7{cs nb k}(ho:W.ownsRow B 9 1 v n cs)(hnb:W.heap[nb]?=some (.cells #[.string k] 9))(hn:n<=1000000)(hB:B<=W.heap.size)(ty:TypeId):∃ g cap W',(Builtin.append_ #[36,36] ty #[v,.slice (some ⟨nb,0,none⟩) 1 1]).run prog W=.ok (.slice (some ⟨g,0,none⟩) (n+1) cap) W'/\W'.ownsRow B 9 1 (.slice (some ⟨g,0,none⟩) (n+1) cap) (n+1) (cs++[.string k])/\W.grownBy W' v.ownBlock/\(v.ownBlock=some g\/W.heap.size=g):=by
 obtain⟨i0,hi,hz0,hz1,hz2⟩:=info_parts wG;obtain⟨g,cap,W',hr,h1,h2,h3,-⟩:=run_append_lies (P:=prog) W 36 ty B 9 i0 _ 1 16 underlying36 hi hz0 hz1 hz2 rfl (by decide) v n cs ho ⟨nb,0,none⟩ 1 1 [.string k] rfl
  (World.news_of_block (cs:=#[.string k]) hnb) (by intro u hu;simp only[List.mem_cons,List.not_mem_nil,or_false]at hu;subst hu;rfl) (by decide) (by unfold maxLen;omega) (by omega) hB W.heap.size rfl
 exact⟨g,cap,W',hr,h1,h2,h3.imp id Eq.symm⟩
theorem Jv{a r}(hb:La a w)(hg:w.grownBy w' r)(hr:∀ g,r=some g->a.heap.size<=g):La a w':=
 ⟨hg.os.trans hb.os,hg.tape.trans hb.tape,hg.output.trans hb.output,MH hb.size hg.size,fun k hk=>(hg.block k (MI hk hb.size) (fun e=>by have:=hr k e.symm;omega)).trans (hb.block k hk)⟩
structure kX (w w':LC) (gl:Nat) (r:Option Nat):Prop where
 os:w'.os=w.os
 tape:w'.tape=w.tape
 output:w'.output=w.output
 size:w.heap.size<=w'.heap.size
 block:∀ k,k < w.heap.size->k≠gl->some k≠r->w'.heap[k]?=w.heap[k]?
def nA (w:LC) (r r':Option Nat):Prop:=r'=r\/∃ g,r'=some g/\w.heap.size<=g
theorem sy{gl r}(h:La w w'):kX w w' gl r:=⟨h.os,h.tape,h.output,h.size,fun k hk _ _=>h.block k hk⟩
theorem kX.trans{a b c gl r r1}(h:kX a b gl r)(hf:nA a r r1)(k:kX b c gl r1):kX a c gl r:=
 ⟨k.os.trans h.os,k.tape.trans h.tape,k.output.trans h.output,MH h.size k.size,fun i hi h1 h2=>by
  rw[k.block i (MI hi h.size) h1 ?_,h.block i hi h1 h2];rcases hf with rfl | ⟨g,rfl,hg⟩
  ·exact h2
  ·simp;omega⟩
theorem nA.trans{a b r r1 r2}(h:nA a r r1)(hs:a.heap.size<=b.heap.size)(k:nA b r1 r2):nA a r r2:=by
 rcases k with rfl | ⟨g,rfl,hg⟩
 ·exact h
 ·exact .inr ⟨g,rfl,by omega⟩
theorem kX.low{gl r}(h:kX w w' gl r)(hg:gl < w.heap.size)(hr:∀ g,r=some g->gl < g):Below gl w w':=
 ⟨h.os,h.tape,h.output,h.size,fun k hk=>h.block k (by omega) (by omega) (fun e=>by have:=hr k e.symm;omega)⟩
theorem In.belB(h:In w ok t v)(hok:∀ k,ok k->k < B)(hb:Below B w w'):In w' ok t v:=by
 obtain⟨d,h⟩:=h;exact⟨d,bu.imp (fun a x h1 h2=>⟨h1,(World.cell?_of_block (hb.block _ (hok _ h1))).trans h2⟩) d h⟩
def pH (w:LC) (gl:Nat) (L:List Lz) (r:Option Nat):Prop:=
 ∃ sv,w.heap[gl]?=some (.cells #[sv] 36)/\w.ownsRow (gl+1) 9 1 sv L.length (L.map fun s=>.string ⟨s.toArray⟩)/\sv.ownBlock=r
theorem bY{e:TypeId}{size xs}(h:w.ownsRow B e size v n xs)(hg:v.ownBlock=some g):B<=g/\g < w.heap.size:=by
 rcases h.2 with⟨rfl,-⟩ | ⟨g',cap,cur,rfl,h1,h2,-⟩
 ·cases hg
 ·cases hg;exact⟨h1,(MF.1 h2).1⟩
theorem bM{e:TypeId}{size xs}(h:w.ownsRow B e size v n xs)(hk:∀ g,v.ownBlock=some g->w'.heap[g]?=w.heap[g]?):w'.ownsRow B e size v n xs:=by
 refine⟨h.1,?_⟩;rcases h.2 with h0 | ⟨g',cap,cur,rfl,h1,h2,h3⟩
 ·exact .inl h0
 ·exact .inr ⟨g',cap,cur,rfl,h1,by rw[hk g' rfl];exact h2,h3⟩
theorem pH.bel{gl L r}(h:pH w gl L r)(hb:La w w'):pH w' gl L r:=by
 obtain⟨sv,h1,h2,h3⟩:=h;refine⟨sv,(hb.block gl (MF.1 h1).1).trans h1,bM h2 fun g hg=>hb.block g (bY h2 hg).2,h3⟩
theorem pH.lt{gl L r}(h:pH w gl L r):gl < w.heap.size:=by
 obtain⟨sv,h1,-⟩:=h;exact(MF.1 h1).1
theorem pH.row{gl L r}(h:pH w gl L r)(hg:r=some g):gl < g/\g < w.heap.size:=by
 obtain⟨sv,-,h2,h3⟩:=h;have:=bY h2 (h3.trans hg);exact⟨by omega,this.2⟩
def Eh (w w':LC) (gl:Nat) (r:Option Nat) (L:List Lz):Prop:=∃ r',pH w' gl L r'/\kX w w' gl r/\nA w r r'
theorem Gk{wc W' gl L r sv p cap}(hb:wc.heap[gl]?=some (.cells #[sv] 36))(hr:sv.ownBlock=r)(hB:∀ g,r=some g->gl < g)(ho:W'.ownsRow (gl+1) 9 1 (.slice (some ⟨g,0,none⟩) (L.length+1) cap) (L.length+1) (L.map (fun s=>Value.string ⟨s.toArray⟩)++[.string ⟨p.toArray⟩]))(hg:(wc.alloc (.cells #[.string ⟨p.toArray⟩] 9)).grownBy W' sv.ownBlock)(hf:sv.ownBlock=some g\/(wc.alloc (.cells #[.string ⟨p.toArray⟩] 9)).heap.size=g)(hgl:gl < wc.heap.size):Eh wc (W'.setCell ⟨gl,0,none⟩ (.slice (some ⟨g,0,none⟩) (L.length+1) cap)) gl r (L++[p]):=by
 have ha:=ae wc (.cells #[.string ⟨p.toArray⟩] 9);have hgo:=(bY ho (g:=g) rfl).1;have hbox:W'.heap[gl]?=some (.cells #[sv] 36):=by
  rw[hg.block gl (MI hgl ha.size) ?_,ha.block gl hgl,hb];intro e;have:=hB gl (by rw[<-hr];exact e.symm);omega
 have hset:∀ k,k≠gl->(W'.setCell ⟨gl,0,none⟩ (.slice (some ⟨g,0,none⟩) (L.length+1) cap)).heap[k]?=W'.heap[k]?:=fun k hk=>Below.heap_setCell W' ⟨gl,0,none⟩ _ k hk;refine⟨some g,⟨_,ak hbox 0 _,?_,rfl⟩,⟨hg.os.trans ha.os,hg.tape.trans ha.tape,hg.output.trans ha.output,?_,fun k hk h1 h2=>?_⟩,?_⟩
 ·have:W'.ownsRow (gl+1) 9 1 (.slice (some ⟨g,0,none⟩) (L.length+1) cap) (L++[p]).length ((L++[p]).map fun s=>Value.string ⟨s.toArray⟩):=by simpa using ho
  refine bM this fun g' hg'=>hset g' ?_;have e9:g=g':=by simpa [Value.ownBlock] using hg'
  omega
 ·have h1:=ha.size;have h2:=hg.size;simp only[World.setCell,Array.size_modify];omega
 ·rw[hset k h1,hg.block k (MI hk ha.size) (by rw[hr];exact h2),ha.block k hk]
 ·rcases hf with hf | hf
  ·exact .inl (by rw[<-hr,hf])
  ·refine .inr ⟨g,rfl,?_⟩;have:=ha.size;omega
def jL (D:Nat) (t:V) (k:Nat):List (List Lz):=((t.keys.zip t.l).take k).flatMap fun p=>if p.2.kind=5/\p.2.l≠[] then (jK D p.2).map (p.1 :: ·) else [[p.1]]
theorem Dx(D t):jL D t 0=[]:=by simp[jL]
theorem D3{D}(h:t.keys.length=t.l.length):jL D t t.keys.length=jK (D+1) t:=by
 rw[jL,MD (by rw[List.length_zip];omega),jK]
theorem Ck{D}(hk:k < t.keys.length)(hl:k < t.l.length):jL D t (k+1)=jL D t k++(if t.l[k].kind=5/\t.l[k].l≠[] then (jK D t.l[k]).map (t.keys[k] :: ·) else [[t.keys[k]]]):=by
 unfold jL;rw[List.take_succ_eq_append_getElem (by rw[List.length_zip];omega),List.flatMap_append,List.getElem_zip];simp
def dC (at_:Lz) (l:List (List Lz)):List Lz:=l.map fun ns=>at_++aU ns
theorem vQ(at_ key)(l:List (List Lz)):dC at_ (l.map (key :: ·))=dC (at_++aU [key]) l:=by
 unfold dC;rw[List.map_map];refine List.map_congr_left fun ns _=>?_;have:aU (key :: ns)=aU [key]++aU ns:=by rw[<-vT];rfl
 simp[this]
theorem mB:∀ (D:Nat) (t:V),(jK D t).length<=cnts t.l
 | 0,t=>by simp[jK]
 | D+1,t=>by
  rw[jK];generalize t.keys=ks;generalize t.l=l;induction l generalizing ks with
  | nil=>simp
  | cons x l ih=>
   cases ks with
   | nil=>simp
   | cons k ks=>
    rw[List.zip_cons_cons,List.flatMap_cons,Mx,er];have h1:=ih ks;have h2:=mB D x;have h3:=df x;have h0:(if x.kind=5/\x.l≠[] then (jK D x).map (k :: ·) else [[k]]).length<=fa x:=by
     split
     ·rw[List.length_map];omega
     ·simp;omega
    exact Nat.add_le_add h0 h1
theorem Ei(D t k):(jL D t k).length<=cnts (t.l.take k):=by
 unfold jL;generalize t.keys=ks;generalize t.l=l;induction l generalizing ks k with
 | nil=>simp
 | cons x l ih=>
  cases ks with
  | nil=>simp
  | cons q ks=>
   cases k with
   | zero=>simp
   | succ k=>
    rw[List.zip_cons_cons,List.take_succ_cons,List.take_succ_cons,List.flatMap_cons,Mx,er];have h1:=ih k ks;have h2:=mB D x;have h3:=df x;have h0:(if x.kind=5/\x.l≠[] then (jK D x).map (q :: ·) else [[q]]).length<=fa x:=by
     split
     ·rw[List.length_map];omega
     ·simp;omega
    exact Nat.add_le_add h0 h1
theorem zI{l}(hk:k < l.length):cnts (l.take k)+fa l[k]<=cnts l:=by
 have h:=List.take_append_drop k l;have e:cnts l=cnts (l.take k)+cnts (l.drop k):=by
  rw[cnts,cnts,cnts,<-List.sum_append,<-List.map_append,h]
 rw[e,iV hk];omega
theorem IC(W:LC)(key:Lz)(hk:key.length<=maxLen):ao (W.alloc (.cells #[.string ⟨key.toArray⟩] 9)) (fun _=>True) [key] (.slice (some ⟨W.heap.size,0,none⟩) 1 1):=by
 refine⟨by simp[maxLen],.inr ⟨W.heap.size,0,1,rfl,by simp,by simp[maxLen],fun i x hx=>?_⟩⟩;cases i with
 | zero=>
  simp only[List.getElem?_cons_zero,Option.some.injEq]at hx;subst hx;refine⟨hk,trivial,?_⟩;have:=MN W (.cells #[.string ⟨key.toArray⟩] 9);generalize W.alloc (.cells #[.string ⟨key.toArray⟩] 9)=W2 at this;simp[World.cell?,this,aR]
 | succ i=>simp at hx
def bA (l:List aL):List (Lz × Lz):=l.flatMap fun o=>o.paths.map fun p=>(o.name,p)
theorem lz{l:List aL}(hk:k < l.length):bA (l.take (k+1))=bA (l.take k)++l[k].paths.map fun p=>(l[k].name,p):=by
 unfold bA;rw[List.take_succ_eq_append_getElem hk,List.flatMap_append];simp
theorem Bw{l j}(hk:k < l.length)(hj:j < l[k].paths.length):bA (l.take k)++(l[k].paths.take j).map (fun p=>(l[k].name,p))++[(l[k].name,l[k].paths[j])] <+: bA l:=by
 have e1:bA l=bA (l.take (k+1))++bA (l.drop (k+1)):=by
  unfold bA;rw[<-List.flatMap_append,List.take_append_drop]
 have e3:l[k].paths=l[k].paths.take j++[l[k].paths[j]]++l[k].paths.drop (j+1):=by rw[<-List.take_succ_eq_append_getElem hj,List.take_append_drop]
 have e4:=congrArg (List.map fun p=>(l[k].name,p)) e3;rw[List.map_append,List.map_append,List.map_cons,List.map_nil]at e4;refine⟨(l[k].paths.drop (j+1)).map (fun p=>(l[k].name,p))++bA (l.drop (k+1)),?_⟩;rw[e1,lz hk,e4];simp only[List.append_assoc]
theorem kL{l n p}(h:(n,p)∈bA l):∃ o∈l,o.name=n/\p∈o.paths:=by
 unfold bA at h;rw[List.mem_flatMap]at h;obtain⟨o,ho,h⟩:=h;rw[List.mem_map]at h;obtain⟨q,hq,e⟩:=h;cases e;exact⟨o,ho,rfl,hq⟩
structure ES (w0:LC) (g:Nat) (lb:Array Value) (l:List aL) (ok:Nat->Prop) (v:Value) (I:List (Lz × Lz)->(Nat->Prop)->LC->Prop):Prop where
 owns:aB w0 ok l v
 cells:∀ d F W,I d F W->∀ a x,ok a.block->w0.cell? a=some x->W.cell? a=some x
 alloc:∀ d F W o,I d F W->I d (fun k=>F k\/k=W.heap.size) (W.alloc o)
 low:∀ d (F G:Nat->Prop) W,I d F W->(∀ k,G k->F k)->I d G W
 step:∀ d F W n p,I d F W->d++[(n,p)] <+: bA l->Calls prog g (#[.string ⟨n.toArray⟩,.string ⟨p.toArray⟩]++lb) W fun e w'=>e=.returned (.tuple #[])/\I (d++[(n,p)]) F w'/\W.heap.size<=w'.heap.size/\∀ k,F k->k < W.heap.size->w'.heap[k]?=W.heap[k]?
theorem uP{xs a}(h:aB w ok xs (.slice a n c))(hk:k < xs.length):∃ b off pa pc,a=some ⟨b,off,none⟩/\ok b/\xs.length<=c/\c<=9223372036854775807/\w.cell? ⟨b,off+k * 2,none⟩=some (.string ⟨xs[k].name.toArray⟩)/\w.cell? ⟨b,off+k * 2+1,none⟩=some (.slice pa xs[k].paths.length pc)/\ao w ok xs[k].paths (.slice pa xs[k].paths.length pc):=by
 rcases h.2 with⟨e,_⟩ | ⟨b,off,c',e,h1,h2,h3⟩
 ·rw[e]at hk;simp at hk
 ·simp only[Value.slice.injEq]at e;obtain⟨rfl,-,rfl⟩:=e;obtain⟨a,n,c',g1,g2,g3,g4,g5⟩:=h3 k xs[k] (Mw hk);obtain⟨a9,c9,e9⟩:=g5.form;simp only[Value.slice.injEq]at e9;obtain⟨rfl,rfl,rfl⟩:=e9;exact⟨b,off,a,c',rfl,g2,h1,h2,g3,g4,g5⟩
theorem xY{xs a}(h:ao w ok xs (.slice a n c))(hk:k < xs.length):∃ b off,a=some ⟨b,off,none⟩/\ok b/\xs.length<=c/\c<=9223372036854775807/\w.cell? ⟨b,off+k,none⟩=some (.string ⟨xs[k].toArray⟩):=by
 rcases h.2 with⟨e,_⟩ | ⟨b,off,c',e,h1,h2,h3⟩
 ·rw[e]at hk;simp at hk
 ·simp only[Value.slice.injEq]at e;obtain⟨rfl,-,rfl⟩:=e;obtain⟨g1,g2,g3⟩:=h3 k xs[k] (Mw hk);exact⟨b,off,rfl,g2,h1,h2,g3⟩
theorem nW(w0 w ok l v g)(lb:Array Value)(I:List (Lz × Lz)->(Nat->Prop)->LC->Prop)(F)(eg:∀ args w,(callFunc g args).run prog w=.ok (.enter g args) w)(hs:ES w0 g lb l ok v I)(h0:I [] F w):Calls prog 120 #[v,.func (.func g) #[] lb] w fun e w'=>e=.returned (.tuple #[])/\I (bA l) F w':=by
 have h:=hs.owns;obtain⟨a,c,rfl⟩:=h.form;have HS:=aa hs;have ll:=h.1;unfold maxLen at ll;have H0:=aa h0;clear hs h h0;go_enter func120,ntmps120;go_wp2
 go_loopg [10] l.length (fun gk i wr=>∃ k:Nat,k<=l.length/\gk=l.length - k/\i=.int .i64 k/\Ll (I (bA (l.take k)) F wr))
 case atStart=>exact⟨0,Nat.zero_le _,rfl,rfl,H0⟩
 case round=>
  obtain⟨k,hk,hgk,rfl,IK⟩:=hrel;have GK:=aa hgk;clear hgk;obtain⟨wo,hwo⟩:∃ wo,wo=wr:=⟨wr,rfl⟩
  subst hwo;by_cases hlt:k < l.length
  ·obtain⟨b,off,pa,pc,rfl,okb,j1,j2,k1,k2,k3⟩:=uP HS.o.owns hlt;replace k1:=HS.o.cells _ _ _ IK.o _ _ okb k1;replace k2:=HS.o.cells _ _ _ IK.o _ _ okb k2;have w2:(k:Int) < (l.length:Int):=by omega
   have w3:(0:Int)<=(k:Int):=by omega
   have AS:=aa (lz hlt);have PRE:Ll (∀ j (hj:j < l[k].paths.length),bA (l.take k)++(l[k].paths.take j).map (fun p=>(l[k].name,p))++[(l[k].name,l[k].paths[j])] <+: bA l):=fun j hj=>Bw hlt hj;have pl:=k3.1;unfold maxLen at pl;obtain⟨o,ho⟩:∃ o,l[k]=o:=⟨_,rfl⟩
   rw[ho]at k1 k2 k3 AS pl;have PRE2:Ll (∀ j (hj:j < o.paths.length),bA (l.take k)++(o.paths.take j).map (fun p=>(o.name,p))++[(o.name,o.paths[j])] <+: bA l):=aa (by subst ho;exact PRE.o);clear PRE;clear ho;obtain⟨W5,hW5⟩:∃ W,W=wo.alloc (.cells #[.string ⟨o.name.toArray⟩,.slice pa o.paths.length pc] 47):=⟨_,rfl⟩
   have BX:Ll (W5.heap[wo.heap.size]?=some (.cells #[.string ⟨o.name.toArray⟩,.slice pa o.paths.length pc] 47)):=aa (by rw[hW5];exact MN _ _);have I5:Ll (I (bA (l.take k)) (fun k=>F k\/k=wo.heap.size) W5):=aa (by rw[hW5];exact HS.o.alloc _ _ _ _ IK.o);have HW5:=aa hW5;clear hW5;have K3:=aa k3;go_upto_region 3 with fail
   rw[<-HW5.o];clear k1 k2 k3;obtain⟨q0,q1⟩:=rl BX.o;go_upto_region 4 with fail
   clear q0 q1;go_loopg [17] o.paths.length (fun gj i wr=>∃ j:Nat,j<=o.paths.length/\gj=o.paths.length - j/\i=.int .i64 j/\Ll (I (bA (l.take k)++(o.paths.take j).map fun p=>(o.name,p)) (fun k=>F k\/k=wo.heap.size) wr/\wr.heap[wo.heap.size]?=some (.cells #[.string ⟨o.name.toArray⟩,.slice pa o.paths.length pc] 47)))
   case atStart=>exact⟨0,Nat.zero_le _,rfl,rfl,aa ⟨by simpa using I5.o,BX.o⟩⟩
   case round=>
    obtain⟨j,hj,hgj,rfl,J⟩:=hrel;have GJ:=aa hgj;clear hgj;by_cases hlj:j < o.paths.length
    ·obtain⟨pb,po,rfl,okp,m1,m2,m3⟩:=xY K3.o hlj;replace m3:=HS.o.cells _ _ _ J.o.1 _ _ okp m3;obtain⟨q0,q1⟩:=rl J.o.2;have x2:(j:Int) < (o.paths.length:Int):=by omega
     have x3:(0:Int)<=(j:Int):=by omega
     have CALL:=aa (HS.o.step _ _ wr o.name o.paths[j] J.o.1 (PRE2.o j hlj));have BL:Ll (wo.heap.size < wr.heap.size):=aa (MF.1 J.o.2).1;have TK:Ll ((o.paths.take (j+1)).map (fun p=>(o.name,p))=(o.paths.take j).map (fun p=>(o.name,p))++[(o.name,o.paths[j])]):=aa (by rw[List.take_succ_eq_append_getElem hlj,List.map_append];rfl);go_wp2_with (go_at_fn g;refine CALL.o.mono ?_;rintro e w7 ⟨rfl,hi7,hs7,hk7⟩;have I7:=aa hi7;have K7:=aa (hk7 wo.heap.size (.inr rfl) BL.o);clear hi7 hs7 hk7)
     go_roundg (o.paths.length - (j+1))
     case measure=>rw[GJ.o];omega
     case rel=>exact⟨j+1,hlj,rfl,by go_num,aa ⟨by rw[TK.o,<-List.append_assoc];exact I7.o,K7.o.trans J.o.2⟩⟩
    ·have y1:¬(j:Int) < (o.paths.length:Int):=by omega
     have IE:Ll (I (bA (l.take (k+1))) F wr):=aa (by
      rw[AS.o];have:=J.o.1;rw[show o.paths.take j=o.paths from MD (by omega)]at this;exact HS.o.low _ _ _ _ this fun k hk=>Or.inl hk)
     clear J;go_wp2
     go_roundg (l.length - (k+1))
     case measure=>rw[GK.o];omega
     case rel=>exact⟨k+1,hlt,rfl,by go_num,IE⟩
  ·have d1:¬(k:Int) < (l.length:Int):=by omega
   have IE:Ll (I (bA l) F wo):=aa (by have:=IK.o;rwa [MD (by omega)]at this);clear IK;go_wp2
   go_end0
   exact⟨rfl,IE.o⟩
section
theorem Jz{a:LC}{key}(_:La a W)(hk:key.length<=maxLen):ao (W.alloc (.cells #[.string ⟨key.toArray⟩] 9)) (fun _=>True) [key] (.slice (some ⟨W.heap.size,0,none⟩) 1 1):=IC W key hk
def G0 (a W:LC) (g:Nat):Prop:=Lc W g/\a.heap.size<=g
theorem Jk{a}(h:La a W):G0 a (W.alloc (.cells Lb 39)) W.heap.size:=⟨MN _ _,h.size⟩
theorem vY{a W'}(hb:La W W')(h:G0 a W g):G0 a W' g:=⟨af hb h.1,h.2⟩
theorem JA{a:LC}(h:La a W)(hz:G0 a W g)(d0 d1 d2 d3 d4):ag (ar W g d0 d1 d2 d3 d4) g d0 d1 d2 d3 d4/\La a (ar W g d0 d1 d2 d3 d4):=
 ⟨hz.1.set _ _ _ _ _,aP h hz.2 _ _ _ _ _⟩
theorem Jw{a:LC}(h:La a W)(d0 d1 d2 d3 d4):ag (W.alloc (.cells #[d0,d1,d2,d3,d4] 39)) W.heap.size d0 d1 d2 d3 d4/\La a (W.alloc (.cells #[d0,d1,d2,d3,d4] 39)):=⟨MN _ _,ab h (ae _ _)⟩
theorem zY(w:LC)(o:Obj):(w.alloc o).drew.heap.size=w.heap.size+1:=by show (World.alloc w o).heap.size=_;simp
def AR (w:LC) (gl:Nat) (r:Option Nat) (L:List Lz) (D:Nat) (t:V) (at_:Lz) (a1 a2:Option Addr) (c1 c2 k:Nat) (wr:LC):Prop:=
 ∃ r',pH wr gl (L++dC at_ (jL D t k)) r'/\kX w wr gl r/\nA w r r'/\KY wr w.heap.size t a1 c1 a2 c2/\some w.heap.size≠r'
theorem A9{wc:LC}{gl r L D at_ a1 a2 c1 c2}(hgl:gl < w.heap.size){r'}(h2:kX w wr gl r)(h3:nA w r r')(h4:KY wr w.heap.size t a1 c1 a2 c2)(h5:some w.heap.size≠r')(hb:La wr wc)(hp:Eh wc w' gl r' (L++dC at_ (jL D t (k+1)))):AR w gl r L D t at_ a1 a2 c1 c2 (k+1) w':=by
 obtain⟨r2,g1,g2,g3⟩:=hp;have L9:=h4.lt;have hsz2:=hb.size;refine⟨r2,g1,(h2.trans h3 (sy hb)).trans (h3) g2,(h3.trans (by have:=h2.size;omega) g3),?_,?_⟩
 ·have e1:wc.heap[w.heap.size]?=wr.heap[w.heap.size]?:=hb.block _ L9;have e2:=g2.block w.heap.size (by omega) (by omega) h5;exact e2.trans (e1.trans h4)
 ·rcases g3 with rfl | ⟨g,rfl,hg⟩
  ·exact h5
  ·simp;omega
attribute [local go_sem ↓] Go.wp_at_zero Go.wp_at_succ
theorem De:∀ (D:Nat) (w:LC) (ok:Nat->Prop) (t:V) (v:Value) (at_:Lz) (gl:Nat) (L:List Lz) (r:Option Nat),In w ok t v->(∀ k,ok k->k < gl)->fO D t->t.kind=5->at_.length+130 * D<=100000->L.length+fa t<=100000->pH w gl L r->(∀ W,Below gl w W->bj W) ->
 Calls prog 153 #[v,.string ⟨at_.toArray⟩,.pointer (some ⟨gl,0,none⟩)] w fun e w'=>e=.returned (.tuple #[])/\Eh w w' gl r (L++dC at_ (jK D t)):=by
 intro D;induction D with
 | zero=>intro w ok t v at_ gl L r _ _ h;exact h.elim
 | succ D ih=>
 intro w ok t v at_ gl L r h hok hg hk hat hcn hG hM;have H:=aa h;have OK:=aa hok;have GD:=aa hg;have HG:=aa hG;have HM:=aa hM;have IH:=aa ih;have AT:=aa hat;have CNT:Ll (L.length+fa t<=100000):=aa hcn;have hpair:t.keys.length=t.l.length:=by
  have:=(gu hg.1 hk).1;simp only[aK,MJ,decide_eq_true_eq]at this;exact this.2
 have PR:=aa hpair;have KEYS:=aa (qh hg.1 hk);have GLT:=aa hG.lt;obtain⟨l1,l2,l3⟩:=h.lens;obtain⟨a1,a2,c1,c2,rfl⟩:=h.form;have hrow:Ll (∀ g,r=some g->gl < g/\g < w.heap.size):=aa (fun g hg=>hG.row hg);clear h hok hg hk hat hcn hG hM ih hpair;have B0:Ll (La w (w.alloc (.cells (KV t a1 c1 a2 c2) 39))):=aa (ae _ _);have S0:Ll (AR w gl r L D t at_ a1 a2 c1 c2 0 (w.alloc (.cells (KV t a1 c1 a2 c2) 39))):=aa ⟨r,by rw[Dx];simpa [dC] using HG.o.bel B0.o,sy B0.o,.inl rfl,MN _ _,fun e=>by have:=(hrow.o _ e.symm).2;omega⟩;go_enter func153,ntmps153;go_wp2
 go_loopg [13] t.keys.length (fun gk i wr=>∃ k:Nat,k<=t.keys.length/\gk=t.keys.length - k/\i=.int .i64 k/\Ll (AR w gl r L D t at_ a1 a2 c1 c2 k wr))
 case atStart=>exact⟨0,Nat.zero_le _,rfl,rfl,S0⟩
 case round=>
  obtain⟨k,hk,hgk,rfl,I⟩:=hrel;have GK:=aa hgk;clear hgk;by_cases hlt:k < t.keys.length
  ·have hll:k < t.l.length:=by rw[<-PR.o];exact hlt
   obtain⟨r',i1,i2,i3,i4,i5⟩:=I.o;have LB:Ll (Below gl w wr):=aa (i2.low GLT.o (fun g hg=>(hrow.o g hg).1));have HI:Ll (In wr ok t (.agg (KV t a1 c1 a2 c2))):=aa (H.o.belB OK.o LB.o);have I1:=aa i1;have I2:=aa i2;have I3:=aa i3;have I4:=aa i4;have I5:=aa i5;obtain⟨kb,ko,rfl,kc1,kc2,kcell,klen⟩:=HI.o.key hlt;obtain⟨lb,lo,a5,c5,a6,c6,rfl,lc1,lc2,y0,y1,y2,y3,y4,hit⟩:=HI.o.item hll;have HIT:=aa hit;obtain⟨p0,p1,p2,p3,p4,-⟩:=i4.c;have P3:=aa p3;have P4:=aa p4;have Q0:=aa y0;have Q1:=aa y1;have Q2:=aa y2;have Q3:=aa y3;have Q4:=aa y4;have KL:Ll (t.keys[k].length<=maxLen):=aa (by unfold maxLen;exact klen);have k60:=KEYS.o t.keys[k] (List.getElem_mem _);have KN:Ll (∀ x∈[t.keys[k]],x.length<=10000000):=aa (fun x hx=>by rw[List.mem_singleton]at hx;rw[hx];omega);have kjl:(aU [t.keys[k]]).length<=121:=by
    rw[kz];have:=(jh t.keys[k]).2;simp only[My,Mx,aU,List.flatMap_nil,List.length_nil];omega
   have KJ:Ll ((aU [t.keys[k]]).length<=10000000):=aa (by omega);have KJL:=aa kjl;have GM:Ll (∀ W,La wr W->bj W):=aa (fun W hW=>HM.o W (LB.o.trans (hW.mono (MH (Nat.le_of_lt GLT.o) I2.o.size))));have w2:(k:Int) < (t.keys.length:Int):=by omega
   have w3:(k:Int) < (t.l.length:Int):=by omega
   have w4:(0:Int)<=(k:Int):=by omega
   have sl:¬9223372036854775807 < at_.length+(aU [t.keys[k]]).length:=by have:=AT.o;omega
   have CAT0:ByteArray.mk at_.toArray++ByteArray.mk (aU [t.keys[k]]).toArray=ByteArray.mk (at_++aU [t.keys[k]]).toArray:=yR _ _;have CAT:Ll ((at_++aU [t.keys[k]])=(at_++aU [t.keys[k]])):=aa rfl;have US:=aa (Ck (D:=D) hlt hll);have UC:=aa (Ei D t k);have CT:=aa (zI hll);have CE:=aa (df t);clear i1 i2 i3 i4 i5 hit y0 y1 y2 y3 y4 klen k60 kjl I;have q3:=P3.o;have q4:=P4.o;go_upto_region 4 with fail
   clear q3 q4;go_cut [8,9] (fun sv pv wc=>∃ g9:Nat,pv=.pointer (some ⟨g9,0,none⟩)/\sv=.string ⟨(at_++aU [t.keys[k]]).toArray⟩/\ag wc g9 (.int .i64 t.l[k].kind) (.int .i64 t.l[k].n) (.string ⟨t.l[k].s.toArray⟩) (.slice a5 t.l[k].keys.length c5) (.slice a6 t.l[k].l.length c6)/\La wr wc)
   case first=>
    refine aD (fun wS=>La wr wS) [12] (by kernel_rfl) (aC _ 1) (fun LI=>?_);refine WT.out ?_;iterate 7
     first
      | refine OJ 0 ?_ [4,11,12] LI ?_ ?_
      | refine OJ 1 ?_ [2,3,4,11,12] LI ?_ ?_
      | refine OJ 5 ?_ [6,8,9,12] LI ?_ ?_
      | refine OJ 6 ?_ [8,9,12] LI ?_ ?_
      | refine OJ 7 ?_ [8,9,12] LI ?_ ?_
      | refine OJ 8 ?_ [9,12] LI ?_ ?_
      | refine OJ 9 ?_ [12] LI ?_ ?_
     rotate_left
     ·intro wS LN;have u3:=ah LN P3.o;have u4:=ah LN P4.o;have q0:=ah LN Q0.o;have q1:=ah LN Q1.o;have q2:=ah LN Q2.o;have q3:=ah LN Q3.o;have q4:=ah LN Q4.o;go_simp;all_goals with_reducible rfl
     simp only[av,List.set]
    repeat' (first
     | exact nl
     |(refine ON 2 (fun K hK=>?_) ?_
       go_simp;refine hK.out _ _ (ab LI (ae _ _)) (fun LJ=>?_);have SK:=aa (Jz LI KL.o);try rw[show (World.drew (World.alloc wr (.cells Lb 39))).heap.size=wr.heap.size+1 from zY _ _]at SK
       try replace NB:=aa (vY (ae _ (.cells #[.string ⟨t.keys[k].toArray⟩] 9)) NB.o)
       clear hK K;replace LI:=LJ;clear LJ;try simp only[Act.put,Mt,Mu,Mv])
     |(refine ON 3 (fun K hK=>?_) ?_
       go_simp;refine Lk (AJ _ (fun _=>True) [t.keys[k]] _ (by exact SK.o) KN.o KJ.o (GM.o _ LI)) fun w3q hb5=>?_;unfold aR;refine hK.out _ _ (ab LI hb5) (fun LJ=>?_);try replace NB:=aa (vY hb5 NB.o)
       clear hb5 SK;have Ma:Ll True:=aa trivial;clear hK K;replace LI:=LJ;clear LJ;try simp only[Act.put,Mt,Mu,Mv])
     |(refine ON 10 (fun K hK=>?_) ?_
       go_simp;refine hK.out _ _ (ab LI (ae _ _)) (fun LJ=>?_);have NB:=aa (Jk LI);first | (have c9:=Ma.o;clear c9;have FINA:=aa (Jw LI (.int .i64 t.l[k].kind) (.int .i64 t.l[k].n) (.string ⟨t.l[k].s.toArray⟩) (.slice a5 t.l[k].keys.length c5) (.slice a6 t.l[k].l.length c6))) | skip
       try replace SK:=aa (ao.bel SK.o (ae _ (.cells Lb 39)))
       clear hK K;replace LI:=LJ;clear LJ;try simp only[Act.put,Mt,Mu,Mv])
     |(refine OO 12 (fun K hK=>?_)
       try rw[show (World.drew wr).heap.size=wr.heap.size from rfl]at NB
       try rw[show (World.drew (World.alloc wr (.cells #[.string ⟨t.keys[k].toArray⟩] 9))).heap.size=wr.heap.size+1 from zY _ _]at NB
       have n0_:=NB.o.1.c;have FIN:=aa (JA LI NB.o (.int .i64 t.l[k].kind) (.int .i64 t.l[k].n) (.string ⟨t.l[k].s.toArray⟩) (.slice a5 t.l[k].keys.length c5) (.slice a6 t.l[k].l.length c6));go_simp;refine hK.out _ _ ?_;clear hK K;try simp only[Act.put,Mt,Mu,Mv])
     |(first
        | refine OJ 4 ?_ [11,12] (by exact LI) ?_ ?_
        | refine OJ 11 ?_ [12] (by exact LI) ?_ ?_
       rotate_left
       ·intro wS LN;go_simp;all_goals with_reducible rfl
       simp only[av,List.set])
     | refine OL [2,10] ?_
     | refine OL [3,10] ?_
     | refine OL [10] ?_
     | refine OL [3] ?_
     | refine OL [2] ?_
     | fail)
    all_goals
     refine dn (by kernel_rfl) ?_;go_wp2
     go_meet
     case rel=>first | exact⟨_,rfl,rfl,FINA.o⟩ | exact⟨_,rfl,rfl,FIN.o⟩
   case rest=>
    obtain⟨g9,rfl,rfl,LU,hbl⟩:=hcut;have BX:=aa LU;have BC:=aa hbl;have HITC:=aa (HIT.o.bel hbl);have GC:=aa (I1.o.bel hbl);have x0_:=LU.c;have PL:Ll ((at_++aU [t.keys[k]]).length+130 * D<=100000):=aa (by have:=KJL.o;have:=AT.o;rw[Mx];omega);have NX:Ll (∀ w',Eh wc w' gl r' (L++dC at_ (jL D t (k+1)))->AR w gl r L D t at_ (some ⟨kb,ko,none⟩) (some ⟨lb,lo,none⟩) c1 c2 (k+1) w'):=aa (fun w' hp=>A9 GLT.o I2.o I3.o I4.o I5.o BC.o hp);have LBC:Ll (Below gl w wc):=aa (LB.o.trans (BC.o.mono (MH (Nat.le_of_lt GLT.o) I2.o.size)));clear LU hbl;obtain⟨p,hp⟩:∃ p,at_++aU [t.keys[k]]=p:=⟨_,rfl⟩
    rw[hp]at PL ⊢;have HPP:=aa hp;clear hp;by_cases hkd:t.l[k].kind=5/\t.l[k].l≠[]
    ·have e1:(t.l[k].kind == 5)=true:=by simp[hkd.1]
     have e2:(0:Int) < ((t.l[k].l.length:Nat):Int):=by have:=List.length_pos_iff.2 hkd.2;omega
     have e3:decide (0 < t.l[k].l.length)=true:=decide_eq_true (List.length_pos_iff.2 hkd.2);have CALL:=aa (IH.o wc ok t.l[k] _ p gl (L++dC at_ (jL D t k)) r' HITC.o OK.o (GD.o.2 _ (List.getElem_mem _)) hkd.1 PL.o (by
      have h1:=UC.o;have h2:=CT.o;have h3:=CE.o;have h4:=CNT.o;rw[Mx,dC,List.length_map];omega) GC.o (fun W hW=>HM.o W (LBC.o.trans hW)))
     have UE:Ll (L++dC at_ (jL D t k)++dC p (jK D t.l[k])=L++dC at_ (jL D t (k+1))):=aa (by
      rw[US.o,if_pos hkd,<-HPP.o,<-vQ,List.append_assoc];simp[dC])
     clear hkd;go_wp2_with (go_at_call 153;refine CALL.o.mono ?_;rintro e w5 ⟨rfl,hgp⟩;rw[UE.o]at hgp;have GP:=aa (NX.o _ hgp);clear hgp)
     go_roundg (t.keys.length - (k+1))
     case measure=>rw[GK.o];omega
     case rel=>exact⟨k+1,hlt,rfl,by go_num,GP⟩
    ·obtain⟨sv,s1,s2,s3⟩:=GC.o;have UE:Ll (L++dC at_ (jL D t k)++[p]=L++dC at_ (jL D t (k+1))):=aa (by
      rw[US.o,if_neg hkd,<-HPP.o,List.append_assoc];simp[dC])
     obtain⟨LL,hLL⟩:∃ LL,L++dC at_ (jL D t k)=LL:=⟨_,rfl⟩
     have hn:LL.length<=1000000:=by
      have h1:=UC.o;have h2:=CT.o;have h3:=CE.o;have h4:=CNT.o;rw[<-hLL,Mx,dC,List.length_map];omega
     rw[hLL]at s2 UE;have hglc:gl < wc.heap.size:=(MF.1 s1).1;obtain⟨g7,c7,W7,hR,ho7,hg7,hf7⟩:=C7 (W:=wc.alloc (.cells #[.string ⟨p.toArray⟩] 9)) (B:=gl+1) (v:=sv) (n:=LL.length) (cs:=LL.map fun s=>Value.string ⟨s.toArray⟩) (nb:=wc.heap.size) (k:=⟨p.toArray⟩) (bM s2 fun g hg=>(ae _ _).block g (bY s2 hg).2) (MN _ _) hn (by have:=(ae wc (.cells #[.string ⟨p.toArray⟩] 9)).size;omega) 36;have GP:=aa (NX.o _ (by have h9:=Gk s1 s3 (fun g hg=>(GC.o.row hg).1) ho7 hg7 hf7 hglc;rw[UE.o]at h9;exact h9));have HR:=aa hR;have c0:wc.cell? ⟨gl,0,none⟩=some sv:=by simp[World.cell?,s1]
     have c0a:∀ o,(wc.alloc o).cell? ⟨gl,0,none⟩=some sv:=fun o=>ah (ae _ _) c0;have hb7:W7.heap[gl]?=some (.cells #[sv] 36):=by
      rw[hg7.block gl (MI hglc (ae wc _).size) (fun e=>by have:=(bY s2 e.symm).1;omega),(ae wc _).block gl hglc,s1]
     have c7a:W7.cell? ⟨gl,0,none⟩=some sv:=by simp[World.cell?,hb7]
     have c7f:W7.frozen? ⟨gl,0,none⟩=false:=by simp[World.frozen?,hb7]
     obtain⟨sa,sn,sc,hsv⟩:∃ sa sn sc,sv=.slice sa sn sc:=by
      rcases s2.2 with⟨h9,-⟩ | ⟨_,_,_,h9,-⟩
      ·exact⟨_,_,_,h9⟩
      ·exact⟨_,_,_,h9⟩
     subst hsv;by_cases hk5:t.l[k].kind=5
     ·have e1:(t.l[k].kind == 5)=true:=by simp[hk5]
      have hl0:t.l[k].l=[]:=by
       apply Classical.byContradiction;intro h9;exact hkd ⟨hk5,h9⟩
      have e2:¬(0:Int) < ((t.l[k].l.length:Nat):Int):=by rw[hl0];simp
      have e3:decide (0 < t.l[k].l.length)=false:=by rw[hl0];simp
      clear hl0 hk5 hkd hR ho7 hg7 hf7 s1 s2 s3 hb7 hLL;go_wp2_with (at_builtin;go_must (refine Lib.wpList_append_run _ rfl _ _ _ _ rfl (.slice sa sn sc) (.slice (some ⟨wc.heap.size,0,none⟩) 1 1) rfl rfl _ _ HR.o ?_);refine Ll.o ?_)
      refine aa ?_;go_wp2
      go_roundg (t.keys.length - (k+1))
      case measure=>rw[GK.o];omega
      case rel=>exact⟨k+1,hlt,rfl,by go_num,GP⟩
     ·have e1:(t.l[k].kind == 5)=false:=by rw[MO];exact hk5
      clear hk5 hkd hR ho7 hg7 hf7 s1 s2 s3 hb7 hLL;go_wp2_with (at_builtin;go_must (refine Lib.wpList_append_run _ rfl _ _ _ _ rfl (.slice sa sn sc) (.slice (some ⟨wc.heap.size,0,none⟩) 1 1) rfl rfl _ _ HR.o ?_);refine Ll.o ?_)
      refine aa ?_;go_wp2
      go_roundg (t.keys.length - (k+1))
      case measure=>rw[GK.o];omega
      case rel=>exact⟨k+1,hlt,rfl,by go_num,GP⟩
  ·have d1:¬(k:Int) < (t.keys.length:Int):=by omega
   have Mc:k=t.keys.length:=by omega
   subst Mc;obtain⟨r',i1,i2,i3,i4,i5⟩:=I.o;have R:Ll (Eh w wr gl r (L++dC at_ (jK (D+1) t))):=aa ⟨r',by rw[<-D3 PR.o];exact i1,i2,i3⟩;clear i1 i2 i3 i4 i5 I;go_wp2
   go_end0
   exact⟨rfl,R.o⟩
end
theorem xy(w:LC)(p)(hp:p.length<=140737488351232)(hM:bj w):Calls prog 152 #[aR p] w fun e w'=>e=.returned (.bool (oh p))/\La w w':=by
 have HM:=aa hM;clear hM;have pe:((ByteArray.mk p.toArray) == (ByteArray.mk p.toArray))=true:=zN rfl;unfold aR;go_enter func152,ntmps152;go_wp2_with fail
 refine(iO _ p hp (by exact HM.o)).mono ?_;rintro e w1 ⟨ns,ee,na,nc,rfl,hsp,hns,hb1⟩;have nlen:=hns.1;unfold maxLen at nlen;have K:=aa hns;have B:=aa hb1;have R:Ll (oh p=(decide (ee=0)&&!ns.isEmpty)):=aa (by unfold oh aw;rw[hsp]);clear hns hb1;by_cases he:ee=0
 ·subst he;obtain⟨h1,h2⟩:=mO hsp;have JN:Ll (∀ x∈ns,x.length<=10000000):=aa (fun x hx=>by have:=sL hx;rw[h2]at this;omega);have JP:=aa h2;have JL:Ll ((aU ns).length<=10000000):=aa (by rw[h2];omega);clear h1 h2 hsp;cases ns with
  | nil=>
   have RR:Ll (oh p=false):=aa (by rw[R.o];rfl);clear R;go_wp2_with fail
   go_ret;exact⟨by rw[RR.o];rfl,B.o⟩
  | cons x xs=>
   have RR:Ll (oh p=true):=aa (by rw[R.o];rfl);have g1:(0:Int) < (((x :: xs).length:Nat):Int):=by simp only[My];omega
   obtain⟨L,hL⟩:∃ L,(x :: xs).length=L:=⟨_,rfl⟩
   rw[hL]at g1 nlen ⊢;have K2:Ll (ao w1 (fun k=>w.heap.size<=k) (x :: xs) (.slice na L nc)):=aa (by rw[<-hL];exact K.o);clear hL K R;go_wp2_with (go_at_call 187;refine Lk (AJ _ _ (x :: xs) _ (by exact K2.o) (by exact JN.o) (by exact JL.o) (by exact HM.o.bel B.o)) fun w2 hb2=>?_;rw[JP.o];unfold aR;have B2:=aa (ab B.o hb2);clear hb2)
   go_ret;exact⟨by rw[RR.o];first | done | rfl | simp,B2.o⟩
 ·have e1:(ee == 0)=false:=by rw[MO];exact he
  have RR:Ll (oh p=false):=aa (by rw[R.o];simp[he]);clear he hsp R;go_wp2_with fail
  go_ret;exact⟨by rw[RR.o];rfl,B.o⟩
theorem sR(w:LC)(ok xs v)(h:ao w ok xs v)(hP:∀ x∈xs,x.length<=140737488351232)(hM:bj w):Calls prog 119 #[v] w fun e w'=>e=.returned (.bool (jj xs))/\La w w':=by
 obtain⟨a,c,rfl⟩:=h.form;have H:=aa h;have HP:=aa hP;have HM:=aa hM;have ll:=h.1;unfold maxLen at ll;clear h hP hM;go_enter func119,ntmps119;go_wp2
 go_loopg [7] xs.length (fun gk i wr=>∃ k:Nat,k<=xs.length/\gk=xs.length - k/\i=.int .i64 k/\Ll ((xs.take k).all oh=true/\dg (xs.take k)=true)/\Ll (La w wr))
 case atStart=>exact⟨0,Nat.zero_le _,rfl,rfl,⟨rfl,rfl⟩,MK _ _⟩
 case round=>
  obtain⟨k,hk,hgk,rfl,AL,BL⟩:=hrel;have GK:=aa hgk;clear hgk;by_cases hlt:k < xs.length
  ·obtain⟨b,off,rfl,hc1,hc2,hcell0⟩:=gQ H.o hlt;unfold maxLen at hc2;have LV:=ah BL.o hcell0;have w2:(k:Int) < (xs.length:Int):=by omega
   have CALL:Ll (∀ W:LC,La w W->Calls prog 152 #[.string ⟨xs[k].toArray⟩] W fun e w'=>e=.returned (.bool (oh xs[k]))/\La W w'):=fun W hW=>xy W xs[k] (HP.o _ (List.getElem_mem _)) (HM.o.bel hW);have PV:Ll (∀ j,k=j+1->w.cell? ⟨b,off+j,none⟩=some (.string ⟨xs[k - 1].toArray⟩)):=fun j hj=>by
    subst hj;obtain⟨b',off',e,-,-,h9⟩:=gQ H.o (k:=j) (by omega);cases e;exact h9
   clear hcell0;cases hpl:oh xs[k] with
   | false=>
    have R:=aa (EF hlt hpl);have HPL:=aa hpl;clear hpl;go_wp2_with (go_at_call 152;refine Lk (CALL.o _ BL.o) fun w' hb=>?_;rw[HPL.o];have BL2:=aa (ab BL.o hb);clear hb)
    go_ret;exact⟨by rw[R.o];rfl,BL2.o⟩
   | true=>
    have HPL:=aa hpl;have AN:=aa (vz hlt AL.o.1 hpl);clear hpl;cases k with
    | zero=>
     rw[Nat.add_zero]at LV;go_wp2_with (go_at_call 152;refine Lk (CALL.o _ BL.o) fun w' hb=>?_;rw[HPL.o];have BL2:=aa (ab BL.o hb);clear hb)
     go_roundg (xs.length - 1)
     case measure=>rw[GK.o];omega
     case rel=>exact⟨1,by omega,rfl,by go_num,⟨AN.o,rB xs⟩,BL2⟩
    | succ j=>
     have hpc:=ah BL.o (PV.o j rfl);have j0:(0:Int) < ((j+1:Nat):Int):=by omega
     have RT:=aa (pR hlt);simp only[Nat.add_sub_cancel]at hpc;have hpcA:Ll (∀ W,La w W->W.cell? ⟨b,off+j,none⟩=some (.string ⟨xs[j].toArray⟩)):=fun W hW=>by
      have:=ah hW (PV.o j rfl);simpa only[Nat.add_sub_cancel] using this
     clear hpc;cases hbl:Op.bytesLess xs[j] xs[j+1] with
     | true=>
      have HBL:=aa hbl;go_wp2_with (go_at_call 152;refine Lk (CALL.o _ BL.o) fun w' hb=>?_;rw[HPL.o];have BL2:=aa (ab BL.o hb);have hpc:=hpcA.o _ BL2.o;clear hb)
      go_roundg (xs.length - (j+1+1))
      case measure=>rw[GK.o];omega
      case rel=>exact⟨j+1+1,by omega,rfl,by go_num,⟨AN.o,by rw[RT.o,AL.o.2,HBL.o];rfl⟩,BL2⟩
     | false=>
      have R:=aa (ED hlt hbl);go_wp2_with (go_at_call 152;refine Lk (CALL.o _ BL.o) fun w' hb=>?_;rw[HPL.o];have BL2:=aa (ab BL.o hb);have hpc:=hpcA.o _ BL2.o;clear hb)
      go_ret;exact⟨by rw[R.o];rfl,BL2.o⟩
  ·have d1:¬(k:Int) < (xs.length:Int):=by omega
   have Mc:k=xs.length:=by omega
   have AE:Ll (xs.all oh=true/\dg xs=true):=aa (by have:=AL.o;rwa [Mc,List.take_length]at this);clear Mc;cases xs with
   | nil=>
    go_wp2
    go_ret;exact⟨rfl,BL.o⟩
   | cons x xs=>
    have R:Ll (jj (x :: xs)=true):=aa (by simp only[jj,AE.o.1,AE.o.2];rfl);have g1:(0:Int) < (((x :: xs).length:Nat):Int):=by simp only[My];omega
    have g2:decide (0 < (x :: xs).length)=true:=by simp
    obtain⟨L,hL⟩:∃ L,(x :: xs).length=L:=⟨_,rfl⟩
    rw[hL]at g1 g2 d1 ll ⊢;clear hL;go_wp2
    go_ret;exact⟨by rw[R.o];first | done | rfl | simp,BL.o⟩
theorem dq(w:LC)(ok t v)(h:In w ok t v):Calls prog 91 #[v] w fun e w'=>e=.returned (.bool (decide (t.kind=5)&&aE t))/\La w w':=by
 have H:=aa h;obtain⟨a1,a2,c1,c2,rfl⟩:=h.form;clear h;by_cases hk:t.kind=5
 ·have e1:(t.kind == 5)=true:=by simp[hk]
  have R:Ll ((decide (t.kind=5)&&aE t)=aE t):=aa (by simp[hk]);clear hk;go_enter func91,ntmps91;go_wp2_with (go_at_call 43;refine Lk (bG _ ok t _ (by exact H.o.bel (ae _ _))) fun w1 hb=>?_;have B:=aa (ab (ae _ _) hb);clear hb)
  go_ret;exact⟨by rw[R.o];first | done | rfl | simp,B.o⟩
 ·have e1:(t.kind == 5)=false:=by rw[MO];exact hk
  have R:Ll ((decide (t.kind=5)&&aE t)=false):=aa (by simp[hk]);clear hk;go_enter func91,ntmps91;go_wp2
  go_ret;exact⟨by rw[R.o];first | done | rfl | simp,ae _ _⟩
section
open Go.RowKit Go.Shelf Go.Sort
def ji (x:Lz):Value:=.string ⟨x.toArray⟩
theorem tQ(x y):ltOf Lib.compareBytes x y=Op.bytesLess x y:=by
 unfold ltOf;rw[Bool.eq_iff_iff,decide_eq_true_eq];exact ki x y
theorem Hj:SWO (ltOf Lib.compareBytes) where
 irrefl x:=by rw[tQ];exact cd x
 trans x y z h1 h2:=by rw[tQ]at *;exact cP _ _ _ h1 h2
 ntrans x y z h1 h2:=by
  rw[tQ]at *;exact rE (a:=z) (b:=y) (c:=x) h2 h1
theorem xr{L}{d:Array Lz}(hp:PermIn 0 L.length L.toArray d)(hs:SortedIn (ltOf Lib.compareBytes) 0 L.length d):d.toList=ix L:=by
 obtain⟨h1,-,h2⟩:=hp;have L9:d.size=L.length:=by simpa using h1
 have e1:(d.extract 0 L.length)=d:=by rw[<-L9];simp
 have e2:(L.toArray.extract 0 L.length)=L.toArray:=by
  have:L.length=L.toArray.size:=by simp
  rw[this];exact Array.extract_size
 rw[e1,e2]at h2;refine Ig (by simpa using h2) ?_;rw[List.pairwise_iff_getElem];intro i j hi hj hij;have hi':i < d.size:=by simpa using hi
 have hj':j < d.size:=by simpa using hj
 have:=hs i j (Nat.zero_le _) hij (by omega);rw[tQ,getElem!_pos d j hj',getElem!_pos d i hi']at this;simpa [xA] using this
theorem oo(W:LC)(g m)(d:Array Lz)(os:Array Obj)(k)(hk:k < W.heap.size)(hne:k≠g):(sortWorld ji W g 0 m d os).heap[k]?=W.heap[k]?:=by
 change (W.heap.modify g (onCells (putCells ji 0 d))++os)[k]?=W.heap[k]?;rw[Array.getElem?_append_left (by simpa using hk),Array.getElem?_modify,if_neg (fun e=>hne e.symm)]
theorem ox(W:LC)(g m)(d:Array Lz)(os:Array Obj):W.grownBy (sortWorld ji W g 0 m d os) (some g):=by
 refine⟨rfl,rfl,rfl,?_,fun k hk hr=>oo W g m d os k hk (fun e=>hr (by rw[e]))⟩;change W.heap.size<=(W.heap.modify g (onCells (putCells ji 0 d))++os).size;simp
theorem qn:∀ args w,(callFunc 35 args).run prog w=.ok (.enter 35 args) w:=enters_of func35 (by kernel_rfl) rfl
theorem Bh(blk off size)(w:LC):CmpReads prog 35 #[] ji Lib.compareBytes blk off size w:=fun m os dk _ x y=>by
 have:=Tryz.strCompare ⟨x.toArray⟩ ⟨y.toArray⟩ (sortWorld ji w blk off m dk os);simp only[List.toList_toArray]at this;exact this.mono fun e w' h=>⟨h.1,0,h.2⟩
theorem Fy(W:LC)(B L sv)(h:W.ownsRow B 9 1 sv L.length (L.map ji))(hl:∀ x∈L,x.length<=maxLen)(hn:L.length < 4611686018427387904):Calls prog 154 #[sv,.func (.func 35) #[] #[]] W fun e w'=>e=.returned (.tuple #[])/\ao w' (fun k=>B<=k) (ix L) sv/\W.grownBy w' sv.ownBlock:=by
 rcases h.2 with⟨rfl,h0⟩ | ⟨g,cap,cur,rfl,h1,h2,h3,h4,h5,h6⟩
 ·have hL:L=[]:=List.length_eq_zero_iff.1 h0;subst hL;have hc:=AnyF.slices_SortFunc_none (P:=prog) (ρ:=Tryz.laysSort_ren) { Tryz.laysSort with } none 0 (.func (.func 35) #[] #[]) W;change Calls prog 154 _ _ _ at hc;exact hc.mono fun e w' h=>⟨h.1,⟨by simp[ix,maxLen],.inl ⟨rfl,none,rfl⟩⟩,by rw[h.2];exact az _ _⟩
 ·have hblk:g < W.heap.size:=(MF.1 h2).1;have LV:∀ j (hj:j < L.length),cur[j]?=some (ji L[j]):=fun j hj=>by
   have e:=congrArg (fun l=>l[j]?) h6;simp only[Nat.mul_one,List.getElem?_take,List.getElem?_map,Mw hj,Option.map_some]at e;rw[if_pos hj]at e;simpa using e
  have hH:Holds ji W g 0 L.toArray:=fun j hj=>by
   have hj':j < L.length:=by simpa using hj
   rw[getElem!_pos L.toArray j hj];refine⟨?_,?_⟩
   ·simp[World.cell?,h2,LV j hj']
   ·simp[World.frozen?,h2]
  have hc:=Any.slices_SortFunc Tryz.laysSort ji (fun _=>rfl) Lib.compareBytes Hj 35 #[] g 0 cap L.toArray W qn (Bh g 0 L.toArray.size W).lays hH hblk (by simpa using hn);have L9:L.toArray.size=L.length:=by simp
  rw[L9]at hc;change Calls prog 154 _ _ _ at hc;refine hc.mono ?_;rintro e w' ⟨rfl,d,n,os,hp,hs,rfl⟩;have hd:=xr hp hs;have hdl:d.size=L.length:=by have:=hp.1;simpa using this
  have hsl:(ix L).length=L.length:=(fU L).length_eq;refine⟨rfl,⟨by rw[hsl];omega,.inr ⟨g,0,cap,by rw[hsl],by rw[hsl];exact h3,h4,fun i x hx=>?_⟩⟩,ox W g n d os⟩;obtain⟨hi,rfl⟩:=Mz.1 hx;have hi2:i < d.size:=by rw[hdl,<-hsl];exact hi
  refine⟨hl _ ((fU L).mem_iff.1 (List.getElem_mem hi)),h1,?_⟩;have hA:Holds ji (Go.Sort.ahead W n) g 0 L.toArray:=hH;have hcw:=cell?_putRow ji (Go.Sort.ahead W n) g 0 L.toArray d hA (by simpa using hdl) i hi2;unfold sortWorld;rw[cell?_grow _ _ _ (by rw[size_putRow];exact hblk),hcw,getElem!_pos d i hi2];have:d[i]=(ix L)[i]:=by
   have:=congrArg (fun l=>l[i]?) hd;simp only[Mw hi,Array.getElem?_toList]at this;exact(MF.1 this).2
  rw[this];rfl
theorem qY(D t):dC [] (jK D t)=(jK D t).map aU:=by simp[dC]
theorem C6(w:LC)(ok t v)(h:In w ok t v)(hM:bj w):Calls prog 122 #[v] w fun e w'=>∃ (a:Option Addr) (c:Nat),e=.returned (.slice a (au t).length c)/\ao w' (fun k=>w.heap.size<=k) (au t) (.slice a (au t).length c)/\La w w':=by
 have H:=aa h.low;have HM:=aa hM;obtain⟨a1,a2,c1,c2,rfl⟩:=h.form;clear h hM;have B0:Ll (∀ o,La w (w.alloc o)):=aa (fun o=>ae _ _);by_cases hg:t.kind=5/\aE t=true
 ·have e1:(decide (t.kind=5)&&aE t)=true:=by simp[hg.1,hg.2]
  have LF:Ll (au t=ix ((jK 12 t).map aU)):=aa (if_pos hg);have GT:=aa (fh hg.2);have NC:=aa (gE (dQ hg.2));have K5:=aa hg.1;have GG:=aa hg;clear hg;go_enter func122,ntmps122;go_upto_region 3 with (go_at_call 91;refine Lk (dq _ (Lj ok w) t _ (by exact H.o.bel (B0.o _))) fun w1 hb1=>?_;rw[e1];have B1:=aa (ab (B0.o _) hb1);have PB:=aa (af hb1 (MN w _));clear hb1)
  have W2:Ll (La w (w1.alloc (.cells #[.slice none 0 0] 36))):=aa (ab B1.o (ae _ _));have GI:Ll (pH (w1.alloc (.cells #[.slice none 0 0] 36)) w1.heap.size [] none):=aa ⟨.slice none 0 0,MN _ _,World.ownsRow_nil _ _ _ _,rfl⟩;have LO:Ll (∀ k,(ok k/\k < w.heap.size)->k < w1.heap.size):=aa (fun k hk=>by have:=B1.o.size;omega);have GMA:Ll (∀ W,Below w1.heap.size (w1.alloc (.cells #[.slice none 0 0] 36)) W->bj W):=aa (fun W hW=>HM.o.bel (W2.o.trans (hW.mono B1.o.size)));have CALL:=aa (De 12 (w1.alloc (.cells #[.slice none 0 0] 36)) (Lj ok w) t _ [] w1.heap.size [] none (by exact H.o.bel W2.o) LO.o GT.o K5.o (by simp) (by have:=NC.o;simp;omega) GI.o GMA.o);obtain⟨q0,q1,q2,q3,q4,-⟩:=ag.c (af (ae w1 (.cells #[.slice none 0 0] 36)) PB.o);go_upto_region 5 with (go_at_call 153;refine CALL.o.mono ?_;rintro e w3 ⟨rfl,r3,hg3,hk3,hf3⟩;rw[List.nil_append,qY]at hg3;have G3:=aa hg3;have L3:Ll (Below w1.heap.size (w1.alloc (.cells #[.slice none 0 0] 36)) w3):=aa (hk3.low (by simp) (by intro g hg;cases hg));clear hg3 hk3 hf3 q0 q1 q2 q3 q4)
  obtain⟨sv,s1,s2,s3⟩:=G3.o;have c0:w3.cell? ⟨w1.heap.size,0,none⟩=some sv:=by simp[World.cell?,s1]
  have SC:=aa (Fy w3 (w1.heap.size+1) ((jK 12 t).map aU) sv s2 (fun x hx=>by
   obtain⟨ns,hn,rfl⟩:=List.mem_map.1 hx;have:=tj 12 t ns GT.o K5.o hn;unfold maxLen;omega) (by
   have:=mB 12 t;have h9:=df t;have:=NC.o;rw[List.length_map];omega))
  have S1:=aa s1;have S2:=aa s2;obtain⟨sa,sn,sc,hsv⟩:∃ sa sn sc,sv=.slice sa sn sc:=by
   rcases s2.2 with⟨h9,-⟩ | ⟨_,_,_,h9,-⟩
   ·exact⟨_,_,_,h9⟩
   ·exact⟨_,_,_,h9⟩
  subst hsv;clear s1 s2 s3;go_upto_region 6 with (go_at_call 154;refine SC.o.mono ?_;rintro e w4 ⟨rfl,hst,hgb⟩;have ST:=aa hst;have GB:=aa hgb;clear hst hgb)
  have c4:w4.cell? ⟨w1.heap.size,0,none⟩=some (.slice sa sn sc):=by
   have hlt:w1.heap.size < w3.heap.size:=(MF.1 S1.o).1;have:=GB.o.block w1.heap.size hlt (fun e=>by have:=(bY S2.o e.symm).1;omega);simp[World.cell?,this,S1.o]
  have BB:Ll (La w w4):=aa (by
   have h1:Below w1.heap.size w3 w4:=⟨GB.o.os,GB.o.tape,GB.o.output,GB.o.size,fun k hk=>by
    have hlt:w1.heap.size < w3.heap.size:=(MF.1 S1.o).1;exact GB.o.block k (by omega) (fun e=>by have:=(bY S2.o e.symm).1;omega)⟩
   exact(W2.o.trans (L3.o.mono B1.o.size)).trans (h1.mono B1.o.size))
  have SN:Ll (sn=(au t).length):=aa (by
   obtain⟨a9,c9,e9⟩:=ST.o.form;simp only[Value.slice.injEq]at e9;rw[LF.o];exact e9.2.1)
  have SZ:Ll (w.heap.size<=w1.heap.size):=aa B1.o.size;clear c0;go_wp2
  go_ret;refine⟨sa,sc,by rw[<-SN.o];rfl,?_,BB.o⟩;rw[<-SN.o,LF.o];exact ST.o.imp fun a x h1 h2=>⟨MH SZ.o (Nat.le_of_succ_le h1),h2⟩
 ·have e1:(decide (t.kind=5)&&aE t)=false:=by
   rw[Bool.and_eq_false_iff];by_cases h9:t.kind=5
   ·right;rw[Bool.eq_false_iff];exact fun h8=>hg ⟨h9,h8⟩
   ·left;exact decide_eq_false h9
  have LF:Ll (au t=[]):=aa (if_neg hg);clear hg;go_enter func122,ntmps122;go_wp2_with (go_at_call 91;refine Lk (dq _ (Lj ok w) t _ (by exact H.o.bel (B0.o _))) fun w1 hb1=>?_;rw[e1];have B1:=aa (ab (B0.o _) hb1);clear hb1)
  go_ret;exact⟨none,0,by rw[LF.o];rfl,by rw[LF.o];exact⟨by simp,.inl ⟨rfl,none,rfl⟩⟩,B1.o⟩
end
theorem lR(w:LC)(s)(hs:s.length<=9223372036854775807):Calls prog 14 #[aR s] w fun e w'=>e=.returned (.bool (bT s))/\w'=w:=by
 have bl:(ByteArray.mk s.toArray).size=s.length:=by simp[ByteArray.size]
 unfold aR;by_cases hsn:s=[]
 ·subst hsn;have R:Ll (bT []=false):=aa rfl;clear bl hs;go_enter func14,ntmps14;go_wp2
  go_ret;exact⟨by rw[R.o];first | done | rfl,rfl⟩
 ·have hne:s.isEmpty=false:=by cases s with | nil=>exact absurd rfl hsn | cons c r=>rfl
  have hne2:(s == [])=false:=by cases s with | nil=>exact absurd rfl hsn | cons c r=>rfl
  have NE:=aa hne;clear hsn;by_cases h12:s.length<=12
  ·have g12:¬(12:Int) < (s.length:Int):=by omega
   have g13:decide (12 < s.length)=false:=decide_eq_false (by omega);have H12:=aa h12;go_enter func14,ntmps14;go_wp2
   go_loopg [3] s.length (fun gk iv wr=>∃ k:Nat,k<=s.length/\gk=s.length - k/\iv=.int .i64 k/\Ll ((s.take k).all rp=true)/\wr=w)
   case atStart=>exact⟨0,Nat.zero_le _,rfl,rfl,aa rfl,rfl⟩
   case round=>
    obtain⟨k,hk,hgk,rfl,AL,hw⟩:=hrel;have hw':=hw.symm;subst hw';have GK:=aa hgk;clear hgk hw;by_cases hlt:k < s.length
    ·have hszm:k < (ByteArray.mk s.toArray).size:=by rw[bl];exact hlt
     have hgetm:(ByteArray.mk s.toArray)[k]=s[k]:=rfl;have v1:(0:Int)<=(k:Int):=by omega
     have v2:(k:Int) < (s.length:Int):=by omega
     have TK:Ll ((s.take (k+1)).all rp=(true&&rp s[k])):=aa (by rw[List.take_succ_eq_append_getElem hlt,List.all_append,AL.o];simp);have SK:Ll (rp s[k]=false->bT s=false):=fun h=>by
      unfold bT;have:s.all rp=false:=by rw[List.all_eq_false];exact⟨s[k],List.getElem_mem hlt,by rw[h];simp⟩
      rw[this];simp
     obtain⟨c,hc⟩:∃ c,s[k]=c:=⟨_,rfl⟩
     rw[hc]at hgetm TK SK;have hc256:(c.toNat:Int) < 256:=by have:=c.toNat_lt;omega
     clear hc;by_cases hlo:c.toNat < 97
     ·have e1:(c.toNat:Int) < 97:=by omega
      have R:=aa (SK.o (by simp[rp];omega));go_wp2
      go_ret;exact⟨by rw[R.o];first | done | rfl,rfl⟩
     ·have e1:¬(c.toNat:Int) < 97:=by omega
      by_cases hhi:122 < c.toNat
      ·have e2:(122:Int) < (c.toNat:Int):=by omega
       have R:=aa (SK.o (by simp[rp];omega));go_wp2
       go_ret;exact⟨by rw[R.o];first | done | rfl,rfl⟩
      ·have e2:¬(122:Int) < (c.toNat:Int):=by omega
       have NX:Ll ((s.take (k+1)).all rp=true):=aa (by rw[TK.o];simp[rp];omega);go_wp2
       go_roundg (s.length - (k+1))
       case measure=>rw[GK.o];omega
       case rel=>exact⟨k+1,by omega,rfl,by go_num,NX,rfl⟩
    ·have d1:¬(k:Int) < (s.length:Int):=by omega
     have R:Ll (bT s=true):=aa (by
      have h9:=AL.o;rw[MD (by omega)]at h9;simp[bT,NE.o,H12.o,h9])
     go_wp2
     go_ret;exact⟨by rw[R.o];first | done | rfl,rfl⟩
  ·have g12:(12:Int) < (s.length:Int):=by omega
   have g13:decide (12 < s.length)=true:=decide_eq_true (by omega);have R:Ll (bT s=false):=aa (by simp[bT,h12]);go_enter func14,ntmps14;go_wp2
   go_ret;exact⟨by rw[R.o];first | done | rfl,rfl⟩
theorem Pb{xs}(h:6 < xs.length):bp xs=false:=by
 have:decide (xs.length<=6)=false:=decide_eq_false (by omega);simp[bp,this]
theorem yJ{xs}(hk:k < xs.length)(h:ol xs[k]=false):bp xs=false:=by
 have:xs.all ol=false:=by rw[List.all_eq_false];exact⟨xs[k],List.getElem_mem _,by simp[h]⟩
 simp[bp,this]
theorem vS{xs j}(hj:j+1 < xs.length)(h:Op.bytesLess xs[j].name xs[j+1].name=false):bp xs=false:=by
 have:dg (xs.map aL.name)=false:=sm (j:=j) (by simpa using hj) (by simpa using h);simp[bp,this]
theorem yH{xs}(h:xs.length<=6)(h1:xs.all ol=true)(h2:dg (xs.map aL.name)=true):bp xs=true:=by
 unfold bp;rw[decide_eq_true h,h1,h2];rfl
theorem yw{xs:List aL}{j:Nat}(h:j+1 < xs.length):dg ((xs.take (j+2)).map aL.name)=(dg ((xs.take (j+1)).map aL.name)&&Op.bytesLess xs[j].name xs[j+1].name):=by
 have:=pR (xs:=xs.map aL.name) (j:=j) (by simpa using h);simpa only[List.map_take,List.getElem_map] using this
theorem BT(xs:List aL):dg ((xs.take 1).map aL.name)=true:=by rw[List.map_take];exact rB _
theorem eZ(w ok xs v)(h:aB w ok xs v)(hP:∀ o∈xs,∀ x∈o.paths,x.length<=140737488351232)(hM:bj w):Calls prog 92 #[v] w fun e w'=>e=.returned (.bool (bp xs))/\La w w':=by
 obtain⟨a,c,rfl⟩:=h.form;have H:=aa h;have HP:=aa hP;have HM:=aa hM;have ll:=h.1;unfold maxLen at ll;clear h hP hM;by_cases h6:6 < xs.length
 ·have R:=aa (Pb h6);have g1:(6:Int) < (xs.length:Int):=by omega
  have g2:decide (6 < xs.length)=true:=decide_eq_true h6;go_enter func92,ntmps92;go_wp2
  go_ret;exact⟨by rw[R.o];rfl,MK _ _⟩
 have g1:¬(6:Int) < (xs.length:Int):=by omega
 have g2:decide (6 < xs.length)=false:=decide_eq_false h6;have L6:Ll (xs.length<=6):=aa (by omega);clear h6;go_enter func92,ntmps92;go_wp2
 go_loopg [10] xs.length (fun gk i wr=>∃ k:Nat,k<=xs.length/\gk=xs.length - k/\i=.int .i64 k/\Ll ((xs.take k).all ol=true/\dg ((xs.take k).map aL.name)=true)/\Ll (La w wr))
 case atStart=>exact⟨0,Nat.zero_le _,rfl,rfl,⟨rfl,rfl⟩,MK _ _⟩
 case round=>
  obtain⟨k,hk,hgk,rfl,AL,BL⟩:=hrel;have GK:=aa hgk;clear hgk;by_cases hlt:k < xs.length
  ·obtain⟨b,off,pa,pc,rfl,hc1,hc2,hn0,hp0,hst,hnl⟩:=H.o.at hlt;have hn:=ah BL.o hn0;have hp:=ah BL.o hp0;have w2:(k:Int) < (xs.length:Int):=by omega
   have ST:=aa hst;have HPK:=aa (HP.o xs[k] (List.getElem_mem _));have PV:Ll (∀ j,k=j+1->w.cell? ⟨b,off+j * 2,none⟩=some (.string ⟨xs[k - 1].name.toArray⟩)):=fun j hj=>by
    subst hj;obtain⟨b',off',_,_,e,-,-,h9,-⟩:=H.o.at (k:=j) (by omega);cases e;exact h9
   have OB:Ll (ol xs[k]=(bT xs[k].name&&jj xs[k].paths)):=aa rfl;have AT:Ll (ol xs[k]=true->(xs.take (k+1)).all ol=true):=fun h9=>vz hlt AL.o.1 h9;have BD:Ll (ol xs[k]=false->bp xs=false):=fun h9=>yJ hlt h9;have RT:Ll (∀ j (hj:k=j+1),dg ((xs.take (k+1)).map aL.name)=(dg ((xs.take k).map aL.name)&&Op.bytesLess xs[k - 1].name xs[k].name)/\(Op.bytesLess xs[k - 1].name xs[k].name=false->bp xs=false)):=fun j hj=>by
    subst hj;exact⟨yw hlt,fun h9=>vS hlt h9⟩
   clear hn0 hp0 hst;obtain⟨nm,hnm⟩:∃ nm,xs[k].name=nm:=⟨_,rfl⟩
   obtain⟨ps,hps⟩:∃ ps,xs[k].paths=ps:=⟨_,rfl⟩
   rw[hps]at hp ST HPK OB;rw[hnm]at hn hnl OB RT;obtain⟨W5,hW5⟩:∃ W,W=wr.alloc (.cells #[.string ⟨nm.toArray⟩,.slice pa ps.length pc] 47):=⟨_,rfl⟩
   have B5:Ll (La w W5):=aa (by rw[hW5];exact ab BL.o (ae _ _));have s0:∀ p:mq W5,p.W.cell? ⟨wr.heap.size,0,none⟩=some (.string ⟨nm.toArray⟩):=mY (by rw[hW5];exact(rl (MN _ _)).1);have s1:∀ p:mq W5,p.W.cell? ⟨wr.heap.size,1,none⟩=some (.slice pa ps.length pc):=mY (by rw[hW5];exact(rl (MN _ _)).2);have NM:Ll (∀ (o:Bool),bT nm=o->∀ p:mq W5,Calls prog 14 #[.string ⟨nm.toArray⟩] p.W fun e w''=>e=.returned (.bool o)/\∃ q:mq W5,w''=q.W):=fun o ho p=>Calls.belW ((lR p.W nm hnl).mono fun e w4 h9=>⟨by rw[<-ho];exact h9.1,by rw[h9.2];exact MK _ _⟩);have GP:Ll (∀ (o:Bool),jj ps=o->∀ p:mq W5,Calls prog 119 #[.slice pa ps.length pc] p.W fun e w''=>e=.returned (.bool o)/\∃ q:mq W5,w''=q.W):=fun o ho p=>Calls.belW ((sR p.W ok ps _ ((ST.o.bel B5.o).bel p.h) HPK.o (HM.o.bel (ab B5.o p.h))).mono fun e w4 h9=>⟨by rw[<-ho];exact h9.1,h9.2⟩);have hmix:prog.follows .mixedOrders=true:=by kernel_rfl
   have HW:=aa hW5;have hne:Nonempty (mq W5):=⟨⟨W5,MK _ _⟩⟩
   clear hnm hps hW5;cases hna:bT nm with
   | false=>
    have NM2:=aa (NM.o false hna);have R:=aa (BD.o (by rw[OB.o,hna];rfl));clear hna;go_wp2
    rw[<-HW.o];refine dE (by assumption) (by kernel_rfl) ?_;repeat(first | go_big_quiet_step ((go_at_call 14;exact NM2.o _)) | quiet_step ((go_at_call 14;exact NM2.o _)))
    refine wpQuiet_nil ?_;intro _ hw';obtain⟨pq,hw''⟩:=hw';subst hw'';go_wp2
    go_ret;exact⟨by rw[R.o];rfl,ab B5.o pq.h⟩
   | true=>
    have NM2:=aa (NM.o true hna);have NA:=aa hna;clear hna;cases k with
    | zero=>
     rw[Nat.zero_mul,Nat.add_zero]at hn hp;cases hg:jj ps with
     | false=>
      have GP2:=aa (GP.o false hg);have R:=aa (BD.o (by rw[OB.o,NA.o,hg];rfl));clear hg;go_wp2
      rw[<-HW.o];refine dE (by assumption) (by kernel_rfl) ?_;repeat(first | go_big_quiet_step ((first | (go_at_call 14;exact NM2.o _) | (go_at_call 119;exact GP2.o _))) | quiet_step ((first | (go_at_call 14;exact NM2.o _) | (go_at_call 119;exact GP2.o _))))
      refine wpQuiet_nil ?_;intro _ hw';obtain⟨pq,hw''⟩:=hw';subst hw'';go_wp2
      go_ret;exact⟨by rw[R.o];rfl,ab B5.o pq.h⟩
     | true=>
      have GP2:=aa (GP.o true hg);have A2:=aa (AT.o (by rw[OB.o,NA.o,hg];rfl));clear hg;go_wp2
      rw[<-HW.o];refine dE (by assumption) (by kernel_rfl) ?_;repeat(first | go_big_quiet_step ((first | (go_at_call 14;exact NM2.o _) | (go_at_call 119;exact GP2.o _))) | quiet_step ((first | (go_at_call 14;exact NM2.o _) | (go_at_call 119;exact GP2.o _))))
      refine wpQuiet_nil ?_;intro _ hw';obtain⟨pq,hw''⟩:=hw';subst hw'';go_wp2
      go_roundg (xs.length - 1)
      case measure=>rw[GK.o];omega
      case rel=>exact⟨1,by omega,rfl,by go_num,⟨A2.o,BT xs⟩,ab B5.o pq.h⟩
    | succ j=>
     have j0:(0:Int) < ((j+1:Nat):Int):=by omega
     have s2:∀ p:mq W5,p.W.cell? ⟨b,off+j * 2,none⟩=some (.string ⟨xs[j].name.toArray⟩):=mY (by have:=ah B5.o (PV.o j rfl);simpa only[Nat.add_sub_cancel] using this);obtain⟨RT1,RT2⟩:=RT.o j rfl;simp only[Nat.add_sub_cancel]at RT1 RT2;obtain⟨nj,hnj⟩:∃ nj,xs[j].name=nj:=⟨_,rfl⟩
     rw[hnj]at s2 RT1 RT2;have RTA:=aa RT1;have RTB:=aa RT2;clear hnj RT1 RT2;cases hbl:Op.bytesLess nj nm with
     | false=>
      have R:=aa (RTB.o hbl);go_wp2
      rw[<-HW.o];refine dE (by assumption) (by kernel_rfl) ?_;repeat(first | go_big_quiet_step ((go_at_call 14;exact NM2.o _)) | quiet_step ((go_at_call 14;exact NM2.o _)))
      refine wpQuiet_nil ?_;intro _ hw';obtain⟨pq,hw''⟩:=hw';subst hw'';go_wp2
      go_ret;exact⟨by rw[R.o];rfl,ab B5.o pq.h⟩
     | true=>
      cases hg:jj ps with
      | false=>
       have GP2:=aa (GP.o false hg);have R:=aa (BD.o (by rw[OB.o,NA.o,hg];rfl));clear hg;go_wp2
       rw[<-HW.o];refine dE (by assumption) (by kernel_rfl) ?_;repeat(first | go_big_quiet_step ((first | (go_at_call 14;exact NM2.o _) | (go_at_call 119;exact GP2.o _))) | quiet_step ((first | (go_at_call 14;exact NM2.o _) | (go_at_call 119;exact GP2.o _))))
       refine wpQuiet_nil ?_;intro _ hw';obtain⟨pq,hw''⟩:=hw';subst hw'';go_wp2
       go_ret;exact⟨by rw[R.o];rfl,ab B5.o pq.h⟩
      | true=>
       have GP2:=aa (GP.o true hg);have A2:=aa (AT.o (by rw[OB.o,NA.o,hg];rfl));have HBL:=aa hbl;clear hg;go_wp2
       rw[<-HW.o];refine dE (by assumption) (by kernel_rfl) ?_;repeat(first | go_big_quiet_step ((first | (go_at_call 14;exact NM2.o _) | (go_at_call 119;exact GP2.o _))) | quiet_step ((first | (go_at_call 14;exact NM2.o _) | (go_at_call 119;exact GP2.o _))))
       refine wpQuiet_nil ?_;intro _ hw';obtain⟨pq,hw''⟩:=hw';subst hw'';go_wp2
       go_roundg (xs.length - (j+1+1))
       case measure=>rw[GK.o];omega
       case rel=>exact⟨j+1+1,by omega,rfl,by go_num,⟨A2.o,by rw[RTA.o,AL.o.2,HBL.o];rfl⟩,ab B5.o pq.h⟩
  ·have d1:¬(k:Int) < (xs.length:Int):=by omega
   have Mc:k=xs.length:=by omega
   have R:Ll (bp xs=true):=aa (by have:=AL.o;rw[Mc,List.take_length]at this;exact yH L6.o this.1 this.2);clear Mc;go_wp2
   go_ret;exact⟨by rw[R.o];rfl,BL.o⟩
end Go.Proofs.YtgolnaencepejaaGreatDoor
namespace Go.Proofs.YtgolnaencepejaaGreatDoor
open Go.RowKit
open _root_.Go.Proofs.Tryz
variable {w w':World}
variable {t:V}
variable {g:Nat}
section
def kt:Lz:=[112,97,117,115,101]
def aT (t:V):Option dN:=
 if t.kind=2 then (if tm t.n=true then some ⟨t.n,0⟩ else none)
 else match aS t kt with
  | some y=>if y.kind=2/\lp y.n=true then some ⟨-1,y.n⟩ else none
  | none=>none
def qZ (w:LC) (g:Nat) (x:dN):Prop:=w.heap[g]?=some (.cells #[.int .i64 x.w,.int .i64 x.p] 111)
theorem qZ.c{x}(h:qZ w g x):w.cell? ⟨g,0,none⟩=some (.int .i64 x.w)/\w.cell? ⟨g,1,none⟩=some (.int .i64 x.p)/\w.frozen? ⟨g,0,none⟩=false/\w.frozen? ⟨g,1,none⟩=false:=by
 unfold qZ at h;refine⟨?_,?_,?_,?_⟩ <;> simp[World.cell?,World.frozen?,h]
theorem qZ.bel{x}(h:qZ w g x)(hb:La w w'):qZ w' g x:=(hb.block g (MF.1 h).1).trans h
theorem qZ.set{x}(h:qZ w g x)(y):qZ ((w.setCell ⟨g,0,none⟩ (.int .i64 y.w)).setCell ⟨g,1,none⟩ (.int .i64 y.p)) g y:=ak (ak h 0 _) 1 _
def RS (w:LC) (b:Nat) (t:V) (a1 b1:Option Addr) (c1 d1:Nat) (wS:LC):Prop:=KY wS b t a1 c1 b1 d1/\qZ wS (w.heap.size+1) ⟨0,0⟩/\La w wS
theorem RS.bel{wS:LC}{b a1 b1 c1 d1}(h:RS w b t a1 b1 c1 d1 wS)(hb:La wS w'):RS w b t a1 b1 c1 d1 w':=⟨af hb h.1,h.2.1.bel hb,ab h.2.2 hb⟩
attribute [local go_sem ↓] Go.wp_at_zero Go.wp_at_succ
theorem tn(w:LC)(ok t v)(h:In w ok t v)(hk:t.kind=2):Calls prog 63 #[v] w fun e w'=>∃ x:dN,e=.returned (.tuple #[ju x,.bool (aT t).isSome])/\(∀ z,aT t=some z->x=z)/\La w w':=by
 have H:=aa h;obtain⟨a1,b1,c1,d1,rfl⟩:=h.form;have K0:Ll (RS w w.heap.size t a1 b1 c1 d1 ((w.alloc (.cells (KV t a1 c1 b1 d1) 39)).alloc (.cells #[.int .i64 0,.int .i64 0] 111))):=aa ⟨fb w _ _,et w _ _,ab (ae _ _) (ae _ _)⟩;clear h;have e1:(t.kind == 2)=true:=by simp[hk]
 have FS:aT t=if tm t.n=true then some ⟨t.n,0⟩ else none:=by rw[aT,if_pos hk]
 have FIN:Ll ((aT t).isSome=tm t.n):=aa (by rw[FS];cases tm t.n <;> rfl);have FV:Ll (∀ z,aT t=some z->(⟨t.n,0⟩:dN)=z):=aa (fun z hz=>by rw[FS]at hz;cases hw:tm t.n <;> simp[hw]at hz;exact hz);clear hk FS;go_enter func63,ntmps63;go_upto_region 2 with fail
 obtain⟨W,hW,KW⟩:∃ W:LC,W=((w.alloc (.cells (KV t a1 c1 b1 d1) 39)).alloc (.cells #[.int .i64 0,.int .i64 0] 111))/\RS w w.heap.size t a1 b1 c1 d1 W:=⟨_,rfl,K0.o⟩
 rw[<-hW];clear hW;refine aD (fun wS=>RS w w.heap.size t a1 b1 c1 d1 wS) [6] (by kernel_rfl) (KW.bel (aC W 1)) (fun LI=>?_);refine WT.out ?_;have KT:=aa KW;clear KW;iterate 5
  first
   | refine OJ 0 ?_ [1,2,6,7] LI ?_ ?_
   | refine OJ 1 ?_ [2,6,7] LI ?_ ?_
   | refine OJ 2 ?_ [6,7] LI ?_ ?_
   | refine OJ 3 ?_ [4,5,6,7] LI ?_ ?_
   | refine OJ 4 ?_ [5,6,7] LI ?_ ?_
  rotate_left
  ·intro wS LN;have v0_:=LN.1.c;go_simp;all_goals with_reducible rfl
  simp only[av,List.set]
 refine OL [5] ?_;refine ON 5 (fun K hK=>?_) ?_
 ·go_simp;refine LE (iu _ _) ?_;refine hK.out _ _ LI (fun LJ=>?_);clear hK K;replace LI:=LJ;clear LJ;try simp only[Act.put,Mt,Mu,Mv]
  have o0_:=KT.o.2.1.c;clear LI;refine OO 6 (fun K hK=>?_);go_simp;refine hK.out _ _ ?_;clear hK K;try simp only[Act.put,Mt,Mu,Mv]
  refine OO 7 (fun K hK=>?_);go_simp;refine hK.out _ _ ?_;clear hK K;try simp only[Act.put,Mt,Mu,Mv]
  refine dn (by kernel_rfl) ?_;go_wp2_with fail
  obtain⟨z0,z1,-⟩:=(KT.o.2.1.set (⟨t.n,0⟩)).c;refine MM (v:=.tuple #[ju (⟨t.n,0⟩),.bool (tm t.n)]) ?_ rfl ⟨⟨t.n,0⟩,by rw[FIN.o],FV.o,ab (aQ (aQ KT.o.2.2 (by omega) _ _) (by omega) _ _) ((MK _ _).drew)⟩;simp only at z0 z1;simp[results,results63,go_sem,z0,z1,ju]
 exact nl
theorem qX(w:LC)(ok t v)(h:In w ok t v)(hk:t.kind≠2)(hm:aS t kt=none):Calls prog 63 #[v] w fun e w'=>∃ x:dN,e=.returned (.tuple #[ju x,.bool (aT t).isSome])/\(∀ z,aT t=some z->x=z)/\La w w':=by
 have H:=aa h;obtain⟨a1,b1,c1,d1,rfl⟩:=h.form;have K0:Ll (RS w w.heap.size t a1 b1 c1 d1 ((w.alloc (.cells (KV t a1 c1 b1 d1) 39)).alloc (.cells #[.int .i64 0,.int .i64 0] 111))):=aa ⟨fb w _ _,et w _ _,ab (ae _ _) (ae _ _)⟩;clear h;have e1:(t.kind == 2)=false:=by simp[hk]
 have HM:=aa hm;have FIN:Ll ((aT t).isSome=false):=aa (by rw[aT,if_neg hk,hm];rfl);have FV:Ll (∀ z,aT t≠some z):=aa (fun z hz=>by rw[aT,if_neg hk,hm]at hz;cases hz);clear hk hm;go_enter func63,ntmps63;go_upto_region 3 with fail
 go_wp2_with fail
 refine(co _ ok t _ kt (by exact H.o.bel K0.o.2.2)).mono ?_;rintro e w1 ⟨x,b,rfl,hb1,hb2,y,hy,hyz⟩;obtain⟨a5,b5,c5,d5,rfl⟩:=hy.form;have K1:Ll (RS w w1.heap.size y a5 b5 c5 d5 (w1.alloc (.cells (KV y a5 c5 b5 d5) 39))):=aa ⟨MN w1 _,(K0.o.2.1.bel hb1).bel (ae _ _),ab (ab K0.o.2.2 hb1) (ae _ _)⟩;rw[HM.o]at hb2 hyz;simp only[Option.isSome]at hb2;subst hb2;clear hb1 hy hyz;go_upto_region 4 with fail
 obtain⟨W,hW,KW⟩:∃ W:LC,W=(w1.alloc (.cells (KV y a5 c5 b5 d5) 39))/\RS w w1.heap.size y a5 b5 c5 d5 W:=⟨_,rfl,K1.o⟩
 rw[<-hW];clear hW;refine aD (fun wS=>RS w w1.heap.size y a5 b5 c5 d5 wS) [14] (by kernel_rfl) (KW.bel (aC W 1)) (fun LI=>?_);refine WT.out ?_;have KT:=aa KW;clear KW;iterate 5
  first
   | refine OJ 0 ?_ [1,2,14,15] LI ?_ ?_
   | refine OJ 1 ?_ [2,14,15] LI ?_ ?_
   | refine OJ 2 ?_ [14,15] LI ?_ ?_
   | refine OJ 3 ?_ [4,5,6,7,8,9,10,11,12,13,14,15] LI ?_ ?_
   | refine OJ 4 ?_ [5,6,7,8,9,10,11,12,13,14,15] LI ?_ ?_
  rotate_left
  ·intro wS LN;have v0_:=LN.1.c;go_simp;all_goals with_reducible rfl
  simp only[av,List.set]
 iterate 3
  first
   | refine Lm (i:=5) [6,7,8,9,10,11,12,13,14,15] rfl rfl (by decide +kernel) rfl (fun _ _ _ h=>h) LI ?_
   | refine Lm (i:=6) [7,8,9,10,11,12,13,14,15] rfl rfl (by decide +kernel) rfl (fun _ _ _ h=>h) LI ?_
   | refine Lm (i:=7) [8,9,10,11,12,13,14,15] rfl rfl (by decide +kernel) rfl (fun _ _ _ h=>h) LI ?_
  simp only[av,List.set]
 iterate 2
  first
   | refine OJ 8 ?_ [9,10,11,12,13,14,15] LI ?_ ?_
   | refine OJ 9 ?_ [10,11,12,13,14,15] LI ?_ ?_
  rotate_left
  ·intro wS LN;go_simp;all_goals with_reducible rfl
  simp only[av,List.set]
 iterate 2
  first
   | refine Lm (i:=10) [11,12,13,14,15] rfl rfl (by decide +kernel) rfl (fun _ _ _ h=>h) LI ?_
   | refine Lm (i:=11) [12,13,14,15] rfl rfl (by decide +kernel) rfl (fun _ _ _ h=>h) LI ?_
  simp only[av,List.set]
 refine OL [12] ?_;refine ON 12 (fun K hK=>?_) ?_
 ·go_simp;refine hK.out _ _ LI (fun LJ=>?_);clear hK K;replace LI:=LJ;clear LJ;try simp only[Act.put,Mt,Mu,Mv]
  refine Pm 13 ?_ LI ?_ ?_;rotate_left
  ·intro wS;go_simp;all_goals with_reducible rfl
  simp only[av,List.set];have o0_:=KT.o.2.1.c;clear LI;refine OO 14 (fun K hK=>?_);go_simp;refine hK.out _ _ ?_;clear hK K;try simp only[Act.put,Mt,Mu,Mv]
  refine OO 15 (fun K hK=>?_);go_simp;refine hK.out _ _ ?_;clear hK K;try simp only[Act.put,Mt,Mu,Mv]
  refine dn (by kernel_rfl) ?_;go_wp2_with fail
  obtain⟨z0,z1,-⟩:=(KT.o.2.1.set (⟨-1,y.n⟩)).c;refine MM (v:=.tuple #[ju (⟨-1,y.n⟩),.bool false]) ?_ rfl ⟨⟨-1,y.n⟩,by rw[FIN.o],fun z hz=>absurd hz (FV.o z),ab (aQ (aQ KT.o.2.2 (by omega) _ _) (by omega) _ _) ((MK _ _).drew)⟩;simp only at z0 z1;simp[results,results63,go_sem,z0,z1,ju]
 exact nl
theorem ql(w:LC)(ok t v)(h:In w ok t v)(hk:t.kind≠2)(m)(hm:aS t kt=some m)(hn:m.kind≠2):Calls prog 63 #[v] w fun e w'=>∃ x:dN,e=.returned (.tuple #[ju x,.bool (aT t).isSome])/\(∀ z,aT t=some z->x=z)/\La w w':=by
 have H:=aa h;obtain⟨a1,b1,c1,d1,rfl⟩:=h.form;have K0:Ll (RS w w.heap.size t a1 b1 c1 d1 ((w.alloc (.cells (KV t a1 c1 b1 d1) 39)).alloc (.cells #[.int .i64 0,.int .i64 0] 111))):=aa ⟨fb w _ _,et w _ _,ab (ae _ _) (ae _ _)⟩;clear h;have e1:(t.kind == 2)=false:=by simp[hk]
 have HM:=aa hm;have FS:aT t=if m.kind=2/\lp m.n=true then some ⟨-1,m.n⟩ else none:=by rw[aT,if_neg hk,hm]
 have e2:(m.kind == 2)=false:=by simp[hn]
 have FIN:Ll ((aT t).isSome=false):=aa (by rw[FS,if_neg (fun e=>hn e.1)];rfl);have FV:Ll (∀ z,aT t≠some z):=aa (fun z hz=>by rw[FS,if_neg (fun e=>hn e.1)]at hz;cases hz);clear hk hm FS hn;go_enter func63,ntmps63;go_upto_region 3 with fail
 go_wp2_with fail
 refine(co _ ok t _ kt (by exact H.o.bel K0.o.2.2)).mono ?_;rintro e w1 ⟨x,b,rfl,hb1,hb2,y,hy,hyz⟩;obtain⟨a5,b5,c5,d5,rfl⟩:=hy.form;have K1:Ll (RS w w1.heap.size y a5 b5 c5 d5 (w1.alloc (.cells (KV y a5 c5 b5 d5) 39))):=aa ⟨MN w1 _,(K0.o.2.1.bel hb1).bel (ae _ _),ab (ab K0.o.2.2 hb1) (ae _ _)⟩;rw[HM.o]at hb2 hyz;simp only[Option.isSome]at hb2;subst hb2;obtain rfl:y=m:=hyz m rfl;clear hb1 hy hyz;go_upto_region 4 with fail
 obtain⟨W,hW,KW⟩:∃ W:LC,W=(w1.alloc (.cells (KV y a5 c5 b5 d5) 39))/\RS w w1.heap.size y a5 b5 c5 d5 W:=⟨_,rfl,K1.o⟩
 rw[<-hW];clear hW;refine aD (fun wS=>RS w w1.heap.size y a5 b5 c5 d5 wS) [14] (by kernel_rfl) (KW.bel (aC W 1)) (fun LI=>?_);refine WT.out ?_;have KT:=aa KW;clear KW;iterate 10
  first
   | refine OJ 0 ?_ [1,2,14,15] LI ?_ ?_
   | refine OJ 1 ?_ [2,14,15] LI ?_ ?_
   | refine OJ 2 ?_ [14,15] LI ?_ ?_
   | refine OJ 3 ?_ [4,5,6,7,8,9,10,11,12,13,14,15] LI ?_ ?_
   | refine OJ 4 ?_ [5,6,7,8,9,10,11,12,13,14,15] LI ?_ ?_
   | refine OJ 5 ?_ [6,7,8,9,10,11,12,13,14,15] LI ?_ ?_
   | refine OJ 6 ?_ [7,8,9,10,11,12,13,14,15] LI ?_ ?_
   | refine OJ 7 ?_ [8,9,10,11,12,13,14,15] LI ?_ ?_
   | refine OJ 8 ?_ [9,10,11,12,13,14,15] LI ?_ ?_
   | refine OJ 9 ?_ [10,11,12,13,14,15] LI ?_ ?_
  rotate_left
  ·intro wS LN;have v0_:=LN.1.c;go_simp;all_goals with_reducible rfl
  simp only[av,List.set]
 iterate 2
  first
   | refine Lm (i:=10) [11,12,13,14,15] rfl rfl (by decide +kernel) rfl (fun _ _ _ h=>h) LI ?_
   | refine Lm (i:=11) [12,13,14,15] rfl rfl (by decide +kernel) rfl (fun _ _ _ h=>h) LI ?_
  simp only[av,List.set]
 refine OL [12] ?_;refine ON 12 (fun K hK=>?_) ?_
 ·go_simp;refine hK.out _ _ LI (fun LJ=>?_);clear hK K;replace LI:=LJ;clear LJ;try simp only[Act.put,Mt,Mu,Mv]
  refine Pm 13 ?_ LI ?_ ?_;rotate_left
  ·intro wS;go_simp;all_goals with_reducible rfl
  simp only[av,List.set];have o0_:=KT.o.2.1.c;clear LI;refine OO 14 (fun K hK=>?_);go_simp;refine hK.out _ _ ?_;clear hK K;try simp only[Act.put,Mt,Mu,Mv]
  refine OO 15 (fun K hK=>?_);go_simp;refine hK.out _ _ ?_;clear hK K;try simp only[Act.put,Mt,Mu,Mv]
  refine dn (by kernel_rfl) ?_;go_wp2_with fail
  obtain⟨z0,z1,-⟩:=(KT.o.2.1.set (⟨-1,y.n⟩)).c;refine MM (v:=.tuple #[ju (⟨-1,y.n⟩),.bool false]) ?_ rfl ⟨⟨-1,y.n⟩,by rw[FIN.o],fun z hz=>absurd hz (FV.o z),ab (aQ (aQ KT.o.2.2 (by omega) _ _) (by omega) _ _) ((MK _ _).drew)⟩;simp only at z0 z1;simp[results,results63,go_sem,z0,z1,ju]
 exact nl
theorem pT(w:LC)(ok t v)(h:In w ok t v)(hk:t.kind≠2)(m)(hm:aS t kt=some m)(hn:m.kind=2):Calls prog 63 #[v] w fun e w'=>∃ x:dN,e=.returned (.tuple #[ju x,.bool (aT t).isSome])/\(∀ z,aT t=some z->x=z)/\La w w':=by
 have H:=aa h;obtain⟨a1,b1,c1,d1,rfl⟩:=h.form;have K0:Ll (RS w w.heap.size t a1 b1 c1 d1 ((w.alloc (.cells (KV t a1 c1 b1 d1) 39)).alloc (.cells #[.int .i64 0,.int .i64 0] 111))):=aa ⟨fb w _ _,et w _ _,ab (ae _ _) (ae _ _)⟩;clear h;have e1:(t.kind == 2)=false:=by simp[hk]
 have HM:=aa hm;have FS:aT t=if m.kind=2/\lp m.n=true then some ⟨-1,m.n⟩ else none:=by rw[aT,if_neg hk,hm]
 have e2:(m.kind == 2)=true:=by simp[hn]
 have FIN:Ll ((aT t).isSome=lp m.n):=aa (by rw[FS];cases hT:lp m.n <;> simp[hn]);have FV:Ll (∀ z,aT t=some z->(⟨-1,m.n⟩:dN)=z):=aa (fun z hz=>by rw[FS]at hz;cases hT:lp m.n <;> simp[hn,hT]at hz;exact hz);clear hk hm FS hn;go_enter func63,ntmps63;go_upto_region 3 with fail
 go_wp2_with fail
 refine(co _ ok t _ kt (by exact H.o.bel K0.o.2.2)).mono ?_;rintro e w1 ⟨x,b,rfl,hb1,hb2,y,hy,hyz⟩;obtain⟨a5,b5,c5,d5,rfl⟩:=hy.form;have K1:Ll (RS w w1.heap.size y a5 b5 c5 d5 (w1.alloc (.cells (KV y a5 c5 b5 d5) 39))):=aa ⟨MN w1 _,(K0.o.2.1.bel hb1).bel (ae _ _),ab (ab K0.o.2.2 hb1) (ae _ _)⟩;rw[HM.o]at hb2 hyz;simp only[Option.isSome]at hb2;subst hb2;obtain rfl:y=m:=hyz m rfl;clear hb1 hy hyz;go_upto_region 4 with fail
 obtain⟨W,hW,KW⟩:∃ W:LC,W=(w1.alloc (.cells (KV y a5 c5 b5 d5) 39))/\RS w w1.heap.size y a5 b5 c5 d5 W:=⟨_,rfl,K1.o⟩
 rw[<-hW];clear hW;refine aD (fun wS=>RS w w1.heap.size y a5 b5 c5 d5 wS) [14] (by kernel_rfl) (KW.bel (aC W 1)) (fun LI=>?_);refine WT.out ?_;have KT:=aa KW;clear KW;iterate 12
  first
   | refine OJ 0 ?_ [1,2,14,15] LI ?_ ?_
   | refine OJ 1 ?_ [2,14,15] LI ?_ ?_
   | refine OJ 2 ?_ [14,15] LI ?_ ?_
   | refine OJ 3 ?_ [4,5,6,7,8,9,10,11,12,13,14,15] LI ?_ ?_
   | refine OJ 4 ?_ [5,6,7,8,9,10,11,12,13,14,15] LI ?_ ?_
   | refine OJ 5 ?_ [6,7,8,9,10,11,12,13,14,15] LI ?_ ?_
   | refine OJ 6 ?_ [7,8,9,10,11,12,13,14,15] LI ?_ ?_
   | refine OJ 7 ?_ [8,9,10,11,12,13,14,15] LI ?_ ?_
   | refine OJ 8 ?_ [9,10,11,12,13,14,15] LI ?_ ?_
   | refine OJ 9 ?_ [10,11,12,13,14,15] LI ?_ ?_
   | refine OJ 10 ?_ [11,12,13,14,15] LI ?_ ?_
   | refine OJ 11 ?_ [12,13,14,15] LI ?_ ?_
  rotate_left
  ·intro wS LN;have v0_:=LN.1.c;go_simp;all_goals with_reducible rfl
  simp only[av,List.set]
 refine OL [12] ?_;refine ON 12 (fun K hK=>?_) ?_
 ·go_simp;refine LE (cN _ _) ?_;refine hK.out _ _ LI (fun LJ=>?_);clear hK K;replace LI:=LJ;clear LJ;try simp only[Act.put,Mt,Mu,Mv]
  refine Pm 13 ?_ LI ?_ ?_;rotate_left
  ·intro wS;go_simp;all_goals with_reducible rfl
  simp only[av,List.set];have o0_:=KT.o.2.1.c;clear LI;refine OO 14 (fun K hK=>?_);go_simp;refine hK.out _ _ ?_;clear hK K;try simp only[Act.put,Mt,Mu,Mv]
  refine OO 15 (fun K hK=>?_);go_simp;refine hK.out _ _ ?_;clear hK K;try simp only[Act.put,Mt,Mu,Mv]
  refine dn (by kernel_rfl) ?_;go_wp2_with fail
  obtain⟨z0,z1,-⟩:=(KT.o.2.1.set (⟨-1,y.n⟩)).c;refine MM (v:=.tuple #[ju (⟨-1,y.n⟩),.bool (lp y.n)]) ?_ rfl ⟨⟨-1,y.n⟩,by rw[FIN.o],FV.o,ab (aQ (aQ KT.o.2.2 (by omega) _ _) (by omega) _ _) ((MK _ _).drew)⟩;simp only at z0 z1;simp[results,results63,go_sem,z0,z1,ju]
 exact nl
theorem nN(w:LC)(ok t v)(h:In w ok t v):Calls prog 63 #[v] w fun e w'=>∃ x:dN,e=.returned (.tuple #[ju x,.bool (aT t).isSome])/\(∀ z,aT t=some z->x=z)/\La w w':=by
 by_cases hk:t.kind=2
 ·exact tn w ok t v h hk
 ·cases hm:aS t kt with
  | none=>exact qX w ok t v h hk hm
  | some m=>
   by_cases hn:m.kind=2
   ·exact pT w ok t v h hk m hm hn
   ·exact ql w ok t v h hk m hm hn
end
variable {wr:World}
variable {n k:Nat}
def kW:List V->Option (List dN)
 | []=>some []
 | x :: l=>match aT x,kW l with
  | some a,some b=>some (a :: b)
  | _,_=>none
theorem Ho:∃ j,prog.info? 111=some j/\j.zero=some (.agg #[.int .i64 0,.int .i64 0])/\j.size=2/\j.bytes=16:=by
 have h:(prog.info? 111).map (fun i=>(i.zero,i.size,i.bytes))=some (some (.agg #[.int .i64 0,.int .i64 0]),2,16):=by kernel_rfl
 cases e:prog.info? 111 with
 | none=>rw[e]at h;cases h
 | some j=>rw[e]at h;simp at h;exact⟨j,rfl,h.1,h.2.1,h.2.2⟩
def bZ (t:V):Option (List dN):=if t.kind≠4\/8 < t.l.length then none else kW t.l
theorem BH{l:List V}(h:k < l.length){xs:List dN}(hx:kW (l.take k)=some xs){x:dN}(hr:aT l[k]=some x):kW (l.take (k+1))=some (xs++[x]):=by
 induction l generalizing k xs with
 | nil=>simp at h
 | cons y l ih=>
  cases k with
  | zero=>
   simp at hr hx ⊢;simp[kW]at hx;subst hx;simp[kW,hr]
  | succ k=>
   simp only[List.take_succ_cons,kW]at hx ⊢;simp only[List.getElem_cons_succ]at hr;cases hy:aT y with
   | none=>rw[hy]at hx;simp at hx
   | some a=>
    rw[hy]at hx;cases hq:kW (l.take k) with
    | none=>rw[hq]at hx;simp at hx
    | some b=>
     rw[hq]at hx;simp at hx;subst hx;rw[ih (by simpa using h) hq hr];simp
theorem Bu{l}(h:k < l.length)(hr:aT l[k]=none):kW l=none:=by
 induction l generalizing k with
 | nil=>simp at h
 | cons y l ih=>
  cases k with
  | zero=>simp at hr;simp[kW,hr]
  | succ k=>
   have:=ih (k:=k) (by simpa using h) (by simpa using hr);simp only[kW,this];cases aT y <;> rfl
def pt (w:LC) (R n:Nat) (xs:List dN):Prop:=∃ cs:Array Value,w.heap[R]?=some (.cells cs 111)/\cs.size=n * 2/\∀ i x,xs[i]?=some x->cs[i * 2]?=some (.int .i64 x.w)/\cs[i * 2+1]?=some (.int .i64 x.p)
theorem pt.bel{R xs}(h:pt w R n xs)(hb:La w w'):pt w' R n xs:=by
 obtain⟨cs,h1,h2,h3⟩:=h;exact⟨cs,(hb.block R (MF.1 h1).1).trans h1,h2,h3⟩
theorem pt.at{R xs}(h:pt w R n xs)(hk:k < n):∃ u0 u1,w.cell? ⟨R,k * 2,none⟩=some u0/\w.cell? ⟨R,k * 2+1,none⟩=some u1/\w.frozen? ⟨R,k * 2,none⟩=false/\w.frozen? ⟨R,k * 2+1,none⟩=false:=by
 obtain⟨cs,h1,h2,h3⟩:=h;refine⟨cs[k * 2]'(by omega),cs[k * 2+1]'(by omega),?_,?_,?_,?_⟩
 ·simp[World.cell?,h1,Array.getElem?_eq_getElem (show k * 2 < cs.size by omega)]
 ·simp[World.cell?,h1,Array.getElem?_eq_getElem (show k * 2+1 < cs.size by omega)]
 ·simp[World.frozen?,h1]
 ·simp[World.frozen?,h1]
theorem pt.push{R xs}(h:pt w R n xs)(hk:xs.length < n)(x):pt ((w.setCell ⟨R,xs.length * 2,none⟩ (.int .i64 x.w)).setCell ⟨R,xs.length * 2+1,none⟩ (.int .i64 x.p)) R n (xs++[x]):=by
 obtain⟨cs,h1,h2,h3⟩:=h;refine⟨_,ak (ak h1 _ _) _ _,by simpa using h2,fun i y hy=>?_⟩;by_cases hi:i < xs.length
 ·rw[List.getElem?_append_left hi]at hy;obtain⟨q1,q2⟩:=h3 i y hy;rw[Array.getElem?_setIfInBounds_ne (by omega),Array.getElem?_setIfInBounds_ne (by omega),Array.getElem?_setIfInBounds_ne (by omega),Array.getElem?_setIfInBounds_ne (by omega)];exact⟨q1,q2⟩
 ·have hi2:i=xs.length:=by
   have:=(Mz.1 hy).1;simp at this;omega
  subst hi2;simp at hy;subst hy;refine⟨?_,?_⟩
  ·rw[Array.getElem?_setIfInBounds_ne (by omega)];simp[Array.getElem?_setIfInBounds,h2];omega
  ·simp[Array.getElem?_setIfInBounds,h2];omega
theorem pt.done{R xs}(h:pt w R n xs)(hn:xs.length=n)(h8:n<=8):bk w xs (.slice (some ⟨R,0,none⟩) n n):=by
 obtain⟨cs,h1,h2,h3⟩:=h;refine⟨by omega,.inr ⟨R,0,n,by rw[hn],by omega,by omega,fun i x hx=>?_⟩⟩;obtain⟨q1,q2⟩:=h3 i x hx;exact⟨by simp[World.cell?,h1,q1],by simp[World.cell?,h1,q2]⟩
def fg (w w':LC) (l:List dN) (v:Value):Prop:=bk w' l v/\∀ k,v.ownBlock=some k->w.heap.size<=k
def J1 (w wr:LC) (t:V) (a1 b1:Option Addr) (c1 d1:Nat) (xs:List dN):Prop:=KY wr w.heap.size t a1 c1 b1 d1/\pt wr (w.heap.size+1) t.l.length xs/\La w wr
theorem J1.bel{a1 b1 c1 d1 xs}(h:J1 w wr t a1 b1 c1 d1 xs)(hb:La wr w'):J1 w w' t a1 b1 c1 d1 xs:=⟨af hb h.1,h.2.1.bel hb,ab h.2.2 hb⟩
theorem oR(w:LC)(ok t v)(h:In w ok t v)(hk:t.kind=4)(h8:t.l.length<=8):Calls prog 45 #[v] w fun e w'=>∃ sl,e=.returned (.tuple #[sl,.bool (kW t.l).isSome])/\(∀ l,kW t.l=some l->fg w w' l sl)/\La w w':=by
 have H:=aa h;obtain⟨a1,b1,c1,d1,rfl⟩:=h.form;have e1:(t.kind == 4)=true:=by simp[hk]
 have e1n:(t.kind != 4)=false:=by simp[hk]
 have e2:¬8 < (t.l.length:Int):=by omega
 have e3:¬(t.l.length:Int) < 0:=by omega
 obtain⟨i0,hi,hz0,hz1,hz2⟩:=Ho;have hmk:(Instr.makeSlice 71 (.int .i64 (t.l.length:Int)) (.int .i64 (t.l.length:Int))).run prog (w.alloc (.cells (KV t a1 c1 b1 d1) 39))=.ok (.slice (some ⟨w.heap.size+1,0,none⟩) t.l.length t.l.length) ((w.alloc (.cells (KV t a1 c1 b1 d1) 39)).alloc (.cells (madeCells #[.int .i64 0,.int .i64 0] (t.l.length * 2)) 111)):=by
  have k:=run_make (P:=prog) (w.alloc (.cells (KV t a1 c1 b1 d1) 39)) 71 111 i0 _ underlying71 hi hz0 .i64 .i64 (t.l.length:Int) (t.l.length:Int) (by omega) (Int.le_refl _) (by rw[hz2];omega) (by omega);rw[hz1]at k;simpa [Value.cells] using k
 have K0:Ll (J1 w ((w.alloc (.cells (KV t a1 c1 b1 d1) 39)).alloc (.cells (madeCells #[.int .i64 0,.int .i64 0] (t.l.length * 2)) 111)) t a1 b1 c1 d1 []):=aa ⟨fb w _ _,⟨_,et w _ _,by simp[madeCells],fun i x hx=>by simp at hx⟩,ab (ae _ _) (ae _ _)⟩;have H8:=aa h8;clear h hk hi hz0 hz1 hz2;go_enter func45,ntmps45;go_wp2
 clear hmk;go_loopg [5,6,7,8,25] t.l.length (fun gk _ _ _ _ i wr=>∃ (k:Nat) (xs:List dN),k<=t.l.length/\Ll (gk=t.l.length - k)/\i=.int .i64 k/\Ll (kW (t.l.take k)=some xs/\xs.length=k)/\Ll (J1 w wr t a1 b1 c1 d1 xs))
 case atStart=>exact⟨0,[],Nat.zero_le _,aa rfl,rfl,aa ⟨rfl,rfl⟩,K0⟩
 case round=>
  obtain⟨k,xs,hk,GK,rfl,AX,K1⟩:=hrel;by_cases hlt:k < t.l.length
  ·obtain⟨b,off,a5,c5,a6,c6,rfl,j1,j2,g0,g1,g2,g3,g4,g5⟩:=(H.o.bel K1.o.2.2).item hlt;have w1:(k:Int) < (t.l.length:Int):=by omega
   have w2:(0:Int)<=(k:Int):=by omega
   have HI:=aa (g5.bel (ae wr (.cells #[.int .i64 t.l[k].kind,.int .i64 t.l[k].n,.string ⟨t.l[k].s.toArray⟩,.slice a5 t.l[k].keys.length c5,.slice a6 t.l[k].l.length c6] 39)));have K2:=aa (K1.o.bel (ae wr (.cells #[.int .i64 t.l[k].kind,.int .i64 t.l[k].n,.string ⟨t.l[k].s.toArray⟩,.slice a5 t.l[k].keys.length c5,.slice a6 t.l[k].l.length c6] 39)));have ST:=aa (fun x hx=>BH hlt AX.o.1 (x:=x) hx);have SN:=aa (fun hx=>Bu (l:=t.l) hlt hx);clear g5;cases hr:aT t.l[k] with
   | none=>
    go_wp2_with (go_at_call 63;refine(nN _ ok t.l[k] _ (by exact HI.o)).mono ?_;rintro e w5 ⟨st,rfl,hst,hb⟩;rw[hr];unfold ju;have K3:=aa (K2.o.bel (ab hb (ae w5 (.cells #[.int .i64 st.w,.int .i64 st.p] 111))));clear hb hst)
    refine MM (v:=.tuple #[.slice none 0 0,.bool false]) (by simp[results,results45,go_sem]) rfl ?_;exact⟨.slice none 0 0,by rw[SN.o hr];rfl,fun l hl=>(by rw[SN.o hr]at hl;cases hl),K3.o.2.2⟩
   | some z=>
    go_wp2_with (go_at_call 63;refine(nN _ ok t.l[k] _ (by exact HI.o)).mono ?_;rintro e w5 ⟨st,rfl,hst,hb⟩;rw[hr];unfold ju;have EZ:=aa (hst z hr);have K3:=aa (K2.o.bel (ab hb (ae w5 (.cells #[.int .i64 st.w,.int .i64 st.p] 111))));obtain⟨u0,u1,r0,r1,r2,r3⟩:=K3.o.2.1.at hlt;clear hb hst)
    go_roundg (t.l.length - (k+1))
    case measure=>rw[GK.o];omega
    case rel=>exact⟨k+1,xs++[z],hlt,aa rfl,by go_num,aa ⟨ST.o z hr,by simp[AX.o.2]⟩,aa ⟨K3.o.1.grown (ap (ap (az _ _) _ _) _ _) (by simp),(by
     have q:=K3.o.2.1.push (by have:=AX.o.2;omega) st;rw[AX.o.2]at q;rw[<-EZ.o];exact q),aQ (aQ K3.o.2.2 (by omega) _ _) (by omega) _ _⟩⟩
  ·have d1':¬(k:Int) < (t.l.length:Int):=by omega
   have Mc:k=t.l.length:=by omega
   have FIN:Ll (kW t.l=some xs/\xs.length=t.l.length):=aa (by have:=AX.o;rwa [Mc,MD (MG _)]at this);clear Mc;go_wp2
   refine MM (v:=.tuple #[.slice (some ⟨w.heap.size+1,0,none⟩) t.l.length t.l.length,.bool true]) (by simp[results,results45,go_sem]) rfl ?_;exact⟨.slice (some ⟨w.heap.size+1,0,none⟩) t.l.length t.l.length,by rw[FIN.o.1];rfl,fun l hl=>(by rw[FIN.o.1]at hl;cases hl;exact⟨K1.o.2.1.done FIN.o.2 H8.o,fun k hk=>by simp[Value.ownBlock]at hk;omega⟩),K1.o.2.2⟩
variable {v:Value}
variable {c:Nat}
theorem pW(w:LC)(ok t v)(h:In w ok t v)(hk:t.kind≠4):Calls prog 45 #[v] w fun e w'=>∃ sl,e=.returned (.tuple #[sl,.bool (bZ t).isSome])/\(∀ l,bZ t=some l->fg w w' l sl)/\La w w':=by
 obtain⟨a1,b1,c1,d1,rfl⟩:=h.form;have e1:(t.kind == 4)=false:=by simp[hk]
 have e1n:(t.kind != 4)=true:=by simp[hk]
 have FIN:Ll (bZ t=none):=aa (by rw[bZ,if_pos (.inl hk)]);clear h hk;go_enter func45,ntmps45;go_wp2
 refine MM (v:=.tuple #[.slice none 0 0,.bool false]) (by simp[results,results45,go_sem]) rfl ?_;exact⟨.slice none 0 0,by rw[FIN.o];rfl,fun l hl=>(by rw[FIN.o]at hl;cases hl),ae _ _⟩
theorem oV(w:LC)(ok t v)(h:In w ok t v)(hk:t.kind=4)(h8:8 < t.l.length):Calls prog 45 #[v] w fun e w'=>∃ sl,e=.returned (.tuple #[sl,.bool (bZ t).isSome])/\(∀ l,bZ t=some l->fg w w' l sl)/\La w w':=by
 obtain⟨a1,b1,c1,d1,rfl⟩:=h.form;have e1:(t.kind == 4)=true:=by simp[hk]
 have e1n:(t.kind != 4)=false:=by simp[hk]
 have e2:8 < (t.l.length:Int):=by omega
 have FIN:Ll (bZ t=none):=aa (by rw[bZ,if_pos (.inr h8)]);clear h hk h8;go_enter func45,ntmps45;go_wp2
 refine MM (v:=.tuple #[.slice none 0 0,.bool false]) (by simp[results,results45,go_sem]) rfl ?_;exact⟨.slice none 0 0,by rw[FIN.o];rfl,fun l hl=>(by rw[FIN.o]at hl;cases hl),ae _ _⟩
theorem lM(w:LC)(ok t v)(h:In w ok t v):Calls prog 45 #[v] w fun e w'=>∃ sl,e=.returned (.tuple #[sl,.bool (bZ t).isSome])/\(∀ l,bZ t=some l->fg w w' l sl)/\La w w':=by
 by_cases hk:t.kind=4
 ·by_cases h8:t.l.length<=8
  ·rw[show bZ t=kW t.l by rw[bZ,if_neg (by omega)]];exact oR w ok t v h hk h8
  ·exact oV w ok t v h hk (by omega)
 ·exact pW w ok t v h hk
def fI:Lz:=[105,109,97,103,101]
def jX:Lz:=[115,116,101,112,115]
def eY (t:V):Option (Lz × List dN):=
 if aE t=false then none
 else match aS t fI with
  | none=>none
  | some m=>if m.kind≠3\/m.s=[] then none
   else match aS t jX with
    | none=>some (m.s,[])
    | some q=>match bZ q with
     | none=>none
     | some l=>some (m.s,l)
def bE (t:V):Lz × List dN:=(eY t).getD ([],[])
def cI (t:V):Int:=if (eY t).isSome then 0 else 1
def Gw (w:LC) (t:V) (a1 b1:Option Addr) (c1 d1:Nat) (wS:LC):Prop:=KY wS w.heap.size t a1 c1 b1 d1/\fM wS (w.heap.size+1) [] (.slice none 0 0)/\La w wS
theorem Gw.bel{wS:LC}{a1 b1 c1 d1}(h:Gw w t a1 b1 c1 d1 wS)(hb:La wS w'):Gw w t a1 b1 c1 d1 w':=⟨af hb h.1,h.2.1.bel hb,ab h.2.2 hb⟩
theorem fM.cf{i}(h:fM w g i v):w.frozen? ⟨g,0,none⟩=false/\w.frozen? ⟨g,1,none⟩=false:=by
 unfold fM at h;refine⟨?_,?_⟩ <;> simp[World.frozen?,h]
theorem fM.set{i}(h:fM w g i v)(j u):fM ((w.setCell ⟨g,0,none⟩ (.string ⟨j.toArray⟩)).setCell ⟨g,1,none⟩ u) g j u:=ak (ak h 0 _) 1 _
theorem Gd{i a l sl x y}(h:bk w l sl)(p:fM w g i (.slice a n c)):bk ((w.setCell ⟨g,0,none⟩ x).setCell ⟨g,1,none⟩ y) l sl:=by
 refine⟨h.1,?_⟩;rcases h.2 with h | ⟨b,off,c,e,h1,h2,h3⟩
 ·exact .inl h
 ·have far:∀ (o:Nat) (m:Int),w.cell? ⟨b,o,none⟩=some (.int .i64 m)->((w.setCell ⟨g,0,none⟩ x).setCell ⟨g,1,none⟩ y).cell? ⟨b,o,none⟩=some (.int .i64 m):=by
   intro o m hc;have hne:b≠g:=by
    intro e;subst e;unfold fM at p;simp only[World.cell?,p]at hc;match o with
    | 0=>simp at hc
    | 1=>simp at hc
    | k+2=>simp at hc
   rw[World.cell?_of_block ((Below.heap_setCell _ ⟨g,1,none⟩ y b hne).trans (Below.heap_setCell w ⟨g,0,none⟩ x b hne))];exact hc
  exact .inr ⟨b,off,c,e,h1,h2,fun i z hz=>⟨far _ _ (h3 i z hz).1,far _ _ (h3 i z hz).2⟩⟩
theorem gU(w):bk w [] (.slice none 0 0):=⟨by simp,.inl ⟨rfl,none,rfl⟩⟩
theorem Ly(w ok t v)(h:In w ok t v)(hF:eY t=none)(hc:aE t=false\/(aE t=true/\aS t fI=none)\/(∃ mm,aE t=true/\aS t fI=some mm/\(mm.kind == 3)=false/\(mm.kind != 3)=true)\/(∃ mm,aE t=true/\aS t fI=some mm/\(mm.kind == 3)=true/\(mm.kind != 3)=false/\mm.s.isEmpty=true)):Calls prog 31 #[v] w fun e w'=>∃ sl,e=.returned (.tuple #[.agg #[.string ⟨(bE t).1.toArray⟩,sl],.int .i64 (cI t)])/\fg w w' (bE t).2 sl/\La w w':=by
 have H:=aa h;obtain⟨a1,b1,c1,d1,rfl⟩:=h.form;have K0:Ll (Gw w t a1 b1 c1 d1 ((w.alloc (.cells (KV t a1 c1 b1 d1) 39)).alloc (.cells #[.string ⟨#[]⟩,.slice none 0 0] 73))):=aa ⟨fb w _ _,et w _ _,ab (ae _ _) (ae _ _)⟩;clear h;have FG:Ll (bE t=([],[])):=aa (by simp[bE,hF]);have FE:Ll (cI t=1):=aa (by simp[cI,hF]);clear hF;rcases hc with hg | ⟨hg,hm⟩ | ⟨mm,hg,hm,e1,e1n⟩ | ⟨mm,hg,hm,e1,e1n,e2⟩
 all_goals
  try have HM:=aa hm
  try clear hm
  go_enter func31,ntmps31;go_wp2_with (first | (go_at_call 43;refine Lk (bG _ ok t _ (by exact H.o.bel K0.o.2.2)) fun w1 hb=>?_;rw[hg];have K1:=aa (K0.o.bel hb);have KQ:=K1;have t0_:=K1.o.1.c;have p0_:=K1.o.2.1.c;obtain⟨f0,f1⟩:=K1.o.2.1.cf;clear hb) | (go_at_call 44;refine(co _ ok t _ fI (by exact H.o.bel K1.o.2.2)).mono ?_;rintro e w2 ⟨xm,bm,rfl,hb,hb2,m,hy,hyz⟩;obtain⟨a5,b5,c5,d5,rfl⟩:=hy.form;rw[HM.o]at hb2 hyz;simp only[Option.isSome]at hb2;subst hb2;(first | obtain rfl:=hyz _ rfl | skip);have Im:=aa (hy.bel (ae w2 (.cells (KV m a5 c5 b5 d5) 39)));have Bm:=aa (show KY (w2.alloc (.cells (KV m a5 c5 b5 d5) 39)) w2.heap.size m a5 c5 b5 d5 from MN w2 _);have K2:=aa (K1.o.bel (ab hb (ae w2 (.cells (KV m a5 c5 b5 d5) 39))));have KQ:=K2;clear f0 f1;have t0_:=K2.o.1.c;have p0_:=K2.o.2.1.c;obtain⟨f0,f1⟩:=K2.o.2.1.cf;have m0_:=Bm.o.c;clear hb hy hyz))
  have z0_:=(KQ.o.2.1.set [] (.slice none 0 0)).c;refine MM (v:=.tuple #[.agg #[.string ⟨#[]⟩,.slice none 0 0],.int .i64 1]) ?_ rfl ⟨.slice none 0 0,by rw[FG.o,FE.o],by rw[FG.o];exact⟨gU _,fun k hk=>by simp[Value.ownBlock]at hk⟩,aQ (aQ KQ.o.2.2 (by omega) _ _) (by omega) _ _⟩;simp[results,results31,go_sem,z0_]
theorem zE(w:LC)(ok t v)(h:In w ok t v)(hg:aE t=true)(mm)(hm:aS t fI=some mm)(hk:mm.kind=3)(hs:mm.s≠[])(hq:aS t jX=none):Calls prog 31 #[v] w fun e w'=>∃ sl,e=.returned (.tuple #[.agg #[.string ⟨(bE t).1.toArray⟩,sl],.int .i64 (cI t)])/\fg w w' (bE t).2 sl/\La w w':=by
 have H:=aa h;obtain⟨a1,b1,c1,d1,rfl⟩:=h.form;have K0:Ll (Gw w t a1 b1 c1 d1 ((w.alloc (.cells (KV t a1 c1 b1 d1) 39)).alloc (.cells #[.string ⟨#[]⟩,.slice none 0 0] 73))):=aa ⟨fb w _ _,et w _ _,ab (ae _ _) (ae _ _)⟩;clear h;have hF:eY t=some (mm.s,[]):=by simp[eY,hg,hm,hk,hs,hq]
 have FG:Ll (bE t=(mm.s,[])):=aa (by simp[bE,hF]);have FE:Ll (cI t=0):=aa (by simp[cI,hF]);have HM:=aa hm;have HQ:=aa hq;have e1:(mm.kind == 3)=true:=by simp[hk]
 have e1n:(mm.kind != 3)=false:=by simp[hk]
 have e2:mm.s.isEmpty=false:=by simp[hs]
 clear hF hm hk hs hq;go_enter func31,ntmps31;go_upto_region 6 with (first | (go_at_call 43;refine Lk (bG _ ok t _ (by exact H.o.bel K0.o.2.2)) fun w1 hb=>?_;rw[hg];have K1:=aa (K0.o.bel hb);have t0_:=K1.o.1.c;have p0_:=K1.o.2.1.c;obtain⟨f0,f1⟩:=K1.o.2.1.cf;clear hb) | (go_at_call 44;refine(co _ ok t _ fI (by exact H.o.bel K1.o.2.2)).mono ?_;rintro e w2 ⟨xm,bm,rfl,hb,hb2,m,hy,hyz⟩;obtain⟨a5,b5,c5,d5,rfl⟩:=hy.form;rw[HM.o]at hb2 hyz;simp only[Option.isSome]at hb2;subst hb2;obtain rfl:=hyz _ rfl;have Im:=aa (hy.bel (ae w2 (.cells (KV m a5 c5 b5 d5) 39)));have Bm:=aa (show KY (w2.alloc (.cells (KV m a5 c5 b5 d5) 39)) w2.heap.size m a5 c5 b5 d5 from MN w2 _);have K2:=aa (K1.o.bel (ab hb (ae w2 (.cells (KV m a5 c5 b5 d5) 39))));clear f0 f1;have t0_:=K2.o.1.c;have p0_:=K2.o.2.1.c;obtain⟨f0,f1⟩:=K2.o.2.1.cf;have m0_:=Bm.o.c;clear hb hy hyz))
 go_wp2_with (first | (go_at_call 44;refine(co _ ok t _ jX (by exact H.o.bel K2.o.2.2)).mono ?_;rintro e w3 ⟨xq,bq,rfl,hb,hb2,q,hy,hyz⟩;obtain⟨a6,b6,c6,d6,rfl⟩:=hy.form;rw[HQ.o]at hb2 hyz;simp only[Option.isSome]at hb2;subst hb2;have Bq:=aa (show KY (w3.alloc (.cells (KV q a6 c6 b6 d6) 39)) w3.heap.size q a6 c6 b6 d6 from MN w3 _);have K3:=aa (K2.o.bel (ab hb (ae w3 (.cells (KV q a6 c6 b6 d6) 39))));have Bm3:=aa (af (ab hb (ae w3 (.cells (KV q a6 c6 b6 d6) 39))) Bm.o);have m0_:=Bm3.o.c;clear f0 f1;have t0_:=K3.o.1.c;have p0_:=K3.o.2.1.c;obtain⟨f0,f1⟩:=K3.o.2.1.cf;have q0_:=Bq.o.c;clear hb hy hyz))
 have z0_:=(K3.o.2.1.set (m.s) (.slice none 0 0)).c;refine MM (v:=.tuple #[.agg #[.string ⟨(m.s).toArray⟩,.slice none 0 0],.int .i64 0]) ?_ rfl ⟨.slice none 0 0,by rw[FG.o,FE.o],by rw[FG.o];exact⟨gU _,fun k hk=>by simp[Value.ownBlock]at hk⟩,aQ (aQ K3.o.2.2 (by omega) _ _) (by omega) _ _⟩;simp[results,results31,go_sem,z0_]
theorem xL(w:LC)(ok t v)(h:In w ok t v)(hg:aE t=true)(mm)(hm:aS t fI=some mm)(hk:mm.kind=3)(hs:mm.s≠[])(qq)(hq:aS t jX=some qq)(hl:bZ qq=none):Calls prog 31 #[v] w fun e w'=>∃ sl,e=.returned (.tuple #[.agg #[.string ⟨(bE t).1.toArray⟩,sl],.int .i64 (cI t)])/\fg w w' (bE t).2 sl/\La w w':=by
 have H:=aa h;obtain⟨a1,b1,c1,d1,rfl⟩:=h.form;have K0:Ll (Gw w t a1 b1 c1 d1 ((w.alloc (.cells (KV t a1 c1 b1 d1) 39)).alloc (.cells #[.string ⟨#[]⟩,.slice none 0 0] 73))):=aa ⟨fb w _ _,et w _ _,ab (ae _ _) (ae _ _)⟩;clear h;have hF:eY t=none:=by simp[eY,hg,hm,hk,hs,hq,hl]
 have FG:Ll (bE t=([],[])):=aa (by simp[bE,hF]);have FE:Ll (cI t=1):=aa (by simp[cI,hF]);have HM:=aa hm;have HQ:=aa hq;have e1:(mm.kind == 3)=true:=by simp[hk]
 have e1n:(mm.kind != 3)=false:=by simp[hk]
 have e2:mm.s.isEmpty=false:=by simp[hs]
 clear hF hm hk hs hq;go_enter func31,ntmps31;go_upto_region 6 with (first | (go_at_call 43;refine Lk (bG _ ok t _ (by exact H.o.bel K0.o.2.2)) fun w1 hb=>?_;rw[hg];have K1:=aa (K0.o.bel hb);have t0_:=K1.o.1.c;have p0_:=K1.o.2.1.c;obtain⟨f0,f1⟩:=K1.o.2.1.cf;clear hb) | (go_at_call 44;refine(co _ ok t _ fI (by exact H.o.bel K1.o.2.2)).mono ?_;rintro e w2 ⟨xm,bm,rfl,hb,hb2,m,hy,hyz⟩;obtain⟨a5,b5,c5,d5,rfl⟩:=hy.form;rw[HM.o]at hb2 hyz;simp only[Option.isSome]at hb2;subst hb2;obtain rfl:=hyz _ rfl;have Im:=aa (hy.bel (ae w2 (.cells (KV m a5 c5 b5 d5) 39)));have Bm:=aa (show KY (w2.alloc (.cells (KV m a5 c5 b5 d5) 39)) w2.heap.size m a5 c5 b5 d5 from MN w2 _);have K2:=aa (K1.o.bel (ab hb (ae w2 (.cells (KV m a5 c5 b5 d5) 39))));clear f0 f1;have t0_:=K2.o.1.c;have p0_:=K2.o.2.1.c;obtain⟨f0,f1⟩:=K2.o.2.1.cf;have m0_:=Bm.o.c;clear hb hy hyz))
 go_wp2_with (first | (go_at_call 45;refine(lM _ ok q _ (by exact Iq.o)).mono ?_;rintro e w4 ⟨sl,rfl,hsl,hb⟩;rw[hl];have K4:=aa (K3.o.bel hb);have Bm4:=aa (af hb Bm3.o);clear f0 f1;have t0_:=K4.o.1.c;have p0_:=K4.o.2.1.c;obtain⟨f0,f1⟩:=K4.o.2.1.cf;have m0_:=Bm4.o.c;clear hb) | (go_at_call 44;refine(co _ ok t _ jX (by exact H.o.bel K2.o.2.2)).mono ?_;rintro e w3 ⟨xq,bq,rfl,hb,hb2,q,hy,hyz⟩;obtain⟨a6,b6,c6,d6,rfl⟩:=hy.form;rw[HQ.o]at hb2 hyz;simp only[Option.isSome]at hb2;subst hb2;obtain rfl:=hyz _ rfl;have Iq:=aa (hy.bel (ae w3 (.cells (KV q a6 c6 b6 d6) 39)));have Bq:=aa (show KY (w3.alloc (.cells (KV q a6 c6 b6 d6) 39)) w3.heap.size q a6 c6 b6 d6 from MN w3 _);have K3:=aa (K2.o.bel (ab hb (ae w3 (.cells (KV q a6 c6 b6 d6) 39))));have Bm3:=aa (af (ab hb (ae w3 (.cells (KV q a6 c6 b6 d6) 39))) Bm.o);have m0_:=Bm3.o.c;clear f0 f1;have t0_:=K3.o.1.c;have p0_:=K3.o.2.1.c;obtain⟨f0,f1⟩:=K3.o.2.1.cf;have q0_:=Bq.o.c;clear hb hy hyz))
 have z0_:=(K4.o.2.1.set [] (.slice none 0 0)).c;refine MM (v:=.tuple #[.agg #[.string ⟨#[]⟩,.slice none 0 0],.int .i64 1]) ?_ rfl ⟨.slice none 0 0,by rw[FG.o,FE.o],by rw[FG.o];exact⟨gU _,fun k hk=>by simp[Value.ownBlock]at hk⟩,aQ (aQ K4.o.2.2 (by omega) _ _) (by omega) _ _⟩;simp[results,results31,go_sem,z0_]
theorem xI(w:LC)(ok t v)(h:In w ok t v)(hg:aE t=true)(mm)(hm:aS t fI=some mm)(hk:mm.kind=3)(hs:mm.s≠[])(qq)(hq:aS t jX=some qq)(l)(hl:bZ qq=some l):Calls prog 31 #[v] w fun e w'=>∃ sl,e=.returned (.tuple #[.agg #[.string ⟨(bE t).1.toArray⟩,sl],.int .i64 (cI t)])/\fg w w' (bE t).2 sl/\La w w':=by
 have H:=aa h;obtain⟨a1,b1,c1,d1,rfl⟩:=h.form;have K0:Ll (Gw w t a1 b1 c1 d1 ((w.alloc (.cells (KV t a1 c1 b1 d1) 39)).alloc (.cells #[.string ⟨#[]⟩,.slice none 0 0] 73))):=aa ⟨fb w _ _,et w _ _,ab (ae _ _) (ae _ _)⟩;clear h;have hF:eY t=some (mm.s,l):=by simp[eY,hg,hm,hk,hs,hq,hl]
 have FG:Ll (bE t=(mm.s,l)):=aa (by simp[bE,hF]);have FE:Ll (cI t=0):=aa (by simp[cI,hF]);have HM:=aa hm;have HQ:=aa hq;have e1:(mm.kind == 3)=true:=by simp[hk]
 have e1n:(mm.kind != 3)=false:=by simp[hk]
 have e2:mm.s.isEmpty=false:=by simp[hs]
 clear hF hm hk hs hq;go_enter func31,ntmps31;go_upto_region 6 with (first | (go_at_call 43;refine Lk (bG _ ok t _ (by exact H.o.bel K0.o.2.2)) fun w1 hb=>?_;rw[hg];have K1:=aa (K0.o.bel hb);have t0_:=K1.o.1.c;have p0_:=K1.o.2.1.c;obtain⟨f0,f1⟩:=K1.o.2.1.cf;clear hb) | (go_at_call 44;refine(co _ ok t _ fI (by exact H.o.bel K1.o.2.2)).mono ?_;rintro e w2 ⟨xm,bm,rfl,hb,hb2,m,hy,hyz⟩;obtain⟨a5,b5,c5,d5,rfl⟩:=hy.form;rw[HM.o]at hb2 hyz;simp only[Option.isSome]at hb2;subst hb2;obtain rfl:=hyz _ rfl;have Im:=aa (hy.bel (ae w2 (.cells (KV m a5 c5 b5 d5) 39)));have Bm:=aa (show KY (w2.alloc (.cells (KV m a5 c5 b5 d5) 39)) w2.heap.size m a5 c5 b5 d5 from MN w2 _);have K2:=aa (K1.o.bel (ab hb (ae w2 (.cells (KV m a5 c5 b5 d5) 39))));clear f0 f1;have t0_:=K2.o.1.c;have p0_:=K2.o.2.1.c;obtain⟨f0,f1⟩:=K2.o.2.1.cf;have m0_:=Bm.o.c;clear hb hy hyz))
 go_wp2_with (first | (go_at_call 45;refine(lM _ ok q _ (by exact Iq.o)).mono ?_;rintro e w4 ⟨sl,rfl,hsl,hb⟩;rw[hl];have K4:=aa (K3.o.bel hb);have Bm4:=aa (af hb Bm3.o);have SL:=aa (hsl l hl).1;have SN:=aa (fun k hk=>MH K3.o.2.2.size ((hsl l hl).2 k hk));obtain⟨a9,c9,rfl⟩:=SL.o.form;clear hsl;clear f0 f1;have t0_:=K4.o.1.c;have p0_:=K4.o.2.1.c;obtain⟨f0,f1⟩:=K4.o.2.1.cf;have m0_:=Bm4.o.c;clear hb) | (go_at_call 44;refine(co _ ok t _ jX (by exact H.o.bel K2.o.2.2)).mono ?_;rintro e w3 ⟨xq,bq,rfl,hb,hb2,q,hy,hyz⟩;obtain⟨a6,b6,c6,d6,rfl⟩:=hy.form;rw[HQ.o]at hb2 hyz;simp only[Option.isSome]at hb2;subst hb2;obtain rfl:=hyz _ rfl;have Iq:=aa (hy.bel (ae w3 (.cells (KV q a6 c6 b6 d6) 39)));have Bq:=aa (show KY (w3.alloc (.cells (KV q a6 c6 b6 d6) 39)) w3.heap.size q a6 c6 b6 d6 from MN w3 _);have K3:=aa (K2.o.bel (ab hb (ae w3 (.cells (KV q a6 c6 b6 d6) 39))));have Bm3:=aa (af (ab hb (ae w3 (.cells (KV q a6 c6 b6 d6) 39))) Bm.o);have m0_:=Bm3.o.c;clear f0 f1;have t0_:=K3.o.1.c;have p0_:=K3.o.2.1.c;obtain⟨f0,f1⟩:=K3.o.2.1.cf;have q0_:=Bq.o.c;clear hb hy hyz))
 have z0_:=(K4.o.2.1.set (m.s) (.slice a9 l.length c9)).c;refine MM (v:=.tuple #[.agg #[.string ⟨(m.s).toArray⟩,.slice a9 l.length c9],.int .i64 0]) ?_ rfl ⟨.slice a9 l.length c9,by rw[FG.o,FE.o],by rw[FG.o];exact⟨Gd SL.o K4.o.2.1,SN.o⟩,aQ (aQ K4.o.2.2 (by omega) _ _) (by omega) _ _⟩;simp[results,results31,go_sem,z0_]
theorem oY(w:LC)(ok t v)(h:In w ok t v):Calls prog 31 #[v] w fun e w'=>∃ sl,e=.returned (.tuple #[.agg #[.string ⟨(bE t).1.toArray⟩,sl],.int .i64 (cI t)])/\fg w w' (bE t).2 sl/\La w w':=by
 cases hg:aE t with
 | false=>exact Ly w ok t v h (by rw[eY,if_pos hg]) (.inl hg)
 | true=>
  cases hm:aS t fI with
  | none=>exact Ly w ok t v h (by simp[eY,hg,hm]) (.inr (.inl ⟨hg,hm⟩))
  | some m=>
   by_cases hk:m.kind=3
   ·by_cases hs:m.s=[]
    ·exact Ly w ok t v h (by simp[eY,hg,hm,hk,hs]) (.inr (.inr (.inr ⟨m,hg,hm,by simp[hk],by simp[hk],by simp[hs]⟩)))
    ·cases hq:aS t jX with
     | none=>exact zE w ok t v h hg m hm hk hs hq
     | some q=>
      cases hl:bZ q with
      | none=>exact xL w ok t v h hg m hm hk hs q hq hl
      | some l=>exact xI w ok t v h hg m hm hk hs q hq l hl
   ·exact Ly w ok t v h (by simp[eY,hg,hm,hk]) (.inr (.inr (.inl ⟨m,hg,hm,by simp[hk],by simp[hk]⟩)))
theorem Hx(w:LC)(ok t v)(h:In w ok t v):Calls prog 31 #[v] w fun e w'=>∃ sl,e=.returned (.tuple #[.agg #[.string ⟨(bE t).1.toArray⟩,sl],.int .i64 (cI t)])/\bk w' (bE t).2 sl/\La w w':=
 (oY w ok t v h).mono fun e w' h=>by
  obtain⟨sl,h1,h2,h3⟩:=h;exact⟨sl,h1,h2.1,h3⟩
def CI (w:LC) (ok:Nat->Prop) (ls:List (List V)) (lv:Value) (wr:LC):Prop:=
 ∃ g cap,lv=.slice (some ⟨g,0,none⟩) ls.length cap/\ev wr w.heap.size (Lj ok w) ls g cap/\La w wr
theorem Bg{l who}(h:bD (l.map aL.name))(hc:(l.map aL.name).contains who=true):∃ hi:bB l who < l.length,l[bB l who].name=who/\cq l who=l[bB l who].paths:=by
 rw[List.contains_iff_mem,List.mem_map]at hc;obtain⟨o,ho,rfl⟩:=hc;obtain⟨h1,h2⟩:=kl l o.name h;have hin:o∈l.drop (bB l o.name):=by
  rw[<-List.take_append_drop (bB l o.name) l,List.mem_append]at ho;rcases ho with ho | ho
  ·have:=h1 o ho;rw[cd]at this;cases this
  ·exact ho
 have hi:bB l o.name < l.length:=by
  apply Classical.byContradiction;intro h9;rw[List.drop_eq_nil_of_le (by omega)]at hin;cases hin
 have hfirst:l[bB l o.name]∈l.drop (bB l o.name):=(ME hi) ▸ List.mem_cons_self;have hname:l[bB l o.name].name=o.name:=by
  obtain⟨j,hj,e⟩:=List.getElem_of_mem hin;rw[List.getElem_drop]at e;cases j with
  | zero=>simp only[Nat.add_zero]at e;rw[e]
  | succ j=>
   have hlt:bB l o.name+(j+1) < l.length:=by rw[MB]at hj;omega
   have:=List.pairwise_iff_getElem.1 h (bB l o.name) (bB l o.name+(j+1)) (by simpa using hi) (by simpa using hlt) (by omega);rw[List.getElem_map,List.getElem_map,e,h2 _ hfirst]at this;cases this
 refine⟨hi,hname,?_⟩;have:=wK h (List.getElem_mem hi);rwa [hname]at this
theorem xD{l who}(hc:(l.map aL.name).contains who=false):cq l who=[]:=pk fun o ho e=>by
 rw[Bool.eq_false_iff]at hc;exact hc (by rw[List.contains_iff_mem];exact List.mem_map.2 ⟨o,ho,e⟩)
theorem xU(w:LC)(ok l v who)(h:aB w ok l v)(hr:bD (l.map aL.name))(hn:l.length < 4611686018427387904):Calls prog 100 #[v,.string ⟨who.toArray⟩] w fun e w'=>∃ a c,e=.returned (.slice a (cq l who).length c)/\ao w' ok (cq l who) (.slice a (cq l who).length c)/\La w w':=by
 have C:=aa (qo w ok l v who h hr hn);have H:=aa h;obtain⟨a,c,rfl⟩:=h.form;cases hc:(l.map aL.name).contains who with
 | false=>
  have R:=aa (xD hc);rw[hc]at C;clear hc h hr;go_enter func100,ntmps100;go_wp2_with (go_at_call 133;refine C.o.mono ?_;rintro e w1 ⟨rfl,hb⟩;have B1:=aa hb;clear hb)
  go_ret;exact⟨none,0,by rw[R.o];rfl,by rw[R.o];exact⟨by simp,.inl ⟨rfl,none,rfl⟩⟩,B1.o⟩
 | true=>
  obtain⟨hi,-,hp⟩:=Bg hr hc;rw[hc]at C;obtain⟨b,off,pa,pc,rfl,j1,j2,k1,k2,k3,k4⟩:=h.at hi;have ll:=h.1;unfold maxLen at ll;obtain⟨i,hie⟩:∃ i,bB l who=i:=⟨_,rfl⟩
  rw[<-hp]at k2 k3;have K2:Ll (∀ W,La w W->W.cell? ⟨b,off+i * 2+1,none⟩=some (.slice pa (cq l who).length pc)):=aa (fun W hW=>by rw[<-hie];exact ah hW k2);have K3:=aa k3;have x1:(i:Int) < (l.length:Int):=by omega
  have x2:(0:Int)<=(i:Int):=by omega
  rw[hie]at C;clear hc h hr hp k1 k2 k3 k4 hi hie;go_enter func100,ntmps100;go_wp2_with (go_at_call 133;refine C.o.mono ?_;rintro e w1 ⟨rfl,hb⟩;have B1:=aa hb;have q9:=K2.o _ hb;clear hb)
  go_ret;exact⟨pa,pc,rfl,K3.o.imp fun a x g1 g2=>⟨g1,ah B1.o g2⟩,B1.o⟩
end Go.Proofs.YtgolnaencepejaaGreatDoor
