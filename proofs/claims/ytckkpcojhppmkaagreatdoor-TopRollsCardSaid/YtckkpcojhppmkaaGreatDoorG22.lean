/- Whatever it is handed, TopRolls answers true and leaves all as it was. Its conditions: a text or a list takes at most 2^47 - 4096 bytes; the listed package-level variables hold what the program's text lays (the card ties them, over a pruned copy of the project). -/
import Derived.Test.YtckkpcojhppmkaaGreatDoorG21
set_option maxRecDepth 100000
set_option maxHeartbeats 40000000
set_option linter.unusedSimpArgs false
set_option linter.unusedVariables false
namespace Go.Proofs.YtckkpcojhppmkaaGreatDoor
open Go.RowKit
open _root_.Go.Proofs.Tryz
theorem yK(s:Nu)(a:cm):(dD s a).1.acts=s.acts:=by
 unfold dD;simp only;split
 ·rfl
 ·split
  ·split
   ·split <;> rfl
   ·split
    ·rfl
    ·split
     ·split <;> rfl
     ·split
      ·rfl
      ·split
       ·rfl
       ·split <;> rfl
  ·split <;> rfl
theorem Hv{s:Nu}{a:cm}(h:s.acts≠300):(je s a).1.acts=s.acts+1:=by
 unfold je;rw[if_neg h];simp only;split
 ·rfl
 ·split
  ·unfold iz;split <;> rfl
  ·split
   ·rfl
   ·exact yK _ _
theorem ur(l:List cm):∀ k,k<=100->k<=l.length->(oQ l k).acts=k
 | 0,_,_=>rfl
 | k+1,h,hk=>by
  have ih:=ur l k (by omega) (by omega);rw[uD (Mw (show k < l.length by omega)),Hv (by rw[ih];omega),ih];rfl
theorem Fc(w S v)(q:cm)(r:uf):Calls prog 14 #[.pointer (some ⟨S,0,none⟩),v,.agg (Lf q),.agg #[.int .i64 r.code,.int .i64 r.n,.string ⟨r.body.toArray⟩]] w fun e w'=>e=.returned (.bool true)/\La w w':=by
 go_enter func14,ntmps14;go_wp2
 go_ret;exact⟨rfl,ab (ae _ _) (ae _ _)⟩
theorem zk(a:LC)(l:List cm)(S0):Jf a l S0 14 #[] (fun _ _=>True):=
 ⟨fun _ _ _ _ _=>trivial,fun _ _ _ _ _ _ _ _ _=>trivial,fun k q W S v was _ _ _ hL _ _=>(Fc W S was q _).mono fun e w' h=>⟨h.1,hL.more h.2,trivial⟩⟩
theorem sM:∀ args w,(callFunc 14 args).run prog w=.ok (.enter 14 args) w:=enters_of func14 (by kernel_rfl) rfl
theorem pD(a w)(l:List cm)(v)(hb:La a w)(hl:fc a l v)(h1:cn a)(h2:bj a)(h3:di a):Calls prog 5 #[v,.func (.func 14) #[] #[]] w fun e w'=>vp a w l (fun _ _=>True) e w':=
 Ip a w l v _ _ _ sM hb hl h1 h2 h3 trivial (zk a l _)
theorem Nj(time ver t)(a:cm):(al time ver t a).1.name=t.name:=by
 unfold al;split
 ·rfl
 ·split <;> rfl
theorem Nc(l:List cm):∀ k,dP (oQ l k)
 | 0=>by unfold oQ J4;simpa using AW
 | k+1=>by
  by_cases h:k < l.length
  ·rw[uD (Mw h)];exact Ib (Nc l k)
  ·have e:oQ l (k+1)=oQ l k:=by unfold oQ;rw[MD (by omega),MD (by omega)]
   rw[e];exact Nc l k
theorem Qj{s:Nu}{a:cm}(h:dP s):∀ t∈(je s a).1.ths,t∈s.ths\/(∃ o∈s.ths,∃ n,t={ o with st:=(dA (je s a).1.time o n).1 })\/∃ o,(o=eT a.name\/o∈s.ths)/\(al s.time s.ver o a).2.2=0/\t=(al s.time s.ver o a).1:=by
 unfold je;split
 ·exact fun t ht=>.inl ht
 simp only;split
 ·exact fun t ht=>.inl ht
 split
 ·unfold iz;split
  ·exact fun t ht=>.inl ht
  ·intro t ht;obtain⟨o,ho,rfl⟩:=List.mem_map.1 ht;exact .inr (.inl ⟨o,ho,_,rfl⟩)
 split
 ·exact fun t ht=>.inl ht
 generalize hs':({ s with acts:=s.acts+1 }:Nu)=s';have e1:s'.ths=s.ths:=by rw[<-hs']
 have e2:s'.time=s.time:=by rw[<-hs']
 have e3:s'.ver=s.ver:=by rw[<-hs']
 have hr:bD (s'.ths.map Th.name):=by rw[e1];exact h.rise
 by_cases hb:cj s'.ths.length a.kind (dR s'.ths a.name)=0
 ·cases ht:dR s'.ths a.name with
  | false=>
   rw[nQ hb ht];unfold iF;split
   ·rw[e1];exact fun t ht=>.inl ht
   ·rename_i he;intro t hm;simp only[List.mem_append,List.mem_cons]at hm;rcases hm with hm | rfl | hm
    ·exact .inl (by rw[<-e1];exact List.mem_of_mem_take hm)
    ·exact .inr (.inr ⟨_,.inl rfl,by rw[<-e2,<-e3];simpa using he,by rw[<-e2,<-e3]⟩)
    ·exact .inl (by rw[<-e1];exact List.mem_of_mem_drop hm)
  | true=>
   obtain⟨t,h1,h2⟩:=nR _ _ hr ht;have htm:t∈s.ths:=by rw[<-e1];exact List.mem_of_getElem? h1
   rw[fk hb ht h1];split
   ·exact fun u hu=>.inl (by rw[<-e1];exact List.mem_of_mem_eraseIdx hu)
   split
   ·unfold iG;split
    ·rw[e1];exact fun t ht=>.inl ht
    ·intro u hu;rcases List.mem_or_eq_of_mem_set hu with hu | rfl
     ·exact .inl (by rw[<-e1];exact hu)
     ·exact .inr (.inl ⟨t,htm,_,rfl⟩)
   split
   ·rw[e1];exact fun t ht=>.inl ht
   ·unfold fF;split
    ·rw[e1];exact fun t ht=>.inl ht
    split
    ·rw[e1];exact fun t ht=>.inl ht
    ·rename_i he;intro u hu;rcases List.mem_or_eq_of_mem_set hu with hu | rfl
     ·exact .inl (by rw[<-e1];exact hu)
     ·exact .inr (.inr ⟨t,.inr htm,by rw[<-e2,<-e3];simpa using he,by rw[<-e2,<-e3]⟩)
 ·rw[C8 rfl hb,e1];exact fun t ht=>.inl ht
theorem Oa:∀ (l:List V) (xs:List dN),kW l=some xs->xs.length=l.length/\∀ x∈xs,eW x=true
 | [],xs,h=>by
  simp[kW]at h;subst h;exact⟨rfl,by intro x hx;cases hx⟩
 | t :: l,xs,h=>by
  unfold kW at h;cases h1:aT t with
  | none=>rw[h1]at h;simp at h
  | some x=>
   cases h2:kW l with
   | none=>rw[h1,h2]at h;simp at h
   | some ys=>
    rw[h1,h2]at h;simp at h;subst h;obtain⟨k1,k2⟩:=Oa l ys h2;refine⟨by simp[k1],fun y hy=>?_⟩;rcases List.mem_cons.1 hy with rfl | hy
    ·unfold aT at h1;split at h1
     ·split at h1
      ·rename_i hw;cases h1;have:=zM.1 hw;unfold eW;rw[if_neg (by simp only;omega)];simp[hw]
      ·cases h1
     ·split at h1
      ·split at h1
       ·rename_i hz;cases h1;simp[eW,hz.2]
       ·cases h1
      ·cases h1
    ·exact k2 y hy
theorem NH{v}(h:cI v=0):cM (bE v).1 (bE v).2=true:=by
 have hg:=lq h;have hn:=dQ hg;unfold cI at h;unfold bE;cases hr:eY v with
 | none=>rw[hr]at h;simp at h
 | some p=>
  simp only[Option.getD_some];unfold eY at hr;rw[if_neg (by simp[hg])]at hr;split at hr
  ·cases hr
  ·rename_i m hm;split at hr
   ·cases hr
   ·rename_i hk;have hk3:m.kind=3:=Classical.byContradiction fun h9=>hk (.inl h9);have hne:m.s≠[]:=fun h9=>hk (.inr h9);have hs:=fp (gC hn (lG hm));unfold ce at hs;rw[hk3]at hs;simp[eK]at hs;rw[Nv];split at hr
    ·cases hr;exact⟨⟨hne,by simp only;omega,by simp⟩,by intro x hx;cases hx⟩
    ·split at hr
     ·cases hr
     ·rename_i q _ _ l hl;cases hr;unfold bZ at hl;split at hl
      ·cases hl
      ·rename_i h8;obtain⟨k1,k2⟩:=Oa _ _ hl;exact⟨⟨hne,by simp only;omega,by simp only;omega⟩,k2⟩
theorem N8{g l s now order}(h1:cM g l=true)(h2:cC s=true)(h3:lp now=true)(h4:0<=order/\order<=3):(ij g l s now order).2=0:=by
 unfold ij;rw[if_neg (by simp[h1,h2]),if_neg (by simp[h3]),if_neg (by omega)];split <;> rfl
def NY (o t:dI):Prop:=¬(t.st < o.st/\t.c=o.c/\t.ph≠1/\t.ph≠4)/\(t.a=o.a\/t.a=t.c)
def NU (t:Th):Prop:=cC t.st=true/\t.st.c=(bE t.value).1
def Ok (s:Nu):Prop:=∀ t∈s.ths,NU t
theorem Om{s}(h:cC s=true):s.ph=1\/s.ph=2\/s.ph=3\/s.ph=4:=by
 rcases Es h with⟨h1,-⟩ | ⟨h1,-⟩ | h1
 ·rw[h1];exact .inl rfl
 ·rw[h1];exact .inr (.inr (.inr rfl))
 ·rcases h1.2.2.2.2.2.2.2 with h | h
  ·exact .inr (.inl h.1)
  ·exact .inr (.inr (.inl h.1))
theorem Ny{g l o now order}(e:(ij g l o now order).2=0):cC (ij g l o now order).1=true/\(ij g l o now order).1.c=g/\NY o (ij g l o now order).1:=by
 obtain⟨b1,-,-,b4,b5⟩:=NN e;refine⟨b1,b5,fun⟨c1,c2,c3,c4⟩=>?_,?_⟩
 ·have:=(NR e (by rw[<-b5,c2])).1 (by rcases Om b1 with h | h | h | h <;> first | exact absurd h c3 | exact absurd h c4 | exact .inl h | exact .inr h);omega
 ·rcases b4 with h | h
  ·exact .inl h
  ·exact .inr (by rw[h.2,b5])
theorem Nx{time ver t}{a:cm}(hT:lp time=true)(h:t.gen=0\/NU t)(he:(al time ver t a).2.2=0):NU (al time ver t a).1/\(t.gen≠0->NY t.st (al time ver t a).1.st):=by
 by_cases h1:(aJ t a).2.2≠0
 ·exfalso;unfold al at he;rw[if_pos h1]at he;exact h1 he
 ·by_cases h2:cI (aJ t a).1≠0
  ·exfalso;unfold al at he;rw[if_neg h1,if_pos h2]at he;exact h2 he
  ·have R:(al time ver t a).1=(jw time ver t (aJ t a).1 (aJ t a).2.1).1:=by unfold al;rw[if_neg h1,if_neg h2]
   have sp:=NH (show cI (aJ t a).1=0 by simpa using h2);rw[R];generalize (aJ t a).1=v at sp;generalize (aJ t a).2.1=os;have K:∀ s0,cC s0=true->cC (ij (bE v).1 (bE v).2 s0 time 0).1=true/\(ij (bE v).1 (bE v).2 s0 time 0).1.c=(bE v).1/\NY s0 (ij (bE v).1 (bE v).2 s0 time 0).1:=fun s0 h0=>Ny (N8 sp h0 hT (by omega));unfold NU;simp only[jw];by_cases hg:t.gen=0
   ·rw[if_pos hg];have h0:cC (fV (bE v).1 (bE v).2).1=true:=by
     unfold fV;rw[if_pos sp];exact yP (Nv.1 sp).1.1
    exact⟨⟨(K _ h0).1,(K _ h0).2.1⟩,fun h9=>absurd hg h9⟩
   ·rw[if_neg hg];have h0:cC t.st=true:=by
     rcases h with h | h
     ·exact absurd h hg
     ·exact h.1
    exact⟨⟨(K _ h0).1,(K _ h0).2.1⟩,fun _=>(K _ h0).2.2⟩
def Of (s:Nu) (t:Th):Prop:=t∈s.ths\/NU t/\(dR s.ths t.name=false\/∃ o∈s.ths,o.name=t.name/\NY o.st t.st)
theorem NZ{s:Nu}{a:cm}(h:dP s)(hs:Ok s):∀ t∈(je s a).1.ths,Of s t:=by
 unfold je;split
 ·exact fun t ht=>.inl ht
 simp only;split
 ·exact fun t ht=>.inl ht
 split
 ·unfold iz;split
  ·exact fun t ht=>.inl ht
  ·rename_i hn;intro t ht;obtain⟨o,ho,rfl⟩:=List.mem_map.1 ht;obtain⟨k1,k2,k3⟩:=Ny (N8 (order:=0) (now:=s.time+a.n) (NH (h.ths o ho).rd) (hs o ho).1 (Ak.2 (by have:=h.time;simp only at hn;omega)) (by omega));exact .inr ⟨⟨k1,k2⟩,.inr ⟨o,ho,rfl,k3⟩⟩
 split
 ·exact fun t ht=>.inl ht
 generalize hs':({ s with acts:=s.acts+1 }:Nu)=s';have e1:s'.ths=s.ths:=by rw[<-hs']
 have e2:s'.time=s.time:=by rw[<-hs']
 have hT:lp s'.time=true:=by rw[e2];exact Ak.2 h.time
 have hr:bD (s'.ths.map Th.name):=by rw[e1];exact h.rise
 by_cases hb:cj s'.ths.length a.kind (dR s'.ths a.name)=0
 ·cases ht:dR s'.ths a.name with
  | false=>
   rw[nQ hb ht];unfold iF;split
   ·rw[e1];exact fun t ht=>.inl ht
   ·rename_i he;intro t hm;simp only[List.mem_append,List.mem_cons]at hm;rcases hm with hm | rfl | hm
    ·exact .inl (by rw[<-e1];exact List.mem_of_mem_take hm)
    ·refine .inr ⟨(Nx hT (.inl rfl) (by simpa using he)).1,.inl ?_⟩;rw[Nj,<-e1];exact ht
    ·exact .inl (by rw[<-e1];exact List.mem_of_mem_drop hm)
  | true=>
   obtain⟨t,h1,h2⟩:=nR _ _ hr ht;have htm:t∈s.ths:=by rw[<-e1];exact List.mem_of_getElem? h1
   have S:∀ (x:Th),x.name=t.name->NU x->NY t.st x.st->∀ u∈s'.ths.set (ci s'.ths a.name) x,Of s u:=by
    intro x hx k1 k2 u hu;rcases List.mem_or_eq_of_mem_set hu with hu | rfl
    ·exact .inl (by rw[<-e1];exact hu)
    ·exact .inr ⟨k1,.inr ⟨t,htm,hx.symm,k2⟩⟩
   rw[fk hb ht h1];split
   ·exact fun u hu=>.inl (by rw[<-e1];exact List.mem_of_mem_eraseIdx hu)
   split
   ·unfold iG;split
    ·rw[e1];exact fun t ht=>.inl ht
    ·rename_i he;obtain⟨k1,k2,k3⟩:=Ny (e:=show (ij (bE t.value).1 (bE t.value).2 t.st s'.time a.order).2=0 by simpa [dA] using he);exact S _ rfl ⟨k1,k2⟩ k3
   split
   ·rw[e1];exact fun t ht=>.inl ht
   ·unfold fF;split
    ·rw[e1];exact fun t ht=>.inl ht
    split
    ·rw[e1];exact fun t ht=>.inl ht
    ·rename_i he;obtain⟨k1,k2⟩:=Nx hT (.inr (hs t htm)) (show (al s'.time s'.ver t a).2.2=0 by simpa using he);exact S _ (Nj _ _ _ _) k1 (k2 (by have:=(h.ths t htm).gen.1;omega))
 ·rw[C8 rfl hb,e1];exact fun t ht=>.inl ht
theorem Og{s:Nu}{t}(hs:Ok s)(h:Of s t):NU t:=by
 rcases h with h | h
 ·exact hs t h
 ·exact h.1
theorem Nw(l:List cm):∀ k,Ok (oQ l k)
 | 0=>by unfold oQ J4;intro t ht;simp[vm]at ht
 | k+1=>by
  by_cases h:k < l.length
  ·rw[uD (Mw h)];exact fun t ht=>Og (Nw l k) (NZ (Nc l k) (Nw l k) t ht)
  ·have e:oQ l (k+1)=oQ l k:=by unfold oQ;rw[MD (by omega),MD (by omega)]
   rw[e];exact Nw l k
theorem Qr{g l t now order}(h:t.si<=now)(h0:0<=now):(ij g l t now order).1.si<=now:=by
 by_cases e:(ij g l t now order).2=0
 ·obtain⟨-,k⟩:=NG e;generalize ij g l t now order=r at *;obtain⟨u,n⟩:=r;rcases k with h9 | ⟨h9,-⟩ | ⟨h1,ha,hc,h3,h4,h5,h6,x,m,h7,h8,h9⟩
  ·simp only at h9;rw[h9];exact h0
  ·simp only at h9;rw[h9];exact h0
  ·simp only at h9 ⊢;rcases h9 with⟨h9,-⟩ | ⟨h9,-⟩
   ·omega
   ·rw[h9];exact h
 ·rw[Rf e];exact h
theorem Re(g l):(fV g l).1.si=0:=by
 unfold fV;split <;> rfl
theorem QG{time ver t}{a:cm}(h0:0<=time)(h:t.st.si<=time):(al time ver t a).1.st.si<=time:=by
 unfold al;split
 ·exact h
 split
 ·exact h
 simp only[jw];split
 ·exact Qr (by rw[Re];exact h0) h0
 ·exact Qr h h0
theorem Rj(s:Nu)(a:cm):s.time<=(je s a).1.time:=by
 unfold je;split
 ·exact Int.le_refl _
 simp only;split
 ·exact Int.le_refl _
 split
 ·unfold iz;split
  ·exact Int.le_refl _
  ·simp only at *;omega
 split
 ·exact Int.le_refl _
 unfold dD;simp only;split
 ·exact Int.le_refl _
 ·split
  ·split
   ·split <;> exact Int.le_refl _
   ·split
    ·exact Int.le_refl _
    ·split
     ·split <;> exact Int.le_refl _
     ·split
      ·exact Int.le_refl _
      ·split
       ·exact Int.le_refl _
       ·split <;> exact Int.le_refl _
  ·split <;> exact Int.le_refl _
def Rt (s:Nu):Prop:=∀ t∈s.ths,t.st.si<=s.time
theorem Rs{s:Nu}{a:cm}(h:dP s)(hs:Rt s):Rt (je s a).1:=by
 intro t ht;have tup:=Rj s a;have t0:=h.time.1;rcases Qj h t ht with h1 | ⟨o,ho,n,rfl⟩ | ⟨o,ho,he,rfl⟩
 ·have:=hs t h1;omega
 ·exact Qr (by have:=hs o ho;omega) (by omega)
 ·refine Int.le_trans (QG t0 ?_) tup;rcases ho with rfl | ho
  ·exact t0
  ·exact hs o ho
theorem Qy(l:List cm):∀ k,Rt (oQ l k)
 | 0=>by unfold oQ J4;intro t ht;simp[vm]at ht
 | k+1=>by
  by_cases h:k < l.length
  ·rw[uD (Mw h)];exact Rs (Nc l k) (Qy l k)
  ·have e:oQ l (k+1)=oQ l k:=by unfold oQ;rw[MD (by omega),MD (by omega)]
   rw[e];exact Qy l k
def Qb:cm:=⟨8,[],[],[],0,1073741824,0,false⟩
noncomputable def FT (s:Nu):Nat->Nu
 | 0=>s
 | j+1=>(je (FT s j) Qb).1
theorem QI{s:Nu}(ha:s.acts≠300)(ht:s.time+1073741824<=1099511627776):je s Qb=({ s with acts:=s.acts+1,time:=s.time+1073741824,ths:=s.ths.map fun t=>{ t with st:=(dA (s.time+1073741824) t 0).1 } },⟨0,0,[]⟩):=by
 unfold je;rw[if_neg ha];simp only;rw[if_neg (by simp[Qb]),if_pos (show Qb.kind=8 from rfl)];unfold iz;rw[if_neg (by simp[Qb];omega)];rfl
def Rr (T:Int) (j:Nat) (t:Th):Prop:=t.st.ph=4\/¬PK (bE t.value).2\/j=0/\t.st.si<=T\/1<=j/\Ri (bE t.value).1 (bE t.value).2 j t.st (T+((j:Int)+1) * 1073741824)
theorem Qg{g:Lz}{l:List dN}{t:dI}{now:Int}(e:(ij g l t now 0).2=0)(hc:t.c=g)(h:t.ph=4):(ij g l t now 0).1=t:=by
 obtain⟨⟨k1,k2,k3,k4,k5⟩,-⟩:=NG e;rw[ij,if_neg (by simp[k1,k2]),if_neg (by simp[k3]),if_neg (by omega),if_neg (fun h=>h.1 hc.symm),zq,if_pos hc.symm,EH,if_pos (.inr h)]
structure Rq (s:Nu) (j:Nat) (u:Nu):Prop where
 good:dP u
 sta:Ok u
 time:u.time=s.time+(j:Int) * 1073741824
 acts:u.acts=s.acts+j
 rolls:∀ t∈u.ths,Rr s.time j t
theorem Rl{s:Nu}(h:dP s)(hs:Ok s)(hi:Rt s)(ha:s.acts<=100)(ht:s.time<=274877906944):∀ j:Nat,j<=10->Rq s j (FT s j)
 | 0,_=>⟨h,hs,by simp[FT],by simp[FT],fun t hm=>.inr (.inr (.inl ⟨rfl,hi t hm⟩))⟩
 | j+1,hj=>by
  have I:=Rl h hs hi ha ht j (by omega);have t0:=h.time.1;have a0:(FT s j).acts≠300:=by rw[I.acts];omega
  have tt:(FT s j).time+1073741824<=1099511627776:=by rw[I.time];omega
  have D:=QI a0 tt;have G9:dP (FT s (j+1)):=Ib I.good;refine⟨G9,fun t hm=>Og I.sta (NZ I.good I.sta t hm),?_,?_,fun t hm=>?_⟩
  ·rw[FT,D];simp only[I.time];omega
  ·rw[FT,D];simp only[I.acts];omega
  ·rw[FT,D]at hm;obtain⟨o,ho,rfl⟩:=List.mem_map.1 hm;have so:=I.sta o ho;have sp:=NH (I.good.ths o ho).rd;have nw:0<=(FT s j).time+1073741824:=by rw[I.time];omega
   have e:=N8 (order:=0) sp so.1 (Ak.2 ⟨nw,tt⟩) (by omega);have nTT:(FT s j).time+1073741824=s.time+((j:Int)+1) * 1073741824:=by rw[I.time];omega
   unfold Rr dA;simp only;by_cases h4:o.st.ph=4
   ·exact .inl (by rw[Qg e so.2 h4];exact h4)
   rcases I.rolls o ho with k | k | ⟨k1,k2⟩ | ⟨k1,k2⟩
   ·exact absurd k h4
   ·exact .inr (.inl k)
   ·refine .inr (.inr (.inr ⟨by omega,?_⟩));have:=(QF e (by rw[nTT];subst k1;simp;omega) (fun h9=>h4 h9.1)).2;subst k1;rw[nTT]at this ⊢;rw[show s.time+(((0+1:Nat):Int)+1) * 1073741824=s.time+(((0:Nat):Int)+1) * 1073741824+1073741824 by omega];exact this
   ·by_cases hp:PK (bE o.value).2
    ·refine .inr (.inr (.inr ⟨by omega,?_⟩));rw[<-nTT]at k2;have:=(Q9 sp hp nw tt k2).2;rw[show s.time+(((j+1:Nat):Int)+1) * 1073741824=(FT s j).time+1073741824+1073741824 by rw[I.time];omega];exact this
    ·exact .inr (.inl hp)
theorem QU{s u:Nu}(h:Rq s 10 u):∀ t∈u.ths,t.st.ph=4\/¬PK (bE t.value).2\/t.st=aF (bE t.value).1:=by
 intro t ht;rcases h.rolls t ht with k | k | ⟨k1,-⟩ | ⟨-,k2⟩
 ·exact .inl k
 ·exact .inr (.inl k)
 ·cases k1
 ·exact .inr (.inr (QK (NH (h.good.ths t ht).rd) k2))
variable {w w':World}
variable {v:Value}
theorem fc.bel{l:List cm}(h:fc w l v)(hb:La w w'):fc w' l v:=by
 refine⟨h.1,h.2.1,?_⟩;rcases h.2.2 with h | ⟨g,off,c,e,h1,h2,h3⟩
 ·exact .inl h
 ·refine .inr ⟨g,off,c,e,h1,h2,fun i q hq=>?_⟩;obtain⟨q0,q1,q2,q3,q4,q5,q6,q7⟩:=h3 i q hq;exact⟨ah hb q0,ah hb q1,ah hb q2,ah hb q3,ah hb q4,ah hb q5,ah hb q6,ah hb q7⟩
variable {g k:Nat}
def waitB (x:dN):Bool:=x.w == -1&&(x.p == 0 || decide (1073741824 < x.p))
theorem QJ{l:List dN}(h:l.any waitB=false):PK l:=by
 intro x hx hw;rw[List.any_eq_false]at h;have h9:waitB x=false:=by simpa using h x hx
 unfold waitB at h9;rw[hw]at h9;simp at h9;omega
theorem QW{l:List dN}(h:k < l.length):(l.take (k+1)).any waitB=((l.take k).any waitB || waitB l[k]):=by
 rw[List.take_succ_eq_append_getElem h,List.any_append];simp
def Ru (w:LC) (g:Nat) (x:dN):Prop:=w.heap[g]?=some (.cells #[.int .i64 x.w,.int .i64 x.p] 60)
theorem Ru.c{x}(h:Ru w g x):w.cell? ⟨g,0,none⟩=some (.int .i64 x.w)/\w.cell? ⟨g,1,none⟩=some (.int .i64 x.p):=by
 unfold Ru at h;refine⟨?_,?_⟩ <;> simp[World.cell?,h]
theorem topRolls_at(w)(l:List cm)(v)(hl:fc w l v)(h1:cn w)(h2:bj w)(h3:di w):Calls prog 4 #[v] w fun e w'=>e=.returned (.bool true)/\La w w':=by
 have PL:=aa (pD w w l v (MK _ _) hl h1 h2 h3);clear h1 h2 h3 hl;go_enter func4,ntmps4;go_upto_region 4 with (go_at_call 5;refine PL.o.mono ?_;rintro e w2 ⟨S,v2,rfl,p1,p2,-⟩;have L2:=aa p1;clear p1 p2)
 have SA:Ll ((oQ l (min l.length 100)).acts<=100):=aa (by rw[ur l _ (by omega) (by omega)];omega);have SK:=aa (Nw l (min l.length 100));have SI:=aa (Qy l (min l.length 100));obtain⟨st,hst⟩:∃ st,st=oQ l (min l.length 100):=⟨_,rfl⟩
 rw[<-hst]at L2 SA SK SI;clear hst PL;have TM:=aa (Ae w2 _ S v2 st L2.o.srv);by_cases ht:274877906944 < st.time
 ·go_wp2_with (go_at_call 15;refine TM.o.mono ?_;rintro e w4 ⟨rfl,hw4⟩;obtain rfl:w2=w4:=hw4.symm)
  go_ret;exact⟨rfl,L2.o.bel⟩
 have TK:=aa (Rl L2.o.good SK.o SI.o SA.o (Int.not_lt.1 ht));go_upto_region 6 with (go_at_call 15;refine TM.o.mono ?_;rintro e w4 ⟨rfl,hw4⟩;obtain rfl:w2=w4:=hw4.symm)
 clear ht TM SA SK SI;go_wp2
 go_loopg [22] 10 (fun gk iv wr=>∃ k:Nat,k<=10/\gk=10 - k/\iv=.int .i64 k/\∃ v9,Ll (iH w wr S v9 (FT st k)))
 case atStart=>exact⟨0,by omega,rfl,rfl,v2,aa L2.o⟩
 case round=>
  obtain⟨k,hk,hgk,rfl,v9,J⟩:=hrel;have GK:=aa hgk;clear hgk L2;by_cases hlt:k < 10
  ·have k1:(k:Int) < 10:=by omega
   have wk:IntKind.i64.wrap ((k:Int)+1)=(k:Int)+1:=by rw[IntKind.wrap_i64];omega
   have DO:=jy J.o Qb (by decide) (by decide) (by decide);have R2:(je (FT st k) Qb).2=⟨0,0,[]⟩:=by
    have I:=TK.o k hk;have t0:=(TK.o 0 (by omega)).good.time;have a1:=I.acts;have a2:=I.time;have a3:=(TK.o 0 (by omega)).acts;have a4:=(TK.o 10 (by omega)).good.time;have a5:=(TK.o 10 (by omega)).time;have a6:=(TK.o 10 (by omega)).good.acts;have a7:=(TK.o 10 (by omega)).acts;rw[QI (by omega) (by omega)]
   rw[R2,show (je (FT st k) Qb).1=FT st (k+1) from rfl]at DO;have DOZ:=aa DO;clear DO R2;have hfld:∀ W,(Instr.field 31 (.agg #[.int .i64 0,.int .i64 0,.string ⟨#[]⟩]) 0).run prog W=.ok (.int .i64 0) W:=fun W=>by rfl
   go_wp2_with (go_at_call 16;refine DOZ.o.mono ?_;rintro e w4 ⟨v4,rfl,p1,p2,p3⟩;have L4:=aa p1;clear p1 p2 p3)
   go_roundg (10 - (k+1))
   case measure=>rw[GK.o];omega
   case rel=>exact⟨k+1,by omega,rfl,by go_num,v4,L4⟩
  have k1:¬(k:Int) < 10:=by omega
  obtain rfl:k=10:=by omega
  have I10:=TK.o 10 (by omega);have EN:=aa (QU I10);have GD:=aa I10.good;have l8:=GD.o.len;clear I10 TK;obtain⟨u,hu⟩:∃ u,u=FT st 10:=⟨_,rfl⟩
  rw[<-hu]at J EN GD l8;clear hu hlt GK;have TH:=aa (fl J.o);go_upto_region 12 with (go_at_call 7;refine TH.o.mono ?_;rintro e w3 ⟨rfl,p1,p2,p3⟩;have N3:=aa p1.ths;have L3:=aa p2;clear p1 p2 p3)
  clear TH J;obtain⟨nva,hnva⟩:∃ x:Option Addr,x=some ⟨wr.heap.size,0,none⟩:=⟨_,rfl⟩
  rw[<-hnva]at N3 ⊢;clear hnva;go_loopg [33] u.ths.length (fun gk i wr=>∃ k:Nat,k<=u.ths.length/\gk=u.ths.length - k/\i=.int .i64 k/\Ll (La w3 wr))
  case atStart=>exact⟨0,Nat.zero_le _,rfl,rfl,aa (MK _ _)⟩
  case round=>
   obtain⟨k,hk,hgk,rfl,BL⟩:=hrel;have GK:=aa hgk;clear hgk;by_cases hlt:k < u.ths.length
   ·obtain⟨g1,o1,rfl,j1,j2,j3,xa,xb,xc,xd,xoa,xoc,hx,kx⟩:=(N3.o.bel BL.o).at hlt;have w2:(k:Int) < (u.ths.length:Int):=by omega
    have w3:(0:Int)<=(k:Int):=by omega
    have EKK:=aa (EN.o u.ths[k] (List.getElem_mem hlt));have RE:=(GD.o.ths u.ths[k] (List.getElem_mem hlt)).rd;have KX:=aa kx;obtain⟨t,ho⟩:∃ t,u.ths[k]=t:=⟨_,rfl⟩
    rw[ho]at hx EKK KX RE;clear ho kx;obtain⟨x0,x1,x2,x3,x4,x5,x6,x7,x8,x9,x10,x11,x12,x13,x14⟩:=hx;obtain⟨W2,hW2⟩:∃ W,W=wr.alloc (.cells (Ld t xa xc xb xd xoa xoc) 41):=⟨_,rfl⟩
    have A2:Ll (La wr W2):=aa (by rw[hW2];exact ae _ _);have T2:Ll (fN W2 wr.heap.size t xa xb xc xd xoa xoc):=aa (by rw[hW2];exact MN _ _);have HW2:=aa hW2;clear hW2;go_upto_region 14 with fail
    rw[<-HW2.o];obtain⟨x0,x1,x2,x3,x4,x5,x6,x7,x8,x9,x10,x11,x12,x13,x14⟩:=T2.o.c;obtain⟨G,hG⟩:∃ G,(bE t.value).1=G:=⟨_,rfl⟩
    obtain⟨ss,hss⟩:∃ ss,(bE t.value).2=ss:=⟨_,rfl⟩
    have RD:=Hx W2 _ t.value _ (KX.o.bel A2.o).val;rw[RE,hG,hss]at RD;rw[hss,hG]at EKK;have RDZ:Ll (Calls prog 8 #[.agg (KV t.value xa xc xb xd)] W2 fun e w'=>∃ sa sc,e=.returned (.tuple #[.agg #[.string ⟨G.toArray⟩,.slice sa ss.length sc],.int .i64 0])/\bk w' ss (.slice sa ss.length sc)/\La W2 w'):=RD.mono fun e w' h9=>by
     obtain⟨sl,rfl,p1,p2⟩:=h9;obtain⟨sa,sc,rfl⟩:=p1.form;exact⟨sa,sc,rfl,p1,p2⟩
    clear RD RE hG hss;go_upto_region 15 with (go_at_call 8;refine RDZ.o.mono ?_;rintro e w5 ⟨sa,sc,rfl,p1,p2⟩;have SP:=aa p1;have B5:=aa p2;clear p1 p2)
    clear RDZ;obtain⟨W5,hW5⟩:∃ W,W=w5.alloc (.cells #[.string ⟨G.toArray⟩,.slice sa ss.length sc] 44):=⟨_,rfl⟩
    have A5:Ll (La w5 W5):=aa (by rw[hW5];exact ae _ _);have P5:Ll (fM W5 w5.heap.size G (.slice sa ss.length sc)):=aa (by rw[hW5];exact MN _ _);rw[<-hW5];clear hW5;have B25:=aa (ab B5.o A5.o);have T5:=aa (T2.o.bel B25.o);have SP5:=aa (SP.o.bel A5.o);have BX:=aa (ab BL.o (ab A2.o B25.o));have y0_:=P5.o.c;obtain⟨x0,x1,x2,x3,x4,x5,x6,x7,x8,x9,x10,x11,x12,x13,x14⟩:=T5.o.c;have ls:=SP5.o.1;go_upto_region 17 with fail
    go_loopg [9,50] ss.length (fun gk bv i wi=>∃ k:Nat,k<=ss.length/\gk=ss.length - k/\i=.int .i64 k/\bv=.bool ((t.st.ph == 4) || (ss.take k).any waitB)/\Ll (La W5 wi))
    case atStart=>exact⟨0,Nat.zero_le _,rfl,rfl,by simp,aa (MK _ _)⟩
    case round=>
     obtain⟨m,hm,hgm,rfl,rfl,BII⟩:=hrel;have GM:=aa hgm;clear hgm;by_cases hlm:m < ss.length
     ·obtain⟨b9,off9,rfl,i1,i2,m1,m2⟩:=AG (SP5.o.bel BII.o) hlm;have v2:(m:Int) < (ss.length:Int):=by omega
      have v3:(0:Int)<=(m:Int):=by omega
      have AT:=aa (QW hlm);obtain⟨x,hx9⟩:∃ x,ss[m]=x:=⟨_,rfl⟩
      rw[hx9]at m1 m2 AT;clear hx9;obtain⟨W7,hW7⟩:∃ W,W=wr.alloc (.cells #[.int .i64 x.w,.int .i64 x.p] 60):=⟨_,rfl⟩
      have A7:Ll (La wr W7):=aa (by rw[hW7];exact ae _ _);have Q7:Ll (Ru W7 wr.heap.size x):=aa (by rw[hW7];exact MN _ _);have HW7:=aa hW7;clear hW7;go_upto_region 19 with fail
      rw[<-HW7.o];have n1_:=Q7.o.c;obtain⟨b0,hb0⟩:∃ b0,((t.st.ph == 4) || (ss.take m).any waitB)=b0:=⟨_,rfl⟩
      have BN:Ll (((t.st.ph == 4) || (ss.take (m+1)).any waitB)=(b0 || waitB x)):=aa (by rw[AT.o,<-Bool.or_assoc,hb0]);rw[hb0];clear hb0 AT;cases b0 with
      | true=>
       go_wp2
       go_roundg (ss.length - (m+1))
       case measure=>rw[GM.o];omega
       case rel=>exact⟨m+1,hlm,rfl,by go_num,by rw[BN.o];simp[waitB],aa (ab BII.o A7.o)⟩
      | false=>
       by_cases c1:x.w=-1
       ·have e1:(x.w == -1)=true:=by simp[c1]
        by_cases c2:x.p=0
        ·have e2:(x.p == 0)=true:=by simp[c2]
         clear c1 c2;go_wp2
         go_roundg (ss.length - (m+1))
         case measure=>rw[GM.o];omega
         case rel=>exact⟨m+1,hlm,rfl,by go_num,by rw[BN.o];simp[waitB,e1,e2],aa (ab BII.o A7.o)⟩
        ·have e2:(x.p == 0)=false:=by rw[MO];exact c2
         clear c1 c2;go_wp2
         go_roundg (ss.length - (m+1))
         case measure=>rw[GM.o];omega
         case rel=>exact⟨m+1,hlm,rfl,by go_num,by rw[BN.o];simp[waitB,e1,e2],aa (ab BII.o A7.o)⟩
       ·have e1:(x.w == -1)=false:=by rw[MO];exact c1
        clear c1;go_wp2
        go_roundg (ss.length - (m+1))
        case measure=>rw[GM.o];omega
        case rel=>exact⟨m+1,hlm,rfl,by go_num,by rw[BN.o];simp[waitB,e1],aa (ab BII.o A7.o)⟩
     ·have v2:¬(m:Int) < (ss.length:Int):=by omega
      have BY:=aa (ab BX.o BII.o);have hall:ss.take m=ss:=MD (by omega);rw[hall];clear hall;have y0_:=(P5.o.bel BII.o).c;obtain⟨x0,x1,x2,x3,x4,x5,x6,x7,x8,x9,x10,x11,x12,x13,x14⟩:=(T5.o.bel BII.o).c;cases hb:((t.st.ph == 4) || ss.any waitB) with
      | true=>
       clear hb;go_wp2
       go_roundg (u.ths.length - (k+1))
       case measure=>rw[GK.o];omega
       case rel=>exact⟨k+1,hlt,rfl,by go_num,BY⟩
      | false=>
       have HS:t.st=aF G:=by
        rw[Bool.or_eq_false_iff]at hb;rcases EKK.o with h9 | h9 | h9
        ·rw[h9]at hb;simp at hb
        ·exact absurd (QJ hb.2) h9
        ·exact h9
       rw[HS]at x9 x11;simp only[aF]at x9 x11;clear hb HS;go_wp2
       go_roundg (u.ths.length - (k+1))
       case measure=>rw[GK.o];omega
       case rel=>exact⟨k+1,hlt,rfl,by go_num,BY⟩
   ·have d9:¬(k:Int) < (u.ths.length:Int):=by omega
    go_wp2
    go_ret;exact⟨rfl,ab L3.o.bel BL.o⟩
end Go.Proofs.YtckkpcojhppmkaaGreatDoor
namespace Go.Proofs.YtckkpcojhppmkaaGreatDoor.topRolls
open Go.ChangeShapes Go.WideShapes Go.ChangeAt Go.RowKit
open Go.ChangeMaps (open_string shut_string)
theorem mf(H:Type)(enc:TypeId × Value->H)(W:World)(base:Nat)(args:Array Value)(ds gs:List (DataW H))(before:List MemPlace)(hval:∀ (j:Nat) t v,Tryz.f4.params[j]?=some t->args[j]?=some v->Value.okWide Tryz.prog W .any base t v)(hW:DataW.Whole enc Tryz.prog Tryz.f4.params.toList Rows.topRollsSpec.vars false W args.toList ds gs before)(hZ:(DataW.weightsEach Tryz.prog (Tryz.f4.params.toList++(OpenSpec.ofChange Rows.topRollsSpec).bare.plain.varTypes Tryz.prog) (ds++gs)).all (·<=reachBytes)=true)(hL:laidMet Tryz.prog lS W)(hS:W.ShapedOpen Tryz.prog):Calls Tryz.prog 4 args W fun e W'=>∃ v,e=.returned v/\Rows.topRollsSpec.post enc Tryz.prog Tryz.f4 false true false false W args v W':=by
 have hW':=hW;obtain⟨p,q,hA0,hV,rfl,hfz,hnd⟩:=hW;have hA:DataW.TrodAll enc Tryz.prog W 0 (fun _=>true) true Tryz.f4.params.toList args.toList ds p:=hA0;rw[Tryz.params4]at hA hval;obtain⟨v0,vs0,d0,ds0,p0,q0,hargs0,rfl,rfl,h0,r0⟩:=trodAll_cons hA;obtain⟨rfl,rfl,rfl⟩:=trodAll_nil r0;have hargs:args=#[v0]:=by
  obtain⟨l⟩:=args;exact congrArg Array.mk hargs0
 subst hargs;obtain⟨rfl,rfl⟩:=trodVars_none hV;have k0:Value.okWide Tryz.prog W .any base 22 v0:=hval 0 _ _ (by simp) (by simp);obtain⟨os0,hv0⟩:=uV k0 h0;clear hA0;simp only[List.append_nil]at hW';have walk:=topRolls_at W os0 v0 hv0 (um hL) (zS hS) (sf hL);refine walk.mono fun e W' ⟨he,hg⟩=>?_;subst he;have ef:Rows.topRollsSpec.fn H ([d0]++[])={ results:=[.lit (.bool true)],args:=[d0] }:=rfl;refine⟨_,rfl,_,_,_,[],(p0++[]),[],hW',?_,?_,?_,hg.frame _,fun h=>by cases h⟩
 ·rw[ef];exact trodAll_mk1 (shut_bool Tryz.underlying4 _)
 ·rw[ef,Tryz.params4];exact trodAll_cons_mk (Below.trod oI pr Al h0 hg (lK h0)) (trodAll_mk0)
 ·rw[ef];rfl
theorem sd(os:Os){H:Type}(enc:TypeId × Value->H):∃ places,DataW.whole enc Tryz.prog ((kr os).forCall (fun _ _=>0) ⟨#[],#[.slice none 0 0],[]⟩).memory Tryz.f4.params.toList Rows.topRollsSpec.vars false #[Value.slice none 0 0].toList 8=some ([.nil],[],places):=
 ⟨[],by kernel_rfl⟩
theorem xX(os:Os)(started:os.Started)(H:Type)(enc:TypeId × Value->H)(F:Stop.Interp):ReturnsInHanded {} Tryz.checked os 4 .any ((OpenSpec.ofChange Rows.topRollsSpec).preRow enc Tryz.prog Tryz.f4 Rows.topRollsRow.domain false Rows.topRollsRow.laid) (((OpenSpec.ofChange Rows.topRollsSpec).at F).post enc Tryz.prog Tryz.f4 false true false false):=by
 obtain⟨places,hx⟩:=sd os enc;refine returnsInHanded_of_row (C:=Tryz.checked) (s:=OpenSpec.ofChange Rows.topRollsSpec) own started (by kernel_rfl) Tryz.func4
  (witness_row_at (enc:=enc) (C:=Tryz.checked) false (kr os) #[.slice none 0 0] rfl (by kernel_rfl) (by kernel_rfl) (by kernel_rfl)
   (OpenSpec.preRow_of_cond 8 hx (by kernel_rfl) (fun k hk=>by cases hk) (by kernel_rfl) (Af os _))) ?_
 intro W base args ds gs before hval hW _ _ hZ hL hS _;exact mf H enc W base args ds gs before hval hW hZ hL hS
theorem Oz:(Rows.topRollsRow.inPlace == Tryz.prog.inPlace 4)=true:=by kernel_rfl
theorem OA:(Rows.topRollsRow.unfollowed == Tryz.prog.unfollowed 4)=true:=by kernel_rfl
theorem OH:(Rows.topRollsRow.recurses == Tryz.prog.recurses 4)=true:=by kernel_rfl
theorem OF:(Rows.topRollsRow.named == Tryz.prog.varsNamed 4)=true:=by kernel_rfl
theorem Oy:(Rows.topRollsRow.plainKeys == Tryz.prog.plainKeys)=true:=by kernel_rfl
theorem OC:(Rows.topRollsRow.lifted == Tryz.prog.liftsFinal)=true:=by kernel_rfl
theorem Ox:joinedFacts Tryz.prog 4 Tryz.f4 (OpenSpec.ofChange Rows.topRollsSpec).bare Rows.topRollsRow=true:=
 Oq (Oq (Oq (Oq (Oq (Oq (Oq (Oq (Oq (Oq (Oq (Oq (Oq (Oq (Oq (Oq (Oq (Oq (Oq (Oq (Oq (Oq (Oq (Oq (Oq (Oq (Oq (Oq (Oq (Oq (Oq (by kernel_rfl) Ov) Ow) (by kernel_rfl)) (by kernel_rfl)) (by kernel_rfl)) (by kernel_rfl)) (by kernel_rfl)) (by kernel_rfl)) Oz) OA) OH) OF) (by kernel_rfl)) (by kernel_rfl)) (by kernel_rfl)) (by kernel_rfl)) (by kernel_rfl)) (by kernel_rfl)) (by kernel_rfl)) (by kernel_rfl)) (by kernel_rfl)) Oy) (by kernel_rfl)) Ot) Ou) OC) (by kernel_rfl)) (by kernel_rfl)) (by kernel_rfl)) (by kernel_rfl)) (by kernel_rfl)
theorem iZ:Rows.TopRollsSaid:=
 OpenClaim.holds_of_cond 4 Tryz.f4 rfl rfl rfl rfl rfl rfl rfl ⟨rfl,rfl,rfl,rfl,rfl⟩ rfl rfl rfl rfl rfl (by kernel_rfl) Tryz.func4 Ox
  (of_decide_eq_true (by kernel_rfl)) (by unfold Func.isWrapper;first | (rw[if_pos (by decide +kernel)];kernel_rfl) | (rw[if_neg (by decide +kernel)];exact⟨rfl,rfl⟩))
  (fun os started H enc _ F=>by rw[OpenClaim.pre_eq_preRow];exact xX os started H enc F)
theorem nD(f:FuncId)(fn:Func)(hf:Tryz.pinned.checked.prog.funcNamed "stairwell/stairwelltop.TopRolls"=some f)(hfn:Tryz.pinned.checked.prog.funcs[f]?=some fn):true=Tryz.pinned.checked.prog.looks []/\∀ (j:Nat) t,fn.params[j]?=some t->Tryz.pinned.checked.prog.wantsStandIn t=false:=by
 obtain rfl:f=4:=Option.some.inj ((show Tryz.prog.funcNamed "stairwell/stairwelltop.TopRolls"=some 4 by kernel_rfl).symm.trans hf) |>.symm
 obtain rfl:fn=Tryz.f4:=(Option.some.inj (Tryz.func4.symm.trans hfn)).symm;refine⟨by kernel_rfl,fun j t ht=>?_⟩;rw[Tryz.params4]at ht;have hm:=Array.mem_of_getElem? ht;simp only[Array.mem_def,List.mem_cons,List.not_mem_nil,or_false]at hm;subst hm;exact(show Tryz.prog.wantsStandIn 22=false by kernel_rfl)
theorem card:Rows.TopRollsCardSaid:=
 Claim7.holds_tied_plain_at .later [] _ _ _ _ iZ (fun _ h=>by cases h) (by kernel_rfl) (fun _ h=>by cases h) topRolls_row_tie rfl ⟨rfl,rfl⟩ (by kernel_rfl) rfl nD (by kernel_rfl)
end Go.Proofs.YtckkpcojhppmkaaGreatDoor.topRolls
