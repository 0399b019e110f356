import Derived.Test.YtbdlfclnkpofaaaGreatDoorG12
set_option maxRecDepth 100000
set_option maxHeartbeats 40000000
set_option linter.unusedSimpArgs false
set_option linter.unusedVariables false
namespace Go.Proofs.YtbdlfclnkpofaaaGreatDoor
open Go.RowKit
open _root_.Go.Proofs.Tryz
def T9 (key:List UInt8) (x:V):List (List UInt8 × V)->Bool->List (List UInt8 × V)
 | [],put=>if put then [] else [(key,x)]
 | p :: r,put=>(if !put&&!Op.bytesLess p.1 key then [(key,x)] else [])++(if p.1≠key then [p] else [])++T9 key x r (put || !Op.bytesLess p.1 key)
theorem Un(key:List UInt8)(x:V):∀ (ps:List (List UInt8 × V)),T9 key x ps true=ps.filter fun p=>decide (p.1≠key)
 | []=>rfl
 | p :: r=>by
  unfold T9;simp only[Bool.not_true,Bool.false_and,Bool.false_eq_true,if_false,List.nil_append,Bool.true_or,Un key x r];by_cases h:p.1=key <;> simp[h]
theorem TY{k key:List UInt8}(h:k≠key):∀ (ps:List (List UInt8 × V)),eo k (ps.filter fun p=>decide (p.1≠key))=eo k ps
 | []=>rfl
 | p :: r=>by
  by_cases hp:p.1=key
  ·have:p.1≠k:=fun e=>h (e.symm.trans hp);simp only[List.filter_cons,hp,ne_eq,not_true_eq_false,decide_false,Bool.false_eq_true,if_false,TY h r];rw[eo,if_neg this]
  ·simp only[List.filter_cons,hp,ne_eq,not_false_eq_true,decide_true,if_true,eo,TY h r]
theorem Vl(key:List UInt8)(x:V)(k:List UInt8):∀ (ps:List (List UInt8 × V)),(ps.map Prod.fst).Pairwise (fun a b=>Op.bytesLess a b=true)->eo k (T9 key x ps false)=if k=key then some x else eo k ps
 | [],_=>by
  unfold T9;by_cases h:key=k
  ·simp[eo,h]
  ·have:¬k=key:=fun e=>h e.symm;simp[eo,h,this]
 | p :: r,hr=>by
  rw[List.map_cons,List.pairwise_cons]at hr;unfold T9;cases hb:Op.bytesLess p.1 key with
  | true=>
   have hne:p.1≠key:=Ix hb;simp only[Bool.not_false,Bool.not_true,Bool.and_false,Bool.false_eq_true,if_false,List.nil_append,Bool.or_false,if_pos hne,List.singleton_append,eo,Vl key x k r hr.2];by_cases h:p.1=k
   ·have:k≠key:=fun e=>hne (h.trans e);simp[h,this]
   ·simp[h]
  | false=>
   simp only[Bool.not_false,Bool.and_true,if_true,Bool.or_true,Un,List.append_assoc];rw[List.singleton_append,eo];by_cases h:key=k
   ·simp[h]
   ·have h':k≠key:=fun e=>h e.symm;simp only[if_neg h,if_neg h'];rw[show (if p.1≠key then [p] else [])++r.filter (fun p=>decide (p.1≠key))=(p :: r).filter (fun p=>decide (p.1≠key)) by by_cases hp:p.1=key <;> simp[hp]];exact TY h' (p :: r)
theorem UY(key:List UInt8)(x:V):∀ (ps:List (List UInt8 × V)),(ps.map Prod.fst).Pairwise (fun a b=>Op.bytesLess a b=true)->((T9 key x ps false).map Prod.fst).Pairwise (fun a b=>Op.bytesLess a b=true) /\
 ∀ a,(∀ k∈ps.map Prod.fst,Op.bytesLess a k=true)->Op.bytesLess a key=true->∀ k∈(T9 key x ps false).map Prod.fst,Op.bytesLess a k=true
 | [],_=>by
  unfold T9;simp
 | p :: r,hr=>by
  rw[List.map_cons,List.pairwise_cons]at hr;unfold T9;cases hb:Op.bytesLess p.1 key with
  | true=>
   have hne:p.1≠key:=Ix hb;obtain⟨h1,h2⟩:=UY key x r hr.2;simp only[Bool.not_false,Bool.not_true,Bool.and_false,Bool.false_eq_true,if_false,List.nil_append,Bool.or_false,if_pos hne,List.singleton_append,List.map_cons];refine⟨List.pairwise_cons.2 ⟨h2 p.1 hr.1 hb,h1⟩,?_⟩;intro a ha hk k hm;rcases List.mem_cons.1 hm with rfl | hm
   ·exact ha _ (by simp)
   ·exact h2 a (fun k hk=>ha k (by simp[hk])) hk k hm
  | false=>
   simp only[Bool.not_false,Bool.and_true,if_true,Bool.or_true,Un,List.append_assoc];rw[show (if p.1≠key then [p] else [])++r.filter (fun p=>decide (p.1≠key))=(p :: r).filter (fun p=>decide (p.1≠key)) by by_cases hp:p.1=key <;> simp[hp]];have hall:∀ k∈((p :: r).filter (fun p=>decide (p.1≠key))).map Prod.fst,Op.bytesLess key k=true:=by
    intro k hk;rw[List.mem_map]at hk;obtain⟨q,hq,rfl⟩:=hk;rw[List.mem_filter]at hq;have hqn:q.1≠key:=by simpa using hq.2
    rcases List.mem_cons.1 hq.1 with rfl | hqr
    ·exact ez _ _ hb hqn
    ·by_cases hp:p.1=key
     ·rw[<-hp];exact hr.1 _ (List.mem_map.2 ⟨q,hqr,rfl⟩)
     ·exact cP _ _ _ (ez _ _ hb hp) (hr.1 _ (List.mem_map.2 ⟨q,hqr,rfl⟩))
   have hpw:(((p :: r).filter (fun p=>decide (p.1≠key))).map Prod.fst).Pairwise (fun a b=>Op.bytesLess a b=true):=by
    refine List.Pairwise.sublist ?_ (List.pairwise_cons.2 ⟨hr.1,hr.2⟩);exact(List.filter_sublist (l:=p :: r)).map Prod.fst
   refine⟨?_,?_⟩
   ·rw[List.singleton_append,List.map_cons];exact List.pairwise_cons.2 ⟨hall,hpw⟩
   ·intro a ha hk k hm;rw[List.singleton_append,List.map_cons]at hm;rcases List.mem_cons.1 hm with rfl | hm
    ·exact hk
    ·exact cP _ _ _ hk (hall k hm)
theorem U1(ps:List (List UInt8 × V)):(ps.map Prod.fst).zip (ps.map Prod.snd)=ps:=by
 induction ps with
 | nil=>rfl
 | cons p ps ih=>simp[ih]
theorem Ve{a:List (List UInt8)}{b:List V}(h:a.length=b.length):(a.zip b).map Prod.fst=a:=List.map_fst_zip (Nat.le_of_eq h)
theorem VW{t:V}(h:Ob t)(key:List UInt8)(x:V):(⟨5,0,[],(T9 key x (t.keys.zip t.l) false).map Prod.fst,(T9 key x (t.keys.zip t.l) false).map Prod.snd⟩:V)=aG t key x:=by
 have hz:((t.keys.zip t.l).map Prod.fst).Pairwise (fun a b=>Op.bytesLess a b=true):=by rw[Ve h.2.2.2.1];exact h.2.2.2.2
 have ho:Ob ⟨5,0,[],(T9 key x (t.keys.zip t.l) false).map Prod.fst,(T9 key x (t.keys.zip t.l) false).map Prod.snd⟩:=⟨rfl,rfl,rfl,by simp,(UY key x _ hz).1⟩
 refine Tw ho (mo h key x) fun k=>?_;rw[ft ho.paired];show eo k (((T9 key x (t.keys.zip t.l) false).map Prod.fst).zip ((T9 key x (t.keys.zip t.l) false).map Prod.snd))=_;rw[U1,Vl key x k _ hz];by_cases e:k=key
 ·rw[if_pos e,e,pQ h.paired]
 ·rw[if_neg e,mJ h.paired _ _ _ e,ft h.paired]
def U2 (key:List UInt8) (ps:List (List UInt8 × V)):List (List UInt8 × V):=ps.filter fun p=>decide (p.1≠key)
theorem U9{t:V}(h:Ob t)(key:List UInt8):(⟨5,0,[],(U2 key (t.keys.zip t.l)).map Prod.fst,(U2 key (t.keys.zip t.l)).map Prod.snd⟩:V)=bH t key:=by
 have hz:((t.keys.zip t.l).map Prod.fst).Pairwise (fun a b=>Op.bytesLess a b=true):=by rw[Ve h.2.2.2.1];exact h.2.2.2.2
 have ho:Ob ⟨5,0,[],(U2 key (t.keys.zip t.l)).map Prod.fst,(U2 key (t.keys.zip t.l)).map Prod.snd⟩:=⟨rfl,rfl,rfl,by simp,List.Pairwise.sublist ((List.filter_sublist (l:=t.keys.zip t.l)).map Prod.fst) hz⟩
 refine Tw ho (ie h key) fun k=>?_;rw[ft ho.paired];show eo k (((U2 key (t.keys.zip t.l)).map Prod.fst).zip ((U2 key (t.keys.zip t.l)).map Prod.snd))=_;rw[U1];by_cases e:k=key
 ·rw[e,Ud h.paired (List.Pairwise.imp (fun h=>Ix h) h.2.2.2.2)];refine mG fun p hp=>?_;have:=(List.mem_filter.1 hp).2;simpa using this
 ·rw[mg h e,ft h.paired];exact TY e _
variable {w W wr:World}
variable {ok:Nat->Prop}
variable {v:Value}
variable {g B n k d:Nat}
theorem Wb(w:LC)(o1 o2 o3 o4:Obj):((((w.alloc o1).alloc o2).alloc o3).alloc o4).heap[w.heap.size+3]?=some o4:=by
 have h:=MN (((w.alloc o1).alloc o2).alloc o3) o4;have e:(((w.alloc o1).alloc o2).alloc o3).heap.size=w.heap.size+3:=by simp
 rw[e]at h;exact h
theorem TO{W':LC}{nb:Nat}{o:Obj}{r:Option Nat}(h:W.heap[nb]?=some o)(hg:W.grownBy W' r)(hr:some nb≠r):W'.heap[nb]?=some o:=
 (hg.block nb (MF.1 h).1 hr).trans h
theorem OE.drew{ks:List Lz}{l:List V}{kv lv:Value}(h:OE w ok B d ks l kv lv wr):OE w ok B d ks l kv lv wr.drew:=h.bel (aC wr 1)
theorem OE.kown{ks:List Lz}{l:List V}{kv lv:Value}(h:OE w ok B d ks l kv lv wr):∀ g,kv.ownBlock=some g->B<=g/\g < wr.heap.size:=by
 obtain⟨cs,h1,-⟩:=h;exact fun g e=>h1.lt g e
theorem OE.lown{ks:List Lz}{l:List V}{kv lv:Value}(h:OE w ok B d ks l kv lv wr):∀ g,lv.ownBlock=some g->B<=g/\g < wr.heap.size:=by
 obtain⟨cs,-,h2,-⟩:=h;exact fun g e=>h2.lt g e
theorem OE.below{ks:List Lz}{l:List V}{kv lv:Value}(h:OE w ok B d ks l kv lv wr):La w wr:=by
 obtain⟨cs,-,-,-,-,h5,-⟩:=h;exact h5
theorem OE.set{ks:List Lz}{l:List V}{kv lv:Value}(h:OE w ok B d ks l kv lv wr)(h1:w.heap.size<=g)(h2:g < B)(i:Nat)(x:Value):OE w ok B d ks l kv lv (wr.setCell ⟨g,i,none⟩ x):=by
 obtain⟨cs,e1,e2,e3,e4,e5,e6⟩:=h;have hg:wr.grownBy (wr.setCell ⟨g,i,none⟩ x) (some g):=ap (az _ _) _ _;exact⟨cs,aW e1 hg h2,aW e2 hg h2,e3.imp fun _ _ h=>h.grown hg (fun k hk e=>by have:=hk.2;simp at e;omega),e4,bS (lC (aq e5) hg h1),e6⟩
theorem Uv{e:TypeId}{size:Nat}{xs:List Value}(h:w.ownsRow B e size v n xs):∃ a c,v=.slice a n c:=by
 rcases h.2 with⟨h1,h2⟩ | ⟨g,cap,cur,h1,-⟩
 ·exact⟨none,0,by rw[h1,h2]⟩
 ·exact⟨_,_,h1⟩
theorem OE.forms{ks:List Lz}{l:List V}{kv lv:Value}(h:OE w ok B d ks l kv lv wr):∃ a c b e,kv=.slice a ks.length c/\lv=.slice b l.length e:=by
 obtain⟨cs,e1,e2,-⟩:=h;obtain⟨a,c,h1⟩:=Uv e1;obtain⟨b,e,h2⟩:=Uv e2;exact⟨a,c,b,e,h1,h2⟩
theorem OE.nil(hb:La w wr)(hB:w.heap.size<=B):OE w ok B d [] [] (.slice none 0 0) (.slice none 0 0) wr:=
 ⟨[],World.ownsRow_nil _ _ _ _,World.ownsRow_nil _ _ _ _,rfl,by simp[Value.ownBlock],hb,hB⟩
theorem OE.made{ks:List Lz}{l:List V}{kv lv:Value}(h:OE w ok B d ks l kv lv wr)(hk:∀ x∈ks,x.length<=maxLen)(h1:ks.length<=1000001)(h2:l.length<=1000001):bu wr (bQ ok w.heap.size) (d+1) ⟨5,0,[],ks,l⟩ (.agg #[.int .i64 5,.int .i64 0,.string ⟨#[]⟩,kv,lv]):=by
 obtain⟨cs,e1,e2,e3,e4,e5,e6⟩:=h;refine⟨kv,lv,rfl,by unfold dW;simp,by unfold dW;simp,by simp[maxLen],?_,?_⟩
 ·exact kf rfl e1 hk (fun k hk=>.inr (by omega)) (show ks.length<=maxLen by unfold maxLen;omega)
 ·exact fJ rfl e2 (e3.imp fun _ _ h=>h.weak fun k hk=>.inl hk.1) (fun k hk=>.inr (by omega)) (show l.length<=maxLen by unfold maxLen;omega)
def SO (w:LC) (n:Nat) (F:LC->Prop) (kv lv:Value) (W:LC):Prop:=
 ag W (w.heap.size+n) (.int .i64 5) (.int .i64 0) (.string ⟨#[]⟩) kv lv/\F W/\La w W
def Ux (B:Nat) (F:LC->Prop):Prop:=∀ W W' r,F W->W.grownBy W' r->(∀ g,r=some g->B<=g)->F W'
theorem SO.grown{F:LC->Prop}{kv lv:Value}{W':LC}{r:Option Nat}(hF:Ux (w.heap.size+n+1) F)(h:SO w n F kv lv W)(hg:W.grownBy W' r)(hr:∀ g,r=some g->w.heap.size+n+1<=g):SO w n F kv lv W':=
 ⟨h.1.grown hg (fun e=>by have:=hr _ e.symm;omega),hF _ _ _ h.2.1 hg hr,Jv h.2.2 hg (fun g e=>by have:=hr g e;omega)⟩
theorem SO.alloc{F:LC->Prop}{kv lv:Value}(hF:Ux (w.heap.size+n+1) F)(h:SO w n F kv lv W)(o:Obj):SO w n F kv lv (W.alloc o):=
 h.grown hF (World.grownBy_alloc W o none) (by simp)
theorem SO.drew{F:LC->Prop}{kv lv:Value}(hF:Ux (w.heap.size+n+1) F)(h:SO w n F kv lv W):SO w n F kv lv W.drew:=
 h.grown hF (oD (az W none)) (by simp)
theorem SO.stored{F:LC->Prop}{kv lv kv' lv':Value}(hF:∀ W i x,F W->F (W.setCell ⟨w.heap.size+n,i,none⟩ x))(h:SO w n F kv lv W):SO w n F kv' lv' ((W.setCell ⟨w.heap.size+n,3,none⟩ kv').setCell ⟨w.heap.size+n,4,none⟩ lv'):=
 ⟨ak (ak h.1 3 kv') 4 lv',hF _ _ _ (hF _ _ _ h.2.1),bS (lC (lC (aq h.2.2) (ap (az _ _) _ _) (by omega)) (ap (az _ _) _ _) (by omega))⟩
theorem Ub{c0 c1 c2 c3 c4:Value}(h:g < B):Ux B (fun W=>ag W g c0 c1 c2 c3 c4):=fun W W' r h1 h2 h3=>h1.grown h2 (fun e=>by have:=h3 _ e.symm;omega)
theorem Uc{ks:List Lz}{l:List V}(h1:k < ks.length)(h2:k < l.length):(ks.zip l).drop k=(ks[k],l[k]) :: (ks.zip l).drop (k+1):=by
 have h:k < (ks.zip l).length:=by simp;omega
 rw[ME h];simp
theorem Ue{g':Nat}{c0 c1 c2 c3 c4:Value}(h:ag W g c0 c1 c2 c3 c4)(hne:g≠g')(i:Nat)(x:Value):ag (W.setCell ⟨g',i,none⟩ x) g c0 c1 c2 c3 c4:=
 h.grown (ap (az W (some g')) i x) (by simpa using hne)
section
def FM (w:World) (t x:V) (a1 a2 a3 a4:Option Addr) (c1 c2 c3 c4:Nat) (W:World):Prop:=ag W w.heap.size (.int .i64 t.kind) (.int .i64 t.n) (.string ⟨t.s.toArray⟩) (.slice a1 t.keys.length c1) (.slice a2 t.l.length c2)/\ag W (w.heap.size+1) (.int .i64 x.kind) (.int .i64 x.n) (.string ⟨x.s.toArray⟩) (.slice a3 x.keys.length c3) (.slice a4 x.l.length c4)/\ag W (w.heap.size+2) (.int .i64 0) (.int .i64 0) (.string ⟨#[]⟩) (.slice none 0 0) (.slice none 0 0)
theorem FM.stays(w:World)(t x:V)(a1 a2 a3 a4:Option Addr)(c1 c2 c3 c4:Nat):Ux (w.heap.size+3+1) (FM w t x a1 a2 a3 a4 c1 c2 c3 c4):=fun W W' r h1 h2 h3=>
 ⟨Ub (B:=w.heap.size+3+1) (by omega) W W' r h1.1 h2 h3,Ub (B:=w.heap.size+3+1) (by omega) W W' r h1.2.1 h2 h3,Ub (B:=w.heap.size+3+1) (by omega) W W' r h1.2.2 h2 h3⟩
def PI (w:World) (ok:Nat->Prop) (d:Nat) (t x:V) (a1 a2 a3 a4:Option Addr) (c1 c2 c3 c4:Nat) (ps:List (List UInt8 × V)) (wr:World):Prop:=
 ∃ kv lv,SO w 3 (FM w t x a1 a2 a3 a4 c1 c2 c3 c4) kv lv wr/\OE w ok (w.heap.size+3+1) d (ps.map Prod.fst) (ps.map Prod.snd) kv lv wr/\w.heap.size+3+1<=wr.heap.size
def VT (w:World) (ok:Nat->Prop) (d:Nat) (t x:V) (key:List UInt8) (a1 a2 a3 a4:Option Addr) (c1 c2 c3 c4:Nat) (b:Bool) (k:Nat) (wr:World):Prop:=
 ∃ ps,PI w ok d t x a1 a2 a3 a4 c1 c2 c3 c4 ps wr/\ps++T9 key x ((t.keys.zip t.l).drop k) b=T9 key x (t.keys.zip t.l) false
theorem Vj{w W:World}{ok:Nat->Prop}{d:Nat}{t x y:V}{key:List UInt8}{a1 a2 a3 a4:Option Addr}{c1 c2 c3 c4:Nat}{ps:List (List UInt8 × V)}{kv lv kv' lv':Value}(hs:SO w 3 (FM w t x a1 a2 a3 a4 c1 c2 c3 c4) kv lv W)(ho:OE w ok (w.heap.size+3+1) d (ps.map Prod.fst++[key]) (ps.map Prod.snd++[y]) kv' lv' W):PI w ok d t x a1 a2 a3 a4 c1 c2 c3 c4 (ps++[(key,y)]) ((W.setCell ⟨w.heap.size+3,3,none⟩ kv').setCell ⟨w.heap.size+3,4,none⟩ lv'):=by
 refine⟨kv',lv',hs.stored (fun W i x h=>⟨Ue h.1 (by omega) i x,Ue h.2.1 (by omega) i x,Ue h.2.2 (by omega) i x⟩),?_,?_⟩
 ·rw[List.map_append,List.map_append];exact(ho.set (by omega) (by omega) _ _).set (by omega) (by omega) _ _
 ·have:=hs.1.lt;have e:((W.setCell ⟨w.heap.size+3,3,none⟩ kv').setCell ⟨w.heap.size+3,4,none⟩ lv').heap.size=W.heap.size:=by simp[World.setCell]
  omega
theorem UL{w W:World}{ok:Nat->Prop}{d:Nat}{t x:V}{key:List UInt8}{a1 a2 a3 a4:Option Addr}{c1 c2 c3 c4:Nat}{k:Nat}{ps:List (List UInt8 × V)}{kv lv kv' lv':Value}(h1:k < t.keys.length)(h2:k < t.l.length)(hb:Op.bytesLess t.keys[k] key=false)(hps:ps++T9 key x ((t.keys.zip t.l).drop k) false=T9 key x (t.keys.zip t.l) false)(hs:SO w 3 (FM w t x a1 a2 a3 a4 c1 c2 c3 c4) kv lv W)(ho:OE w ok (w.heap.size+3+1) d (ps.map Prod.fst++[key]) (ps.map Prod.snd++[x]) kv' lv' W):VT w ok d t x key a1 a2 a3 a4 c1 c2 c3 c4 true k ((W.setCell ⟨w.heap.size+3,3,none⟩ kv').setCell ⟨w.heap.size+3,4,none⟩ lv'):=by
 refine⟨_,Vj hs ho,?_⟩;rw[<-hps,Uc h1 h2];simp[T9,hb]
theorem TV{w W:World}{ok:Nat->Prop}{d:Nat}{t x:V}{key:List UInt8}{a1 a2 a3 a4:Option Addr}{c1 c2 c3 c4:Nat}{k:Nat}{b:Bool}{ps:List (List UInt8 × V)}{kv lv kv' lv':Value}(h1:k < t.keys.length)(h2:k < t.l.length)(hne:t.keys[k]≠key)(hb:b=false->Op.bytesLess t.keys[k] key=true)(hps:ps++T9 key x ((t.keys.zip t.l).drop k) b=T9 key x (t.keys.zip t.l) false)(hs:SO w 3 (FM w t x a1 a2 a3 a4 c1 c2 c3 c4) kv lv W)(ho:OE w ok (w.heap.size+3+1) d (ps.map Prod.fst++[t.keys[k]]) (ps.map Prod.snd++[t.l[k]]) kv' lv' W):VT w ok d t x key a1 a2 a3 a4 c1 c2 c3 c4 b (k+1) ((W.setCell ⟨w.heap.size+3,3,none⟩ kv').setCell ⟨w.heap.size+3,4,none⟩ lv'):=by
 refine⟨_,Vj hs ho,?_⟩;rw[<-hps,Uc h1 h2];cases b with
 | true=>simp[T9,hne]
 | false=>simp[T9,hne,hb rfl]
theorem UN{w wr:World}{ok:Nat->Prop}{d:Nat}{t x:V}{key:List UInt8}{a1 a2 a3 a4:Option Addr}{c1 c2 c3 c4:Nat}{k:Nat}{b:Bool}(h1:k < t.keys.length)(h2:k < t.l.length)(he:t.keys[k]=key)(hb:b=false->Op.bytesLess t.keys[k] key=true)(h:VT w ok d t x key a1 a2 a3 a4 c1 c2 c3 c4 b k wr):VT w ok d t x key a1 a2 a3 a4 c1 c2 c3 c4 b (k+1) wr:=by
 obtain⟨ps,i1,i2⟩:=h;refine⟨ps,i1,?_⟩;cases b with
 | false=>have:=Ix (hb rfl);exact absurd he this
 | true=>
  rw[<-i2,Uc h1 h2];simp[T9,he]
theorem Uh{key:List UInt8}{x:V}:∀ (ps:List (List UInt8 × V)) (b:Bool),(T9 key x ps b).length<=ps.length+1
 | [],b=>by cases b <;> simp[T9]
 | p :: r,b=>by
  cases b with
  | true=>rw[Un];exact MH (List.length_filter_le _ _) (by simp)
  | false=>
   unfold T9;cases hb:Op.bytesLess p.1 key with
   | true=>
    have:=Uh (key:=key) (x:=x) r false;by_cases h:p.1=key <;> simp[h] <;> omega
   | false=>
    have h0:(T9 key x r true).length<=r.length:=by rw[Un];exact List.length_filter_le _ _
    by_cases h:p.1=key <;> simp[h] <;> omega
theorem Vi{key:List UInt8}{x:V}:∀ (ps:List (List UInt8 × V)) (b:Bool),∀ p∈T9 key x ps b,p.1=key\/p∈ps
 | [],b=>by cases b <;> simp[T9]
 | q :: r,b=>by
  intro p hp;unfold T9 at hp;simp only[List.mem_append]at hp;rcases hp with (h | h) | h
  ·split at h
   ·rw[List.mem_singleton]at h;exact .inl (by rw[h])
   ·cases h
  ·split at h
   ·rw[List.mem_singleton]at h;exact .inr (by rw[h];simp)
   ·cases h
  ·rcases Vi r _ p h with h | h
   ·exact .inl h
   ·exact .inr (by simp[h])
theorem UM{w wr:World}{ok:Nat->Prop}{d:Nat}{t x:V}{key:List UInt8}{a1 a2 a3 a4:Option Addr}{c1 c2 c3 c4:Nat}{ks:Value}{kv lv:Value}(ho:Ob t)(hkey:key.length<=maxLen)(hks:ao w ok t.keys ks)(lk:t.keys.length<=100000)(h:∃ ps,ps=T9 key x (t.keys.zip t.l) false/\SO w 3 (FM w t x a1 a2 a3 a4 c1 c2 c3 c4) kv lv wr/\OE w ok (w.heap.size+3+1) d (ps.map Prod.fst) (ps.map Prod.snd) kv lv wr):bu (ar wr (w.heap.size+2) (.int .i64 5) (.int .i64 0) (.string ⟨#[]⟩) kv lv) (bQ ok w.heap.size) (d+1) (aG t key x) (.agg #[.int .i64 5,.int .i64 0,.string ⟨#[]⟩,kv,lv])/\La w (ar wr (w.heap.size+2) (.int .i64 5) (.int .i64 0) (.string ⟨#[]⟩) kv lv) /\
 (ag wr (w.heap.size+2) (.int .i64 0) (.int .i64 0) (.string ⟨#[]⟩) (.slice none 0 0) (.slice none 0 0)/\ag wr (w.heap.size+3) (.int .i64 5) (.int .i64 0) (.string ⟨#[]⟩) kv lv)/\ag (ar wr (w.heap.size+2) (.int .i64 5) (.int .i64 0) (.string ⟨#[]⟩) kv lv) (w.heap.size+2) (.int .i64 5) (.int .i64 0) (.string ⟨#[]⟩) kv lv:=by
 obtain⟨ps,rfl,i1,i2⟩:=h;have hs:OE w ok (w.heap.size+3+1) d _ _ kv lv (ar wr (w.heap.size+2) (.int .i64 5) (.int .i64 0) (.string ⟨#[]⟩) kv lv):=((((i2.set (by omega) (by omega) _ _).set (by omega) (by omega) _ _).set (by omega) (by omega) _ _).set (by omega) (by omega) _ _).set (by omega) (by omega) _ _;have hz:(t.keys.zip t.l).length<=100000:=by simp;omega
 have hl:=Uh (key:=key) (x:=x) (t.keys.zip t.l) false;refine⟨?_,hs.below,⟨i1.2.1.2.2,i1.1⟩,i1.2.1.2.2.set _ _ _ _ _⟩;rw[<-VW ho key x];refine hs.made ?_ (by rw[List.length_map];omega) (by rw[List.length_map];omega);intro y hy;rw[List.mem_map]at hy;obtain⟨p,hp,rfl⟩:=hy;rcases Vi _ _ p hp with h | h
 ·rw[h];exact hkey
 ·exact hks.mem _ (List.of_mem_zip h).1
theorem Vb{w W:World}{ok:Nat->Prop}{d:Nat}{t x:V}{key:List UInt8}{a1 a2 a3 a4:Option Addr}{c1 c2 c3 c4:Nat}{ps:List (List UInt8 × V)}{kv lv kv' lv':Value}(hps:ps++[(key,x)]=T9 key x (t.keys.zip t.l) false)(hs:SO w 3 (FM w t x a1 a2 a3 a4 c1 c2 c3 c4) kv lv W)(ho:OE w ok (w.heap.size+3+1) d (ps.map Prod.fst++[key]) (ps.map Prod.snd++[x]) kv' lv' W):∃ qs,qs=T9 key x (t.keys.zip t.l) false/\SO w 3 (FM w t x a1 a2 a3 a4 c1 c2 c3 c4) kv' lv' ((W.setCell ⟨w.heap.size+3,3,none⟩ kv').setCell ⟨w.heap.size+3,4,none⟩ lv')/\OE w ok (w.heap.size+3+1) d (qs.map Prod.fst) (qs.map Prod.snd) kv' lv' ((W.setCell ⟨w.heap.size+3,3,none⟩ kv').setCell ⟨w.heap.size+3,4,none⟩ lv'):=by
 refine⟨_,hps,hs.stored (fun W i x h=>⟨Ue h.1 (by omega) i x,Ue h.2.1 (by omega) i x,Ue h.2.2 (by omega) i x⟩),?_⟩;rw[List.map_append,List.map_append];exact(ho.set (by omega) (by omega) _ _).set (by omega) (by omega) _ _
attribute [local go_sem ↓] Go.wp_at_zero Go.wp_at_succ
theorem VM(w:World)(ok:Nat->Prop)(d:Nat)(t x:V)(v xv:Value)(key:List UInt8)(h:bu w ok (d+1) t v)(hx:bu w ok d x xv)(ho:Ob t)(hl:t.l.length<=100000)(hkey:key.length<=maxLen):Calls prog 72 #[v,aR key,xv] w fun e w'=>∃ r,e=.returned r/\bu w' (bQ ok w.heap.size) (d+1) (aG t key x) r/\La w w':=by
 obtain⟨a1,a2,c1,c2,rfl⟩:=h.shape;obtain⟨a3,a4,c3,c4,rfl⟩:=hx.shape;have OB:=aa ho;have HL:=aa ho.2.2.2.1;have VV:Ll (cS w ok (bu w ok d) t.l (.slice a2 t.l.length c2)/\ao w ok t.keys (.slice a1 t.keys.length c1)):=aa (by
  obtain⟨ks,ls,e,h1,h2,h3,h4,h5⟩:=h;simp only[Value.agg.injEq,Array.mk.injEq,List.cons.injEq,and_true]at e;obtain⟨-,-,-,rfl,rfl⟩:=e;exact⟨h5,h4⟩)
 have HX:=aa hx.below;have lk:t.keys.length<=100000:=by rw[HL.o];exact hl
 clear h ho hx;unfold aR;have HF:Ll _:=aa (FM.stays w t x a1 a2 a3 a4 c1 c2 c3 c4);have I0:Ll (VT w ok d t x key a1 a2 a3 a4 c1 c2 c3 c4 false 0 ((((w.alloc (.cells #[.int .i64 t.kind,.int .i64 t.n,.string ⟨t.s.toArray⟩,.slice a1 t.keys.length c1,.slice a2 t.l.length c2] 25)).alloc (.cells #[.int .i64 x.kind,.int .i64 x.n,.string ⟨x.s.toArray⟩,.slice a3 x.keys.length c3,.slice a4 x.l.length c4] 25)).alloc (.cells #[.int .i64 0,.int .i64 0,.string ⟨#[]⟩,.slice none 0 0,.slice none 0 0] 25)).alloc (.cells #[.int .i64 5,.int .i64 0,.string ⟨#[]⟩,.slice none 0 0,.slice none 0 0] 25))):=aa (by
  have hb:La w ((((w.alloc (.cells #[.int .i64 t.kind,.int .i64 t.n,.string ⟨t.s.toArray⟩,.slice a1 t.keys.length c1,.slice a2 t.l.length c2] 25)).alloc (.cells #[.int .i64 x.kind,.int .i64 x.n,.string ⟨x.s.toArray⟩,.slice a3 x.keys.length c3,.slice a4 x.l.length c4] 25)).alloc (.cells #[.int .i64 0,.int .i64 0,.string ⟨#[]⟩,.slice none 0 0,.slice none 0 0] 25)).alloc (.cells #[.int .i64 5,.int .i64 0,.string ⟨#[]⟩,.slice none 0 0,.slice none 0 0] 25)):=ab (ab (ab (ae _ _) (ae _ _)) (ae _ _)) (ae _ _);refine⟨[],⟨.slice none 0 0,.slice none 0 0,⟨?_,⟨?_,?_,?_⟩,hb⟩,OE.nil hb (by omega),by simp⟩,by simp⟩
  ·exact Wb w _ _ _ _
  ·exact af (ae _ _) (lI w _ _ _)
  ·exact af (ae _ _) (mE w _ _ _)
  ·exact af (ae _ _) (jI w _ _ _))
 go_enter func72,ntmps72;go_wp2_with fail
 go_loopg [8,15] t.keys.length (fun gk p i wr=>∃ (k:Nat) (b:Bool),k<=t.keys.length/\gk=t.keys.length - k/\i=.int .i64 k/\p=.bool b/\VT w ok d t x key a1 a2 a3 a4 c1 c2 c3 c4 b k wr)
 case atStart=>exact⟨0,false,Nat.zero_le _,rfl,rfl,rfl,I0.o⟩
 case round=>
  obtain⟨k,b,hk,hgk,rfl,rfl,hI⟩:=hrel;have GK:=aa hgk;have II:=aa hI;clear hgk hI I0;by_cases hlt:k < t.keys.length
  ·have hlt':k < t.l.length:=by have:=HL.o;omega
   obtain⟨kb,ko,rfl,j1,j2,jk⟩:=gQ VV.o.2 hlt;have w1:(0:Int)<=(k:Int):=by omega
   have w2:(k:Int) < (t.keys.length:Int):=by omega
   have w3:(k:Int) < (t.l.length:Int):=by omega
   unfold maxLen at j2;have jk2:=ah (by obtain⟨ps,⟨kv,lv,i1,-⟩,-⟩:=II.o;exact i1.2.2) jk;cases b with
   | true=>
    go_upto_if 26 with fail
    go_cut [8] from 16 to 58 (fun p wc=>∃ b:Bool,p=.bool b/\VT w ok d t x key (some ⟨kb,ko,none⟩) a2 a3 a4 c1 c2 c3 c4 b k wc/\(b=false->Op.bytesLess (t.keys[k]'hlt) key=true))
    case first=>
     go_wp2_with fail
     go_meet
     case rel=>exact⟨true,rfl,II.o,by simp⟩
    case rest=>
     obtain⟨b,rfl,hI,hbl⟩:=hcut;have II:=aa hI;have HBL:=aa hbl;clear hI hbl;by_cases he:t.keys[k]=key
     ·have e3:(t.keys[k] == key)=true:=by simp[he]
      have HN:=aa (UN hlt hlt' he HBL.o II.o);clear he;go_wp2_with fail
      go_roundg (t.keys.length - (k+1))
      case measure=>rw[GK.o];omega
      case rel=>exact⟨k+1,b,hlt,rfl,by go_num,rfl,HN.o⟩
     ·have e3:(t.keys[k] == key)=false:=by simp[he]
      have HNE:=aa he;obtain⟨xb,xo,rfl,j3,j4,a5,c5,a6,c6,g0,g1,g2,g3,g4,g5⟩:=fz VV.o.1 hlt';unfold maxLen at j4;have G0:=aa g0;have G1:=aa g1;have G2:=aa g2;have G3:=aa g3;have G4:=aa g4;have HY:=aa g5.below;obtain⟨ps,⟨kv,lv,i1,i2,i4⟩,i3⟩:=II.o;have HPS:=aa i3;have hpl:ps.length<=100001:=by
       have h0:=congrArg List.length i3;have h1:=Uh (key:=key) (x:=x) (t.keys.zip t.l) false;simp at h0 h1;omega
      have hnk:(ps.map Prod.fst).length<=1000000:=by rw[List.length_map];omega
      have hnl:(ps.map Prod.snd).length<=1000000:=by rw[List.length_map];omega
      have OEc:=aa i2;have hBc:w.heap.size+3+1<=wc.heap.size:=i4;have SOc:=aa i1;have LK:Ll (∀ g,kv.ownBlock=some g->g < wc.heap.size):=aa (fun g e=>(i2.kown g e).2);clear he g0 g1 g2 g3 g4 g5 i1 i2 i3 i4 hpl;go_upto_region 10 with fail
      refine aD (SO w 3 (FM w t x (some ⟨kb,ko,none⟩) (some ⟨xb,xo,none⟩) a3 a4 c1 c2 c3 c4) kv lv) [15] (by kernel_rfl) (SOc.o.drew HF.o) (fun LI=>?_);refine WT.out ?_;refine OJ 0 ?_ [1,4,13,14,15,16,17] LI ?_ ?_;rotate_left
      ·intro wS LN;go_simp;all_goals with_reducible rfl
      try simp only[av,List.set]
      refine OJ 1 ?_ [4,13,14,15,16,17] LI ?_ ?_;rotate_left
      ·intro wS LN;obtain⟨s1,⟨s2,s3,s5⟩,s4⟩:=LN;have x0_:=s1.c;have y0_:=s2.c;obtain⟨z0,z1,z2,z3,z4,-⟩:=s3.c;have e0:=ah s4 G0.o;have e1:=ah s4 G1.o;have e2:=ah s4 G2.o;have e3:=ah s4 G3.o;have e4:=ah s4 G4.o;go_simp;all_goals with_reducible rfl
      try simp only[av,List.set]
      refine OJ 2 ?_ [3,4,13,14,15,16,17] LI ?_ ?_;rotate_left
      ·intro wS LN;go_simp;all_goals with_reducible rfl
      try simp only[av,List.set]
      refine OJ 5 ?_ [6,13,14,15,16,17] LI ?_ ?_;rotate_left
      ·intro wS LN;go_simp;all_goals with_reducible rfl
      try simp only[av,List.set]
      refine OJ 6 ?_ [13,14,15,16,17] LI ?_ ?_;rotate_left
      ·intro wS LN;obtain⟨s1,⟨s2,s3,s5⟩,s4⟩:=LN;have x0_:=s1.c;have y0_:=s2.c;obtain⟨z0,z1,z2,z3,z4,-⟩:=s3.c;have e0:=ah s4 G0.o;have e1:=ah s4 G1.o;have e2:=ah s4 G2.o;have e3:=ah s4 G3.o;have e4:=ah s4 G4.o;go_simp;all_goals with_reducible rfl
      try simp only[av,List.set]
      refine OJ 7 ?_ [8,10,11,12,13,15,16,17] LI ?_ ?_;rotate_left
      ·intro wS LN;go_simp;all_goals with_reducible rfl
      try simp only[av,List.set]
      refine OJ 8 ?_ [10,11,12,13,15,16,17] LI ?_ ?_;rotate_left
      ·intro wS LN;obtain⟨s1,⟨s2,s3,s5⟩,s4⟩:=LN;have x0_:=s1.c;have y0_:=s2.c;obtain⟨z0,z1,z2,z3,z4,-⟩:=s3.c;have e0:=ah s4 G0.o;have e1:=ah s4 G1.o;have e2:=ah s4 G2.o;have e3:=ah s4 G3.o;have e4:=ah s4 G4.o;go_simp;all_goals with_reducible rfl
      try simp only[av,List.set]
      refine OJ 9 ?_ [10,11,12,13,15,16,17] LI ?_ ?_;rotate_left
      ·intro wS LN;go_simp;all_goals with_reducible rfl
      try simp only[av,List.set]
      refine OJ 10 ?_ [11,12,13,15,16,17] LI ?_ ?_;rotate_left
      ·intro wS LN;go_simp;all_goals with_reducible rfl
      try simp only[av,List.set]
      refine OJ 11 ?_ [12,13,15,16,17] LI ?_ ?_;rotate_left
      ·intro wS LN;obtain⟨s1,⟨s2,s3,s5⟩,s4⟩:=LN;have x0_:=s1.c;have y0_:=s2.c;obtain⟨z0,z1,z2,z3,z4,-⟩:=s3.c;have e0:=ah s4 G0.o;have e1:=ah s4 G1.o;have e2:=ah s4 G2.o;have e3:=ah s4 G3.o;have e4:=ah s4 G4.o;go_simp;all_goals with_reducible rfl
      try simp only[av,List.set]
      refine OL [3,12] ?_;refine TD 3 (fun K hK=>?_) ?_
      ·go_simp;replace SOc:=aa (SOc.o.alloc HF.o (.cells #[.string ⟨t.keys[k].toArray⟩] 9));replace OEc:=aa (OEc.o.bel (ae _ (.cells #[.string ⟨t.keys[k].toArray⟩] 9)));replace hBc:=MH hBc (ae _ (.cells #[.string ⟨t.keys[k].toArray⟩] 9)).size;have NBK:Ll ((wc.alloc (.cells #[.string ⟨t.keys[k].toArray⟩] 9)).heap[wc.heap.size]?=some (.cells #[.string ⟨t.keys[k].toArray⟩] 9)):=aa (MN _ _);refine hK.out _ _ (SOc.o.drew HF.o) (fun LJ=>?_);clear hK K;replace LI:=LJ;clear LJ;try simp only[Act.put,Mt,Mu,Mv]
       refine OL [4,12] ?_;refine TD 4 (fun K hK=>?_) ?_
       ·have OEd:=aa OEc.o.drew;have NBd:Ll (((wc.alloc (.cells #[.string ⟨t.keys[k].toArray⟩] 9)).drew).heap[wc.heap.size]?=some (.cells #[.string ⟨t.keys[k].toArray⟩] 9)):=aa NBK.o;refine m8 (by rfl) (.tmp 43) (.tmp 45) 22 (by rfl) _ _ rfl rfl _ (fun ty=>OEd.o.key NBd.o hnk (by exact hBc) ty) (fun v9 W9 hR=>?_);obtain⟨ho9,hg9,gK,cK,rfl⟩:=hR;replace SOc:=aa (LI.grown HF.o hg9 (fun g e=>(OEd.o.kown g e).1));refine hK.out _ _ SOc.o (fun LJ=>?_);replace OEc:=aa ho9;replace hBc:=MH (by exact hBc) hg9.size;clear ho9 hg9 OEd NBd;clear hK K;replace LI:=LJ;clear LJ;try simp only[Act.put,Mt,Mu,Mv]
        refine OJ 14 ?_ [15,16,17] LI ?_ ?_;rotate_left
        ·intro wS LN;go_simp;all_goals with_reducible rfl
        try simp only[av,List.set]
        refine OL [12] ?_;refine TD 12 (fun K hK=>?_) ?_
        ·go_simp;replace SOc:=aa (SOc.o.alloc HF.o (.cells #[.int .i64 t.l[k].kind,.int .i64 t.l[k].n,.string ⟨t.l[k].s.toArray⟩,.slice a5 t.l[k].keys.length c5,.slice a6 t.l[k].l.length c6] 25));replace OEc:=aa (OEc.o.bel (ae _ (.cells #[.int .i64 t.l[k].kind,.int .i64 t.l[k].n,.string ⟨t.l[k].s.toArray⟩,.slice a5 t.l[k].keys.length c5,.slice a6 t.l[k].l.length c6] 25)));replace hBc:=MH hBc (ae _ (.cells #[.int .i64 t.l[k].kind,.int .i64 t.l[k].n,.string ⟨t.l[k].s.toArray⟩,.slice a5 t.l[k].keys.length c5,.slice a6 t.l[k].l.length c6] 25)).size;have NBV:Ll ((W9.alloc (.cells #[.int .i64 t.l[k].kind,.int .i64 t.l[k].n,.string ⟨t.l[k].s.toArray⟩,.slice a5 t.l[k].keys.length c5,.slice a6 t.l[k].l.length c6] 25)).heap[W9.heap.size]?=some (.cells #[.int .i64 t.l[k].kind,.int .i64 t.l[k].n,.string ⟨t.l[k].s.toArray⟩,.slice a5 t.l[k].keys.length c5,.slice a6 t.l[k].l.length c6] 25)):=aa (MN _ _);refine hK.out _ _ (SOc.o) (fun LJ=>?_);clear hK K;replace LI:=LJ;clear LJ;try simp only[Act.put,Mt,Mu,Mv]
         refine OL [13] ?_;refine TD 13 (fun K hK=>?_) ?_
         ·have OEd:=aa OEc.o;have HY2:=aa (HY.o.bel OEd.o.below);have NBd:=aa NBV.o;refine m8 (by rfl) (.tmp 48) (.tmp 54) 23 (by rfl) _ _ rfl rfl _ (fun ty=>OEd.o.item NBd.o HY2.o hnl (by exact hBc) ty) (fun v9 W9 hR=>?_);obtain⟨ho9,hg9,gV,cV,rfl⟩:=hR;replace SOc:=aa (LI.grown HF.o hg9 (fun g e=>(OEd.o.lown g e).1));refine hK.out _ _ SOc.o (fun LJ=>?_);replace OEc:=aa ho9;replace hBc:=MH (by exact hBc) hg9.size;clear ho9 hg9 OEd NBd;clear hK K;replace LI:=LJ;clear LJ;try simp only[Act.put,Mt,Mu,Mv]
          obtain⟨o0,o1,o2,o3,o4,f0,f1,f2,f3,f4⟩:=LI.1.c;have HE:=aa LI;clear LI;refine OO 15 (fun K hK=>?_);go_simp;refine hK.out _ _ ?_;clear hK K;try simp only[Act.put,Mt,Mu,Mv]
          refine OO 16 (fun K hK=>?_);go_simp;refine hK.out _ _ ?_;clear hK K;try simp only[Act.put,Mt,Mu,Mv]
          refine OO 17 (fun K hK=>?_);go_simp;refine hK.out _ _ ?_;clear hK K;try simp only[Act.put,Mt,Mu,Mv]
          refine dn (by kernel_rfl) ?_;go_wp2_with fail
          go_roundg (t.keys.length - (k+1))
          case measure=>rw[GK.o];omega
          case rel=>exact⟨k+1,b,hlt,rfl,by go_num,rfl,TV hlt hlt' HNE.o HBL.o HPS.o HE.o (by have h9:=OEc.o;simp only[List.length_map]at h9;exact h9)⟩
         exact nl
        exact nl
       refine TD 12 (fun K hK=>?_) ?_
       ·go_simp;replace SOc:=aa (SOc.o.alloc HF.o (.cells #[.int .i64 t.l[k].kind,.int .i64 t.l[k].n,.string ⟨t.l[k].s.toArray⟩,.slice a5 t.l[k].keys.length c5,.slice a6 t.l[k].l.length c6] 25));replace OEc:=aa (OEc.o.bel (ae _ (.cells #[.int .i64 t.l[k].kind,.int .i64 t.l[k].n,.string ⟨t.l[k].s.toArray⟩,.slice a5 t.l[k].keys.length c5,.slice a6 t.l[k].l.length c6] 25)));replace hBc:=MH hBc (ae _ (.cells #[.int .i64 t.l[k].kind,.int .i64 t.l[k].n,.string ⟨t.l[k].s.toArray⟩,.slice a5 t.l[k].keys.length c5,.slice a6 t.l[k].l.length c6] 25)).size;clear NBK;have NBK:Ll (((wc.alloc (.cells #[.string ⟨t.keys[k].toArray⟩] 9)).alloc (.cells #[.int .i64 t.l[k].kind,.int .i64 t.l[k].n,.string ⟨t.l[k].s.toArray⟩,.slice a5 t.l[k].keys.length c5,.slice a6 t.l[k].l.length c6] 25)).heap[wc.heap.size]?=some (.cells #[.string ⟨t.keys[k].toArray⟩] 9)):=aa (fb _ _ _);have NBV:Ll (((wc.alloc (.cells #[.string ⟨t.keys[k].toArray⟩] 9)).alloc (.cells #[.int .i64 t.l[k].kind,.int .i64 t.l[k].n,.string ⟨t.l[k].s.toArray⟩,.slice a5 t.l[k].keys.length c5,.slice a6 t.l[k].l.length c6] 25)).heap[wc.heap.size+1]?=some (.cells #[.int .i64 t.l[k].kind,.int .i64 t.l[k].n,.string ⟨t.l[k].s.toArray⟩,.slice a5 t.l[k].keys.length c5,.slice a6 t.l[k].l.length c6] 25)):=aa (et _ _ _);refine hK.out _ _ (SOc.o.drew HF.o) (fun LJ=>?_);clear hK K;replace LI:=LJ;clear LJ;try simp only[Act.put,Mt,Mu,Mv]
        refine OL [4] ?_;refine TD 4 (fun K hK=>?_) ?_
        ·have OEd:=aa OEc.o.drew;have NBd:Ll ((((wc.alloc (.cells #[.string ⟨t.keys[k].toArray⟩] 9)).alloc (.cells #[.int .i64 t.l[k].kind,.int .i64 t.l[k].n,.string ⟨t.l[k].s.toArray⟩,.slice a5 t.l[k].keys.length c5,.slice a6 t.l[k].l.length c6] 25)).drew).heap[wc.heap.size]?=some (.cells #[.string ⟨t.keys[k].toArray⟩] 9)):=aa NBK.o;refine m8 (by rfl) (.tmp 43) (.tmp 45) 22 (by rfl) _ _ rfl rfl _ (fun ty=>OEd.o.key NBd.o hnk (by exact hBc) ty) (fun v9 W9 hR=>?_);obtain⟨ho9,hg9,gK,cK,rfl⟩:=hR;replace SOc:=aa (LI.grown HF.o hg9 (fun g e=>(OEd.o.kown g e).1));refine hK.out _ _ SOc.o (fun LJ=>?_);replace NBV:=aa (TO ((by exact(NBV.o):(((wc.alloc (.cells #[.string ⟨t.keys[k].toArray⟩] 9)).alloc (.cells #[.int .i64 t.l[k].kind,.int .i64 t.l[k].n,.string ⟨t.l[k].s.toArray⟩,.slice a5 t.l[k].keys.length c5,.slice a6 t.l[k].l.length c6] 25)).drew).heap[wc.heap.size+1]?=some (.cells #[.int .i64 t.l[k].kind,.int .i64 t.l[k].n,.string ⟨t.l[k].s.toArray⟩,.slice a5 t.l[k].keys.length c5,.slice a6 t.l[k].l.length c6] 25))) hg9 (fun e=>by have:=LK.o _ e.symm;omega));replace OEc:=aa ho9;replace hBc:=MH (by exact hBc) hg9.size;clear ho9 hg9 OEd NBd;clear hK K;replace LI:=LJ;clear LJ;try simp only[Act.put,Mt,Mu,Mv]
         refine OJ 14 ?_ [15,16,17] LI ?_ ?_;rotate_left
         ·intro wS LN;go_simp;all_goals with_reducible rfl
         try simp only[av,List.set]
         refine OL [13] ?_;refine TD 13 (fun K hK=>?_) ?_
         ·have OEd:=aa OEc.o;have HY2:=aa (HY.o.bel OEd.o.below);have NBd:=aa NBV.o;refine m8 (by rfl) (.tmp 48) (.tmp 54) 23 (by rfl) _ _ rfl rfl _ (fun ty=>OEd.o.item NBd.o HY2.o hnl (by exact hBc) ty) (fun v9 W9 hR=>?_);obtain⟨ho9,hg9,gV,cV,rfl⟩:=hR;replace SOc:=aa (LI.grown HF.o hg9 (fun g e=>(OEd.o.lown g e).1));refine hK.out _ _ SOc.o (fun LJ=>?_);replace OEc:=aa ho9;replace hBc:=MH (by exact hBc) hg9.size;clear ho9 hg9 OEd NBd;clear hK K;replace LI:=LJ;clear LJ;try simp only[Act.put,Mt,Mu,Mv]
          obtain⟨o0,o1,o2,o3,o4,f0,f1,f2,f3,f4⟩:=LI.1.c;have HE:=aa LI;clear LI;refine OO 15 (fun K hK=>?_);go_simp;refine hK.out _ _ ?_;clear hK K;try simp only[Act.put,Mt,Mu,Mv]
          refine OO 16 (fun K hK=>?_);go_simp;refine hK.out _ _ ?_;clear hK K;try simp only[Act.put,Mt,Mu,Mv]
          refine OO 17 (fun K hK=>?_);go_simp;refine hK.out _ _ ?_;clear hK K;try simp only[Act.put,Mt,Mu,Mv]
          refine dn (by kernel_rfl) ?_;go_wp2_with fail
          go_roundg (t.keys.length - (k+1))
          case measure=>rw[GK.o];omega
          case rel=>exact⟨k+1,b,hlt,rfl,by go_num,rfl,TV hlt hlt' HNE.o HBL.o HPS.o HE.o (by have h9:=OEc.o;simp only[List.length_map]at h9;exact h9)⟩
         exact nl
        exact nl
       exact nl
      refine TD 12 (fun K hK=>?_) ?_
      ·go_simp;replace SOc:=aa (SOc.o.alloc HF.o (.cells #[.int .i64 t.l[k].kind,.int .i64 t.l[k].n,.string ⟨t.l[k].s.toArray⟩,.slice a5 t.l[k].keys.length c5,.slice a6 t.l[k].l.length c6] 25));replace OEc:=aa (OEc.o.bel (ae _ (.cells #[.int .i64 t.l[k].kind,.int .i64 t.l[k].n,.string ⟨t.l[k].s.toArray⟩,.slice a5 t.l[k].keys.length c5,.slice a6 t.l[k].l.length c6] 25)));replace hBc:=MH hBc (ae _ (.cells #[.int .i64 t.l[k].kind,.int .i64 t.l[k].n,.string ⟨t.l[k].s.toArray⟩,.slice a5 t.l[k].keys.length c5,.slice a6 t.l[k].l.length c6] 25)).size;have NBV:Ll ((wc.alloc (.cells #[.int .i64 t.l[k].kind,.int .i64 t.l[k].n,.string ⟨t.l[k].s.toArray⟩,.slice a5 t.l[k].keys.length c5,.slice a6 t.l[k].l.length c6] 25)).heap[wc.heap.size]?=some (.cells #[.int .i64 t.l[k].kind,.int .i64 t.l[k].n,.string ⟨t.l[k].s.toArray⟩,.slice a5 t.l[k].keys.length c5,.slice a6 t.l[k].l.length c6] 25)):=aa (MN _ _);refine hK.out _ _ (SOc.o.drew HF.o) (fun LJ=>?_);clear hK K;replace LI:=LJ;clear LJ;try simp only[Act.put,Mt,Mu,Mv]
       refine OL [3] ?_;refine TD 3 (fun K hK=>?_) ?_
       ·go_simp;replace SOc:=aa (SOc.o.alloc HF.o (.cells #[.string ⟨t.keys[k].toArray⟩] 9));replace OEc:=aa (OEc.o.bel (ae _ (.cells #[.string ⟨t.keys[k].toArray⟩] 9)));replace hBc:=MH hBc (ae _ (.cells #[.string ⟨t.keys[k].toArray⟩] 9)).size;clear NBV;have NBV:Ll (((wc.alloc (.cells #[.int .i64 t.l[k].kind,.int .i64 t.l[k].n,.string ⟨t.l[k].s.toArray⟩,.slice a5 t.l[k].keys.length c5,.slice a6 t.l[k].l.length c6] 25)).alloc (.cells #[.string ⟨t.keys[k].toArray⟩] 9)).heap[wc.heap.size]?=some (.cells #[.int .i64 t.l[k].kind,.int .i64 t.l[k].n,.string ⟨t.l[k].s.toArray⟩,.slice a5 t.l[k].keys.length c5,.slice a6 t.l[k].l.length c6] 25)):=aa (fb _ _ _);have NBK:Ll (((wc.alloc (.cells #[.int .i64 t.l[k].kind,.int .i64 t.l[k].n,.string ⟨t.l[k].s.toArray⟩,.slice a5 t.l[k].keys.length c5,.slice a6 t.l[k].l.length c6] 25)).alloc (.cells #[.string ⟨t.keys[k].toArray⟩] 9)).heap[wc.heap.size+1]?=some (.cells #[.string ⟨t.keys[k].toArray⟩] 9)):=aa (et _ _ _);refine hK.out _ _ (SOc.o.drew HF.o) (fun LJ=>?_);clear hK K;replace LI:=LJ;clear LJ;try simp only[Act.put,Mt,Mu,Mv]
        refine OL [4] ?_;refine TD 4 (fun K hK=>?_) ?_
        ·have OEd:=aa OEc.o.drew;have NBd:Ll ((((wc.alloc (.cells #[.int .i64 t.l[k].kind,.int .i64 t.l[k].n,.string ⟨t.l[k].s.toArray⟩,.slice a5 t.l[k].keys.length c5,.slice a6 t.l[k].l.length c6] 25)).alloc (.cells #[.string ⟨t.keys[k].toArray⟩] 9)).drew).heap[wc.heap.size+1]?=some (.cells #[.string ⟨t.keys[k].toArray⟩] 9)):=aa NBK.o;refine m8 (by rfl) (.tmp 43) (.tmp 45) 22 (by rfl) _ _ rfl rfl _ (fun ty=>OEd.o.key NBd.o hnk (by exact hBc) ty) (fun v9 W9 hR=>?_);obtain⟨ho9,hg9,gK,cK,rfl⟩:=hR;replace SOc:=aa (LI.grown HF.o hg9 (fun g e=>(OEd.o.kown g e).1));refine hK.out _ _ SOc.o (fun LJ=>?_);replace NBV:=aa (TO ((by exact(NBV.o):(((wc.alloc (.cells #[.int .i64 t.l[k].kind,.int .i64 t.l[k].n,.string ⟨t.l[k].s.toArray⟩,.slice a5 t.l[k].keys.length c5,.slice a6 t.l[k].l.length c6] 25)).alloc (.cells #[.string ⟨t.keys[k].toArray⟩] 9)).drew).heap[wc.heap.size]?=some (.cells #[.int .i64 t.l[k].kind,.int .i64 t.l[k].n,.string ⟨t.l[k].s.toArray⟩,.slice a5 t.l[k].keys.length c5,.slice a6 t.l[k].l.length c6] 25))) hg9 (fun e=>by have:=LK.o _ e.symm;omega));replace OEc:=aa ho9;replace hBc:=MH (by exact hBc) hg9.size;clear ho9 hg9 OEd NBd;clear hK K;replace LI:=LJ;clear LJ;try simp only[Act.put,Mt,Mu,Mv]
         refine OJ 14 ?_ [15,16,17] LI ?_ ?_;rotate_left
         ·intro wS LN;go_simp;all_goals with_reducible rfl
         try simp only[av,List.set]
         refine OL [13] ?_;refine TD 13 (fun K hK=>?_) ?_
         ·have OEd:=aa OEc.o;have HY2:=aa (HY.o.bel OEd.o.below);have NBd:=aa NBV.o;refine m8 (by rfl) (.tmp 48) (.tmp 54) 23 (by rfl) _ _ rfl rfl _ (fun ty=>OEd.o.item NBd.o HY2.o hnl (by exact hBc) ty) (fun v9 W9 hR=>?_);obtain⟨ho9,hg9,gV,cV,rfl⟩:=hR;replace SOc:=aa (LI.grown HF.o hg9 (fun g e=>(OEd.o.lown g e).1));refine hK.out _ _ SOc.o (fun LJ=>?_);replace OEc:=aa ho9;replace hBc:=MH (by exact hBc) hg9.size;clear ho9 hg9 OEd NBd;clear hK K;replace LI:=LJ;clear LJ;try simp only[Act.put,Mt,Mu,Mv]
          obtain⟨o0,o1,o2,o3,o4,f0,f1,f2,f3,f4⟩:=LI.1.c;have HE:=aa LI;clear LI;refine OO 15 (fun K hK=>?_);go_simp;refine hK.out _ _ ?_;clear hK K;try simp only[Act.put,Mt,Mu,Mv]
          refine OO 16 (fun K hK=>?_);go_simp;refine hK.out _ _ ?_;clear hK K;try simp only[Act.put,Mt,Mu,Mv]
          refine OO 17 (fun K hK=>?_);go_simp;refine hK.out _ _ ?_;clear hK K;try simp only[Act.put,Mt,Mu,Mv]
          refine dn (by kernel_rfl) ?_;go_wp2_with fail
          go_roundg (t.keys.length - (k+1))
          case measure=>rw[GK.o];omega
          case rel=>exact⟨k+1,b,hlt,rfl,by go_num,rfl,TV hlt hlt' HNE.o HBL.o HPS.o HE.o (by have h9:=OEc.o;simp only[List.length_map]at h9;exact h9)⟩
         exact nl
        exact nl
       exact nl
      exact nl
   | false=>
    cases hb:Op.bytesLess t.keys[k] key with
    | true=>
     have HB:=aa hb;go_upto_if 26 with fail
     go_cut [8] from 16 to 58 (fun p wc=>∃ b:Bool,p=.bool b/\VT w ok d t x key (some ⟨kb,ko,none⟩) a2 a3 a4 c1 c2 c3 c4 b k wc/\(b=false->Op.bytesLess (t.keys[k]'hlt) key=true))
     case first=>
      go_wp2_with fail
      go_meet
      case rel=>exact⟨false,rfl,II.o,fun _=>HB.o⟩
     case rest=>
      obtain⟨b,rfl,hI,hbl⟩:=hcut;have II:=aa hI;have HBL:=aa hbl;clear hI hbl;by_cases he:t.keys[k]=key
      ·have e3:(t.keys[k] == key)=true:=by simp[he]
       have HN:=aa (UN hlt hlt' he HBL.o II.o);clear he;go_wp2_with fail
       go_roundg (t.keys.length - (k+1))
       case measure=>rw[GK.o];omega
       case rel=>exact⟨k+1,b,hlt,rfl,by go_num,rfl,HN.o⟩
      ·have e3:(t.keys[k] == key)=false:=by simp[he]
       have HNE:=aa he;obtain⟨xb,xo,rfl,j3,j4,a5,c5,a6,c6,g0,g1,g2,g3,g4,g5⟩:=fz VV.o.1 hlt';unfold maxLen at j4;have G0:=aa g0;have G1:=aa g1;have G2:=aa g2;have G3:=aa g3;have G4:=aa g4;have HY:=aa g5.below;obtain⟨ps,⟨kv,lv,i1,i2,i4⟩,i3⟩:=II.o;have HPS:=aa i3;have hpl:ps.length<=100001:=by
        have h0:=congrArg List.length i3;have h1:=Uh (key:=key) (x:=x) (t.keys.zip t.l) false;simp at h0 h1;omega
       have hnk:(ps.map Prod.fst).length<=1000000:=by rw[List.length_map];omega
       have hnl:(ps.map Prod.snd).length<=1000000:=by rw[List.length_map];omega
       have OEc:=aa i2;have hBc:w.heap.size+3+1<=wc.heap.size:=i4;have SOc:=aa i1;have LK:Ll (∀ g,kv.ownBlock=some g->g < wc.heap.size):=aa (fun g e=>(i2.kown g e).2);clear he g0 g1 g2 g3 g4 g5 i1 i2 i3 i4 hpl;go_upto_region 10 with fail
       refine aD (SO w 3 (FM w t x (some ⟨kb,ko,none⟩) (some ⟨xb,xo,none⟩) a3 a4 c1 c2 c3 c4) kv lv) [15] (by kernel_rfl) (SOc.o.drew HF.o) (fun LI=>?_);refine WT.out ?_;refine OJ 0 ?_ [1,4,13,14,15,16,17] LI ?_ ?_;rotate_left
       ·intro wS LN;go_simp;all_goals with_reducible rfl
       try simp only[av,List.set]
       refine OJ 1 ?_ [4,13,14,15,16,17] LI ?_ ?_;rotate_left
       ·intro wS LN;obtain⟨s1,⟨s2,s3,s5⟩,s4⟩:=LN;have x0_:=s1.c;have y0_:=s2.c;obtain⟨z0,z1,z2,z3,z4,-⟩:=s3.c;have e0:=ah s4 G0.o;have e1:=ah s4 G1.o;have e2:=ah s4 G2.o;have e3:=ah s4 G3.o;have e4:=ah s4 G4.o;go_simp;all_goals with_reducible rfl
       try simp only[av,List.set]
       refine OJ 2 ?_ [3,4,13,14,15,16,17] LI ?_ ?_;rotate_left
       ·intro wS LN;go_simp;all_goals with_reducible rfl
       try simp only[av,List.set]
       refine OJ 5 ?_ [6,13,14,15,16,17] LI ?_ ?_;rotate_left
       ·intro wS LN;go_simp;all_goals with_reducible rfl
       try simp only[av,List.set]
       refine OJ 6 ?_ [13,14,15,16,17] LI ?_ ?_;rotate_left
       ·intro wS LN;obtain⟨s1,⟨s2,s3,s5⟩,s4⟩:=LN;have x0_:=s1.c;have y0_:=s2.c;obtain⟨z0,z1,z2,z3,z4,-⟩:=s3.c;have e0:=ah s4 G0.o;have e1:=ah s4 G1.o;have e2:=ah s4 G2.o;have e3:=ah s4 G3.o;have e4:=ah s4 G4.o;go_simp;all_goals with_reducible rfl
       try simp only[av,List.set]
       refine OJ 7 ?_ [8,10,11,12,13,15,16,17] LI ?_ ?_;rotate_left
       ·intro wS LN;go_simp;all_goals with_reducible rfl
       try simp only[av,List.set]
       refine OJ 8 ?_ [10,11,12,13,15,16,17] LI ?_ ?_;rotate_left
       ·intro wS LN;obtain⟨s1,⟨s2,s3,s5⟩,s4⟩:=LN;have x0_:=s1.c;have y0_:=s2.c;obtain⟨z0,z1,z2,z3,z4,-⟩:=s3.c;have e0:=ah s4 G0.o;have e1:=ah s4 G1.o;have e2:=ah s4 G2.o;have e3:=ah s4 G3.o;have e4:=ah s4 G4.o;go_simp;all_goals with_reducible rfl
       try simp only[av,List.set]
       refine OJ 9 ?_ [10,11,12,13,15,16,17] LI ?_ ?_;rotate_left
       ·intro wS LN;go_simp;all_goals with_reducible rfl
       try simp only[av,List.set]
       refine OJ 10 ?_ [11,12,13,15,16,17] LI ?_ ?_;rotate_left
       ·intro wS LN;go_simp;all_goals with_reducible rfl
       try simp only[av,List.set]
       refine OJ 11 ?_ [12,13,15,16,17] LI ?_ ?_;rotate_left
       ·intro wS LN;obtain⟨s1,⟨s2,s3,s5⟩,s4⟩:=LN;have x0_:=s1.c;have y0_:=s2.c;obtain⟨z0,z1,z2,z3,z4,-⟩:=s3.c;have e0:=ah s4 G0.o;have e1:=ah s4 G1.o;have e2:=ah s4 G2.o;have e3:=ah s4 G3.o;have e4:=ah s4 G4.o;go_simp;all_goals with_reducible rfl
       try simp only[av,List.set]
       refine OL [3,12] ?_;refine TD 3 (fun K hK=>?_) ?_
       ·go_simp;replace SOc:=aa (SOc.o.alloc HF.o (.cells #[.string ⟨t.keys[k].toArray⟩] 9));replace OEc:=aa (OEc.o.bel (ae _ (.cells #[.string ⟨t.keys[k].toArray⟩] 9)));replace hBc:=MH hBc (ae _ (.cells #[.string ⟨t.keys[k].toArray⟩] 9)).size;have NBK:Ll ((wc.alloc (.cells #[.string ⟨t.keys[k].toArray⟩] 9)).heap[wc.heap.size]?=some (.cells #[.string ⟨t.keys[k].toArray⟩] 9)):=aa (MN _ _);refine hK.out _ _ (SOc.o.drew HF.o) (fun LJ=>?_);clear hK K;replace LI:=LJ;clear LJ;try simp only[Act.put,Mt,Mu,Mv]
        refine OL [4,12] ?_;refine TD 4 (fun K hK=>?_) ?_
        ·have OEd:=aa OEc.o.drew;have NBd:Ll (((wc.alloc (.cells #[.string ⟨t.keys[k].toArray⟩] 9)).drew).heap[wc.heap.size]?=some (.cells #[.string ⟨t.keys[k].toArray⟩] 9)):=aa NBK.o;refine m8 (by rfl) (.tmp 43) (.tmp 45) 22 (by rfl) _ _ rfl rfl _ (fun ty=>OEd.o.key NBd.o hnk (by exact hBc) ty) (fun v9 W9 hR=>?_);obtain⟨ho9,hg9,gK,cK,rfl⟩:=hR;replace SOc:=aa (LI.grown HF.o hg9 (fun g e=>(OEd.o.kown g e).1));refine hK.out _ _ SOc.o (fun LJ=>?_);replace OEc:=aa ho9;replace hBc:=MH (by exact hBc) hg9.size;clear ho9 hg9 OEd NBd;clear hK K;replace LI:=LJ;clear LJ;try simp only[Act.put,Mt,Mu,Mv]
         refine OJ 14 ?_ [15,16,17] LI ?_ ?_;rotate_left
         ·intro wS LN;go_simp;all_goals with_reducible rfl
         try simp only[av,List.set]
         refine OL [12] ?_;refine TD 12 (fun K hK=>?_) ?_
         ·go_simp;replace SOc:=aa (SOc.o.alloc HF.o (.cells #[.int .i64 t.l[k].kind,.int .i64 t.l[k].n,.string ⟨t.l[k].s.toArray⟩,.slice a5 t.l[k].keys.length c5,.slice a6 t.l[k].l.length c6] 25));replace OEc:=aa (OEc.o.bel (ae _ (.cells #[.int .i64 t.l[k].kind,.int .i64 t.l[k].n,.string ⟨t.l[k].s.toArray⟩,.slice a5 t.l[k].keys.length c5,.slice a6 t.l[k].l.length c6] 25)));replace hBc:=MH hBc (ae _ (.cells #[.int .i64 t.l[k].kind,.int .i64 t.l[k].n,.string ⟨t.l[k].s.toArray⟩,.slice a5 t.l[k].keys.length c5,.slice a6 t.l[k].l.length c6] 25)).size;have NBV:Ll ((W9.alloc (.cells #[.int .i64 t.l[k].kind,.int .i64 t.l[k].n,.string ⟨t.l[k].s.toArray⟩,.slice a5 t.l[k].keys.length c5,.slice a6 t.l[k].l.length c6] 25)).heap[W9.heap.size]?=some (.cells #[.int .i64 t.l[k].kind,.int .i64 t.l[k].n,.string ⟨t.l[k].s.toArray⟩,.slice a5 t.l[k].keys.length c5,.slice a6 t.l[k].l.length c6] 25)):=aa (MN _ _);refine hK.out _ _ (SOc.o) (fun LJ=>?_);clear hK K;replace LI:=LJ;clear LJ;try simp only[Act.put,Mt,Mu,Mv]
          refine OL [13] ?_;refine TD 13 (fun K hK=>?_) ?_
          ·have OEd:=aa OEc.o;have HY2:=aa (HY.o.bel OEd.o.below);have NBd:=aa NBV.o;refine m8 (by rfl) (.tmp 48) (.tmp 54) 23 (by rfl) _ _ rfl rfl _ (fun ty=>OEd.o.item NBd.o HY2.o hnl (by exact hBc) ty) (fun v9 W9 hR=>?_);obtain⟨ho9,hg9,gV,cV,rfl⟩:=hR;replace SOc:=aa (LI.grown HF.o hg9 (fun g e=>(OEd.o.lown g e).1));refine hK.out _ _ SOc.o (fun LJ=>?_);replace OEc:=aa ho9;replace hBc:=MH (by exact hBc) hg9.size;clear ho9 hg9 OEd NBd;clear hK K;replace LI:=LJ;clear LJ;try simp only[Act.put,Mt,Mu,Mv]
           obtain⟨o0,o1,o2,o3,o4,f0,f1,f2,f3,f4⟩:=LI.1.c;have HE:=aa LI;clear LI;refine OO 15 (fun K hK=>?_);go_simp;refine hK.out _ _ ?_;clear hK K;try simp only[Act.put,Mt,Mu,Mv]
           refine OO 16 (fun K hK=>?_);go_simp;refine hK.out _ _ ?_;clear hK K;try simp only[Act.put,Mt,Mu,Mv]
           refine OO 17 (fun K hK=>?_);go_simp;refine hK.out _ _ ?_;clear hK K;try simp only[Act.put,Mt,Mu,Mv]
           refine dn (by kernel_rfl) ?_;go_wp2_with fail
           go_roundg (t.keys.length - (k+1))
           case measure=>rw[GK.o];omega
           case rel=>exact⟨k+1,b,hlt,rfl,by go_num,rfl,TV hlt hlt' HNE.o HBL.o HPS.o HE.o (by have h9:=OEc.o;simp only[List.length_map]at h9;exact h9)⟩
          exact nl
         exact nl
        refine TD 12 (fun K hK=>?_) ?_
        ·go_simp;replace SOc:=aa (SOc.o.alloc HF.o (.cells #[.int .i64 t.l[k].kind,.int .i64 t.l[k].n,.string ⟨t.l[k].s.toArray⟩,.slice a5 t.l[k].keys.length c5,.slice a6 t.l[k].l.length c6] 25));replace OEc:=aa (OEc.o.bel (ae _ (.cells #[.int .i64 t.l[k].kind,.int .i64 t.l[k].n,.string ⟨t.l[k].s.toArray⟩,.slice a5 t.l[k].keys.length c5,.slice a6 t.l[k].l.length c6] 25)));replace hBc:=MH hBc (ae _ (.cells #[.int .i64 t.l[k].kind,.int .i64 t.l[k].n,.string ⟨t.l[k].s.toArray⟩,.slice a5 t.l[k].keys.length c5,.slice a6 t.l[k].l.length c6] 25)).size;clear NBK;have NBK:Ll (((wc.alloc (.cells #[.string ⟨t.keys[k].toArray⟩] 9)).alloc (.cells #[.int .i64 t.l[k].kind,.int .i64 t.l[k].n,.string ⟨t.l[k].s.toArray⟩,.slice a5 t.l[k].keys.length c5,.slice a6 t.l[k].l.length c6] 25)).heap[wc.heap.size]?=some (.cells #[.string ⟨t.keys[k].toArray⟩] 9)):=aa (fb _ _ _);have NBV:Ll (((wc.alloc (.cells #[.string ⟨t.keys[k].toArray⟩] 9)).alloc (.cells #[.int .i64 t.l[k].kind,.int .i64 t.l[k].n,.string ⟨t.l[k].s.toArray⟩,.slice a5 t.l[k].keys.length c5,.slice a6 t.l[k].l.length c6] 25)).heap[wc.heap.size+1]?=some (.cells #[.int .i64 t.l[k].kind,.int .i64 t.l[k].n,.string ⟨t.l[k].s.toArray⟩,.slice a5 t.l[k].keys.length c5,.slice a6 t.l[k].l.length c6] 25)):=aa (et _ _ _);refine hK.out _ _ (SOc.o.drew HF.o) (fun LJ=>?_);clear hK K;replace LI:=LJ;clear LJ;try simp only[Act.put,Mt,Mu,Mv]
         refine OL [4] ?_;refine TD 4 (fun K hK=>?_) ?_
         ·have OEd:=aa OEc.o.drew;have NBd:Ll ((((wc.alloc (.cells #[.string ⟨t.keys[k].toArray⟩] 9)).alloc (.cells #[.int .i64 t.l[k].kind,.int .i64 t.l[k].n,.string ⟨t.l[k].s.toArray⟩,.slice a5 t.l[k].keys.length c5,.slice a6 t.l[k].l.length c6] 25)).drew).heap[wc.heap.size]?=some (.cells #[.string ⟨t.keys[k].toArray⟩] 9)):=aa NBK.o;refine m8 (by rfl) (.tmp 43) (.tmp 45) 22 (by rfl) _ _ rfl rfl _ (fun ty=>OEd.o.key NBd.o hnk (by exact hBc) ty) (fun v9 W9 hR=>?_);obtain⟨ho9,hg9,gK,cK,rfl⟩:=hR;replace SOc:=aa (LI.grown HF.o hg9 (fun g e=>(OEd.o.kown g e).1));refine hK.out _ _ SOc.o (fun LJ=>?_);replace NBV:=aa (TO ((by exact(NBV.o):(((wc.alloc (.cells #[.string ⟨t.keys[k].toArray⟩] 9)).alloc (.cells #[.int .i64 t.l[k].kind,.int .i64 t.l[k].n,.string ⟨t.l[k].s.toArray⟩,.slice a5 t.l[k].keys.length c5,.slice a6 t.l[k].l.length c6] 25)).drew).heap[wc.heap.size+1]?=some (.cells #[.int .i64 t.l[k].kind,.int .i64 t.l[k].n,.string ⟨t.l[k].s.toArray⟩,.slice a5 t.l[k].keys.length c5,.slice a6 t.l[k].l.length c6] 25))) hg9 (fun e=>by have:=LK.o _ e.symm;omega));replace OEc:=aa ho9;replace hBc:=MH (by exact hBc) hg9.size;clear ho9 hg9 OEd NBd;clear hK K;replace LI:=LJ;clear LJ;try simp only[Act.put,Mt,Mu,Mv]
          refine OJ 14 ?_ [15,16,17] LI ?_ ?_;rotate_left
          ·intro wS LN;go_simp;all_goals with_reducible rfl
          try simp only[av,List.set]
          refine OL [13] ?_;refine TD 13 (fun K hK=>?_) ?_
          ·have OEd:=aa OEc.o;have HY2:=aa (HY.o.bel OEd.o.below);have NBd:=aa NBV.o;refine m8 (by rfl) (.tmp 48) (.tmp 54) 23 (by rfl) _ _ rfl rfl _ (fun ty=>OEd.o.item NBd.o HY2.o hnl (by exact hBc) ty) (fun v9 W9 hR=>?_);obtain⟨ho9,hg9,gV,cV,rfl⟩:=hR;replace SOc:=aa (LI.grown HF.o hg9 (fun g e=>(OEd.o.lown g e).1));refine hK.out _ _ SOc.o (fun LJ=>?_);replace OEc:=aa ho9;replace hBc:=MH (by exact hBc) hg9.size;clear ho9 hg9 OEd NBd;clear hK K;replace LI:=LJ;clear LJ;try simp only[Act.put,Mt,Mu,Mv]
           obtain⟨o0,o1,o2,o3,o4,f0,f1,f2,f3,f4⟩:=LI.1.c;have HE:=aa LI;clear LI;refine OO 15 (fun K hK=>?_);go_simp;refine hK.out _ _ ?_;clear hK K;try simp only[Act.put,Mt,Mu,Mv]
           refine OO 16 (fun K hK=>?_);go_simp;refine hK.out _ _ ?_;clear hK K;try simp only[Act.put,Mt,Mu,Mv]
           refine OO 17 (fun K hK=>?_);go_simp;refine hK.out _ _ ?_;clear hK K;try simp only[Act.put,Mt,Mu,Mv]
           refine dn (by kernel_rfl) ?_;go_wp2_with fail
           go_roundg (t.keys.length - (k+1))
           case measure=>rw[GK.o];omega
           case rel=>exact⟨k+1,b,hlt,rfl,by go_num,rfl,TV hlt hlt' HNE.o HBL.o HPS.o HE.o (by have h9:=OEc.o;simp only[List.length_map]at h9;exact h9)⟩
          exact nl
         exact nl
        exact nl
       refine TD 12 (fun K hK=>?_) ?_
       ·go_simp;replace SOc:=aa (SOc.o.alloc HF.o (.cells #[.int .i64 t.l[k].kind,.int .i64 t.l[k].n,.string ⟨t.l[k].s.toArray⟩,.slice a5 t.l[k].keys.length c5,.slice a6 t.l[k].l.length c6] 25));replace OEc:=aa (OEc.o.bel (ae _ (.cells #[.int .i64 t.l[k].kind,.int .i64 t.l[k].n,.string ⟨t.l[k].s.toArray⟩,.slice a5 t.l[k].keys.length c5,.slice a6 t.l[k].l.length c6] 25)));replace hBc:=MH hBc (ae _ (.cells #[.int .i64 t.l[k].kind,.int .i64 t.l[k].n,.string ⟨t.l[k].s.toArray⟩,.slice a5 t.l[k].keys.length c5,.slice a6 t.l[k].l.length c6] 25)).size;have NBV:Ll ((wc.alloc (.cells #[.int .i64 t.l[k].kind,.int .i64 t.l[k].n,.string ⟨t.l[k].s.toArray⟩,.slice a5 t.l[k].keys.length c5,.slice a6 t.l[k].l.length c6] 25)).heap[wc.heap.size]?=some (.cells #[.int .i64 t.l[k].kind,.int .i64 t.l[k].n,.string ⟨t.l[k].s.toArray⟩,.slice a5 t.l[k].keys.length c5,.slice a6 t.l[k].l.length c6] 25)):=aa (MN _ _);refine hK.out _ _ (SOc.o.drew HF.o) (fun LJ=>?_);clear hK K;replace LI:=LJ;clear LJ;try simp only[Act.put,Mt,Mu,Mv]
        refine OL [3] ?_;refine TD 3 (fun K hK=>?_) ?_
        ·go_simp;replace SOc:=aa (SOc.o.alloc HF.o (.cells #[.string ⟨t.keys[k].toArray⟩] 9));replace OEc:=aa (OEc.o.bel (ae _ (.cells #[.string ⟨t.keys[k].toArray⟩] 9)));replace hBc:=MH hBc (ae _ (.cells #[.string ⟨t.keys[k].toArray⟩] 9)).size;clear NBV;have NBV:Ll (((wc.alloc (.cells #[.int .i64 t.l[k].kind,.int .i64 t.l[k].n,.string ⟨t.l[k].s.toArray⟩,.slice a5 t.l[k].keys.length c5,.slice a6 t.l[k].l.length c6] 25)).alloc (.cells #[.string ⟨t.keys[k].toArray⟩] 9)).heap[wc.heap.size]?=some (.cells #[.int .i64 t.l[k].kind,.int .i64 t.l[k].n,.string ⟨t.l[k].s.toArray⟩,.slice a5 t.l[k].keys.length c5,.slice a6 t.l[k].l.length c6] 25)):=aa (fb _ _ _);have NBK:Ll (((wc.alloc (.cells #[.int .i64 t.l[k].kind,.int .i64 t.l[k].n,.string ⟨t.l[k].s.toArray⟩,.slice a5 t.l[k].keys.length c5,.slice a6 t.l[k].l.length c6] 25)).alloc (.cells #[.string ⟨t.keys[k].toArray⟩] 9)).heap[wc.heap.size+1]?=some (.cells #[.string ⟨t.keys[k].toArray⟩] 9)):=aa (et _ _ _);refine hK.out _ _ (SOc.o.drew HF.o) (fun LJ=>?_);clear hK K;replace LI:=LJ;clear LJ;try simp only[Act.put,Mt,Mu,Mv]
         refine OL [4] ?_;refine TD 4 (fun K hK=>?_) ?_
         ·have OEd:=aa OEc.o.drew;have NBd:Ll ((((wc.alloc (.cells #[.int .i64 t.l[k].kind,.int .i64 t.l[k].n,.string ⟨t.l[k].s.toArray⟩,.slice a5 t.l[k].keys.length c5,.slice a6 t.l[k].l.length c6] 25)).alloc (.cells #[.string ⟨t.keys[k].toArray⟩] 9)).drew).heap[wc.heap.size+1]?=some (.cells #[.string ⟨t.keys[k].toArray⟩] 9)):=aa NBK.o;refine m8 (by rfl) (.tmp 43) (.tmp 45) 22 (by rfl) _ _ rfl rfl _ (fun ty=>OEd.o.key NBd.o hnk (by exact hBc) ty) (fun v9 W9 hR=>?_);obtain⟨ho9,hg9,gK,cK,rfl⟩:=hR;replace SOc:=aa (LI.grown HF.o hg9 (fun g e=>(OEd.o.kown g e).1));refine hK.out _ _ SOc.o (fun LJ=>?_);replace NBV:=aa (TO ((by exact(NBV.o):(((wc.alloc (.cells #[.int .i64 t.l[k].kind,.int .i64 t.l[k].n,.string ⟨t.l[k].s.toArray⟩,.slice a5 t.l[k].keys.length c5,.slice a6 t.l[k].l.length c6] 25)).alloc (.cells #[.string ⟨t.keys[k].toArray⟩] 9)).drew).heap[wc.heap.size]?=some (.cells #[.int .i64 t.l[k].kind,.int .i64 t.l[k].n,.string ⟨t.l[k].s.toArray⟩,.slice a5 t.l[k].keys.length c5,.slice a6 t.l[k].l.length c6] 25))) hg9 (fun e=>by have:=LK.o _ e.symm;omega));replace OEc:=aa ho9;replace hBc:=MH (by exact hBc) hg9.size;clear ho9 hg9 OEd NBd;clear hK K;replace LI:=LJ;clear LJ;try simp only[Act.put,Mt,Mu,Mv]
          refine OJ 14 ?_ [15,16,17] LI ?_ ?_;rotate_left
          ·intro wS LN;go_simp;all_goals with_reducible rfl
          try simp only[av,List.set]
          refine OL [13] ?_;refine TD 13 (fun K hK=>?_) ?_
          ·have OEd:=aa OEc.o;have HY2:=aa (HY.o.bel OEd.o.below);have NBd:=aa NBV.o;refine m8 (by rfl) (.tmp 48) (.tmp 54) 23 (by rfl) _ _ rfl rfl _ (fun ty=>OEd.o.item NBd.o HY2.o hnl (by exact hBc) ty) (fun v9 W9 hR=>?_);obtain⟨ho9,hg9,gV,cV,rfl⟩:=hR;replace SOc:=aa (LI.grown HF.o hg9 (fun g e=>(OEd.o.lown g e).1));refine hK.out _ _ SOc.o (fun LJ=>?_);replace OEc:=aa ho9;replace hBc:=MH (by exact hBc) hg9.size;clear ho9 hg9 OEd NBd;clear hK K;replace LI:=LJ;clear LJ;try simp only[Act.put,Mt,Mu,Mv]
           obtain⟨o0,o1,o2,o3,o4,f0,f1,f2,f3,f4⟩:=LI.1.c;have HE:=aa LI;clear LI;refine OO 15 (fun K hK=>?_);go_simp;refine hK.out _ _ ?_;clear hK K;try simp only[Act.put,Mt,Mu,Mv]
           refine OO 16 (fun K hK=>?_);go_simp;refine hK.out _ _ ?_;clear hK K;try simp only[Act.put,Mt,Mu,Mv]
           refine OO 17 (fun K hK=>?_);go_simp;refine hK.out _ _ ?_;clear hK K;try simp only[Act.put,Mt,Mu,Mv]
           refine dn (by kernel_rfl) ?_;go_wp2_with fail
           go_roundg (t.keys.length - (k+1))
           case measure=>rw[GK.o];omega
           case rel=>exact⟨k+1,b,hlt,rfl,by go_num,rfl,TV hlt hlt' HNE.o HBL.o HPS.o HE.o (by have h9:=OEc.o;simp only[List.length_map]at h9;exact h9)⟩
          exact nl
         exact nl
        exact nl
       exact nl
    | false=>
     go_upto_if 26 with fail
     go_cut [8] from 16 to 58 (fun p wc=>∃ b:Bool,p=.bool b/\VT w ok d t x key (some ⟨kb,ko,none⟩) a2 a3 a4 c1 c2 c3 c4 b k wc/\(b=false->Op.bytesLess (t.keys[k]'hlt) key=true))
     case first=>
      have HB:=aa hb;obtain⟨ps,⟨kv,lv,i1,i2,i4⟩,i3⟩:=II.o;have HPS:=aa i3;have hpl:ps.length<=100001:=by
       have h0:=congrArg List.length i3;have h1:=Uh (key:=key) (x:=x) (t.keys.zip t.l) false;simp at h0 h1;omega
      have hnk:(ps.map Prod.fst).length<=1000000:=by rw[List.length_map];omega
      have hnl:(ps.map Prod.snd).length<=1000000:=by rw[List.length_map];omega
      have OEc:=aa i2;have hBc:w.heap.size+3+1<=wr.heap.size:=i4;have SOc:=aa i1;have LK:Ll (∀ g,kv.ownBlock=some g->g < wr.heap.size):=aa (fun g e=>(i2.kown g e).2);have HY:=HX;clear i1 i2 i3 i4 hpl;go_upto_region 7 with fail
      refine aD (SO w 3 (FM w t x (some ⟨kb,ko,none⟩) a2 a3 a4 c1 c2 c3 c4) kv lv) [11] (by kernel_rfl) (SOc.o.drew HF.o) (fun LI=>?_);refine WT.out ?_;refine OJ 0 ?_ [1,4,9,10,11,12,13] LI ?_ ?_;rotate_left
      ·intro wS LN;go_simp;all_goals with_reducible rfl
      try simp only[av,List.set]
      refine OJ 1 ?_ [4,9,10,11,12,13] LI ?_ ?_;rotate_left
      ·intro wS LN;obtain⟨s1,⟨s2,s3,s5⟩,s4⟩:=LN;have x0_:=s1.c;have y0_:=s2.c;obtain⟨z0,z1,z2,z3,z4,-⟩:=s3.c;go_simp;all_goals with_reducible rfl
      try simp only[av,List.set]
      refine OJ 2 ?_ [3,4,9,10,11,12,13] LI ?_ ?_;rotate_left
      ·intro wS LN;go_simp;all_goals with_reducible rfl
      try simp only[av,List.set]
      refine OJ 5 ?_ [6,9,10,11,12,13] LI ?_ ?_;rotate_left
      ·intro wS LN;go_simp;all_goals with_reducible rfl
      try simp only[av,List.set]
      refine OJ 6 ?_ [9,10,11,12,13] LI ?_ ?_;rotate_left
      ·intro wS LN;obtain⟨s1,⟨s2,s3,s5⟩,s4⟩:=LN;have x0_:=s1.c;have y0_:=s2.c;obtain⟨z0,z1,z2,z3,z4,-⟩:=s3.c;go_simp;all_goals with_reducible rfl
      try simp only[av,List.set]
      refine OJ 7 ?_ [8,9,11,12,13] LI ?_ ?_;rotate_left
      ·intro wS LN;obtain⟨s1,⟨s2,s3,s5⟩,s4⟩:=LN;have x0_:=s1.c;have y0_:=s2.c;obtain⟨z0,z1,z2,z3,z4,-⟩:=s3.c;go_simp;all_goals with_reducible rfl
      try simp only[av,List.set]
      refine OL [3,8] ?_;refine TD 3 (fun K hK=>?_) ?_
      ·go_simp;replace SOc:=aa (SOc.o.alloc HF.o (.cells #[.string ⟨key.toArray⟩] 9));replace OEc:=aa (OEc.o.bel (ae _ (.cells #[.string ⟨key.toArray⟩] 9)));replace hBc:=MH hBc (ae _ (.cells #[.string ⟨key.toArray⟩] 9)).size;have NBK:Ll ((wr.alloc (.cells #[.string ⟨key.toArray⟩] 9)).heap[wr.heap.size]?=some (.cells #[.string ⟨key.toArray⟩] 9)):=aa (MN _ _);refine hK.out _ _ (SOc.o.drew HF.o) (fun LJ=>?_);clear hK K;replace LI:=LJ;clear LJ;try simp only[Act.put,Mt,Mu,Mv]
       refine OL [4,8] ?_;refine TD 4 (fun K hK=>?_) ?_
       ·have OEd:=aa OEc.o.drew;have NBd:Ll (((wr.alloc (.cells #[.string ⟨key.toArray⟩] 9)).drew).heap[wr.heap.size]?=some (.cells #[.string ⟨key.toArray⟩] 9)):=aa NBK.o;refine m8 (by rfl) (.tmp 28) (.tmp 30) 22 (by rfl) _ _ rfl rfl _ (fun ty=>OEd.o.key NBd.o hnk (by exact hBc) ty) (fun v9 W9 hR=>?_);obtain⟨ho9,hg9,gK,cK,rfl⟩:=hR;replace SOc:=aa (LI.grown HF.o hg9 (fun g e=>(OEd.o.kown g e).1));refine hK.out _ _ SOc.o (fun LJ=>?_);replace OEc:=aa ho9;replace hBc:=MH (by exact hBc) hg9.size;clear ho9 hg9 OEd NBd;clear hK K;replace LI:=LJ;clear LJ;try simp only[Act.put,Mt,Mu,Mv]
        refine OJ 10 ?_ [11,12,13] LI ?_ ?_;rotate_left
        ·intro wS LN;go_simp;all_goals with_reducible rfl
        try simp only[av,List.set]
        refine OL [8] ?_;refine TD 8 (fun K hK=>?_) ?_
        ·go_simp;replace SOc:=aa (SOc.o.alloc HF.o (.cells #[.int .i64 x.kind,.int .i64 x.n,.string ⟨x.s.toArray⟩,.slice a3 x.keys.length c3,.slice a4 x.l.length c4] 25));replace OEc:=aa (OEc.o.bel (ae _ (.cells #[.int .i64 x.kind,.int .i64 x.n,.string ⟨x.s.toArray⟩,.slice a3 x.keys.length c3,.slice a4 x.l.length c4] 25)));replace hBc:=MH hBc (ae _ (.cells #[.int .i64 x.kind,.int .i64 x.n,.string ⟨x.s.toArray⟩,.slice a3 x.keys.length c3,.slice a4 x.l.length c4] 25)).size;have NBV:Ll ((W9.alloc (.cells #[.int .i64 x.kind,.int .i64 x.n,.string ⟨x.s.toArray⟩,.slice a3 x.keys.length c3,.slice a4 x.l.length c4] 25)).heap[W9.heap.size]?=some (.cells #[.int .i64 x.kind,.int .i64 x.n,.string ⟨x.s.toArray⟩,.slice a3 x.keys.length c3,.slice a4 x.l.length c4] 25)):=aa (MN _ _);refine hK.out _ _ (SOc.o) (fun LJ=>?_);clear hK K;replace LI:=LJ;clear LJ;try simp only[Act.put,Mt,Mu,Mv]
         refine OL [9] ?_;refine TD 9 (fun K hK=>?_) ?_
         ·have OEd:=aa OEc.o;have HY2:=aa (HY.o.bel OEd.o.below);have NBd:=aa NBV.o;refine m8 (by rfl) (.tmp 33) (.tmp 35) 23 (by rfl) _ _ rfl rfl _ (fun ty=>OEd.o.item NBd.o HY2.o hnl (by exact hBc) ty) (fun v9 W9 hR=>?_);obtain⟨ho9,hg9,gV,cV,rfl⟩:=hR;replace SOc:=aa (LI.grown HF.o hg9 (fun g e=>(OEd.o.lown g e).1));refine hK.out _ _ SOc.o (fun LJ=>?_);replace OEc:=aa ho9;replace hBc:=MH (by exact hBc) hg9.size;clear ho9 hg9 OEd NBd;clear hK K;replace LI:=LJ;clear LJ;try simp only[Act.put,Mt,Mu,Mv]
          obtain⟨o0,o1,o2,o3,o4,f0,f1,f2,f3,f4⟩:=LI.1.c;have HE:=aa LI;clear LI;refine OO 11 (fun K hK=>?_);go_simp;refine hK.out _ _ ?_;clear hK K;try simp only[Act.put,Mt,Mu,Mv]
          refine OO 12 (fun K hK=>?_);go_simp;refine hK.out _ _ ?_;clear hK K;try simp only[Act.put,Mt,Mu,Mv]
          refine OO 13 (fun K hK=>?_);go_simp;refine hK.out _ _ ?_;clear hK K;try simp only[Act.put,Mt,Mu,Mv]
          refine dn (by kernel_rfl) ?_;go_wp2_with fail
          go_meet
          case rel=>exact⟨true,rfl,UL hlt hlt' HB.o HPS.o HE.o (by have h9:=OEc.o;simp only[List.length_map]at h9;exact h9),by simp⟩
         exact nl
        exact nl
       refine TD 8 (fun K hK=>?_) ?_
       ·go_simp;replace SOc:=aa (SOc.o.alloc HF.o (.cells #[.int .i64 x.kind,.int .i64 x.n,.string ⟨x.s.toArray⟩,.slice a3 x.keys.length c3,.slice a4 x.l.length c4] 25));replace OEc:=aa (OEc.o.bel (ae _ (.cells #[.int .i64 x.kind,.int .i64 x.n,.string ⟨x.s.toArray⟩,.slice a3 x.keys.length c3,.slice a4 x.l.length c4] 25)));replace hBc:=MH hBc (ae _ (.cells #[.int .i64 x.kind,.int .i64 x.n,.string ⟨x.s.toArray⟩,.slice a3 x.keys.length c3,.slice a4 x.l.length c4] 25)).size;clear NBK;have NBK:Ll (((wr.alloc (.cells #[.string ⟨key.toArray⟩] 9)).alloc (.cells #[.int .i64 x.kind,.int .i64 x.n,.string ⟨x.s.toArray⟩,.slice a3 x.keys.length c3,.slice a4 x.l.length c4] 25)).heap[wr.heap.size]?=some (.cells #[.string ⟨key.toArray⟩] 9)):=aa (fb _ _ _);have NBV:Ll (((wr.alloc (.cells #[.string ⟨key.toArray⟩] 9)).alloc (.cells #[.int .i64 x.kind,.int .i64 x.n,.string ⟨x.s.toArray⟩,.slice a3 x.keys.length c3,.slice a4 x.l.length c4] 25)).heap[wr.heap.size+1]?=some (.cells #[.int .i64 x.kind,.int .i64 x.n,.string ⟨x.s.toArray⟩,.slice a3 x.keys.length c3,.slice a4 x.l.length c4] 25)):=aa (et _ _ _);refine hK.out _ _ (SOc.o.drew HF.o) (fun LJ=>?_);clear hK K;replace LI:=LJ;clear LJ;try simp only[Act.put,Mt,Mu,Mv]
        refine OL [4] ?_;refine TD 4 (fun K hK=>?_) ?_
        ·have OEd:=aa OEc.o.drew;have NBd:Ll ((((wr.alloc (.cells #[.string ⟨key.toArray⟩] 9)).alloc (.cells #[.int .i64 x.kind,.int .i64 x.n,.string ⟨x.s.toArray⟩,.slice a3 x.keys.length c3,.slice a4 x.l.length c4] 25)).drew).heap[wr.heap.size]?=some (.cells #[.string ⟨key.toArray⟩] 9)):=aa NBK.o;refine m8 (by rfl) (.tmp 28) (.tmp 30) 22 (by rfl) _ _ rfl rfl _ (fun ty=>OEd.o.key NBd.o hnk (by exact hBc) ty) (fun v9 W9 hR=>?_);obtain⟨ho9,hg9,gK,cK,rfl⟩:=hR;replace SOc:=aa (LI.grown HF.o hg9 (fun g e=>(OEd.o.kown g e).1));refine hK.out _ _ SOc.o (fun LJ=>?_);replace NBV:=aa (TO ((by exact(NBV.o):(((wr.alloc (.cells #[.string ⟨key.toArray⟩] 9)).alloc (.cells #[.int .i64 x.kind,.int .i64 x.n,.string ⟨x.s.toArray⟩,.slice a3 x.keys.length c3,.slice a4 x.l.length c4] 25)).drew).heap[wr.heap.size+1]?=some (.cells #[.int .i64 x.kind,.int .i64 x.n,.string ⟨x.s.toArray⟩,.slice a3 x.keys.length c3,.slice a4 x.l.length c4] 25))) hg9 (fun e=>by have:=LK.o _ e.symm;omega));replace OEc:=aa ho9;replace hBc:=MH (by exact hBc) hg9.size;clear ho9 hg9 OEd NBd;clear hK K;replace LI:=LJ;clear LJ;try simp only[Act.put,Mt,Mu,Mv]
         refine OJ 10 ?_ [11,12,13] LI ?_ ?_;rotate_left
         ·intro wS LN;go_simp;all_goals with_reducible rfl
         try simp only[av,List.set]
         refine OL [9] ?_;refine TD 9 (fun K hK=>?_) ?_
         ·have OEd:=aa OEc.o;have HY2:=aa (HY.o.bel OEd.o.below);have NBd:=aa NBV.o;refine m8 (by rfl) (.tmp 33) (.tmp 35) 23 (by rfl) _ _ rfl rfl _ (fun ty=>OEd.o.item NBd.o HY2.o hnl (by exact hBc) ty) (fun v9 W9 hR=>?_);obtain⟨ho9,hg9,gV,cV,rfl⟩:=hR;replace SOc:=aa (LI.grown HF.o hg9 (fun g e=>(OEd.o.lown g e).1));refine hK.out _ _ SOc.o (fun LJ=>?_);replace OEc:=aa ho9;replace hBc:=MH (by exact hBc) hg9.size;clear ho9 hg9 OEd NBd;clear hK K;replace LI:=LJ;clear LJ;try simp only[Act.put,Mt,Mu,Mv]
          obtain⟨o0,o1,o2,o3,o4,f0,f1,f2,f3,f4⟩:=LI.1.c;have HE:=aa LI;clear LI;refine OO 11 (fun K hK=>?_);go_simp;refine hK.out _ _ ?_;clear hK K;try simp only[Act.put,Mt,Mu,Mv]
          refine OO 12 (fun K hK=>?_);go_simp;refine hK.out _ _ ?_;clear hK K;try simp only[Act.put,Mt,Mu,Mv]
          refine OO 13 (fun K hK=>?_);go_simp;refine hK.out _ _ ?_;clear hK K;try simp only[Act.put,Mt,Mu,Mv]
          refine dn (by kernel_rfl) ?_;go_wp2_with fail
          go_meet
          case rel=>exact⟨true,rfl,UL hlt hlt' HB.o HPS.o HE.o (by have h9:=OEc.o;simp only[List.length_map]at h9;exact h9),by simp⟩
         exact nl
        exact nl
       exact nl
      refine TD 8 (fun K hK=>?_) ?_
      ·go_simp;replace SOc:=aa (SOc.o.alloc HF.o (.cells #[.int .i64 x.kind,.int .i64 x.n,.string ⟨x.s.toArray⟩,.slice a3 x.keys.length c3,.slice a4 x.l.length c4] 25));replace OEc:=aa (OEc.o.bel (ae _ (.cells #[.int .i64 x.kind,.int .i64 x.n,.string ⟨x.s.toArray⟩,.slice a3 x.keys.length c3,.slice a4 x.l.length c4] 25)));replace hBc:=MH hBc (ae _ (.cells #[.int .i64 x.kind,.int .i64 x.n,.string ⟨x.s.toArray⟩,.slice a3 x.keys.length c3,.slice a4 x.l.length c4] 25)).size;have NBV:Ll ((wr.alloc (.cells #[.int .i64 x.kind,.int .i64 x.n,.string ⟨x.s.toArray⟩,.slice a3 x.keys.length c3,.slice a4 x.l.length c4] 25)).heap[wr.heap.size]?=some (.cells #[.int .i64 x.kind,.int .i64 x.n,.string ⟨x.s.toArray⟩,.slice a3 x.keys.length c3,.slice a4 x.l.length c4] 25)):=aa (MN _ _);refine hK.out _ _ (SOc.o.drew HF.o) (fun LJ=>?_);clear hK K;replace LI:=LJ;clear LJ;try simp only[Act.put,Mt,Mu,Mv]
       refine OL [3] ?_;refine TD 3 (fun K hK=>?_) ?_
       ·go_simp;replace SOc:=aa (SOc.o.alloc HF.o (.cells #[.string ⟨key.toArray⟩] 9));replace OEc:=aa (OEc.o.bel (ae _ (.cells #[.string ⟨key.toArray⟩] 9)));replace hBc:=MH hBc (ae _ (.cells #[.string ⟨key.toArray⟩] 9)).size;clear NBV;have NBV:Ll (((wr.alloc (.cells #[.int .i64 x.kind,.int .i64 x.n,.string ⟨x.s.toArray⟩,.slice a3 x.keys.length c3,.slice a4 x.l.length c4] 25)).alloc (.cells #[.string ⟨key.toArray⟩] 9)).heap[wr.heap.size]?=some (.cells #[.int .i64 x.kind,.int .i64 x.n,.string ⟨x.s.toArray⟩,.slice a3 x.keys.length c3,.slice a4 x.l.length c4] 25)):=aa (fb _ _ _);have NBK:Ll (((wr.alloc (.cells #[.int .i64 x.kind,.int .i64 x.n,.string ⟨x.s.toArray⟩,.slice a3 x.keys.length c3,.slice a4 x.l.length c4] 25)).alloc (.cells #[.string ⟨key.toArray⟩] 9)).heap[wr.heap.size+1]?=some (.cells #[.string ⟨key.toArray⟩] 9)):=aa (et _ _ _);refine hK.out _ _ (SOc.o.drew HF.o) (fun LJ=>?_);clear hK K;replace LI:=LJ;clear LJ;try simp only[Act.put,Mt,Mu,Mv]
        refine OL [4] ?_;refine TD 4 (fun K hK=>?_) ?_
        ·have OEd:=aa OEc.o.drew;have NBd:Ll ((((wr.alloc (.cells #[.int .i64 x.kind,.int .i64 x.n,.string ⟨x.s.toArray⟩,.slice a3 x.keys.length c3,.slice a4 x.l.length c4] 25)).alloc (.cells #[.string ⟨key.toArray⟩] 9)).drew).heap[wr.heap.size+1]?=some (.cells #[.string ⟨key.toArray⟩] 9)):=aa NBK.o;refine m8 (by rfl) (.tmp 28) (.tmp 30) 22 (by rfl) _ _ rfl rfl _ (fun ty=>OEd.o.key NBd.o hnk (by exact hBc) ty) (fun v9 W9 hR=>?_);obtain⟨ho9,hg9,gK,cK,rfl⟩:=hR;replace SOc:=aa (LI.grown HF.o hg9 (fun g e=>(OEd.o.kown g e).1));refine hK.out _ _ SOc.o (fun LJ=>?_);replace NBV:=aa (TO ((by exact(NBV.o):(((wr.alloc (.cells #[.int .i64 x.kind,.int .i64 x.n,.string ⟨x.s.toArray⟩,.slice a3 x.keys.length c3,.slice a4 x.l.length c4] 25)).alloc (.cells #[.string ⟨key.toArray⟩] 9)).drew).heap[wr.heap.size]?=some (.cells #[.int .i64 x.kind,.int .i64 x.n,.string ⟨x.s.toArray⟩,.slice a3 x.keys.length c3,.slice a4 x.l.length c4] 25))) hg9 (fun e=>by have:=LK.o _ e.symm;omega));replace OEc:=aa ho9;replace hBc:=MH (by exact hBc) hg9.size;clear ho9 hg9 OEd NBd;clear hK K;replace LI:=LJ;clear LJ;try simp only[Act.put,Mt,Mu,Mv]
         refine OJ 10 ?_ [11,12,13] LI ?_ ?_;rotate_left
         ·intro wS LN;go_simp;all_goals with_reducible rfl
         try simp only[av,List.set]
         refine OL [9] ?_;refine TD 9 (fun K hK=>?_) ?_
         ·have OEd:=aa OEc.o;have HY2:=aa (HY.o.bel OEd.o.below);have NBd:=aa NBV.o;refine m8 (by rfl) (.tmp 33) (.tmp 35) 23 (by rfl) _ _ rfl rfl _ (fun ty=>OEd.o.item NBd.o HY2.o hnl (by exact hBc) ty) (fun v9 W9 hR=>?_);obtain⟨ho9,hg9,gV,cV,rfl⟩:=hR;replace SOc:=aa (LI.grown HF.o hg9 (fun g e=>(OEd.o.lown g e).1));refine hK.out _ _ SOc.o (fun LJ=>?_);replace OEc:=aa ho9;replace hBc:=MH (by exact hBc) hg9.size;clear ho9 hg9 OEd NBd;clear hK K;replace LI:=LJ;clear LJ;try simp only[Act.put,Mt,Mu,Mv]
          obtain⟨o0,o1,o2,o3,o4,f0,f1,f2,f3,f4⟩:=LI.1.c;have HE:=aa LI;clear LI;refine OO 11 (fun K hK=>?_);go_simp;refine hK.out _ _ ?_;clear hK K;try simp only[Act.put,Mt,Mu,Mv]
          refine OO 12 (fun K hK=>?_);go_simp;refine hK.out _ _ ?_;clear hK K;try simp only[Act.put,Mt,Mu,Mv]
          refine OO 13 (fun K hK=>?_);go_simp;refine hK.out _ _ ?_;clear hK K;try simp only[Act.put,Mt,Mu,Mv]
          refine dn (by kernel_rfl) ?_;go_wp2_with fail
          go_meet
          case rel=>exact⟨true,rfl,UL hlt hlt' HB.o HPS.o HE.o (by have h9:=OEc.o;simp only[List.length_map]at h9;exact h9),by simp⟩
         exact nl
        exact nl
       exact nl
      exact nl
     case rest=>
      obtain⟨b,rfl,hI,hbl⟩:=hcut;have II:=aa hI;have HBL:=aa hbl;clear hI hbl;by_cases he:t.keys[k]=key
      ·have e3:(t.keys[k] == key)=true:=by simp[he]
       have HN:=aa (UN hlt hlt' he HBL.o II.o);clear he;go_wp2_with fail
       go_roundg (t.keys.length - (k+1))
       case measure=>rw[GK.o];omega
       case rel=>exact⟨k+1,b,hlt,rfl,by go_num,rfl,HN.o⟩
      ·have e3:(t.keys[k] == key)=false:=by simp[he]
       have HNE:=aa he;obtain⟨xb,xo,rfl,j3,j4,a5,c5,a6,c6,g0,g1,g2,g3,g4,g5⟩:=fz VV.o.1 hlt';unfold maxLen at j4;have G0:=aa g0;have G1:=aa g1;have G2:=aa g2;have G3:=aa g3;have G4:=aa g4;have HY:=aa g5.below;obtain⟨ps,⟨kv,lv,i1,i2,i4⟩,i3⟩:=II.o;have HPS:=aa i3;have hpl:ps.length<=100001:=by
        have h0:=congrArg List.length i3;have h1:=Uh (key:=key) (x:=x) (t.keys.zip t.l) false;simp at h0 h1;omega
       have hnk:(ps.map Prod.fst).length<=1000000:=by rw[List.length_map];omega
       have hnl:(ps.map Prod.snd).length<=1000000:=by rw[List.length_map];omega
       have OEc:=aa i2;have hBc:w.heap.size+3+1<=wc.heap.size:=i4;have SOc:=aa i1;have LK:Ll (∀ g,kv.ownBlock=some g->g < wc.heap.size):=aa (fun g e=>(i2.kown g e).2);clear he g0 g1 g2 g3 g4 g5 i1 i2 i3 i4 hpl;go_upto_region 10 with fail
       refine aD (SO w 3 (FM w t x (some ⟨kb,ko,none⟩) (some ⟨xb,xo,none⟩) a3 a4 c1 c2 c3 c4) kv lv) [15] (by kernel_rfl) (SOc.o.drew HF.o) (fun LI=>?_);refine WT.out ?_;refine OJ 0 ?_ [1,4,13,14,15,16,17] LI ?_ ?_;rotate_left
       ·intro wS LN;go_simp;all_goals with_reducible rfl
       try simp only[av,List.set]
       refine OJ 1 ?_ [4,13,14,15,16,17] LI ?_ ?_;rotate_left
       ·intro wS LN;obtain⟨s1,⟨s2,s3,s5⟩,s4⟩:=LN;have x0_:=s1.c;have y0_:=s2.c;obtain⟨z0,z1,z2,z3,z4,-⟩:=s3.c;have e0:=ah s4 G0.o;have e1:=ah s4 G1.o;have e2:=ah s4 G2.o;have e3:=ah s4 G3.o;have e4:=ah s4 G4.o;go_simp;all_goals with_reducible rfl
       try simp only[av,List.set]
       refine OJ 2 ?_ [3,4,13,14,15,16,17] LI ?_ ?_;rotate_left
       ·intro wS LN;go_simp;all_goals with_reducible rfl
       try simp only[av,List.set]
       refine OJ 5 ?_ [6,13,14,15,16,17] LI ?_ ?_;rotate_left
       ·intro wS LN;go_simp;all_goals with_reducible rfl
       try simp only[av,List.set]
       refine OJ 6 ?_ [13,14,15,16,17] LI ?_ ?_;rotate_left
       ·intro wS LN;obtain⟨s1,⟨s2,s3,s5⟩,s4⟩:=LN;have x0_:=s1.c;have y0_:=s2.c;obtain⟨z0,z1,z2,z3,z4,-⟩:=s3.c;have e0:=ah s4 G0.o;have e1:=ah s4 G1.o;have e2:=ah s4 G2.o;have e3:=ah s4 G3.o;have e4:=ah s4 G4.o;go_simp;all_goals with_reducible rfl
       try simp only[av,List.set]
       refine OJ 7 ?_ [8,10,11,12,13,15,16,17] LI ?_ ?_;rotate_left
       ·intro wS LN;go_simp;all_goals with_reducible rfl
       try simp only[av,List.set]
       refine OJ 8 ?_ [10,11,12,13,15,16,17] LI ?_ ?_;rotate_left
       ·intro wS LN;obtain⟨s1,⟨s2,s3,s5⟩,s4⟩:=LN;have x0_:=s1.c;have y0_:=s2.c;obtain⟨z0,z1,z2,z3,z4,-⟩:=s3.c;have e0:=ah s4 G0.o;have e1:=ah s4 G1.o;have e2:=ah s4 G2.o;have e3:=ah s4 G3.o;have e4:=ah s4 G4.o;go_simp;all_goals with_reducible rfl
       try simp only[av,List.set]
       refine OJ 9 ?_ [10,11,12,13,15,16,17] LI ?_ ?_;rotate_left
       ·intro wS LN;go_simp;all_goals with_reducible rfl
       try simp only[av,List.set]
       refine OJ 10 ?_ [11,12,13,15,16,17] LI ?_ ?_;rotate_left
       ·intro wS LN;go_simp;all_goals with_reducible rfl
       try simp only[av,List.set]
       refine OJ 11 ?_ [12,13,15,16,17] LI ?_ ?_;rotate_left
       ·intro wS LN;obtain⟨s1,⟨s2,s3,s5⟩,s4⟩:=LN;have x0_:=s1.c;have y0_:=s2.c;obtain⟨z0,z1,z2,z3,z4,-⟩:=s3.c;have e0:=ah s4 G0.o;have e1:=ah s4 G1.o;have e2:=ah s4 G2.o;have e3:=ah s4 G3.o;have e4:=ah s4 G4.o;go_simp;all_goals with_reducible rfl
       try simp only[av,List.set]
       refine OL [3,12] ?_;refine TD 3 (fun K hK=>?_) ?_
       ·go_simp;replace SOc:=aa (SOc.o.alloc HF.o (.cells #[.string ⟨t.keys[k].toArray⟩] 9));replace OEc:=aa (OEc.o.bel (ae _ (.cells #[.string ⟨t.keys[k].toArray⟩] 9)));replace hBc:=MH hBc (ae _ (.cells #[.string ⟨t.keys[k].toArray⟩] 9)).size;have NBK:Ll ((wc.alloc (.cells #[.string ⟨t.keys[k].toArray⟩] 9)).heap[wc.heap.size]?=some (.cells #[.string ⟨t.keys[k].toArray⟩] 9)):=aa (MN _ _);refine hK.out _ _ (SOc.o.drew HF.o) (fun LJ=>?_);clear hK K;replace LI:=LJ;clear LJ;try simp only[Act.put,Mt,Mu,Mv]
        refine OL [4,12] ?_;refine TD 4 (fun K hK=>?_) ?_
        ·have OEd:=aa OEc.o.drew;have NBd:Ll (((wc.alloc (.cells #[.string ⟨t.keys[k].toArray⟩] 9)).drew).heap[wc.heap.size]?=some (.cells #[.string ⟨t.keys[k].toArray⟩] 9)):=aa NBK.o;refine m8 (by rfl) (.tmp 43) (.tmp 45) 22 (by rfl) _ _ rfl rfl _ (fun ty=>OEd.o.key NBd.o hnk (by exact hBc) ty) (fun v9 W9 hR=>?_);obtain⟨ho9,hg9,gK,cK,rfl⟩:=hR;replace SOc:=aa (LI.grown HF.o hg9 (fun g e=>(OEd.o.kown g e).1));refine hK.out _ _ SOc.o (fun LJ=>?_);replace OEc:=aa ho9;replace hBc:=MH (by exact hBc) hg9.size;clear ho9 hg9 OEd NBd;clear hK K;replace LI:=LJ;clear LJ;try simp only[Act.put,Mt,Mu,Mv]
         refine OJ 14 ?_ [15,16,17] LI ?_ ?_;rotate_left
         ·intro wS LN;go_simp;all_goals with_reducible rfl
         try simp only[av,List.set]
         refine OL [12] ?_;refine TD 12 (fun K hK=>?_) ?_
         ·go_simp;replace SOc:=aa (SOc.o.alloc HF.o (.cells #[.int .i64 t.l[k].kind,.int .i64 t.l[k].n,.string ⟨t.l[k].s.toArray⟩,.slice a5 t.l[k].keys.length c5,.slice a6 t.l[k].l.length c6] 25));replace OEc:=aa (OEc.o.bel (ae _ (.cells #[.int .i64 t.l[k].kind,.int .i64 t.l[k].n,.string ⟨t.l[k].s.toArray⟩,.slice a5 t.l[k].keys.length c5,.slice a6 t.l[k].l.length c6] 25)));replace hBc:=MH hBc (ae _ (.cells #[.int .i64 t.l[k].kind,.int .i64 t.l[k].n,.string ⟨t.l[k].s.toArray⟩,.slice a5 t.l[k].keys.length c5,.slice a6 t.l[k].l.length c6] 25)).size;have NBV:Ll ((W9.alloc (.cells #[.int .i64 t.l[k].kind,.int .i64 t.l[k].n,.string ⟨t.l[k].s.toArray⟩,.slice a5 t.l[k].keys.length c5,.slice a6 t.l[k].l.length c6] 25)).heap[W9.heap.size]?=some (.cells #[.int .i64 t.l[k].kind,.int .i64 t.l[k].n,.string ⟨t.l[k].s.toArray⟩,.slice a5 t.l[k].keys.length c5,.slice a6 t.l[k].l.length c6] 25)):=aa (MN _ _);refine hK.out _ _ (SOc.o) (fun LJ=>?_);clear hK K;replace LI:=LJ;clear LJ;try simp only[Act.put,Mt,Mu,Mv]
          refine OL [13] ?_;refine TD 13 (fun K hK=>?_) ?_
          ·have OEd:=aa OEc.o;have HY2:=aa (HY.o.bel OEd.o.below);have NBd:=aa NBV.o;refine m8 (by rfl) (.tmp 48) (.tmp 54) 23 (by rfl) _ _ rfl rfl _ (fun ty=>OEd.o.item NBd.o HY2.o hnl (by exact hBc) ty) (fun v9 W9 hR=>?_);obtain⟨ho9,hg9,gV,cV,rfl⟩:=hR;replace SOc:=aa (LI.grown HF.o hg9 (fun g e=>(OEd.o.lown g e).1));refine hK.out _ _ SOc.o (fun LJ=>?_);replace OEc:=aa ho9;replace hBc:=MH (by exact hBc) hg9.size;clear ho9 hg9 OEd NBd;clear hK K;replace LI:=LJ;clear LJ;try simp only[Act.put,Mt,Mu,Mv]
           obtain⟨o0,o1,o2,o3,o4,f0,f1,f2,f3,f4⟩:=LI.1.c;have HE:=aa LI;clear LI;refine OO 15 (fun K hK=>?_);go_simp;refine hK.out _ _ ?_;clear hK K;try simp only[Act.put,Mt,Mu,Mv]
           refine OO 16 (fun K hK=>?_);go_simp;refine hK.out _ _ ?_;clear hK K;try simp only[Act.put,Mt,Mu,Mv]
           refine OO 17 (fun K hK=>?_);go_simp;refine hK.out _ _ ?_;clear hK K;try simp only[Act.put,Mt,Mu,Mv]
           refine dn (by kernel_rfl) ?_;go_wp2_with fail
           go_roundg (t.keys.length - (k+1))
           case measure=>rw[GK.o];omega
           case rel=>exact⟨k+1,b,hlt,rfl,by go_num,rfl,TV hlt hlt' HNE.o HBL.o HPS.o HE.o (by have h9:=OEc.o;simp only[List.length_map]at h9;exact h9)⟩
          exact nl
         exact nl
        refine TD 12 (fun K hK=>?_) ?_
        ·go_simp;replace SOc:=aa (SOc.o.alloc HF.o (.cells #[.int .i64 t.l[k].kind,.int .i64 t.l[k].n,.string ⟨t.l[k].s.toArray⟩,.slice a5 t.l[k].keys.length c5,.slice a6 t.l[k].l.length c6] 25));replace OEc:=aa (OEc.o.bel (ae _ (.cells #[.int .i64 t.l[k].kind,.int .i64 t.l[k].n,.string ⟨t.l[k].s.toArray⟩,.slice a5 t.l[k].keys.length c5,.slice a6 t.l[k].l.length c6] 25)));replace hBc:=MH hBc (ae _ (.cells #[.int .i64 t.l[k].kind,.int .i64 t.l[k].n,.string ⟨t.l[k].s.toArray⟩,.slice a5 t.l[k].keys.length c5,.slice a6 t.l[k].l.length c6] 25)).size;clear NBK;have NBK:Ll (((wc.alloc (.cells #[.string ⟨t.keys[k].toArray⟩] 9)).alloc (.cells #[.int .i64 t.l[k].kind,.int .i64 t.l[k].n,.string ⟨t.l[k].s.toArray⟩,.slice a5 t.l[k].keys.length c5,.slice a6 t.l[k].l.length c6] 25)).heap[wc.heap.size]?=some (.cells #[.string ⟨t.keys[k].toArray⟩] 9)):=aa (fb _ _ _);have NBV:Ll (((wc.alloc (.cells #[.string ⟨t.keys[k].toArray⟩] 9)).alloc (.cells #[.int .i64 t.l[k].kind,.int .i64 t.l[k].n,.string ⟨t.l[k].s.toArray⟩,.slice a5 t.l[k].keys.length c5,.slice a6 t.l[k].l.length c6] 25)).heap[wc.heap.size+1]?=some (.cells #[.int .i64 t.l[k].kind,.int .i64 t.l[k].n,.string ⟨t.l[k].s.toArray⟩,.slice a5 t.l[k].keys.length c5,.slice a6 t.l[k].l.length c6] 25)):=aa (et _ _ _);refine hK.out _ _ (SOc.o.drew HF.o) (fun LJ=>?_);clear hK K;replace LI:=LJ;clear LJ;try simp only[Act.put,Mt,Mu,Mv]
         refine OL [4] ?_;refine TD 4 (fun K hK=>?_) ?_
         ·have OEd:=aa OEc.o.drew;have NBd:Ll ((((wc.alloc (.cells #[.string ⟨t.keys[k].toArray⟩] 9)).alloc (.cells #[.int .i64 t.l[k].kind,.int .i64 t.l[k].n,.string ⟨t.l[k].s.toArray⟩,.slice a5 t.l[k].keys.length c5,.slice a6 t.l[k].l.length c6] 25)).drew).heap[wc.heap.size]?=some (.cells #[.string ⟨t.keys[k].toArray⟩] 9)):=aa NBK.o;refine m8 (by rfl) (.tmp 43) (.tmp 45) 22 (by rfl) _ _ rfl rfl _ (fun ty=>OEd.o.key NBd.o hnk (by exact hBc) ty) (fun v9 W9 hR=>?_);obtain⟨ho9,hg9,gK,cK,rfl⟩:=hR;replace SOc:=aa (LI.grown HF.o hg9 (fun g e=>(OEd.o.kown g e).1));refine hK.out _ _ SOc.o (fun LJ=>?_);replace NBV:=aa (TO ((by exact(NBV.o):(((wc.alloc (.cells #[.string ⟨t.keys[k].toArray⟩] 9)).alloc (.cells #[.int .i64 t.l[k].kind,.int .i64 t.l[k].n,.string ⟨t.l[k].s.toArray⟩,.slice a5 t.l[k].keys.length c5,.slice a6 t.l[k].l.length c6] 25)).drew).heap[wc.heap.size+1]?=some (.cells #[.int .i64 t.l[k].kind,.int .i64 t.l[k].n,.string ⟨t.l[k].s.toArray⟩,.slice a5 t.l[k].keys.length c5,.slice a6 t.l[k].l.length c6] 25))) hg9 (fun e=>by have:=LK.o _ e.symm;omega));replace OEc:=aa ho9;replace hBc:=MH (by exact hBc) hg9.size;clear ho9 hg9 OEd NBd;clear hK K;replace LI:=LJ;clear LJ;try simp only[Act.put,Mt,Mu,Mv]
          refine OJ 14 ?_ [15,16,17] LI ?_ ?_;rotate_left
          ·intro wS LN;go_simp;all_goals with_reducible rfl
          try simp only[av,List.set]
          refine OL [13] ?_;refine TD 13 (fun K hK=>?_) ?_
          ·have OEd:=aa OEc.o;have HY2:=aa (HY.o.bel OEd.o.below);have NBd:=aa NBV.o;refine m8 (by rfl) (.tmp 48) (.tmp 54) 23 (by rfl) _ _ rfl rfl _ (fun ty=>OEd.o.item NBd.o HY2.o hnl (by exact hBc) ty) (fun v9 W9 hR=>?_);obtain⟨ho9,hg9,gV,cV,rfl⟩:=hR;replace SOc:=aa (LI.grown HF.o hg9 (fun g e=>(OEd.o.lown g e).1));refine hK.out _ _ SOc.o (fun LJ=>?_);replace OEc:=aa ho9;replace hBc:=MH (by exact hBc) hg9.size;clear ho9 hg9 OEd NBd;clear hK K;replace LI:=LJ;clear LJ;try simp only[Act.put,Mt,Mu,Mv]
           obtain⟨o0,o1,o2,o3,o4,f0,f1,f2,f3,f4⟩:=LI.1.c;have HE:=aa LI;clear LI;refine OO 15 (fun K hK=>?_);go_simp;refine hK.out _ _ ?_;clear hK K;try simp only[Act.put,Mt,Mu,Mv]
           refine OO 16 (fun K hK=>?_);go_simp;refine hK.out _ _ ?_;clear hK K;try simp only[Act.put,Mt,Mu,Mv]
           refine OO 17 (fun K hK=>?_);go_simp;refine hK.out _ _ ?_;clear hK K;try simp only[Act.put,Mt,Mu,Mv]
           refine dn (by kernel_rfl) ?_;go_wp2_with fail
           go_roundg (t.keys.length - (k+1))
           case measure=>rw[GK.o];omega
           case rel=>exact⟨k+1,b,hlt,rfl,by go_num,rfl,TV hlt hlt' HNE.o HBL.o HPS.o HE.o (by have h9:=OEc.o;simp only[List.length_map]at h9;exact h9)⟩
          exact nl
         exact nl
        exact nl
       refine TD 12 (fun K hK=>?_) ?_
       ·go_simp;replace SOc:=aa (SOc.o.alloc HF.o (.cells #[.int .i64 t.l[k].kind,.int .i64 t.l[k].n,.string ⟨t.l[k].s.toArray⟩,.slice a5 t.l[k].keys.length c5,.slice a6 t.l[k].l.length c6] 25));replace OEc:=aa (OEc.o.bel (ae _ (.cells #[.int .i64 t.l[k].kind,.int .i64 t.l[k].n,.string ⟨t.l[k].s.toArray⟩,.slice a5 t.l[k].keys.length c5,.slice a6 t.l[k].l.length c6] 25)));replace hBc:=MH hBc (ae _ (.cells #[.int .i64 t.l[k].kind,.int .i64 t.l[k].n,.string ⟨t.l[k].s.toArray⟩,.slice a5 t.l[k].keys.length c5,.slice a6 t.l[k].l.length c6] 25)).size;have NBV:Ll ((wc.alloc (.cells #[.int .i64 t.l[k].kind,.int .i64 t.l[k].n,.string ⟨t.l[k].s.toArray⟩,.slice a5 t.l[k].keys.length c5,.slice a6 t.l[k].l.length c6] 25)).heap[wc.heap.size]?=some (.cells #[.int .i64 t.l[k].kind,.int .i64 t.l[k].n,.string ⟨t.l[k].s.toArray⟩,.slice a5 t.l[k].keys.length c5,.slice a6 t.l[k].l.length c6] 25)):=aa (MN _ _);refine hK.out _ _ (SOc.o.drew HF.o) (fun LJ=>?_);clear hK K;replace LI:=LJ;clear LJ;try simp only[Act.put,Mt,Mu,Mv]
        refine OL [3] ?_;refine TD 3 (fun K hK=>?_) ?_
        ·go_simp;replace SOc:=aa (SOc.o.alloc HF.o (.cells #[.string ⟨t.keys[k].toArray⟩] 9));replace OEc:=aa (OEc.o.bel (ae _ (.cells #[.string ⟨t.keys[k].toArray⟩] 9)));replace hBc:=MH hBc (ae _ (.cells #[.string ⟨t.keys[k].toArray⟩] 9)).size;clear NBV;have NBV:Ll (((wc.alloc (.cells #[.int .i64 t.l[k].kind,.int .i64 t.l[k].n,.string ⟨t.l[k].s.toArray⟩,.slice a5 t.l[k].keys.length c5,.slice a6 t.l[k].l.length c6] 25)).alloc (.cells #[.string ⟨t.keys[k].toArray⟩] 9)).heap[wc.heap.size]?=some (.cells #[.int .i64 t.l[k].kind,.int .i64 t.l[k].n,.string ⟨t.l[k].s.toArray⟩,.slice a5 t.l[k].keys.length c5,.slice a6 t.l[k].l.length c6] 25)):=aa (fb _ _ _);have NBK:Ll (((wc.alloc (.cells #[.int .i64 t.l[k].kind,.int .i64 t.l[k].n,.string ⟨t.l[k].s.toArray⟩,.slice a5 t.l[k].keys.length c5,.slice a6 t.l[k].l.length c6] 25)).alloc (.cells #[.string ⟨t.keys[k].toArray⟩] 9)).heap[wc.heap.size+1]?=some (.cells #[.string ⟨t.keys[k].toArray⟩] 9)):=aa (et _ _ _);refine hK.out _ _ (SOc.o.drew HF.o) (fun LJ=>?_);clear hK K;replace LI:=LJ;clear LJ;try simp only[Act.put,Mt,Mu,Mv]
         refine OL [4] ?_;refine TD 4 (fun K hK=>?_) ?_
         ·have OEd:=aa OEc.o.drew;have NBd:Ll ((((wc.alloc (.cells #[.int .i64 t.l[k].kind,.int .i64 t.l[k].n,.string ⟨t.l[k].s.toArray⟩,.slice a5 t.l[k].keys.length c5,.slice a6 t.l[k].l.length c6] 25)).alloc (.cells #[.string ⟨t.keys[k].toArray⟩] 9)).drew).heap[wc.heap.size+1]?=some (.cells #[.string ⟨t.keys[k].toArray⟩] 9)):=aa NBK.o;refine m8 (by rfl) (.tmp 43) (.tmp 45) 22 (by rfl) _ _ rfl rfl _ (fun ty=>OEd.o.key NBd.o hnk (by exact hBc) ty) (fun v9 W9 hR=>?_);obtain⟨ho9,hg9,gK,cK,rfl⟩:=hR;replace SOc:=aa (LI.grown HF.o hg9 (fun g e=>(OEd.o.kown g e).1));refine hK.out _ _ SOc.o (fun LJ=>?_);replace NBV:=aa (TO ((by exact(NBV.o):(((wc.alloc (.cells #[.int .i64 t.l[k].kind,.int .i64 t.l[k].n,.string ⟨t.l[k].s.toArray⟩,.slice a5 t.l[k].keys.length c5,.slice a6 t.l[k].l.length c6] 25)).alloc (.cells #[.string ⟨t.keys[k].toArray⟩] 9)).drew).heap[wc.heap.size]?=some (.cells #[.int .i64 t.l[k].kind,.int .i64 t.l[k].n,.string ⟨t.l[k].s.toArray⟩,.slice a5 t.l[k].keys.length c5,.slice a6 t.l[k].l.length c6] 25))) hg9 (fun e=>by have:=LK.o _ e.symm;omega));replace OEc:=aa ho9;replace hBc:=MH (by exact hBc) hg9.size;clear ho9 hg9 OEd NBd;clear hK K;replace LI:=LJ;clear LJ;try simp only[Act.put,Mt,Mu,Mv]
          refine OJ 14 ?_ [15,16,17] LI ?_ ?_;rotate_left
          ·intro wS LN;go_simp;all_goals with_reducible rfl
          try simp only[av,List.set]
          refine OL [13] ?_;refine TD 13 (fun K hK=>?_) ?_
          ·have OEd:=aa OEc.o;have HY2:=aa (HY.o.bel OEd.o.below);have NBd:=aa NBV.o;refine m8 (by rfl) (.tmp 48) (.tmp 54) 23 (by rfl) _ _ rfl rfl _ (fun ty=>OEd.o.item NBd.o HY2.o hnl (by exact hBc) ty) (fun v9 W9 hR=>?_);obtain⟨ho9,hg9,gV,cV,rfl⟩:=hR;replace SOc:=aa (LI.grown HF.o hg9 (fun g e=>(OEd.o.lown g e).1));refine hK.out _ _ SOc.o (fun LJ=>?_);replace OEc:=aa ho9;replace hBc:=MH (by exact hBc) hg9.size;clear ho9 hg9 OEd NBd;clear hK K;replace LI:=LJ;clear LJ;try simp only[Act.put,Mt,Mu,Mv]
           obtain⟨o0,o1,o2,o3,o4,f0,f1,f2,f3,f4⟩:=LI.1.c;have HE:=aa LI;clear LI;refine OO 15 (fun K hK=>?_);go_simp;refine hK.out _ _ ?_;clear hK K;try simp only[Act.put,Mt,Mu,Mv]
           refine OO 16 (fun K hK=>?_);go_simp;refine hK.out _ _ ?_;clear hK K;try simp only[Act.put,Mt,Mu,Mv]
           refine OO 17 (fun K hK=>?_);go_simp;refine hK.out _ _ ?_;clear hK K;try simp only[Act.put,Mt,Mu,Mv]
           refine dn (by kernel_rfl) ?_;go_wp2_with fail
           go_roundg (t.keys.length - (k+1))
           case measure=>rw[GK.o];omega
           case rel=>exact⟨k+1,b,hlt,rfl,by go_num,rfl,TV hlt hlt' HNE.o HBL.o HPS.o HE.o (by have h9:=OEc.o;simp only[List.length_map]at h9;exact h9)⟩
          exact nl
         exact nl
        exact nl
       exact nl
  ·have Mc:k=t.keys.length:=by omega
   subst Mc;have d1:¬(t.keys.length:Int) < (t.keys.length:Int):=by omega
   obtain⟨ps,⟨kv,lv,i1,i2,i4⟩,i3⟩:=II.o;rw[List.drop_eq_nil_of_le (by simp;omega)]at i3;cases b with
   | true=>
    obtain⟨n1,n2,n3,n4,hk1,hk2⟩:=i2.forms;rw[List.length_map]at hk1 hk2;subst hk1;subst hk2;obtain⟨Z1,Z2,Z3,Z4⟩:=UM OB.o hkey VV.o.2 lk ⟨ps,by rw[<-i3];simp[T9],i1,i2⟩;have ZB:=aa Z4;have Z:=aa (And.intro Z1 Z2);have Z0:=aa Z3.1;have O0:=aa Z3.2;clear Z1 Z2 Z3 Z4 i1 i2 i3 i4;obtain⟨z0,z1,z2,z3,z4,z5,z6,z7,z8,z9⟩:=Z0.o.c;obtain⟨o0,o1,o2,o3,o4,-⟩:=O0.o.c;go_wp2_with fail
    have q0_:=ZB.o.c;refine MM (v:=.agg #[.int .i64 5,.int .i64 0,.string ⟨#[]⟩,.slice n1 ps.length n2,.slice n3 ps.length n4]) ?_ rfl ?_
    ·simp only[ar]at q0_;simp[results,results72,go_sem,q0_]
    ·exact⟨_,rfl,Z.o.1,Z.o.2⟩
   | false=>
    have HPS:Ll (ps++[(key,x)]=T9 key x (t.keys.zip t.l) false):=aa (by rw[<-i3];simp[T9]);have hpl:ps.length<=100001:=by
     have h0:=congrArg List.length i3;have h1:=Uh (key:=key) (x:=x) (t.keys.zip t.l) false;simp at h0 h1;omega
    have hnk:(ps.map Prod.fst).length<=1000000:=by rw[List.length_map];omega
    have hnl:(ps.map Prod.snd).length<=1000000:=by rw[List.length_map];omega
    have OEc:=aa i2;have hBc:w.heap.size+3+1<=wr.heap.size:=i4;have SOc:=aa i1;have LK:Ll (∀ g,kv.ownBlock=some g->g < wr.heap.size):=aa (fun g e=>(i2.kown g e).2);have HY:=HX;clear i1 i2 i3 i4 hpl;go_upto_region 13 with fail
    refine aD (SO w 3 (FM w t x a1 a2 a3 a4 c1 c2 c3 c4) kv lv) [11] (by kernel_rfl) (SOc.o.drew HF.o) (fun LI=>?_);refine WT.out ?_;refine OJ 0 ?_ [1,4,9,10,11,12,13] LI ?_ ?_;rotate_left
    ·intro wS LN;go_simp;all_goals with_reducible rfl
    try simp only[av,List.set]
    refine OJ 1 ?_ [4,9,10,11,12,13] LI ?_ ?_;rotate_left
    ·intro wS LN;obtain⟨s1,⟨s2,s3,s5⟩,s4⟩:=LN;have x0_:=s1.c;have y0_:=s2.c;obtain⟨z0,z1,z2,z3,z4,-⟩:=s3.c;go_simp;all_goals with_reducible rfl
    try simp only[av,List.set]
    refine OJ 2 ?_ [3,4,9,10,11,12,13] LI ?_ ?_;rotate_left
    ·intro wS LN;go_simp;all_goals with_reducible rfl
    try simp only[av,List.set]
    refine OJ 5 ?_ [6,9,10,11,12,13] LI ?_ ?_;rotate_left
    ·intro wS LN;go_simp;all_goals with_reducible rfl
    try simp only[av,List.set]
    refine OJ 6 ?_ [9,10,11,12,13] LI ?_ ?_;rotate_left
    ·intro wS LN;obtain⟨s1,⟨s2,s3,s5⟩,s4⟩:=LN;have x0_:=s1.c;have y0_:=s2.c;obtain⟨z0,z1,z2,z3,z4,-⟩:=s3.c;go_simp;all_goals with_reducible rfl
    try simp only[av,List.set]
    refine OJ 7 ?_ [8,9,11,12,13] LI ?_ ?_;rotate_left
    ·intro wS LN;obtain⟨s1,⟨s2,s3,s5⟩,s4⟩:=LN;have x0_:=s1.c;have y0_:=s2.c;obtain⟨z0,z1,z2,z3,z4,-⟩:=s3.c;go_simp;all_goals with_reducible rfl
    try simp only[av,List.set]
    refine OL [3,8] ?_;refine TD 3 (fun K hK=>?_) ?_
    ·go_simp;replace SOc:=aa (SOc.o.alloc HF.o (.cells #[.string ⟨key.toArray⟩] 9));replace OEc:=aa (OEc.o.bel (ae _ (.cells #[.string ⟨key.toArray⟩] 9)));replace hBc:=MH hBc (ae _ (.cells #[.string ⟨key.toArray⟩] 9)).size;have NBK:Ll ((wr.alloc (.cells #[.string ⟨key.toArray⟩] 9)).heap[wr.heap.size]?=some (.cells #[.string ⟨key.toArray⟩] 9)):=aa (MN _ _);refine hK.out _ _ (SOc.o.drew HF.o) (fun LJ=>?_);clear hK K;replace LI:=LJ;clear LJ;try simp only[Act.put,Mt,Mu,Mv]
     refine OL [4,8] ?_;refine TD 4 (fun K hK=>?_) ?_
     ·have OEd:=aa OEc.o.drew;have NBd:Ll (((wr.alloc (.cells #[.string ⟨key.toArray⟩] 9)).drew).heap[wr.heap.size]?=some (.cells #[.string ⟨key.toArray⟩] 9)):=aa NBK.o;refine m8 (by rfl) (.tmp 62) (.tmp 64) 22 (by rfl) _ _ rfl rfl _ (fun ty=>OEd.o.key NBd.o hnk (by exact hBc) ty) (fun v9 W9 hR=>?_);obtain⟨ho9,hg9,gK,cK,rfl⟩:=hR;replace SOc:=aa (LI.grown HF.o hg9 (fun g e=>(OEd.o.kown g e).1));refine hK.out _ _ SOc.o (fun LJ=>?_);replace OEc:=aa ho9;replace hBc:=MH (by exact hBc) hg9.size;clear ho9 hg9 OEd NBd;clear hK K;replace LI:=LJ;clear LJ;try simp only[Act.put,Mt,Mu,Mv]
      refine OJ 10 ?_ [11,12,13] LI ?_ ?_;rotate_left
      ·intro wS LN;go_simp;all_goals with_reducible rfl
      try simp only[av,List.set]
      refine OL [8] ?_;refine TD 8 (fun K hK=>?_) ?_
      ·go_simp;replace SOc:=aa (SOc.o.alloc HF.o (.cells #[.int .i64 x.kind,.int .i64 x.n,.string ⟨x.s.toArray⟩,.slice a3 x.keys.length c3,.slice a4 x.l.length c4] 25));replace OEc:=aa (OEc.o.bel (ae _ (.cells #[.int .i64 x.kind,.int .i64 x.n,.string ⟨x.s.toArray⟩,.slice a3 x.keys.length c3,.slice a4 x.l.length c4] 25)));replace hBc:=MH hBc (ae _ (.cells #[.int .i64 x.kind,.int .i64 x.n,.string ⟨x.s.toArray⟩,.slice a3 x.keys.length c3,.slice a4 x.l.length c4] 25)).size;have NBV:Ll ((W9.alloc (.cells #[.int .i64 x.kind,.int .i64 x.n,.string ⟨x.s.toArray⟩,.slice a3 x.keys.length c3,.slice a4 x.l.length c4] 25)).heap[W9.heap.size]?=some (.cells #[.int .i64 x.kind,.int .i64 x.n,.string ⟨x.s.toArray⟩,.slice a3 x.keys.length c3,.slice a4 x.l.length c4] 25)):=aa (MN _ _);refine hK.out _ _ (SOc.o) (fun LJ=>?_);clear hK K;replace LI:=LJ;clear LJ;try simp only[Act.put,Mt,Mu,Mv]
       refine OL [9] ?_;refine TD 9 (fun K hK=>?_) ?_
       ·have OEd:=aa OEc.o;have HY2:=aa (HY.o.bel OEd.o.below);have NBd:=aa NBV.o;refine m8 (by rfl) (.tmp 67) (.tmp 69) 23 (by rfl) _ _ rfl rfl _ (fun ty=>OEd.o.item NBd.o HY2.o hnl (by exact hBc) ty) (fun v9 W9 hR=>?_);obtain⟨ho9,hg9,gV,cV,rfl⟩:=hR;replace SOc:=aa (LI.grown HF.o hg9 (fun g e=>(OEd.o.lown g e).1));refine hK.out _ _ SOc.o (fun LJ=>?_);replace OEc:=aa ho9;replace hBc:=MH (by exact hBc) hg9.size;clear ho9 hg9 OEd NBd;clear hK K;replace LI:=LJ;clear LJ;try simp only[Act.put,Mt,Mu,Mv]
        obtain⟨o0,o1,o2,o3,o4,f0,f1,f2,f3,f4⟩:=LI.1.c;have HE:=aa LI;clear LI;refine OO 11 (fun K hK=>?_);go_simp;refine hK.out _ _ ?_;clear hK K;try simp only[Act.put,Mt,Mu,Mv]
        refine OO 12 (fun K hK=>?_);go_simp;refine hK.out _ _ ?_;clear hK K;try simp only[Act.put,Mt,Mu,Mv]
        refine OO 13 (fun K hK=>?_);go_simp;refine hK.out _ _ ?_;clear hK K;try simp only[Act.put,Mt,Mu,Mv]
        refine dn (by kernel_rfl) ?_;have h9:=OEc.o;simp only[List.length_map]at h9;obtain⟨Z1,Z2,Z3,Z4⟩:=UM OB.o hkey VV.o.2 lk (Vb HPS.o HE.o h9);clear h9;have ZB:=aa Z4;have Z:=aa (And.intro Z1 Z2);have Z0:=aa Z3.1;have O0:=aa Z3.2;clear Z1 Z2 Z3 Z4;obtain⟨z0,z1,z2,z3,z4,z5,z6,z7,z8,z9⟩:=Z0.o.c;obtain⟨o0,o1,o2,o3,o4,-⟩:=O0.o.c;go_wp2_with fail
        have q0_:=ZB.o.c;refine MM (v:=.agg #[.int .i64 5,.int .i64 0,.string ⟨#[]⟩,.slice (some ⟨gK,0,none⟩) (ps.length+1) cK,.slice (some ⟨gV,0,none⟩) (ps.length+1) cV]) ?_ rfl ?_
        ·simp only[ar]at q0_;simp[results,results72,go_sem,q0_]
        ·exact⟨_,rfl,Z.o.1,Z.o.2⟩
       exact nl
      exact nl
     refine TD 8 (fun K hK=>?_) ?_
     ·go_simp;replace SOc:=aa (SOc.o.alloc HF.o (.cells #[.int .i64 x.kind,.int .i64 x.n,.string ⟨x.s.toArray⟩,.slice a3 x.keys.length c3,.slice a4 x.l.length c4] 25));replace OEc:=aa (OEc.o.bel (ae _ (.cells #[.int .i64 x.kind,.int .i64 x.n,.string ⟨x.s.toArray⟩,.slice a3 x.keys.length c3,.slice a4 x.l.length c4] 25)));replace hBc:=MH hBc (ae _ (.cells #[.int .i64 x.kind,.int .i64 x.n,.string ⟨x.s.toArray⟩,.slice a3 x.keys.length c3,.slice a4 x.l.length c4] 25)).size;clear NBK;have NBK:Ll (((wr.alloc (.cells #[.string ⟨key.toArray⟩] 9)).alloc (.cells #[.int .i64 x.kind,.int .i64 x.n,.string ⟨x.s.toArray⟩,.slice a3 x.keys.length c3,.slice a4 x.l.length c4] 25)).heap[wr.heap.size]?=some (.cells #[.string ⟨key.toArray⟩] 9)):=aa (fb _ _ _);have NBV:Ll (((wr.alloc (.cells #[.string ⟨key.toArray⟩] 9)).alloc (.cells #[.int .i64 x.kind,.int .i64 x.n,.string ⟨x.s.toArray⟩,.slice a3 x.keys.length c3,.slice a4 x.l.length c4] 25)).heap[wr.heap.size+1]?=some (.cells #[.int .i64 x.kind,.int .i64 x.n,.string ⟨x.s.toArray⟩,.slice a3 x.keys.length c3,.slice a4 x.l.length c4] 25)):=aa (et _ _ _);refine hK.out _ _ (SOc.o.drew HF.o) (fun LJ=>?_);clear hK K;replace LI:=LJ;clear LJ;try simp only[Act.put,Mt,Mu,Mv]
      refine OL [4] ?_;refine TD 4 (fun K hK=>?_) ?_
      ·have OEd:=aa OEc.o.drew;have NBd:Ll ((((wr.alloc (.cells #[.string ⟨key.toArray⟩] 9)).alloc (.cells #[.int .i64 x.kind,.int .i64 x.n,.string ⟨x.s.toArray⟩,.slice a3 x.keys.length c3,.slice a4 x.l.length c4] 25)).drew).heap[wr.heap.size]?=some (.cells #[.string ⟨key.toArray⟩] 9)):=aa NBK.o;refine m8 (by rfl) (.tmp 62) (.tmp 64) 22 (by rfl) _ _ rfl rfl _ (fun ty=>OEd.o.key NBd.o hnk (by exact hBc) ty) (fun v9 W9 hR=>?_);obtain⟨ho9,hg9,gK,cK,rfl⟩:=hR;replace SOc:=aa (LI.grown HF.o hg9 (fun g e=>(OEd.o.kown g e).1));refine hK.out _ _ SOc.o (fun LJ=>?_);replace NBV:=aa (TO ((by exact(NBV.o):(((wr.alloc (.cells #[.string ⟨key.toArray⟩] 9)).alloc (.cells #[.int .i64 x.kind,.int .i64 x.n,.string ⟨x.s.toArray⟩,.slice a3 x.keys.length c3,.slice a4 x.l.length c4] 25)).drew).heap[wr.heap.size+1]?=some (.cells #[.int .i64 x.kind,.int .i64 x.n,.string ⟨x.s.toArray⟩,.slice a3 x.keys.length c3,.slice a4 x.l.length c4] 25))) hg9 (fun e=>by have:=LK.o _ e.symm;omega));replace OEc:=aa ho9;replace hBc:=MH (by exact hBc) hg9.size;clear ho9 hg9 OEd NBd;clear hK K;replace LI:=LJ;clear LJ;try simp only[Act.put,Mt,Mu,Mv]
       refine OJ 10 ?_ [11,12,13] LI ?_ ?_;rotate_left
       ·intro wS LN;go_simp;all_goals with_reducible rfl
       try simp only[av,List.set]
       refine OL [9] ?_;refine TD 9 (fun K hK=>?_) ?_
       ·have OEd:=aa OEc.o;have HY2:=aa (HY.o.bel OEd.o.below);have NBd:=aa NBV.o;refine m8 (by rfl) (.tmp 67) (.tmp 69) 23 (by rfl) _ _ rfl rfl _ (fun ty=>OEd.o.item NBd.o HY2.o hnl (by exact hBc) ty) (fun v9 W9 hR=>?_);obtain⟨ho9,hg9,gV,cV,rfl⟩:=hR;replace SOc:=aa (LI.grown HF.o hg9 (fun g e=>(OEd.o.lown g e).1));refine hK.out _ _ SOc.o (fun LJ=>?_);replace OEc:=aa ho9;replace hBc:=MH (by exact hBc) hg9.size;clear ho9 hg9 OEd NBd;clear hK K;replace LI:=LJ;clear LJ;try simp only[Act.put,Mt,Mu,Mv]
        obtain⟨o0,o1,o2,o3,o4,f0,f1,f2,f3,f4⟩:=LI.1.c;have HE:=aa LI;clear LI;refine OO 11 (fun K hK=>?_);go_simp;refine hK.out _ _ ?_;clear hK K;try simp only[Act.put,Mt,Mu,Mv]
        refine OO 12 (fun K hK=>?_);go_simp;refine hK.out _ _ ?_;clear hK K;try simp only[Act.put,Mt,Mu,Mv]
        refine OO 13 (fun K hK=>?_);go_simp;refine hK.out _ _ ?_;clear hK K;try simp only[Act.put,Mt,Mu,Mv]
        refine dn (by kernel_rfl) ?_;have h9:=OEc.o;simp only[List.length_map]at h9;obtain⟨Z1,Z2,Z3,Z4⟩:=UM OB.o hkey VV.o.2 lk (Vb HPS.o HE.o h9);clear h9;have ZB:=aa Z4;have Z:=aa (And.intro Z1 Z2);have Z0:=aa Z3.1;have O0:=aa Z3.2;clear Z1 Z2 Z3 Z4;obtain⟨z0,z1,z2,z3,z4,z5,z6,z7,z8,z9⟩:=Z0.o.c;obtain⟨o0,o1,o2,o3,o4,-⟩:=O0.o.c;go_wp2_with fail
        have q0_:=ZB.o.c;refine MM (v:=.agg #[.int .i64 5,.int .i64 0,.string ⟨#[]⟩,.slice (some ⟨gK,0,none⟩) (ps.length+1) cK,.slice (some ⟨gV,0,none⟩) (ps.length+1) cV]) ?_ rfl ?_
        ·simp only[ar]at q0_;simp[results,results72,go_sem,q0_]
        ·exact⟨_,rfl,Z.o.1,Z.o.2⟩
       exact nl
      exact nl
     exact nl
    refine TD 8 (fun K hK=>?_) ?_
    ·go_simp;replace SOc:=aa (SOc.o.alloc HF.o (.cells #[.int .i64 x.kind,.int .i64 x.n,.string ⟨x.s.toArray⟩,.slice a3 x.keys.length c3,.slice a4 x.l.length c4] 25));replace OEc:=aa (OEc.o.bel (ae _ (.cells #[.int .i64 x.kind,.int .i64 x.n,.string ⟨x.s.toArray⟩,.slice a3 x.keys.length c3,.slice a4 x.l.length c4] 25)));replace hBc:=MH hBc (ae _ (.cells #[.int .i64 x.kind,.int .i64 x.n,.string ⟨x.s.toArray⟩,.slice a3 x.keys.length c3,.slice a4 x.l.length c4] 25)).size;have NBV:Ll ((wr.alloc (.cells #[.int .i64 x.kind,.int .i64 x.n,.string ⟨x.s.toArray⟩,.slice a3 x.keys.length c3,.slice a4 x.l.length c4] 25)).heap[wr.heap.size]?=some (.cells #[.int .i64 x.kind,.int .i64 x.n,.string ⟨x.s.toArray⟩,.slice a3 x.keys.length c3,.slice a4 x.l.length c4] 25)):=aa (MN _ _);refine hK.out _ _ (SOc.o.drew HF.o) (fun LJ=>?_);clear hK K;replace LI:=LJ;clear LJ;try simp only[Act.put,Mt,Mu,Mv]
     refine OL [3] ?_;refine TD 3 (fun K hK=>?_) ?_
     ·go_simp;replace SOc:=aa (SOc.o.alloc HF.o (.cells #[.string ⟨key.toArray⟩] 9));replace OEc:=aa (OEc.o.bel (ae _ (.cells #[.string ⟨key.toArray⟩] 9)));replace hBc:=MH hBc (ae _ (.cells #[.string ⟨key.toArray⟩] 9)).size;clear NBV;have NBV:Ll (((wr.alloc (.cells #[.int .i64 x.kind,.int .i64 x.n,.string ⟨x.s.toArray⟩,.slice a3 x.keys.length c3,.slice a4 x.l.length c4] 25)).alloc (.cells #[.string ⟨key.toArray⟩] 9)).heap[wr.heap.size]?=some (.cells #[.int .i64 x.kind,.int .i64 x.n,.string ⟨x.s.toArray⟩,.slice a3 x.keys.length c3,.slice a4 x.l.length c4] 25)):=aa (fb _ _ _);have NBK:Ll (((wr.alloc (.cells #[.int .i64 x.kind,.int .i64 x.n,.string ⟨x.s.toArray⟩,.slice a3 x.keys.length c3,.slice a4 x.l.length c4] 25)).alloc (.cells #[.string ⟨key.toArray⟩] 9)).heap[wr.heap.size+1]?=some (.cells #[.string ⟨key.toArray⟩] 9)):=aa (et _ _ _);refine hK.out _ _ (SOc.o.drew HF.o) (fun LJ=>?_);clear hK K;replace LI:=LJ;clear LJ;try simp only[Act.put,Mt,Mu,Mv]
      refine OL [4] ?_;refine TD 4 (fun K hK=>?_) ?_
      ·have OEd:=aa OEc.o.drew;have NBd:Ll ((((wr.alloc (.cells #[.int .i64 x.kind,.int .i64 x.n,.string ⟨x.s.toArray⟩,.slice a3 x.keys.length c3,.slice a4 x.l.length c4] 25)).alloc (.cells #[.string ⟨key.toArray⟩] 9)).drew).heap[wr.heap.size+1]?=some (.cells #[.string ⟨key.toArray⟩] 9)):=aa NBK.o;refine m8 (by rfl) (.tmp 62) (.tmp 64) 22 (by rfl) _ _ rfl rfl _ (fun ty=>OEd.o.key NBd.o hnk (by exact hBc) ty) (fun v9 W9 hR=>?_);obtain⟨ho9,hg9,gK,cK,rfl⟩:=hR;replace SOc:=aa (LI.grown HF.o hg9 (fun g e=>(OEd.o.kown g e).1));refine hK.out _ _ SOc.o (fun LJ=>?_);replace NBV:=aa (TO ((by exact(NBV.o):(((wr.alloc (.cells #[.int .i64 x.kind,.int .i64 x.n,.string ⟨x.s.toArray⟩,.slice a3 x.keys.length c3,.slice a4 x.l.length c4] 25)).alloc (.cells #[.string ⟨key.toArray⟩] 9)).drew).heap[wr.heap.size]?=some (.cells #[.int .i64 x.kind,.int .i64 x.n,.string ⟨x.s.toArray⟩,.slice a3 x.keys.length c3,.slice a4 x.l.length c4] 25))) hg9 (fun e=>by have:=LK.o _ e.symm;omega));replace OEc:=aa ho9;replace hBc:=MH (by exact hBc) hg9.size;clear ho9 hg9 OEd NBd;clear hK K;replace LI:=LJ;clear LJ;try simp only[Act.put,Mt,Mu,Mv]
       refine OJ 10 ?_ [11,12,13] LI ?_ ?_;rotate_left
       ·intro wS LN;go_simp;all_goals with_reducible rfl
       try simp only[av,List.set]
       refine OL [9] ?_;refine TD 9 (fun K hK=>?_) ?_
       ·have OEd:=aa OEc.o;have HY2:=aa (HY.o.bel OEd.o.below);have NBd:=aa NBV.o;refine m8 (by rfl) (.tmp 67) (.tmp 69) 23 (by rfl) _ _ rfl rfl _ (fun ty=>OEd.o.item NBd.o HY2.o hnl (by exact hBc) ty) (fun v9 W9 hR=>?_);obtain⟨ho9,hg9,gV,cV,rfl⟩:=hR;replace SOc:=aa (LI.grown HF.o hg9 (fun g e=>(OEd.o.lown g e).1));refine hK.out _ _ SOc.o (fun LJ=>?_);replace OEc:=aa ho9;replace hBc:=MH (by exact hBc) hg9.size;clear ho9 hg9 OEd NBd;clear hK K;replace LI:=LJ;clear LJ;try simp only[Act.put,Mt,Mu,Mv]
        obtain⟨o0,o1,o2,o3,o4,f0,f1,f2,f3,f4⟩:=LI.1.c;have HE:=aa LI;clear LI;refine OO 11 (fun K hK=>?_);go_simp;refine hK.out _ _ ?_;clear hK K;try simp only[Act.put,Mt,Mu,Mv]
        refine OO 12 (fun K hK=>?_);go_simp;refine hK.out _ _ ?_;clear hK K;try simp only[Act.put,Mt,Mu,Mv]
        refine OO 13 (fun K hK=>?_);go_simp;refine hK.out _ _ ?_;clear hK K;try simp only[Act.put,Mt,Mu,Mv]
        refine dn (by kernel_rfl) ?_;have h9:=OEc.o;simp only[List.length_map]at h9;obtain⟨Z1,Z2,Z3,Z4⟩:=UM OB.o hkey VV.o.2 lk (Vb HPS.o HE.o h9);clear h9;have ZB:=aa Z4;have Z:=aa (And.intro Z1 Z2);have Z0:=aa Z3.1;have O0:=aa Z3.2;clear Z1 Z2 Z3 Z4;obtain⟨z0,z1,z2,z3,z4,z5,z6,z7,z8,z9⟩:=Z0.o.c;obtain⟨o0,o1,o2,o3,o4,-⟩:=O0.o.c;go_wp2_with fail
        have q0_:=ZB.o.c;refine MM (v:=.agg #[.int .i64 5,.int .i64 0,.string ⟨#[]⟩,.slice (some ⟨gK,0,none⟩) (ps.length+1) cK,.slice (some ⟨gV,0,none⟩) (ps.length+1) cV]) ?_ rfl ?_
        ·simp only[ar]at q0_;simp[results,results72,go_sem,q0_]
        ·exact⟨_,rfl,Z.o.1,Z.o.2⟩
       exact nl
      exact nl
     exact nl
    exact nl
theorem Uq(w:World)(ok:Nat->Prop)(t x:V)(v xv:Value)(key:List UInt8)(h:In w ok t v)(hx:In w ok x xv)(ho:Ob t)(hl:t.l.length<=100000)(hk:key.length<=9223372036854775807):Calls prog 72 #[v,aR key,xv] w fun e w'=>∃ r,e=.returned r/\In w' (bQ ok w.heap.size) (aG t key x) r/\La w w':=by
 obtain⟨d,h1,h2⟩:=h.two hx;refine(VM w ok d t x v xv key h1 h2 ho hl hk).mono ?_;rintro e w' ⟨r,rfl,hr,hb⟩;exact⟨r,rfl,hr.is,hb⟩
end
variable {t:V}
section
def FO (w:LC) (t:V) (a1 a2:Option Addr) (c1 c2:Nat) (W:LC):Prop:=ag W w.heap.size (.int .i64 t.kind) (.int .i64 t.n) (.string ⟨t.s.toArray⟩) (.slice a1 t.keys.length c1) (.slice a2 t.l.length c2)/\ag W (w.heap.size+1) (.int .i64 0) (.int .i64 0) (.string ⟨#[]⟩) (.slice none 0 0) (.slice none 0 0)
theorem FO.stays(w:LC)(t:V)(a1 a2:Option Addr)(c1 c2:Nat):Ux (w.heap.size+2+1) (FO w t a1 a2 c1 c2):=fun W W' r h1 h2 h3=>
 ⟨Ub (B:=w.heap.size+2+1) (by omega) W W' r h1.1 h2 h3,Ub (B:=w.heap.size+2+1) (by omega) W W' r h1.2 h2 h3⟩
def V7 (w:LC) (ok:Nat->Prop) (d:Nat) (t:V) (key:Lz) (a1 a2:Option Addr) (c1 c2 k:Nat) (wr:LC):Prop:=
 ∃ ps kv lv,SO w 2 (FO w t a1 a2 c1 c2) kv lv wr/\OE w ok (w.heap.size+2+1) d (ps.map Prod.fst) (ps.map Prod.snd) kv lv wr/\ps++U2 key ((t.keys.zip t.l).drop k)=U2 key (t.keys.zip t.l)/\w.heap.size+2+1<=wr.heap.size
theorem UJ{key:Lz}{a1 a2:Option Addr}{c1 c2:Nat}{ps:List (Lz × V)}{kv lv kv' lv':Value}(hl:t.keys.length=t.l.length)(h1:k < t.keys.length)(h2:k < t.l.length)(hne:t.keys[k]≠key)(hps:ps++U2 key ((t.keys.zip t.l).drop k)=U2 key (t.keys.zip t.l))(hs:SO w 2 (FO w t a1 a2 c1 c2) kv lv W)(ho:OE w ok (w.heap.size+2+1) d (ps.map Prod.fst++[t.keys[k]]) (ps.map Prod.snd++[t.l[k]]) kv' lv' W):V7 w ok d t key a1 a2 c1 c2 (k+1) ((W.setCell ⟨w.heap.size+2,3,none⟩ kv').setCell ⟨w.heap.size+2,4,none⟩ lv'):=by
 refine⟨ps++[(t.keys[k],t.l[k])],kv',lv',hs.stored (fun W i x h=>⟨Ue h.1 (by omega) i x,Ue h.2 (by omega) i x⟩),?_,?_,?_⟩
 ·rw[List.map_append,List.map_append];exact(ho.set (by omega) (by omega) _ _).set (by omega) (by omega) _ _
 ·rw[<-hps,Uc h1 h2];simp[U2,List.filter_cons,hne]
 ·have:=hs.1.lt;have e:((W.setCell ⟨w.heap.size+2,3,none⟩ kv').setCell ⟨w.heap.size+2,4,none⟩ lv').heap.size=W.heap.size:=by simp[World.setCell]
  omega
theorem VR{key:Lz}{a1 a2:Option Addr}{c1 c2:Nat}(hl:t.keys.length=t.l.length)(h1:k < t.keys.length)(he:t.keys[k]=key)(h:V7 w ok d t key a1 a2 c1 c2 k wr):V7 w ok d t key a1 a2 c1 c2 (k+1) wr:=by
 obtain⟨ps,kv,lv,i1,i2,i3,i4⟩:=h;refine⟨ps,kv,lv,i1,i2,?_,i4⟩;rw[<-i3,Uc h1 (by omega)];simp[U2,List.filter_cons,he]
attribute [local go_sem ↓] Go.wp_at_zero Go.wp_at_succ
theorem UW(w:LC)(ok:Nat->Prop)(d:Nat)(t:V)(v:Value)(key:Lz)(h:bu w ok (d+1) t v)(ho:Ob t)(hl:t.l.length<=100000):Calls prog 98 #[v,aR key] w fun e w'=>∃ r,e=.returned r/\bu w' (bQ ok w.heap.size) (d+1) (bH t key) r/\La w w':=by
 obtain⟨a1,a2,c1,c2,rfl⟩:=h.shape;have OB:=aa ho;have HL:=aa ho.2.2.2.1;have VV:Ll (cS w ok (bu w ok d) t.l (.slice a2 t.l.length c2)/\ao w ok t.keys (.slice a1 t.keys.length c1)):=aa (by
  obtain⟨ks,ls,e,h1,h2,h3,h4,h5⟩:=h;simp only[Value.agg.injEq,Array.mk.injEq,List.cons.injEq,and_true]at e;obtain⟨-,-,-,rfl,rfl⟩:=e;exact⟨h5,h4⟩)
 have lk:t.keys.length<=100000:=by rw[HL.o];exact hl
 clear h ho;unfold aR;have HF:Ll _:=aa (FO.stays w t a1 a2 c1 c2);have I0:Ll (V7 w ok d t key a1 a2 c1 c2 0 (((w.alloc (.cells #[.int .i64 t.kind,.int .i64 t.n,.string ⟨t.s.toArray⟩,.slice a1 t.keys.length c1,.slice a2 t.l.length c2] 25)).alloc (.cells #[.int .i64 0,.int .i64 0,.string ⟨#[]⟩,.slice none 0 0,.slice none 0 0] 25)).alloc (.cells #[.int .i64 5,.int .i64 0,.string ⟨#[]⟩,.slice none 0 0,.slice none 0 0] 25))):=aa (by
  have hb:La w (((w.alloc (.cells #[.int .i64 t.kind,.int .i64 t.n,.string ⟨t.s.toArray⟩,.slice a1 t.keys.length c1,.slice a2 t.l.length c2] 25)).alloc (.cells #[.int .i64 0,.int .i64 0,.string ⟨#[]⟩,.slice none 0 0,.slice none 0 0] 25)).alloc (.cells #[.int .i64 5,.int .i64 0,.string ⟨#[]⟩,.slice none 0 0,.slice none 0 0] 25)):=ab (ab (ae _ _) (ae _ _)) (ae _ _);refine⟨[],.slice none 0 0,.slice none 0 0,⟨?_,⟨?_,?_⟩,hb⟩,OE.nil hb (by omega),by simp,by simp⟩
  ·exact jI w _ _ _
  ·exact lI w _ _ _
  ·exact mE w _ _ _)
 go_enter func98,ntmps98;go_wp2_with fail
 go_loopg [12] t.keys.length (fun gk i wr=>∃ k:Nat,k<=t.keys.length/\gk=t.keys.length - k/\i=.int .i64 k/\V7 w ok d t key a1 a2 c1 c2 k wr)
 case atStart=>exact⟨0,Nat.zero_le _,rfl,rfl,I0.o⟩
 case round=>
  obtain⟨k,hk,hgk,rfl,hI⟩:=hrel;have GK:=aa hgk;have II:=aa hI;clear hgk hI I0;by_cases hlt:k < t.keys.length
  ·have hlt':k < t.l.length:=by have:=HL.o;omega
   obtain⟨kb,ko,rfl,j1,j2,jk⟩:=gQ VV.o.2 hlt;have w1:(0:Int)<=(k:Int):=by omega
   have w2:(k:Int) < (t.keys.length:Int):=by omega
   have w3:(k:Int) < (t.l.length:Int):=by omega
   unfold maxLen at j2;by_cases he:t.keys[k]=key
   ·have e3:(t.keys[k] == key)=true:=by simp[he]
    have HN:=aa (VR HL.o hlt he II.o);have jk2:=ah (by obtain⟨ps,kv,lv,i1,-⟩:=II.o;exact i1.2.2) jk;clear he;go_wp2_with fail
    go_roundg (t.keys.length - (k+1))
    case measure=>rw[GK.o];omega
    case rel=>exact⟨k+1,hlt,rfl,by go_num,HN.o⟩
   ·have e3:(t.keys[k] == key)=false:=by simp[he]
    have HNE:=aa he;obtain⟨xb,xo,rfl,j3,j4,a5,c5,a6,c6,g0,g1,g2,g3,g4,g5⟩:=fz VV.o.1 hlt';unfold maxLen at j4;have G0:=aa g0;have G1:=aa g1;have G2:=aa g2;have G3:=aa g3;have G4:=aa g4;have HY:=aa g5.below;obtain⟨ps,kv,lv,i1,i2,i3,i4⟩:=II.o;have jk2:=ah i1.2.2 jk;have HPS:=aa i3;have hpl:ps.length<=100000:=by
     have h0:=congrArg List.length i3;have h1:(U2 key (t.keys.zip t.l)).length<=(t.keys.zip t.l).length:=List.length_filter_le _ _;simp at h0 h1;omega
    have hnk:(ps.map Prod.fst).length<=1000000:=by rw[List.length_map];omega
    have hnl:(ps.map Prod.snd).length<=1000000:=by rw[List.length_map];omega
    have OEc:=aa i2;have hBc:w.heap.size+2+1<=wr.heap.size:=i4;have SOc:=aa i1;have LK:Ll (∀ g,kv.ownBlock=some g->g < wr.heap.size):=fun g e=>(i2.kown g e).2;clear he g0 g1 g2 g3 g4 g5 i1 i2 i3 i4 hpl;go_upto_region 6 with fail
    refine aD (SO w 2 (FO w t (some ⟨kb,ko,none⟩) (some ⟨xb,xo,none⟩) c1 c2) kv lv) [15] (by kernel_rfl) (SOc.o.drew HF.o) (fun LI=>?_);refine WT.out ?_;refine OJ 0 ?_ [1,4,13,14,15,16,17] LI ?_ ?_;rotate_left
    ·intro wS LN;go_simp;all_goals with_reducible rfl
    try simp only[av,List.set]
    refine OJ 1 ?_ [4,13,14,15,16,17] LI ?_ ?_;rotate_left
    ·intro wS LN;obtain⟨s1,⟨s2,s3⟩,s4⟩:=LN;have x0_:=s1.c;have y0_:=s2.c;have e0:=ah s4 G0.o;have e1:=ah s4 G1.o;have e2:=ah s4 G2.o;have e3:=ah s4 G3.o;have e4:=ah s4 G4.o;go_simp;all_goals with_reducible rfl
    try simp only[av,List.set]
    refine OJ 2 ?_ [3,4,13,14,15,16,17] LI ?_ ?_;rotate_left
    ·intro wS LN;go_simp;all_goals with_reducible rfl
    try simp only[av,List.set]
    refine OJ 5 ?_ [6,13,14,15,16,17] LI ?_ ?_;rotate_left
    ·intro wS LN;go_simp;all_goals with_reducible rfl
    try simp only[av,List.set]
    refine OJ 6 ?_ [13,14,15,16,17] LI ?_ ?_;rotate_left
    ·intro wS LN;obtain⟨s1,⟨s2,s3⟩,s4⟩:=LN;have x0_:=s1.c;have y0_:=s2.c;have e0:=ah s4 G0.o;have e1:=ah s4 G1.o;have e2:=ah s4 G2.o;have e3:=ah s4 G3.o;have e4:=ah s4 G4.o;go_simp;all_goals with_reducible rfl
    try simp only[av,List.set]
    refine OJ 7 ?_ [8,10,11,12,13,15,16,17] LI ?_ ?_;rotate_left
    ·intro wS LN;go_simp;all_goals with_reducible rfl
    try simp only[av,List.set]
    refine OJ 8 ?_ [10,11,12,13,15,16,17] LI ?_ ?_;rotate_left
    ·intro wS LN;obtain⟨s1,⟨s2,s3⟩,s4⟩:=LN;have x0_:=s1.c;have y0_:=s2.c;have e0:=ah s4 G0.o;have e1:=ah s4 G1.o;have e2:=ah s4 G2.o;have e3:=ah s4 G3.o;have e4:=ah s4 G4.o;go_simp;all_goals with_reducible rfl
    try simp only[av,List.set]
    refine OJ 9 ?_ [10,11,12,13,15,16,17] LI ?_ ?_;rotate_left
    ·intro wS LN;go_simp;all_goals with_reducible rfl
    try simp only[av,List.set]
    refine OJ 10 ?_ [11,12,13,15,16,17] LI ?_ ?_;rotate_left
    ·intro wS LN;go_simp;all_goals with_reducible rfl
    try simp only[av,List.set]
    refine OJ 11 ?_ [12,13,15,16,17] LI ?_ ?_;rotate_left
    ·intro wS LN;obtain⟨s1,⟨s2,s3⟩,s4⟩:=LN;have x0_:=s1.c;have y0_:=s2.c;have e0:=ah s4 G0.o;have e1:=ah s4 G1.o;have e2:=ah s4 G2.o;have e3:=ah s4 G3.o;have e4:=ah s4 G4.o;go_simp;all_goals with_reducible rfl
    try simp only[av,List.set]
    refine OL [3,12] ?_;refine TD 3 (fun K hK=>?_) ?_
    ·go_simp;replace SOc:=aa (SOc.o.alloc HF.o (.cells #[.string ⟨t.keys[k].toArray⟩] 9));replace OEc:=aa (OEc.o.bel (ae _ (.cells #[.string ⟨t.keys[k].toArray⟩] 9)));replace hBc:=MH hBc (ae _ (.cells #[.string ⟨t.keys[k].toArray⟩] 9)).size;have NBK:Ll ((wr.alloc (.cells #[.string ⟨t.keys[k].toArray⟩] 9)).heap[wr.heap.size]?=some (.cells #[.string ⟨t.keys[k].toArray⟩] 9)):=MN _ _;refine hK.out _ _ (SOc.o.drew HF.o) (fun LJ=>?_);clear hK K;replace LI:=LJ;clear LJ;try simp only[Act.put,Mt,Mu,Mv]
     refine OL [4,12] ?_;refine TD 4 (fun K hK=>?_) ?_
     ·have OEd:=aa OEc.o.drew;have NBd:Ll (((wr.alloc (.cells #[.string ⟨t.keys[k].toArray⟩] 9)).drew).heap[wr.heap.size]?=some (.cells #[.string ⟨t.keys[k].toArray⟩] 9)):=aa NBK.o;refine m8 (by rfl) (.tmp 21) (.tmp 23) 22 (by rfl) _ _ rfl rfl _ (fun ty=>OEd.o.key NBd.o hnk (by exact hBc) ty) (fun v9 W9 hR=>?_);obtain⟨ho9,hg9,gK,cK,rfl⟩:=hR;replace SOc:=aa (LI.grown HF.o hg9 (fun g e=>(OEd.o.kown g e).1));refine hK.out _ _ SOc.o (fun LJ=>?_);replace OEc:=aa ho9;replace hBc:=MH (by exact hBc) hg9.size;clear ho9 hg9 OEd NBd;clear hK K;replace LI:=LJ;clear LJ;try simp only[Act.put,Mt,Mu,Mv]
      refine OJ 14 ?_ [15,16,17] LI ?_ ?_;rotate_left
      ·intro wS LN;go_simp;all_goals with_reducible rfl
      try simp only[av,List.set]
      refine OL [12] ?_;refine TD 12 (fun K hK=>?_) ?_
      ·go_simp;replace SOc:=aa (SOc.o.alloc HF.o (.cells #[.int .i64 t.l[k].kind,.int .i64 t.l[k].n,.string ⟨t.l[k].s.toArray⟩,.slice a5 t.l[k].keys.length c5,.slice a6 t.l[k].l.length c6] 25));replace OEc:=aa (OEc.o.bel (ae _ (.cells #[.int .i64 t.l[k].kind,.int .i64 t.l[k].n,.string ⟨t.l[k].s.toArray⟩,.slice a5 t.l[k].keys.length c5,.slice a6 t.l[k].l.length c6] 25)));replace hBc:=MH hBc (ae _ (.cells #[.int .i64 t.l[k].kind,.int .i64 t.l[k].n,.string ⟨t.l[k].s.toArray⟩,.slice a5 t.l[k].keys.length c5,.slice a6 t.l[k].l.length c6] 25)).size;have NBV:Ll ((W9.alloc (.cells #[.int .i64 t.l[k].kind,.int .i64 t.l[k].n,.string ⟨t.l[k].s.toArray⟩,.slice a5 t.l[k].keys.length c5,.slice a6 t.l[k].l.length c6] 25)).heap[W9.heap.size]?=some (.cells #[.int .i64 t.l[k].kind,.int .i64 t.l[k].n,.string ⟨t.l[k].s.toArray⟩,.slice a5 t.l[k].keys.length c5,.slice a6 t.l[k].l.length c6] 25)):=MN _ _;refine hK.out _ _ (SOc.o) (fun LJ=>?_);clear hK K;replace LI:=LJ;clear LJ;try simp only[Act.put,Mt,Mu,Mv]
       refine OL [13] ?_;refine TD 13 (fun K hK=>?_) ?_
       ·have OEd:=aa OEc.o;have HY2:=aa (HY.o.bel OEd.o.below);have NBd:=aa NBV.o;refine m8 (by rfl) (.tmp 26) (.tmp 32) 23 (by rfl) _ _ rfl rfl _ (fun ty=>OEd.o.item NBd.o HY2.o hnl (by exact hBc) ty) (fun v9 W9 hR=>?_);obtain⟨ho9,hg9,gV,cV,rfl⟩:=hR;replace SOc:=aa (LI.grown HF.o hg9 (fun g e=>(OEd.o.lown g e).1));refine hK.out _ _ SOc.o (fun LJ=>?_);replace OEc:=aa ho9;replace hBc:=MH (by exact hBc) hg9.size;clear ho9 hg9 OEd NBd;clear hK K;replace LI:=LJ;clear LJ;try simp only[Act.put,Mt,Mu,Mv]
        obtain⟨o0,o1,o2,o3,o4,f0,f1,f2,f3,f4⟩:=LI.1.c;have HE:=aa LI;clear LI;refine OO 15 (fun K hK=>?_);go_simp;refine hK.out _ _ ?_;clear hK K;try simp only[Act.put,Mt,Mu,Mv]
        refine OO 16 (fun K hK=>?_);go_simp;refine hK.out _ _ ?_;clear hK K;try simp only[Act.put,Mt,Mu,Mv]
        refine OO 17 (fun K hK=>?_);go_simp;refine hK.out _ _ ?_;clear hK K;try simp only[Act.put,Mt,Mu,Mv]
        refine dn (by kernel_rfl) ?_;go_wp2_with fail
        go_roundg (t.keys.length - (k+1))
        case measure=>rw[GK.o];omega
        case rel=>exact⟨k+1,hlt,rfl,by go_num,UJ HL.o hlt hlt' HNE.o HPS.o HE.o (by have h9:=OEc.o;simp only[List.length_map]at h9;exact h9)⟩
       exact nl
      exact nl
     refine TD 12 (fun K hK=>?_) ?_
     ·go_simp;replace SOc:=aa (SOc.o.alloc HF.o (.cells #[.int .i64 t.l[k].kind,.int .i64 t.l[k].n,.string ⟨t.l[k].s.toArray⟩,.slice a5 t.l[k].keys.length c5,.slice a6 t.l[k].l.length c6] 25));replace OEc:=aa (OEc.o.bel (ae _ (.cells #[.int .i64 t.l[k].kind,.int .i64 t.l[k].n,.string ⟨t.l[k].s.toArray⟩,.slice a5 t.l[k].keys.length c5,.slice a6 t.l[k].l.length c6] 25)));replace hBc:=MH hBc (ae _ (.cells #[.int .i64 t.l[k].kind,.int .i64 t.l[k].n,.string ⟨t.l[k].s.toArray⟩,.slice a5 t.l[k].keys.length c5,.slice a6 t.l[k].l.length c6] 25)).size;clear NBK;have NBK:Ll (((wr.alloc (.cells #[.string ⟨t.keys[k].toArray⟩] 9)).alloc (.cells #[.int .i64 t.l[k].kind,.int .i64 t.l[k].n,.string ⟨t.l[k].s.toArray⟩,.slice a5 t.l[k].keys.length c5,.slice a6 t.l[k].l.length c6] 25)).heap[wr.heap.size]?=some (.cells #[.string ⟨t.keys[k].toArray⟩] 9)):=fb _ _ _;have NBV:Ll (((wr.alloc (.cells #[.string ⟨t.keys[k].toArray⟩] 9)).alloc (.cells #[.int .i64 t.l[k].kind,.int .i64 t.l[k].n,.string ⟨t.l[k].s.toArray⟩,.slice a5 t.l[k].keys.length c5,.slice a6 t.l[k].l.length c6] 25)).heap[wr.heap.size+1]?=some (.cells #[.int .i64 t.l[k].kind,.int .i64 t.l[k].n,.string ⟨t.l[k].s.toArray⟩,.slice a5 t.l[k].keys.length c5,.slice a6 t.l[k].l.length c6] 25)):=et _ _ _;refine hK.out _ _ (SOc.o.drew HF.o) (fun LJ=>?_);clear hK K;replace LI:=LJ;clear LJ;try simp only[Act.put,Mt,Mu,Mv]
      refine OL [4] ?_;refine TD 4 (fun K hK=>?_) ?_
      ·have OEd:=aa OEc.o.drew;have NBd:Ll ((((wr.alloc (.cells #[.string ⟨t.keys[k].toArray⟩] 9)).alloc (.cells #[.int .i64 t.l[k].kind,.int .i64 t.l[k].n,.string ⟨t.l[k].s.toArray⟩,.slice a5 t.l[k].keys.length c5,.slice a6 t.l[k].l.length c6] 25)).drew).heap[wr.heap.size]?=some (.cells #[.string ⟨t.keys[k].toArray⟩] 9)):=aa NBK.o;refine m8 (by rfl) (.tmp 21) (.tmp 23) 22 (by rfl) _ _ rfl rfl _ (fun ty=>OEd.o.key NBd.o hnk (by exact hBc) ty) (fun v9 W9 hR=>?_);obtain⟨ho9,hg9,gK,cK,rfl⟩:=hR;replace SOc:=aa (LI.grown HF.o hg9 (fun g e=>(OEd.o.kown g e).1));refine hK.out _ _ SOc.o (fun LJ=>?_);replace NBV:=aa (TO ((by exact(NBV.o):(((wr.alloc (.cells #[.string ⟨t.keys[k].toArray⟩] 9)).alloc (.cells #[.int .i64 t.l[k].kind,.int .i64 t.l[k].n,.string ⟨t.l[k].s.toArray⟩,.slice a5 t.l[k].keys.length c5,.slice a6 t.l[k].l.length c6] 25)).drew).heap[wr.heap.size+1]?=some (.cells #[.int .i64 t.l[k].kind,.int .i64 t.l[k].n,.string ⟨t.l[k].s.toArray⟩,.slice a5 t.l[k].keys.length c5,.slice a6 t.l[k].l.length c6] 25))) hg9 (fun e=>by have:=LK.o _ e.symm;omega));replace OEc:=aa ho9;replace hBc:=MH (by exact hBc) hg9.size;clear ho9 hg9 OEd NBd;clear hK K;replace LI:=LJ;clear LJ;try simp only[Act.put,Mt,Mu,Mv]
       refine OJ 14 ?_ [15,16,17] LI ?_ ?_;rotate_left
       ·intro wS LN;go_simp;all_goals with_reducible rfl
       try simp only[av,List.set]
       refine OL [13] ?_;refine TD 13 (fun K hK=>?_) ?_
       ·have OEd:=aa OEc.o;have HY2:=aa (HY.o.bel OEd.o.below);have NBd:=aa NBV.o;refine m8 (by rfl) (.tmp 26) (.tmp 32) 23 (by rfl) _ _ rfl rfl _ (fun ty=>OEd.o.item NBd.o HY2.o hnl (by exact hBc) ty) (fun v9 W9 hR=>?_);obtain⟨ho9,hg9,gV,cV,rfl⟩:=hR;replace SOc:=aa (LI.grown HF.o hg9 (fun g e=>(OEd.o.lown g e).1));refine hK.out _ _ SOc.o (fun LJ=>?_);replace OEc:=aa ho9;replace hBc:=MH (by exact hBc) hg9.size;clear ho9 hg9 OEd NBd;clear hK K;replace LI:=LJ;clear LJ;try simp only[Act.put,Mt,Mu,Mv]
        obtain⟨o0,o1,o2,o3,o4,f0,f1,f2,f3,f4⟩:=LI.1.c;have HE:=aa LI;clear LI;refine OO 15 (fun K hK=>?_);go_simp;refine hK.out _ _ ?_;clear hK K;try simp only[Act.put,Mt,Mu,Mv]
        refine OO 16 (fun K hK=>?_);go_simp;refine hK.out _ _ ?_;clear hK K;try simp only[Act.put,Mt,Mu,Mv]
        refine OO 17 (fun K hK=>?_);go_simp;refine hK.out _ _ ?_;clear hK K;try simp only[Act.put,Mt,Mu,Mv]
        refine dn (by kernel_rfl) ?_;go_wp2_with fail
        go_roundg (t.keys.length - (k+1))
        case measure=>rw[GK.o];omega
        case rel=>exact⟨k+1,hlt,rfl,by go_num,UJ HL.o hlt hlt' HNE.o HPS.o HE.o (by have h9:=OEc.o;simp only[List.length_map]at h9;exact h9)⟩
       exact nl
      exact nl
     exact nl
    refine TD 12 (fun K hK=>?_) ?_
    ·go_simp;replace SOc:=aa (SOc.o.alloc HF.o (.cells #[.int .i64 t.l[k].kind,.int .i64 t.l[k].n,.string ⟨t.l[k].s.toArray⟩,.slice a5 t.l[k].keys.length c5,.slice a6 t.l[k].l.length c6] 25));replace OEc:=aa (OEc.o.bel (ae _ (.cells #[.int .i64 t.l[k].kind,.int .i64 t.l[k].n,.string ⟨t.l[k].s.toArray⟩,.slice a5 t.l[k].keys.length c5,.slice a6 t.l[k].l.length c6] 25)));replace hBc:=MH hBc (ae _ (.cells #[.int .i64 t.l[k].kind,.int .i64 t.l[k].n,.string ⟨t.l[k].s.toArray⟩,.slice a5 t.l[k].keys.length c5,.slice a6 t.l[k].l.length c6] 25)).size;have NBV:Ll ((wr.alloc (.cells #[.int .i64 t.l[k].kind,.int .i64 t.l[k].n,.string ⟨t.l[k].s.toArray⟩,.slice a5 t.l[k].keys.length c5,.slice a6 t.l[k].l.length c6] 25)).heap[wr.heap.size]?=some (.cells #[.int .i64 t.l[k].kind,.int .i64 t.l[k].n,.string ⟨t.l[k].s.toArray⟩,.slice a5 t.l[k].keys.length c5,.slice a6 t.l[k].l.length c6] 25)):=MN _ _;refine hK.out _ _ (SOc.o.drew HF.o) (fun LJ=>?_);clear hK K;replace LI:=LJ;clear LJ;try simp only[Act.put,Mt,Mu,Mv]
     refine OL [3] ?_;refine TD 3 (fun K hK=>?_) ?_
     ·go_simp;replace SOc:=aa (SOc.o.alloc HF.o (.cells #[.string ⟨t.keys[k].toArray⟩] 9));replace OEc:=aa (OEc.o.bel (ae _ (.cells #[.string ⟨t.keys[k].toArray⟩] 9)));replace hBc:=MH hBc (ae _ (.cells #[.string ⟨t.keys[k].toArray⟩] 9)).size;clear NBV;have NBV:Ll (((wr.alloc (.cells #[.int .i64 t.l[k].kind,.int .i64 t.l[k].n,.string ⟨t.l[k].s.toArray⟩,.slice a5 t.l[k].keys.length c5,.slice a6 t.l[k].l.length c6] 25)).alloc (.cells #[.string ⟨t.keys[k].toArray⟩] 9)).heap[wr.heap.size]?=some (.cells #[.int .i64 t.l[k].kind,.int .i64 t.l[k].n,.string ⟨t.l[k].s.toArray⟩,.slice a5 t.l[k].keys.length c5,.slice a6 t.l[k].l.length c6] 25)):=fb _ _ _;have NBK:Ll (((wr.alloc (.cells #[.int .i64 t.l[k].kind,.int .i64 t.l[k].n,.string ⟨t.l[k].s.toArray⟩,.slice a5 t.l[k].keys.length c5,.slice a6 t.l[k].l.length c6] 25)).alloc (.cells #[.string ⟨t.keys[k].toArray⟩] 9)).heap[wr.heap.size+1]?=some (.cells #[.string ⟨t.keys[k].toArray⟩] 9)):=et _ _ _;refine hK.out _ _ (SOc.o.drew HF.o) (fun LJ=>?_);clear hK K;replace LI:=LJ;clear LJ;try simp only[Act.put,Mt,Mu,Mv]
      refine OL [4] ?_;refine TD 4 (fun K hK=>?_) ?_
      ·have OEd:=aa OEc.o.drew;have NBd:Ll ((((wr.alloc (.cells #[.int .i64 t.l[k].kind,.int .i64 t.l[k].n,.string ⟨t.l[k].s.toArray⟩,.slice a5 t.l[k].keys.length c5,.slice a6 t.l[k].l.length c6] 25)).alloc (.cells #[.string ⟨t.keys[k].toArray⟩] 9)).drew).heap[wr.heap.size+1]?=some (.cells #[.string ⟨t.keys[k].toArray⟩] 9)):=aa NBK.o;refine m8 (by rfl) (.tmp 21) (.tmp 23) 22 (by rfl) _ _ rfl rfl _ (fun ty=>OEd.o.key NBd.o hnk (by exact hBc) ty) (fun v9 W9 hR=>?_);obtain⟨ho9,hg9,gK,cK,rfl⟩:=hR;replace SOc:=aa (LI.grown HF.o hg9 (fun g e=>(OEd.o.kown g e).1));refine hK.out _ _ SOc.o (fun LJ=>?_);replace NBV:=aa (TO ((by exact(NBV.o):(((wr.alloc (.cells #[.int .i64 t.l[k].kind,.int .i64 t.l[k].n,.string ⟨t.l[k].s.toArray⟩,.slice a5 t.l[k].keys.length c5,.slice a6 t.l[k].l.length c6] 25)).alloc (.cells #[.string ⟨t.keys[k].toArray⟩] 9)).drew).heap[wr.heap.size]?=some (.cells #[.int .i64 t.l[k].kind,.int .i64 t.l[k].n,.string ⟨t.l[k].s.toArray⟩,.slice a5 t.l[k].keys.length c5,.slice a6 t.l[k].l.length c6] 25))) hg9 (fun e=>by have:=LK.o _ e.symm;omega));replace OEc:=aa ho9;replace hBc:=MH (by exact hBc) hg9.size;clear ho9 hg9 OEd NBd;clear hK K;replace LI:=LJ;clear LJ;try simp only[Act.put,Mt,Mu,Mv]
       refine OJ 14 ?_ [15,16,17] LI ?_ ?_;rotate_left
       ·intro wS LN;go_simp;all_goals with_reducible rfl
       try simp only[av,List.set]
       refine OL [13] ?_;refine TD 13 (fun K hK=>?_) ?_
       ·have OEd:=aa OEc.o;have HY2:=aa (HY.o.bel OEd.o.below);have NBd:=aa NBV.o;refine m8 (by rfl) (.tmp 26) (.tmp 32) 23 (by rfl) _ _ rfl rfl _ (fun ty=>OEd.o.item NBd.o HY2.o hnl (by exact hBc) ty) (fun v9 W9 hR=>?_);obtain⟨ho9,hg9,gV,cV,rfl⟩:=hR;replace SOc:=aa (LI.grown HF.o hg9 (fun g e=>(OEd.o.lown g e).1));refine hK.out _ _ SOc.o (fun LJ=>?_);replace OEc:=aa ho9;replace hBc:=MH (by exact hBc) hg9.size;clear ho9 hg9 OEd NBd;clear hK K;replace LI:=LJ;clear LJ;try simp only[Act.put,Mt,Mu,Mv]
        obtain⟨o0,o1,o2,o3,o4,f0,f1,f2,f3,f4⟩:=LI.1.c;have HE:=aa LI;clear LI;refine OO 15 (fun K hK=>?_);go_simp;refine hK.out _ _ ?_;clear hK K;try simp only[Act.put,Mt,Mu,Mv]
        refine OO 16 (fun K hK=>?_);go_simp;refine hK.out _ _ ?_;clear hK K;try simp only[Act.put,Mt,Mu,Mv]
        refine OO 17 (fun K hK=>?_);go_simp;refine hK.out _ _ ?_;clear hK K;try simp only[Act.put,Mt,Mu,Mv]
        refine dn (by kernel_rfl) ?_;go_wp2_with fail
        go_roundg (t.keys.length - (k+1))
        case measure=>rw[GK.o];omega
        case rel=>exact⟨k+1,hlt,rfl,by go_num,UJ HL.o hlt hlt' HNE.o HPS.o HE.o (by have h9:=OEc.o;simp only[List.length_map]at h9;exact h9)⟩
       exact nl
      exact nl
     exact nl
    exact nl
  ·have Mc:k=t.keys.length:=by omega
   subst Mc;have d1:¬(t.keys.length:Int) < (t.keys.length:Int):=by omega
   obtain⟨ps,kv,lv,i1,i2,i3,i4⟩:=II.o;have i5:ps=U2 key (t.keys.zip t.l):=by
    rw[<-i3,List.drop_eq_nil_of_le (by simp;omega)];simp[U2]
   have hpl:ps.length<=100000:=by
    have h1:(U2 key (t.keys.zip t.l)).length<=(t.keys.zip t.l).length:=List.length_filter_le _ _;rw[i5];simp at h1;omega
   have hmk:∀ x∈ps.map Prod.fst,x.length<=maxLen:=by
    intro x hx;rw[List.mem_map]at hx;obtain⟨p,hp,rfl⟩:=hx;rw[i5]at hp;have:=(List.of_mem_zip (List.mem_filter.1 hp).1).1;exact VV.o.2.mem _ this
   have M:=aa (i2.made hmk (by rw[List.length_map];omega) (by rw[List.length_map];omega));have E:Ll ((⟨5,0,[],ps.map Prod.fst,ps.map Prod.snd⟩:V)=bH t key):=aa (by rw[i5];exact U9 OB.o key);have gs:=aI wr (w.heap.size+1) (.int .i64 5) (.int .i64 0) (.string ⟨#[]⟩) kv lv;have ZB:Ll _:=aa (i1.2.1.2.set (.int .i64 5) (.int .i64 0) (.string ⟨#[]⟩) kv lv);have Z:Ll (bu (ar wr (w.heap.size+1) (.int .i64 5) (.int .i64 0) (.string ⟨#[]⟩) kv lv) (bQ ok w.heap.size) (d+1) (bH t key) (.agg #[.int .i64 5,.int .i64 0,.string ⟨#[]⟩,kv,lv])/\La w (ar wr (w.heap.size+1) (.int .i64 5) (.int .i64 0) (.string ⟨#[]⟩) kv lv)):=aa (by
    have hs:OE w ok (w.heap.size+2+1) d (ps.map Prod.fst) (ps.map Prod.snd) kv lv (ar wr (w.heap.size+1) (.int .i64 5) (.int .i64 0) (.string ⟨#[]⟩) kv lv):=((((i2.set (by omega) (by omega) _ _).set (by omega) (by omega) _ _).set (by omega) (by omega) _ _).set (by omega) (by omega) _ _).set (by omega) (by omega) _ _;refine⟨?_,hs.below⟩;rw[<-E.o];exact hs.made hmk (by rw[List.length_map];omega) (by rw[List.length_map];omega))
   obtain⟨n1,n2,n3,n4,hk1,hk2⟩:=i2.forms;rw[List.length_map]at hk1 hk2;subst hk1;subst hk2;obtain⟨o0,o1,o2,o3,o4,-⟩:=i1.1.c;have z0_:=i1.2.1.2.c;clear gs i1 i2 i3 i4 i5 hpl hmk;go_wp2_with fail
   have q0_:=ZB.o.c;refine MM (v:=.agg #[.int .i64 5,.int .i64 0,.string ⟨#[]⟩,.slice n1 ps.length n2,.slice n3 ps.length n4]) ?_ rfl ?_
   ·simp only[ar]at q0_;simp[results,results98,go_sem,q0_]
   ·exact⟨_,rfl,Z.o.1,Z.o.2⟩
theorem UT(w:LC)(ok:Nat->Prop)(t:V)(v:Value)(key:Lz)(h:In w ok t v)(ho:Ob t)(hl:t.l.length<=100000):Calls prog 98 #[v,aR key] w fun e w'=>∃ r,e=.returned r/\In w' (bQ ok w.heap.size) (bH t key) r/\La w w':=by
 obtain⟨d,h⟩:=h.at;refine(UW w ok d t v key h ho hl).mono ?_;rintro e w' ⟨r,rfl,hr,hb⟩;exact⟨r,rfl,hr.is,hb⟩
end
section
attribute [local go_sem ↓] Go.wp_at_zero Go.wp_at_succ
theorem VD:∀ (ns:List Lz) (w:LC) (ok okn:Nat->Prop) (t x:V) (v xv nv:Value),In w ok t v->In w ok x xv->ao w okn ns nv->fL t->bN t<=90000 ->
 Calls prog 40 #[v,nv,xv] w fun e w'=>∃ r,e=.returned r/\In w' (bQ ok w.heap.size) (TF ns t x) r/\La w w':=by
 intro ns;induction ns with
 | nil=>
  intro w ok okn t x v xv nv h hx hnv hob hcn;have HT:=aa h.low;have HX:=aa hx.low;obtain⟨na,nc,rfl⟩:=hnv.form;obtain⟨a1,b1,c1,d1,rfl⟩:=h.form;obtain⟨a2,b2,c2,d2,rfl⟩:=hx.form;clear h hx hnv hob hcn;rw[List.length_nil];by_cases hb:t.kind=5/\x.kind=5
  ·have e1:(t.kind == 5)=true:=by simp[hb.1]
   have e2:(x.kind == 5)=true:=by simp[hb.2]
   have RES:Ll (TF [] t x=t):=aa (by rw[TF,if_pos hb]);have BA:Ll (La w (((w.alloc (.cells #[.int .i64 t.kind,.int .i64 t.n,.string ⟨t.s.toArray⟩,.slice a1 t.keys.length c1,.slice b1 t.l.length d1] 25)).alloc (.cells #[.int .i64 x.kind,.int .i64 x.n,.string ⟨x.s.toArray⟩,.slice a2 x.keys.length c2,.slice b2 x.l.length d2] 25)).alloc (.cells #[.int .i64 t.kind,.int .i64 t.n,.string ⟨t.s.toArray⟩,.slice a1 t.keys.length c1,.slice b1 t.l.length d1] 25))):=aa (ab (ab (ae _ _) (ae _ _)) (ae _ _));have ZB:Ll (ag (((w.alloc (.cells #[.int .i64 t.kind,.int .i64 t.n,.string ⟨t.s.toArray⟩,.slice a1 t.keys.length c1,.slice b1 t.l.length d1] 25)).alloc (.cells #[.int .i64 x.kind,.int .i64 x.n,.string ⟨x.s.toArray⟩,.slice a2 x.keys.length c2,.slice b2 x.l.length d2] 25)).alloc (.cells #[.int .i64 t.kind,.int .i64 t.n,.string ⟨t.s.toArray⟩,.slice a1 t.keys.length c1,.slice b1 t.l.length d1] 25)) (w.heap.size+2) (.int .i64 t.kind) (.int .i64 t.n) (.string ⟨t.s.toArray⟩) (.slice a1 t.keys.length c1) (.slice b1 t.l.length d1)):=aa (jI _ _ _ _);have OI:=aa (HT.o.bel BA.o);clear hb;go_enter func40,ntmps40;go_wp2_with fail
   have z0_:=ZB.o.c;refine MM (v:=.agg #[.int .i64 t.kind,.int .i64 t.n,.string ⟨t.s.toArray⟩,.slice a1 t.keys.length c1,.slice b1 t.l.length d1]) ?_ rfl ?_
   ·simp[results,results40,go_sem,z0_]
   ·exact⟨_,rfl,by rw[RES.o];exact OI.o.weak fun k hk=>.inl hk.1,BA.o⟩
  ·have RES:Ll (TF [] t x=x):=aa (by rw[TF,if_neg hb]);have e9:(t.kind == 5)=false\/(t.kind == 5)=true/\(x.kind == 5)=false:=by
    by_cases h9:t.kind=5
    ·exact .inr ⟨by simp[h9],by rw[MO];exact fun h8=>hb ⟨h9,h8⟩⟩
    ·exact .inl (by rw[MO];exact h9)
   rcases e9 with e1 | ⟨e1,e2⟩
   all_goals
    have BA:Ll (La w (((w.alloc (.cells #[.int .i64 t.kind,.int .i64 t.n,.string ⟨t.s.toArray⟩,.slice a1 t.keys.length c1,.slice b1 t.l.length d1] 25)).alloc (.cells #[.int .i64 x.kind,.int .i64 x.n,.string ⟨x.s.toArray⟩,.slice a2 x.keys.length c2,.slice b2 x.l.length d2] 25)).alloc (.cells #[.int .i64 x.kind,.int .i64 x.n,.string ⟨x.s.toArray⟩,.slice a2 x.keys.length c2,.slice b2 x.l.length d2] 25))):=aa (ab (ab (ae _ _) (ae _ _)) (ae _ _));have ZB:Ll (ag (((w.alloc (.cells #[.int .i64 t.kind,.int .i64 t.n,.string ⟨t.s.toArray⟩,.slice a1 t.keys.length c1,.slice b1 t.l.length d1] 25)).alloc (.cells #[.int .i64 x.kind,.int .i64 x.n,.string ⟨x.s.toArray⟩,.slice a2 x.keys.length c2,.slice b2 x.l.length d2] 25)).alloc (.cells #[.int .i64 x.kind,.int .i64 x.n,.string ⟨x.s.toArray⟩,.slice a2 x.keys.length c2,.slice b2 x.l.length d2] 25)) (w.heap.size+2) (.int .i64 x.kind) (.int .i64 x.n) (.string ⟨x.s.toArray⟩) (.slice a2 x.keys.length c2) (.slice b2 x.l.length d2)):=aa (jI _ _ _ _);have OI:=aa (HX.o.bel BA.o);clear hb;go_enter func40,ntmps40;go_wp2_with fail
    have z0_:=ZB.o.c;refine MM (v:=.agg #[.int .i64 x.kind,.int .i64 x.n,.string ⟨x.s.toArray⟩,.slice a2 x.keys.length c2,.slice b2 x.l.length d2]) ?_ rfl ?_
    ·simp[results,results40,go_sem,z0_]
    ·exact⟨_,rfl,by rw[RES.o];exact OI.o.weak fun k hk=>.inl hk.1,BA.o⟩
 | cons n ns ih=>
 intro w ok okn t x v xv nv h hx hnv hob hcn;have IH:=aa ih;obtain⟨nb,no,nc,rfl,hcl,hnl,hnc,hnn⟩:=qm hnv;have hn1:=hnv.1;unfold maxLen at hn1;have NV:=aa hnv;have NL:=aa hnn;have NC0:=aa hnc;have HT:=aa h.low;have HX:=aa hx.low;obtain⟨a1,b1,c1,d1,rfl⟩:=h.form;obtain⟨a2,b2,c2,d2,rfl⟩:=hx.form;have RLA:Ll (∀ o,o=cD t->TF (n :: ns) t x=aG o n (TF ns ((aS o n).getD aM) x)/\Ob o/\o.l.length<=100000/\fL ((aS o n).getD aM)/\bN ((aS o n).getD aM)<=90000):=aa (fun o ho=>by
  subst ho;rw[kC];refine⟨rfl,hob.obOf,?_,lV hob n,MH (Ab t n) hcn⟩;have h1:=zT (cD t);have h2:=rO t;omega)
 clear h hx hnv hnc ih hob hcn hnn;simp only[My]at hcl hn1 hnl ⊢;by_cases hk:t.kind=5
 ·have e0:(t.kind != 5)=false:=by simp[hk]
  have e00:(t.kind == 5)=true:=by simp[hk]
  obtain⟨o,ho⟩:∃ o,o=cD t:=⟨_,rfl⟩
  have hot:o=t:=by rw[ho];simp[cD,hk]
  obtain⟨R3,R4,R5,R6,R7⟩:=RLA.o o ho;clear RLA;subst hot;obtain⟨was,hwas⟩:∃ x,(aS o n).getD aM=x:=⟨_,rfl⟩
  obtain⟨th,hth⟩:∃ x,(aS o n).isSome=x:=⟨_,rfl⟩
  rw[hwas]at R3 R6 R7;have HWAS:=aa hwas;have HTH:=aa hth;have RMA:=aa R3;have PO:=aa R4;have LO:=aa R5;have OW:=aa R6;have CW:=aa R7;clear R3 R4 R5 R6 R7 hwas hth;obtain⟨WV,hWV⟩:∃ W,W=((w.alloc (.cells #[.int .i64 o.kind,.int .i64 o.n,.string ⟨o.s.toArray⟩,.slice a1 o.keys.length c1,.slice b1 o.l.length d1] 25)).alloc (.cells #[.int .i64 x.kind,.int .i64 x.n,.string ⟨x.s.toArray⟩,.slice a2 x.keys.length c2,.slice b2 x.l.length d2] 25)).alloc (.cells #[.int .i64 0,.int .i64 0,.string ⟨#[]⟩,.slice none 0 0,.slice none 0 0] 25):=⟨_,rfl⟩
  have BA:Ll (La w WV):=aa (by rw[hWV];exact ab (ab (ae _ _) (ae _ _)) (ae _ _));have VB:Ll (ag WV w.heap.size (.int .i64 o.kind) (.int .i64 o.n) (.string ⟨o.s.toArray⟩) (.slice a1 o.keys.length c1) (.slice b1 o.l.length d1)):=aa (by rw[hWV];exact lI _ _ _ _);have XB:Ll (ag WV (w.heap.size+1) (.int .i64 x.kind) (.int .i64 x.n) (.string ⟨x.s.toArray⟩) (.slice a2 x.keys.length c2) (.slice b2 x.l.length d2)):=aa (by rw[hWV];exact mE _ _ _ _);have RB0:Ll (ag WV (w.heap.size+2) (.int .i64 0) (.int .i64 0) (.string ⟨#[]⟩) (.slice none 0 0) (.slice none 0 0)):=aa (by rw[hWV];exact jI _ _ _ _);have SA:Ll (w.heap.size+3<=WV.heap.size):=aa (by rw[hWV];simp);have OI:=aa (HT.o.bel BA.o);have XI:=aa (HX.o.bel BA.o);have NC:=aa (ah BA.o NC0.o);have NT:Ll (ao WV okn ns (.slice (some ⟨nb,no+1,none⟩) ns.length (nc - 1))):=aa ((gt NV.o).bel BA.o);have HWV:=aa hWV;clear hWV hk ho;obtain⟨mc,rfl⟩:∃ mc,nc=mc+1:=⟨nc - 1,by omega⟩
  have NTL:Ll (ao WV okn ns (.slice (if mc=0 then some ⟨nb,no,none⟩ else some ⟨nb,no+1,none⟩) ns.length mc)):=aa (by
   have:=NT.o;simp only[Nat.add_sub_cancel]at this;split
   ·have e:ns=[]:=List.length_eq_zero_iff.1 (by omega);subst e;rename_i h0;subst h0;exact⟨by simp,.inl ⟨rfl,_,rfl⟩⟩
   ·exact this)
  have g1:(((ns.length:Int)+1) == 0)=false:=by rw[MO];omega
  have g2:(ns.length:Int)+1<=(mc:Int)+1:=by omega
  have g3:(1:Int)<=(ns.length:Int)+1:=by omega
  have g5:(0:Int) < (ns.length:Int)+1:=by omega
  go_enter func40,ntmps40;go_upto_region 7 with fail
  rw[<-HWV.o];go_cut [7,8] (fun pv bv wc=>∃ (g7:Nat) (a3 b3:Option Addr) (c3 d3:Nat),pv=.pointer (some ⟨g7,0,none⟩)/\bv=.bool th/\(ag wc g7 (.int .i64 was.kind) (.int .i64 was.n) (.string ⟨was.s.toArray⟩) (.slice a3 was.keys.length c3) (.slice b3 was.l.length d3)/\WV.heap.size<=g7/\La WV wc/\In wc (Lj ok w) was (.agg #[.int .i64 was.kind,.int .i64 was.n,.string ⟨was.s.toArray⟩,.slice a3 was.keys.length c3,.slice b3 was.l.length d3])))
  case first=>
   refine aD (fun wS=>La WV wS) [9] (by kernel_rfl) (aC _ 1) (fun LI=>?_);refine WT.out ?_;iterate 4
    first
     | refine OJ 0 ?_ [4,5,6,7,9,10] LI ?_ ?_
     | refine OJ 1 ?_ [2,3,4,5,6,7,9,10] LI ?_ ?_
     | refine OJ 2 ?_ [3,4,5,6,7,9,10] LI ?_ ?_
     | refine OJ 3 ?_ [4,5,6,7,9,10] LI ?_ ?_
    rotate_left
    ·intro wS LN;have u0_:=(af LN VB.o).c;have nm:=ah LN NC.o;go_simp;all_goals with_reducible rfl
    simp only[av,List.set]
   repeat' (first
    | exact nl
    |(refine TD 4 (fun K hK=>?_) ?_
      go_simp;refine(GX _ (Lj ok w) o _ n (by exact OI.o.bel LI)).mono ?_;rintro e w4q ⟨rv,rfl,hb5,hr5⟩;rw[HWAS.o]at hr5;rw[HTH.o];obtain⟨a3,b3,c3,d3,rfl⟩:=hr5.form;refine hK.out _ _ (ab LI hb5) (fun LJ=>?_);have WI:=aa hr5;try replace NB:=aa (af hb5 NB.o)
      have Ma:Ll True:=aa trivial;clear hb5 hr5;clear hK K;replace LI:=LJ;clear LJ;try simp only[Act.put,Mt,Mu,Mv])
    |(refine TD 8 (fun K hK=>?_) ?_
      go_simp;refine hK.out _ _ (ab LI (ae _ _)) (fun LJ=>?_);have NB:=aa (yl LI);first | (have c9:=Ma.o;clear c9;have FINA:=aa (tc LI WI.o)) | skip
      clear hK K;replace LI:=LJ;clear LJ;try simp only[Act.put,Mt,Mu,Mv])
    |(refine OO 9 (fun K hK=>?_)
      try rw[show (World.drew WV).heap.size=WV.heap.size from rfl]at NB
      have n0_:=NB.o.c;first | (have c9:=FINA.o;clear c9) | (have FINB:=aa (sX (g:=WV.heap.size) LI (MG _) NB.o WI.o (fun k hk=>by have h9:=hk.2;have:=SA.o;omega)))
      go_simp;refine hK.out _ _ ?_;clear hK K;try simp only[Act.put,Mt,Mu,Mv])
    |(refine OO 10 (fun K hK=>?_)
      go_simp;refine hK.out _ _ ?_;clear hK K;try simp only[Act.put,Mt,Mu,Mv])
    |(first
       | refine OJ 5 ?_ [6,7,9,10] (by exact LI) ?_ ?_
       | refine OJ 6 ?_ [9,10] (by exact LI) ?_ ?_
      rotate_left
      ·intro wS LN;go_simp;all_goals with_reducible rfl
      simp only[av,List.set])
    |(refine Pm 7 ?_ (by exact LI) ?_ ?_
      rotate_left
      ·intro wS;go_simp;all_goals with_reducible rfl
      simp only[av,List.set])
    | refine OL [4,8] ?_
    | refine OL [8] ?_
    | refine OL [4] ?_
    | fail)
   all_goals
    refine dn (by kernel_rfl) ?_;go_wp2_with fail
    go_meet
    case rel=>first | exact⟨_,_,_,_,_,rfl,rfl,FINA.o⟩ | exact⟨_,_,_,_,_,rfl,rfl,FINB.o⟩
  case rest=>
   obtain⟨g7,a3,b3,c3,d3,rfl,rfl,hcW,hcG,hcB,hcI⟩:=hcut;have WB:=aa hcW;have BWC:=aa hcB;have WCI:=aa hcI;have SC:Ll (w.heap.size+3<=wc.heap.size):=aa (MH SA.o hcB.size);have BC:=aa (ab BA.o hcB);replace VB:=aa (af hcB VB.o);replace XB:=aa (af hcB XB.o);have RB:=aa (af hcB RB0.o);replace NC:=aa (ah hcB NC.o);clear hcW hcG hcB hcI;obtain⟨u,hu⟩:∃ u,TF ns was x=u:=⟨_,rfl⟩
   obtain⟨y,hy⟩:∃ y,aG o n u=y:=⟨_,rfl⟩
   have RES:Ll (TF (n :: ns) o x=y):=aa (by rw[<-hy,<-hu];exact RMA.o);have HU:=aa hu;have HY:=aa hy;clear hu hy;go_upto_region 8 with fail
   refine aD (fun wS=>La wc wS) [10] (by kernel_rfl) (aC _ 1) (fun LI=>?_);refine WT.out ?_;iterate 8
    first
     | refine OJ 0 ?_ [9,10] LI ?_ ?_
     | refine OJ 1 ?_ [2,3,9,10] LI ?_ ?_
     | refine OJ 2 ?_ [3,9,10] LI ?_ ?_
     | refine OJ 3 ?_ [9,10] LI ?_ ?_
     | refine OJ 4 ?_ [8,9,10] LI ?_ ?_
     | refine OJ 5 ?_ [6,8,9,10] LI ?_ ?_
     | refine OJ 6 ?_ [8,9,10] LI ?_ ?_
     | refine OJ 7 ?_ [8,9,10] LI ?_ ?_
    rotate_left
    ·intro wS LN;have u0_:=(af LN VB.o).c;obtain⟨e0,e1,e2,e3,e4,-⟩:=(af LN XB.o).c;have nm:=ah LN NC.o;have f0_:=(af LN WB.o).c;go_simp;all_goals with_reducible rfl
    simp only[av,List.set]
   repeat' (first
    | exact nl
    |(refine TD 8 (fun K hK=>?_) ?_
      go_simp;refine(IH.o _ (Lj ok w) okn was x _ _ _ (by exact WCI.o.bel LI) (by exact(XI.o.bel BWC.o).bel LI) (by exact(NTL.o.bel BWC.o).bel LI) OW.o CW.o).mono ?_;rintro e w8q ⟨rv,rfl,hr5,hb5⟩;rw[HU.o]at hr5;obtain⟨a5,b5,c5,d5,rfl⟩:=hr5.form;refine hK.out _ _ (ab LI hb5) (fun LJ=>?_);have UI:=aa hr5;have HB8:=aa LI;have HS8:=aa LI.size;clear hb5 hr5;clear hK K;replace LI:=LJ;clear LJ;try simp only[Act.put,Mt,Mu,Mv])
    |(refine TD 9 (fun K hK=>?_) ?_
      go_simp;refine(Uq _ (bQ (Lj ok w) wc.heap.size) o u _ _ n (by exact tT ((OI.o.bel BWC.o).bel LI)) (by exact UI.o.weak fun k hk=>hk.imp id fun h9=>MH HS8.o h9) PO.o LO.o NL.o).mono ?_;rintro e w9q ⟨rv,rfl,hr5,hb5⟩;rw[HY.o]at hr5;obtain⟨a4,b4,c4,d4,rfl⟩:=hr5.form;refine hK.out _ _ (ab LI hb5) (fun LJ=>?_);have YI:Ll (In _ (bg ok w.heap.size wc.heap.size) y _):=aa (hr5.weak fun k hk=>by rcases hk with hk | hk;exact hk;exact Or.inr (MH LI.size hk));clear hb5 hr5;clear hK K;replace LI:=LJ;clear LJ;try simp only[Act.put,Mt,Mu,Mv])
    |(refine OO 10 (fun K hK=>?_)
      have HB:=aa (af LI RB.o);have n0_:=HB.o.c;have ZB:=aa (HB.o.set (.int .i64 y.kind) (.int .i64 y.n) (.string ⟨y.s.toArray⟩) (.slice a4 y.keys.length c4) (.slice b4 y.l.length d4));have Z:=aa (cY (w:=w) (ok:=ok) (C:=wc.heap.size) (g:=(w.heap.size+2)) YI.o (ab BC.o LI) (by omega) (by have:=SC.o;omega));go_simp;refine hK.out _ _ ?_;clear hK K;try simp only[Act.put,Mt,Mu,Mv])
    | refine OL [8] ?_
    | refine OL [9] ?_
    | fail)
   all_goals
    refine dn (by kernel_rfl) ?_;go_wp2_with fail
    all_goals
     have z0_:=ZB.o.c;refine MM (v:=.agg #[.int .i64 y.kind,.int .i64 y.n,.string ⟨y.s.toArray⟩,.slice a4 y.keys.length c4,.slice b4 y.l.length d4]) ?_ rfl ?_
     ·simp only[ar]at z0_;simp[results,results40,go_sem,z0_]
     ·exact⟨_,rfl,by rw[RES.o];exact Z.o.2,Z.o.1⟩
 ·have e0:(t.kind != 5)=true:=by simp[hk]
  have e00:(t.kind == 5)=false:=by rw[MO];exact hk
  obtain⟨o,ho⟩:∃ o,o=cD t:=⟨_,rfl⟩
  have hot:o=jM:=by rw[ho];simp[cD,hk]
  obtain⟨R3,R4,R5,R6,R7⟩:=RLA.o o ho;clear RLA;obtain⟨was,hwas⟩:∃ x,(aS o n).getD aM=x:=⟨_,rfl⟩
  obtain⟨th,hth⟩:∃ x,(aS o n).isSome=x:=⟨_,rfl⟩
  rw[hwas]at R3 R6 R7;have HWAS:=aa hwas;have HTH:=aa hth;have RMA:=aa R3;have PO:=aa R4;have LO:=aa R5;have OW:=aa R6;have CW:=aa R7;clear R3 R4 R5 R6 R7 hwas hth;obtain⟨WV,hWV⟩:∃ W,W=((w.alloc (.cells #[.int .i64 5,.int .i64 0,.string ⟨#[]⟩,.slice none 0 0,.slice none 0 0] 25)).alloc (.cells #[.int .i64 x.kind,.int .i64 x.n,.string ⟨x.s.toArray⟩,.slice a2 x.keys.length c2,.slice b2 x.l.length d2] 25)).alloc (.cells #[.int .i64 0,.int .i64 0,.string ⟨#[]⟩,.slice none 0 0,.slice none 0 0] 25):=⟨_,rfl⟩
  have BA:Ll (La w WV):=aa (by rw[hWV];exact ab (ab (ae _ _) (ae _ _)) (ae _ _));obtain⟨a1,ha1⟩:∃ a:Option Addr,a=none:=⟨_,rfl⟩
  obtain⟨b1,hb1⟩:∃ a:Option Addr,a=none:=⟨_,rfl⟩
  obtain⟨c1,hc1⟩:∃ a:Nat,a=0:=⟨_,rfl⟩
  obtain⟨d1,hd1⟩:∃ a:Nat,a=0:=⟨_,rfl⟩
  have VB:Ll (ag WV w.heap.size (.int .i64 o.kind) (.int .i64 o.n) (.string ⟨o.s.toArray⟩) (.slice a1 o.keys.length c1) (.slice b1 o.l.length d1)):=aa (by rw[hWV,hot,ha1,hb1,hc1,hd1];exact lI _ _ _ _);have XB:Ll (ag WV (w.heap.size+1) (.int .i64 x.kind) (.int .i64 x.n) (.string ⟨x.s.toArray⟩) (.slice a2 x.keys.length c2) (.slice b2 x.l.length d2)):=aa (by rw[hWV];exact mE _ _ _ _);have RB0:Ll (ag WV (w.heap.size+2) (.int .i64 0) (.int .i64 0) (.string ⟨#[]⟩) (.slice none 0 0) (.slice none 0 0)):=aa (by rw[hWV];exact jI _ _ _ _);have SA:Ll (w.heap.size+3<=WV.heap.size):=aa (by rw[hWV];simp);have OI:Ll (In WV (Lj ok w) o (.agg #[.int .i64 o.kind,.int .i64 o.n,.string ⟨o.s.toArray⟩,.slice a1 o.keys.length c1,.slice b1 o.l.length d1])):=aa (by rw[hot,ha1,hb1,hc1,hd1];exact Ac WV _ 5 0 (by unfold dW;simp) (by unfold dW;simp));have XI:=aa (HX.o.bel BA.o);have NC:=aa (ah BA.o NC0.o);have NT:Ll (ao WV okn ns (.slice (some ⟨nb,no+1,none⟩) ns.length (nc - 1))):=aa ((gt NV.o).bel BA.o);have HWV:=aa hWV;clear hWV hk ho hot ha1 hb1 hc1 hd1;obtain⟨mc,rfl⟩:∃ mc,nc=mc+1:=⟨nc - 1,by omega⟩
  have NTL:Ll (ao WV okn ns (.slice (if mc=0 then some ⟨nb,no,none⟩ else some ⟨nb,no+1,none⟩) ns.length mc)):=aa (by
   have:=NT.o;simp only[Nat.add_sub_cancel]at this;split
   ·have e:ns=[]:=List.length_eq_zero_iff.1 (by omega);subst e;rename_i h0;subst h0;exact⟨by simp,.inl ⟨rfl,_,rfl⟩⟩
   ·exact this)
  have g1:(((ns.length:Int)+1) == 0)=false:=by rw[MO];omega
  have g2:(ns.length:Int)+1<=(mc:Int)+1:=by omega
  have g3:(1:Int)<=(ns.length:Int)+1:=by omega
  have g5:(0:Int) < (ns.length:Int)+1:=by omega
  go_enter func40,ntmps40;go_upto_region 7 with fail
  rw[<-HWV.o];go_cut [7,8] (fun pv bv wc=>∃ (g7:Nat) (a3 b3:Option Addr) (c3 d3:Nat),pv=.pointer (some ⟨g7,0,none⟩)/\bv=.bool th/\(ag wc g7 (.int .i64 was.kind) (.int .i64 was.n) (.string ⟨was.s.toArray⟩) (.slice a3 was.keys.length c3) (.slice b3 was.l.length d3)/\WV.heap.size<=g7/\La WV wc/\In wc (Lj ok w) was (.agg #[.int .i64 was.kind,.int .i64 was.n,.string ⟨was.s.toArray⟩,.slice a3 was.keys.length c3,.slice b3 was.l.length d3])))
  case first=>
   refine aD (fun wS=>La WV wS) [9] (by kernel_rfl) (aC _ 1) (fun LI=>?_);refine WT.out ?_;iterate 4
    first
     | refine OJ 0 ?_ [4,5,6,7,9,10] LI ?_ ?_
     | refine OJ 1 ?_ [2,3,4,5,6,7,9,10] LI ?_ ?_
     | refine OJ 2 ?_ [3,4,5,6,7,9,10] LI ?_ ?_
     | refine OJ 3 ?_ [4,5,6,7,9,10] LI ?_ ?_
    rotate_left
    ·intro wS LN;have u0_:=(af LN VB.o).c;have nm:=ah LN NC.o;go_simp;all_goals with_reducible rfl
    simp only[av,List.set]
   repeat' (first
    | exact nl
    |(refine TD 4 (fun K hK=>?_) ?_
      go_simp;refine(GX _ (Lj ok w) o _ n (by exact OI.o.bel LI)).mono ?_;rintro e w4q ⟨rv,rfl,hb5,hr5⟩;rw[HWAS.o]at hr5;rw[HTH.o];obtain⟨a3,b3,c3,d3,rfl⟩:=hr5.form;refine hK.out _ _ (ab LI hb5) (fun LJ=>?_);have WI:=aa hr5;try replace NB:=aa (af hb5 NB.o)
      have Ma:Ll True:=aa trivial;clear hb5 hr5;clear hK K;replace LI:=LJ;clear LJ;try simp only[Act.put,Mt,Mu,Mv])
    |(refine TD 8 (fun K hK=>?_) ?_
      go_simp;refine hK.out _ _ (ab LI (ae _ _)) (fun LJ=>?_);have NB:=aa (yl LI);first | (have c9:=Ma.o;clear c9;have FINA:=aa (tc LI WI.o)) | skip
      clear hK K;replace LI:=LJ;clear LJ;try simp only[Act.put,Mt,Mu,Mv])
    |(refine OO 9 (fun K hK=>?_)
      try rw[show (World.drew WV).heap.size=WV.heap.size from rfl]at NB
      have n0_:=NB.o.c;first | (have c9:=FINA.o;clear c9) | (have FINB:=aa (sX (g:=WV.heap.size) LI (MG _) NB.o WI.o (fun k hk=>by have h9:=hk.2;have:=SA.o;omega)))
      go_simp;refine hK.out _ _ ?_;clear hK K;try simp only[Act.put,Mt,Mu,Mv])
    |(refine OO 10 (fun K hK=>?_)
      go_simp;refine hK.out _ _ ?_;clear hK K;try simp only[Act.put,Mt,Mu,Mv])
    |(first
       | refine OJ 5 ?_ [6,7,9,10] (by exact LI) ?_ ?_
       | refine OJ 6 ?_ [9,10] (by exact LI) ?_ ?_
      rotate_left
      ·intro wS LN;go_simp;all_goals with_reducible rfl
      simp only[av,List.set])
    |(refine Pm 7 ?_ (by exact LI) ?_ ?_
      rotate_left
      ·intro wS;go_simp;all_goals with_reducible rfl
      simp only[av,List.set])
    | refine OL [4,8] ?_
    | refine OL [8] ?_
    | refine OL [4] ?_
    | fail)
   all_goals
    refine dn (by kernel_rfl) ?_;go_wp2_with fail
    go_meet
    case rel=>first | exact⟨_,_,_,_,_,rfl,rfl,FINA.o⟩ | exact⟨_,_,_,_,_,rfl,rfl,FINB.o⟩
  case rest=>
   obtain⟨g7,a3,b3,c3,d3,rfl,rfl,hcW,hcG,hcB,hcI⟩:=hcut;have WB:=aa hcW;have BWC:=aa hcB;have WCI:=aa hcI;have SC:Ll (w.heap.size+3<=wc.heap.size):=aa (MH SA.o hcB.size);have BC:=aa (ab BA.o hcB);replace VB:=aa (af hcB VB.o);replace XB:=aa (af hcB XB.o);have RB:=aa (af hcB RB0.o);replace NC:=aa (ah hcB NC.o);clear hcW hcG hcB hcI;obtain⟨u,hu⟩:∃ u,TF ns was x=u:=⟨_,rfl⟩
   obtain⟨y,hy⟩:∃ y,aG o n u=y:=⟨_,rfl⟩
   have RES:Ll (TF (n :: ns) t x=y):=aa (by rw[<-hy,<-hu];exact RMA.o);have HU:=aa hu;have HY:=aa hy;clear hu hy;go_upto_region 8 with fail
   refine aD (fun wS=>La wc wS) [10] (by kernel_rfl) (aC _ 1) (fun LI=>?_);refine WT.out ?_;iterate 8
    first
     | refine OJ 0 ?_ [9,10] LI ?_ ?_
     | refine OJ 1 ?_ [2,3,9,10] LI ?_ ?_
     | refine OJ 2 ?_ [3,9,10] LI ?_ ?_
     | refine OJ 3 ?_ [9,10] LI ?_ ?_
     | refine OJ 4 ?_ [8,9,10] LI ?_ ?_
     | refine OJ 5 ?_ [6,8,9,10] LI ?_ ?_
     | refine OJ 6 ?_ [8,9,10] LI ?_ ?_
     | refine OJ 7 ?_ [8,9,10] LI ?_ ?_
    rotate_left
    ·intro wS LN;have u0_:=(af LN VB.o).c;obtain⟨e0,e1,e2,e3,e4,-⟩:=(af LN XB.o).c;have nm:=ah LN NC.o;have f0_:=(af LN WB.o).c;go_simp;all_goals with_reducible rfl
    simp only[av,List.set]
   repeat' (first
    | exact nl
    |(refine TD 8 (fun K hK=>?_) ?_
      go_simp;refine(IH.o _ (Lj ok w) okn was x _ _ _ (by exact WCI.o.bel LI) (by exact(XI.o.bel BWC.o).bel LI) (by exact(NTL.o.bel BWC.o).bel LI) OW.o CW.o).mono ?_;rintro e w8q ⟨rv,rfl,hr5,hb5⟩;rw[HU.o]at hr5;obtain⟨a5,b5,c5,d5,rfl⟩:=hr5.form;refine hK.out _ _ (ab LI hb5) (fun LJ=>?_);have UI:=aa hr5;have HB8:=aa LI;have HS8:=aa LI.size;clear hb5 hr5;clear hK K;replace LI:=LJ;clear LJ;try simp only[Act.put,Mt,Mu,Mv])
    |(refine TD 9 (fun K hK=>?_) ?_
      go_simp;refine(Uq _ (bQ (Lj ok w) wc.heap.size) o u _ _ n (by exact tT ((OI.o.bel BWC.o).bel LI)) (by exact UI.o.weak fun k hk=>hk.imp id fun h9=>MH HS8.o h9) PO.o LO.o NL.o).mono ?_;rintro e w9q ⟨rv,rfl,hr5,hb5⟩;rw[HY.o]at hr5;obtain⟨a4,b4,c4,d4,rfl⟩:=hr5.form;refine hK.out _ _ (ab LI hb5) (fun LJ=>?_);have YI:Ll (In _ (bg ok w.heap.size wc.heap.size) y _):=aa (hr5.weak fun k hk=>by rcases hk with hk | hk;exact hk;exact Or.inr (MH LI.size hk));clear hb5 hr5;clear hK K;replace LI:=LJ;clear LJ;try simp only[Act.put,Mt,Mu,Mv])
    |(refine OO 10 (fun K hK=>?_)
      have HB:=aa (af LI RB.o);have n0_:=HB.o.c;have ZB:=aa (HB.o.set (.int .i64 y.kind) (.int .i64 y.n) (.string ⟨y.s.toArray⟩) (.slice a4 y.keys.length c4) (.slice b4 y.l.length d4));have Z:=aa (cY (w:=w) (ok:=ok) (C:=wc.heap.size) (g:=(w.heap.size+2)) YI.o (ab BC.o LI) (by omega) (by have:=SC.o;omega));go_simp;refine hK.out _ _ ?_;clear hK K;try simp only[Act.put,Mt,Mu,Mv])
    | refine OL [8] ?_
    | refine OL [9] ?_
    | fail)
   all_goals
    refine dn (by kernel_rfl) ?_;go_wp2_with fail
    all_goals
     have z0_:=ZB.o.c;refine MM (v:=.agg #[.int .i64 y.kind,.int .i64 y.n,.string ⟨y.s.toArray⟩,.slice a4 y.keys.length c4,.slice b4 y.l.length d4]) ?_ rfl ?_
     ·simp only[ar]at z0_;simp[results,results40,go_sem,z0_]
     ·exact⟨_,rfl,by rw[RES.o];exact Z.o.2,Z.o.1⟩
end
section
def TU:List Lz->V->V
 | [],v=>v
 | [n],v=>bH v n
 | n :: m :: ns,v=>aG v n (TU (m :: ns) ((aS v n).getD aM))
attribute [local go_sem ↓] Go.wp_at_zero Go.wp_at_succ
theorem Vk:∀ (ns:List Lz) (w:LC) (ok okn:Nat->Prop) (o:V) (v nv:Value),In w ok o v->ao w okn ns nv->ns≠[]->fL o->(∃ y,dr ns o=some y)->bN o<=90000 ->
 Calls prog 70 #[v,nv] w fun e w'=>∃ r,e=.returned r/\In w' (bQ ok w.heap.size) (TU ns o) r/\La w w':=by
 intro ns;induction ns with
 | nil=>intro w ok okn o v nv _ _ h;exact absurd rfl h
 | cons n ns ih=>
 intro w ok okn o v nv h hnv _ hob hth hcn;have IH:=aa ih;obtain⟨nb,no,nc,rfl,hcl,hnl,hnc,hnn⟩:=qm hnv;have hn1:=hnv.1;unfold maxLen at hn1;have NV:=aa hnv;have NL:=aa hnn;have NC0:=aa hnc;have HT:=aa h.low;have OBT:=aa hob;have CT:=aa hcn;have TH:=aa hth;obtain⟨a1,b1,c1,d1,rfl⟩:=h.form;have hk5:o.kind=5:=by obtain⟨y,hy⟩:=hth;exact(gB hy).1
 have PO:=aa (hob.ob hk5);have LO:Ll (o.l.length<=100000):=aa (by have:=zT o;omega);clear h hnv hnc ih hob hcn hnn hth hk5;obtain⟨WV,hWV⟩:∃ W,W=(w.alloc (.cells #[.int .i64 o.kind,.int .i64 o.n,.string ⟨o.s.toArray⟩,.slice a1 o.keys.length c1,.slice b1 o.l.length d1] 25)).alloc (.cells #[.int .i64 0,.int .i64 0,.string ⟨#[]⟩,.slice none 0 0,.slice none 0 0] 25):=⟨_,rfl⟩
 have BA:Ll (La w WV):=aa (by rw[hWV];exact ab (ae _ _) (ae _ _));have VB:Ll (ag WV w.heap.size (.int .i64 o.kind) (.int .i64 o.n) (.string ⟨o.s.toArray⟩) (.slice a1 o.keys.length c1) (.slice b1 o.l.length d1)):=aa (by rw[hWV];exact fb _ _ _);have RB0:Ll (ag WV (w.heap.size+1) (.int .i64 0) (.int .i64 0) (.string ⟨#[]⟩) (.slice none 0 0) (.slice none 0 0)):=aa (by rw[hWV];exact et _ _ _);have SA:Ll (w.heap.size+2<=WV.heap.size):=aa (by rw[hWV];simp);have OI:=aa (HT.o.bel BA.o);have NC:=aa (ah BA.o NC0.o);have NT:Ll (ao WV okn ns (.slice (some ⟨nb,no+1,none⟩) ns.length (nc - 1))):=aa ((gt NV.o).bel BA.o);have HWV:=aa hWV;clear hWV;cases ns with
 | nil=>
  obtain⟨y,hy⟩:∃ y,bH o n=y:=⟨_,rfl⟩
  have HY:=aa hy;have RES:Ll (TU [n] o=y):=aa (by rw[<-hy];rfl);clear hy;have RB:=RB0;have BC:=BA;have SC:=SA;go_enter func70,ntmps70;go_upto_region 2 with fail
  rw[<-HWV.o];refine aD (fun wS=>La WV wS) [5] (by kernel_rfl) (aC _ 1) (fun LI=>?_);refine WT.out ?_;iterate 4
   first
    | refine OJ 0 ?_ [4,5] LI ?_ ?_
    | refine OJ 1 ?_ [2,3,4,5] LI ?_ ?_
    | refine OJ 2 ?_ [3,4,5] LI ?_ ?_
    | refine OJ 3 ?_ [4,5] LI ?_ ?_
   rotate_left
   ·intro wS LN;have u0_:=(af LN VB.o).c;have nm:=ah LN NC.o;go_simp;all_goals with_reducible rfl
   simp only[av,List.set]
  repeat' (first
   | exact nl
   |(refine TD 4 (fun K hK=>?_) ?_
     go_simp;refine(UT _ (Lj ok w) o _ n (by exact OI.o.bel LI) PO.o LO.o).mono ?_;rintro e w4q ⟨rv,rfl,hr5,hb5⟩;rw[HY.o]at hr5;obtain⟨a4,b4,c4,d4,rfl⟩:=hr5.form;refine hK.out _ _ (ab LI hb5) (fun LJ=>?_);have YI:=aa (jr (D:=WV.heap.size) hr5 LI.size);clear hb5 hr5;clear hK K;replace LI:=LJ;clear LJ;try simp only[Act.put,Mt,Mu,Mv])
   |(refine OO 5 (fun K hK=>?_)
     have HB:=aa (af LI RB.o);have n0_:=HB.o.c;have ZB:=aa (HB.o.set (.int .i64 y.kind) (.int .i64 y.n) (.string ⟨y.s.toArray⟩) (.slice a4 y.keys.length c4) (.slice b4 y.l.length d4));have Z:=aa (cY (w:=w) (ok:=ok) (C:=WV.heap.size) (g:=(w.heap.size+1)) YI.o (ab BC.o LI) (by omega) (by have:=SC.o;omega));go_simp;refine hK.out _ _ ?_;clear hK K;try simp only[Act.put,Mt,Mu,Mv])
   | refine OL [4] ?_
   | fail)
  all_goals
   refine dn (by kernel_rfl) ?_;go_wp2_with fail
   all_goals
    have z0_:=ZB.o.c;refine MM (v:=.agg #[.int .i64 y.kind,.int .i64 y.n,.string ⟨y.s.toArray⟩,.slice a4 y.keys.length c4,.slice b4 y.l.length d4]) ?_ rfl ?_
    ·simp only[ar]at z0_;simp[results,results70,go_sem,z0_]
    ·exact⟨_,rfl,by rw[RES.o];exact Z.o.2,Z.o.1⟩
 | cons m ns=>
  obtain⟨was,hwas⟩:∃ x,(aS o n).getD aM=x:=⟨_,rfl⟩
  obtain⟨th,hth⟩:∃ x,(aS o n).isSome=x:=⟨_,rfl⟩
  obtain⟨u,hu⟩:∃ u,TU (m :: ns) was=u:=⟨_,rfl⟩
  obtain⟨y,hy⟩:∃ y,aG o n u=y:=⟨_,rfl⟩
  have RES:Ll (TU (n :: m :: ns) o=y):=aa (by rw[TU,hwas,hu,hy]);have HU:=aa hu;have HY:=aa hy;have OW:Ll (fL was):=aa (by rw[<-hwas];exact lV OBT.o n);have CW:Ll (bN was<=90000):=aa (by rw[<-hwas];exact MH (Ab o n) CT.o);have TW:Ll (∃ y,dr (m :: ns) was=some y):=aa (by
   obtain⟨y,hy⟩:=TH.o;obtain⟨-,z,hm,hz⟩:=gB hy;rw[<-hwas,hm];exact⟨y,hz⟩)
  have HWAS:=aa hwas;have HTH:=aa hth;clear hwas hth hu hy;simp only[My]at hcl hn1 hnl ⊢;obtain⟨mc,rfl⟩:∃ mc,nc=mc+2:=⟨nc - 2,by omega⟩
  have NTL:Ll (ao WV okn (m :: ns) (.slice (some ⟨nb,no+1,none⟩) (ns.length+1) (mc+1))):=aa (by have:=NT.o;simpa using this);have g1:(((ns.length:Int)+1+1) == 1)=false:=by rw[MO];omega
  have g2:(ns.length:Int)+1+1<=(mc:Int)+2:=by omega
  have g3:(1:Int)<=(ns.length:Int)+1+1:=by omega
  have g5:(0:Int) < (ns.length:Int)+1+1:=by omega
  go_enter func70,ntmps70;go_upto_region 3 with fail
  rw[<-HWV.o];go_cut [5,6] (fun pv bv wc=>∃ (g7:Nat) (a3 b3:Option Addr) (c3 d3:Nat),pv=.pointer (some ⟨g7,0,none⟩)/\bv=.bool th/\(ag wc g7 (.int .i64 was.kind) (.int .i64 was.n) (.string ⟨was.s.toArray⟩) (.slice a3 was.keys.length c3) (.slice b3 was.l.length d3)/\WV.heap.size<=g7/\La WV wc/\In wc (Lj ok w) was (.agg #[.int .i64 was.kind,.int .i64 was.n,.string ⟨was.s.toArray⟩,.slice a3 was.keys.length c3,.slice b3 was.l.length d3])))
  case first=>
   refine aD (fun wS=>La WV wS) [9] (by kernel_rfl) (aC _ 1) (fun LI=>?_);refine WT.out ?_;iterate 4
    first
     | refine OJ 0 ?_ [4,5,6,7,9,10] LI ?_ ?_
     | refine OJ 1 ?_ [2,3,4,5,6,7,9,10] LI ?_ ?_
     | refine OJ 2 ?_ [3,4,5,6,7,9,10] LI ?_ ?_
     | refine OJ 3 ?_ [4,5,6,7,9,10] LI ?_ ?_
    rotate_left
    ·intro wS LN;have u0_:=(af LN VB.o).c;have nm:=ah LN NC.o;go_simp;all_goals with_reducible rfl
    simp only[av,List.set]
   repeat' (first
    | exact nl
    |(refine TD 4 (fun K hK=>?_) ?_
      go_simp;refine(GX _ (Lj ok w) o _ n (by exact OI.o.bel LI)).mono ?_;rintro e w4q ⟨rv,rfl,hb5,hr5⟩;rw[HWAS.o]at hr5;rw[HTH.o];obtain⟨a3,b3,c3,d3,rfl⟩:=hr5.form;refine hK.out _ _ (ab LI hb5) (fun LJ=>?_);have WI:=aa hr5;try replace NB:=aa (af hb5 NB.o)
      have Ma:Ll True:=aa trivial;clear hb5 hr5;clear hK K;replace LI:=LJ;clear LJ;try simp only[Act.put,Mt,Mu,Mv])
    |(refine TD 8 (fun K hK=>?_) ?_
      go_simp;refine hK.out _ _ (ab LI (ae _ _)) (fun LJ=>?_);have NB:=aa (yl LI);first | (have c9:=Ma.o;clear c9;have FINA:=aa (tc LI WI.o)) | skip
      clear hK K;replace LI:=LJ;clear LJ;try simp only[Act.put,Mt,Mu,Mv])
    |(refine OO 9 (fun K hK=>?_)
      try rw[show (World.drew WV).heap.size=WV.heap.size from rfl]at NB
      have n0_:=NB.o.c;first | (have c9:=FINA.o;clear c9) | (have FINB:=aa (sX (g:=WV.heap.size) LI (MG _) NB.o WI.o (fun k hk=>by have h9:=hk.2;have:=SA.o;omega)))
      go_simp;refine hK.out _ _ ?_;clear hK K;try simp only[Act.put,Mt,Mu,Mv])
    |(refine OO 10 (fun K hK=>?_)
      go_simp;refine hK.out _ _ ?_;clear hK K;try simp only[Act.put,Mt,Mu,Mv])
    |(first
       | refine OJ 5 ?_ [6,7,9,10] (by exact LI) ?_ ?_
       | refine OJ 6 ?_ [9,10] (by exact LI) ?_ ?_
      rotate_left
      ·intro wS LN;go_simp;all_goals with_reducible rfl
      simp only[av,List.set])
    |(refine Pm 7 ?_ (by exact LI) ?_ ?_
      rotate_left
      ·intro wS;go_simp;all_goals with_reducible rfl
      simp only[av,List.set])
    | refine OL [4,8] ?_
    | refine OL [8] ?_
    | refine OL [4] ?_
    | fail)
   all_goals
    refine dn (by kernel_rfl) ?_;go_wp2_with fail
    go_meet
    case rel=>first | exact⟨_,_,_,_,_,rfl,rfl,FINA.o⟩ | exact⟨_,_,_,_,_,rfl,rfl,FINB.o⟩
  case rest=>
   obtain⟨g7,a3,b3,c3,d3,rfl,rfl,hcW,hcG,hcB,hcI⟩:=hcut;have WB:=aa hcW;have BWC:=aa hcB;have WCI:=aa hcI;have SC:Ll (w.heap.size+2<=wc.heap.size):=aa (MH SA.o hcB.size);have BC:=aa (ab BA.o hcB);replace VB:=aa (af hcB VB.o);have RB:=aa (af hcB RB0.o);replace NC:=aa (ah hcB NC.o);clear hcW hcG hcB hcI;go_upto_region 4 with fail
   refine aD (fun wS=>La wc wS) [9] (by kernel_rfl) (aC _ 1) (fun LI=>?_);refine WT.out ?_;iterate 7
    first
     | refine OJ 0 ?_ [8,9] LI ?_ ?_
     | refine OJ 1 ?_ [2,3,8,9] LI ?_ ?_
     | refine OJ 2 ?_ [3,8,9] LI ?_ ?_
     | refine OJ 3 ?_ [8,9] LI ?_ ?_
     | refine OJ 4 ?_ [7,8,9] LI ?_ ?_
     | refine OJ 5 ?_ [6,7,8,9] LI ?_ ?_
     | refine OJ 6 ?_ [7,8,9] LI ?_ ?_
    rotate_left
    ·intro wS LN;have u0_:=(af LN VB.o).c;have nm:=ah LN NC.o;have f0_:=(af LN WB.o).c;go_simp;all_goals with_reducible rfl
    simp only[av,List.set]
   repeat' (first
    | exact nl
    |(refine TD 7 (fun K hK=>?_) ?_
      go_simp;refine(IH.o _ (Lj ok w) okn was _ _ (by exact WCI.o.bel LI) (by exact(NTL.o.bel BWC.o).bel LI) (by simp) OW.o TW.o CW.o).mono ?_;rintro e w7q ⟨rv,rfl,hr5,hb5⟩;rw[HU.o]at hr5;obtain⟨a5,b5,c5,d5,rfl⟩:=hr5.form;refine hK.out _ _ (ab LI hb5) (fun LJ=>?_);have UI:=aa hr5;have HB8:=aa LI;have HS8:=aa LI.size;clear hb5 hr5;clear hK K;replace LI:=LJ;clear LJ;try simp only[Act.put,Mt,Mu,Mv])
    |(refine TD 8 (fun K hK=>?_) ?_
      go_simp;refine(Uq _ (bQ (Lj ok w) wc.heap.size) o u _ _ n (by exact tT ((OI.o.bel BWC.o).bel LI)) (by exact UI.o.weak fun k hk=>hk.imp id fun h9=>MH HS8.o h9) PO.o LO.o NL.o).mono ?_;rintro e w8q ⟨rv,rfl,hr5,hb5⟩;rw[HY.o]at hr5;obtain⟨a4,b4,c4,d4,rfl⟩:=hr5.form;refine hK.out _ _ (ab LI hb5) (fun LJ=>?_);have YI:Ll (In _ (bg ok w.heap.size wc.heap.size) y _):=aa (hr5.weak fun k hk=>by rcases hk with hk | hk;exact hk;exact Or.inr (MH LI.size hk));clear hb5 hr5;clear hK K;replace LI:=LJ;clear LJ;try simp only[Act.put,Mt,Mu,Mv])
    |(refine OO 9 (fun K hK=>?_)
      have HB:=aa (af LI RB.o);have n0_:=HB.o.c;have ZB:=aa (HB.o.set (.int .i64 y.kind) (.int .i64 y.n) (.string ⟨y.s.toArray⟩) (.slice a4 y.keys.length c4) (.slice b4 y.l.length d4));have Z:=aa (cY (w:=w) (ok:=ok) (C:=wc.heap.size) (g:=(w.heap.size+1)) YI.o (ab BC.o LI) (by omega) (by have:=SC.o;omega));go_simp;refine hK.out _ _ ?_;clear hK K;try simp only[Act.put,Mt,Mu,Mv])
    | refine OL [7] ?_
    | refine OL [8] ?_
    | fail)
   all_goals
    refine dn (by kernel_rfl) ?_;go_wp2_with fail
    all_goals
     have z0_:=ZB.o.c;refine MM (v:=.agg #[.int .i64 y.kind,.int .i64 y.n,.string ⟨y.s.toArray⟩,.slice a4 y.keys.length c4,.slice b4 y.l.length d4]) ?_ rfl ?_
     ·simp only[ar]at z0_;simp[results,results70,go_sem,z0_]
     ·exact⟨_,rfl,by rw[RES.o];exact Z.o.2,Z.o.1⟩
end
def Ua (l:List Lz):Nat->V->V
 | 0,v=>v
 | k+1,v=>match dr (l.take (k+1)) v with
  | none=>v
  | some x=>if k+1 < l.length/\(x.kind≠5\/x.keys≠[]) then v else Ua l k (TU (l.take (k+1)) v)
theorem U4(h:Ob t)(n:Lz)(x y:V):aG (aG t n x) n y=aG t n y:=by
 refine Tw (mo (mo h n x) n y) (mo h n y) fun k=>?_;by_cases hk:k=n
 ·subst hk;rw[pQ (mo h k x).paired,pQ h.paired]
 ·rw[mJ (mo h n x).paired _ _ _ hk,mJ h.paired _ _ _ hk,mJ h.paired _ _ _ hk]
theorem UR(h:Ob t)(n:Lz)(x:V):bH (aG t n x) n=bH t n:=by
 refine Tw (ie (mo h n x) n) (ie h n) fun k=>?_;by_cases hk:k=n
 ·subst hk;rw[Ud (mo h k x).paired (nT (mo h k x).2.2.2.2),Ud h.paired (nT h.2.2.2.2)]
 ·rw[mg (mo h n x) hk,mJ h.paired _ _ _ hk,mg h hk]
theorem UF:∀ (ns:List Lz) (v:V),fL v->(∃ y,dr ns v=some y)->ns≠[]->fL (TU ns v)/\(TU ns v).kind=5
 | [],v,_,_,h=>absurd rfl h
 | [n],v,hv,⟨y,hy⟩,_=>by
  have hk:=(gB hy).1;exact⟨nU hv (hv.ob hk) n,(ie (hv.ob hk) n).1⟩
 | n :: m :: ns,v,hv,⟨y,hy⟩,_=>by
  obtain⟨hk,z,hm,hz⟩:=gB hy;have:=UF (m :: ns) z (tV hv hm) ⟨y,hz⟩ (by simp);rw[TU,hm,Option.getD_some];exact⟨vL hv (hv.ob hk) this.1 n,(mo (hv.ob hk) n _).1⟩
theorem Vh:∀ (l:List Lz) (k:Nat) (v y:V),fL v->dr (l.take (k+1)) v=some y->k < l.length->∃ x,dr (l.take k) (TU (l.take (k+1)) v)=some x
 | [],k,v,y,_,_,hk=>by simp at hk
 | n :: l,0,v,y,hv,h,_=>by
  simp only[List.take_zero,dr];exact⟨_,rfl⟩
 | n :: l,k+1,v,y,hv,h,hk=>by
  rw[List.take_succ_cons]at h ⊢;obtain⟨hvk,z,hm,hz⟩:=gB h;cases l with
  | nil=>simp at hk
  | cons m r=>
   obtain⟨x,hx⟩:=Vh (m :: r) k z y (tV hv hm) hz (by simpa using hk);rw[List.take_succ_cons]at hx ⊢;refine⟨x,?_⟩;rw[List.take_succ_cons,TU,dr,pQ (hv.ob hvk).paired,hm];simpa using hx
theorem VA(n:Lz)(l:List Lz):∀ (k:Nat) (v z:V),fL v->aS v n=some z->k+1<=l.length->(∃ x,dr (l.take (k+1)) z=some x)->Ua (n :: l) (k+2) v=Ua (n :: l) 1 (aG v n (Ua l (k+1) z)):=by
 intro k;induction k with
 | zero=>
  intro v z hv hm hk ⟨x,hx⟩;have hvk:v.kind=5:=(gB (n:=n) (ns:=[]) (y:=z) (by rw[dr,hm];rfl)).1;have ht:dr ((n :: l).take 2) v=some x:=by rw[List.take_succ_cons,dr,hm];exact hx
  rw[Ua,ht];conv=>rhs;rw[show Ua l (0+1) z=(match dr (l.take (0+1)) z with | none=>z | some x=>if 0+1 < l.length/\(x.kind≠5\/x.keys≠[]) then z else Ua l 0 (TU (l.take (0+1)) z)) from rfl,hx]
  simp only[My];cases l with
  | nil=>simp at hk
  | cons m r=>
   simp only[My]at hk ⊢;by_cases hc:0+1 < r.length+1/\(x.kind≠5\/x.keys≠[])
   ·rw[if_pos ⟨by omega,hc.2⟩,if_pos hc,Dk (hv.ob hvk) hm];have hz:=QP hx (by simp);rw[Ua,List.take_succ_cons,List.take_zero,dr,hm];simp only[Option.bind_some,dr];have hne:z.keys≠[]:=by
     intro h9;have hzk:=(gB hx).1;have:=((tV hv hm).ob hzk).2.2.2.1;rw[h9]at this;exact hz (List.length_eq_zero_iff.1 this.symm)
    rw[if_pos ⟨by simp,.inr hne⟩]
   ·rw[if_neg (fun h9=>hc ⟨by omega,h9.2⟩),if_neg hc];have e:TU ((n :: m :: r).take (0+1+1)) v=aG v n (TU ((m :: r).take (0+1)) z):=by
     rw[List.take_succ_cons,List.take_succ_cons,TU,hm,Option.getD_some]
    rw[e];rfl
 | succ k ih=>
  intro v z hv hm hk ⟨x,hx⟩;have hvk:v.kind=5:=(gB (n:=n) (ns:=[]) (y:=z) (by rw[dr,hm];rfl)).1;have ht:dr ((n :: l).take (k+3)) v=some x:=by rw[List.take_succ_cons,dr,hm];exact hx
  rw[Ua,ht];conv=>rhs;rw[show Ua l (k+1+1) z=(match dr (l.take (k+1+1)) z with | none=>z | some x=>if k+1+1 < l.length/\(x.kind≠5\/x.keys≠[]) then z else Ua l (k+1) (TU (l.take (k+1+1)) z)) from rfl,hx]
  simp only[My];cases l with
  | nil=>simp at hk
  | cons m r=>
   by_cases hc:k+1+1 < (m :: r).length/\(x.kind≠5\/x.keys≠[])
   ·rw[if_pos ⟨by have:=hc.1;simp only[My]at this;omega,hc.2⟩,if_pos hc,Dk (hv.ob hvk) hm];have hz:=QP hx (by simp);rw[Ua,List.take_succ_cons,List.take_zero,dr,hm];simp only[Option.bind_some,dr];have hne:z.keys≠[]:=by
     intro h9;have hzk:=(gB hx).1;have:=((tV hv hm).ob hzk).2.2.2.1;rw[h9]at this;exact hz (List.length_eq_zero_iff.1 this.symm)
    rw[if_pos ⟨by simp,.inr hne⟩]
   ·rw[if_neg (fun h9=>hc ⟨by simp only[My]at h9 ⊢;omega,h9.2⟩),if_neg hc];have e:TU ((n :: m :: r).take (k+2+1)) v=aG v n (TU ((m :: r).take (k+1+1)) z):=by
     rw[List.take_succ_cons,List.take_succ_cons,TU,hm,Option.getD_some]
    rw[e];have hob:=UF ((m :: r).take (k+1+1)) z (tV hv hm) ⟨x,hx⟩ (by simp);have:=ih (aG v n (TU ((m :: r).take (k+1+1)) z)) _ (vL hv (hv.ob hvk) hob.1 n) (pQ (hv.ob hvk).paired _ _) (by omega) (Vh (m :: r) (k+1) z x (tV hv hm) hx (by omega));rw[this,U4 (hv.ob hvk)]
theorem VJ:∀ (l:List Lz) (v:V),fL v->l≠[]->Ua l l.length v=if (dr l v).isSome then gI l v else v
 | [],v,_,h=>absurd rfl h
 | [n],v,hv,_=>by
  show Ua [n] (0+1) v=_;rw[Ua,show [n].take (0+1)=[n] from rfl];cases ht:dr [n] v with
  | none=>simp
  | some x=>
   simp only[Option.isSome_some,if_true];rw[if_neg (by simp)];rfl
 | n :: m :: r,v,hv,_=>by
  cases ht:dr (n :: m :: r) v with
  | none=>
   show Ua (n :: m :: r) ((m :: r).length+1) v=_;rw[Ua,show (n :: m :: r).take ((m :: r).length+1)=n :: m :: r by simp,ht];simp
  | some x=>
   obtain⟨hvk,z,hm,hz⟩:=gB ht;have hob:=hv.ob hvk;have h1:=VA n (m :: r) r.length v z hv hm (by simp) ⟨x,by rw[show (m :: r).take (r.length+1)=m :: r by simp];exact hz⟩;have h2:=VJ (m :: r) z (tV hv hm) (by simp);rw[hz]at h2;simp only[Option.isSome_some,if_true,My]at h2 ⊢;rw[show r.length+1+1=r.length+2 from rfl,h1,h2];obtain⟨hu1,hu2⟩:=tr (m :: r) z (tV hv hm) (gB hz).1 ⟨x,hz⟩;rw[if_neg (by simp)]at hu2;obtain⟨u,hu⟩:∃ u,gI (m :: r) z=u:=⟨_,rfl⟩
   rw[hu]at hu1 hu2 ⊢;have hup:=(hu1.ob hu2).2.2.2.1;rw[gI,hm,Option.getD_some,hu];rw[show (1:Nat)=0+1 from rfl,Ua,show (n :: m :: r).take (0+1)=[n] from rfl,dr,pQ hob.paired];simp only[Option.bind_some,dr];by_cases hul:u.l=[]
   ·rw[if_pos hul,if_neg]
    ·show TU [n] (aG v n u)=_;rw[TU,UR hob]
    ·rintro⟨-,h9 | h9⟩
     ·exact h9 hu2
     ·apply h9;rw[hul]at hup;exact List.length_eq_zero_iff.1 hup
   ·have hne:u.keys≠[]:=by
     intro h9;rw[h9]at hup;exact hul (List.length_eq_zero_iff.1 hup.symm)
    rw[if_neg hul,if_pos ⟨by simp,.inr hne⟩]
variable {y:V}
variable {i c:Nat}
section
theorem U3{xs:List Lz}{b off:Nat}(h:ao w ok xs (.slice (some ⟨b,off,none⟩) n c))(hi:i<=xs.length)(h0:0 < xs.length):ao w ok (xs.take i) (.slice (some ⟨b,off,none⟩) i c):=by
 have hl:=h.1;have ht:(xs.take i).length=i:=by rw[MC];omega
 refine⟨by omega,.inr ?_⟩;rcases h.2 with⟨e,_⟩ | ⟨b',off',c',e,h1,h2,h3⟩
 ·rw[e]at h0;simp at h0
 ·simp only[Value.slice.injEq,Option.some.injEq,Addr.mk.injEq]at e;obtain⟨⟨rfl,rfl,-⟩,rfl,rfl⟩:=e;refine⟨b,off,c,by rw[ht],by omega,h2,fun j x hj=>h3 j x ?_⟩;have hji:j < i:=by have:=(Mz.1 hj).1;omega
  rwa [List.getElem?_take_of_lt hji]at hj
theorem Vd:∀ (ns:List Lz) (v:V),(∃ y,dr ns v=some y)->bN (TU ns v)<=bN v
 | [],v,_=>MG _
 | [n],v,_=>lN v n
 | n :: m :: ns,v,⟨y,hy⟩=>by
  obtain⟨hk,z,hm,hz⟩:=gB hy;have h1:=Vd (m :: ns) z ⟨y,hz⟩;have h2:=su (t:=v) (k:=n) (y:=TU (m :: ns) z);rw[hm]at h2;simp only at h2;rw[TU,hm,Option.getD_some];omega
def V2 (w:LC) (ok okn:Nat->Prop) (o:V) (ns:List Lz) (nb no nc k:Nat) (wr:LC):Prop:=
 ∃ (u:V) (a2 b2:Option Addr) (c2 d2:Nat),Ua ns ns.length o=Ua ns k u/\ag wr w.heap.size (.int .i64 u.kind) (.int .i64 u.n) (.string ⟨u.s.toArray⟩) (.slice a2 u.keys.length c2) (.slice b2 u.l.length d2)/\ag wr (w.heap.size+1) (.int .i64 0) (.int .i64 0) (.string ⟨#[]⟩) (.slice none 0 0) (.slice none 0 0)/\La w wr/\In wr (bg ok w.heap.size (w.heap.size+2)) u (.agg #[.int .i64 u.kind,.int .i64 u.n,.string ⟨u.s.toArray⟩,.slice a2 u.keys.length c2,.slice b2 u.l.length d2])/\fL u/\bN u<=90000/\ao wr okn ns (.slice (some ⟨nb,no,none⟩) ns.length nc)
theorem V2.next{okn:Nat->Prop}{o:V}{ns:List Lz}{nb no nc:Nat}{a4 b4:Option Addr}{c4 d4:Nat}{e0 e1 e2 e3 e4:Value}(h:Ua ns ns.length o=Ua ns k y)(hb:ag W w.heap.size e0 e1 e2 e3 e4)(hr:ag W (w.heap.size+1) (.int .i64 0) (.int .i64 0) (.string ⟨#[]⟩) (.slice none 0 0) (.slice none 0 0))(hw:La w W)(hi:In W (bg ok w.heap.size (w.heap.size+2)) y (.agg #[.int .i64 y.kind,.int .i64 y.n,.string ⟨y.s.toArray⟩,.slice a4 y.keys.length c4,.slice b4 y.l.length d4]))(ho:fL y)(hc:bN y<=90000)(hn:ao W okn ns (.slice (some ⟨nb,no,none⟩) ns.length nc))(hkk:∀ k,okn k->k≠w.heap.size):V2 w ok okn o ns nb no nc k (ar W w.heap.size (.int .i64 y.kind) (.int .i64 y.n) (.string ⟨y.s.toArray⟩) (.slice a4 y.keys.length c4) (.slice b4 y.l.length d4)):=by
 have g1:=aI W w.heap.size (.int .i64 y.kind) (.int .i64 y.n) (.string ⟨y.s.toArray⟩) (.slice a4 y.keys.length c4) (.slice b4 y.l.length d4);refine⟨y,a4,b4,c4,d4,h,hb.set _ _ _ _ _,hr.grown g1 (by simp),aP hw (MG _) _ _ _ _ _,hi.box (MG _) (by omega) _ _ _ _ _,ho,hc,hn.imp (eJ g1 (fun k hk e=>by cases e;exact hkk _ hk rfl))⟩
attribute [local go_sem ↓] Go.wp_at_zero Go.wp_at_succ
theorem Vo(w:LC)(ok okn':Nat->Prop)(o:V)(ns:List Lz)(v nv:Value)(h:In w ok o v)(hnv:ao w okn' ns nv)(hne:ns≠[])(hob:fL o)(hcn:bN o<=90000):Calls prog 37 #[v,nv] w fun e w'=>∃ r,e=.returned r/\In w' (bQ ok w.heap.size) (if (dr ns o).isSome then gI ns o else o) r/\La w w':=by
 have RES:Ll ((if (dr ns o).isSome then gI ns o else o)=Ua ns ns.length o):=aa (VJ ns o hob hne).symm;rw[RES.o];have hpos:0 < ns.length:=List.length_pos_iff.2 hne;obtain⟨s,l,rfl⟩:∃ s l,ns=s :: l:=by cases ns with | nil=>exact absurd rfl hne | cons s l=>exact⟨s,l,rfl⟩
 obtain⟨nb,no,nc,rfl,hcl,hnl,-,-⟩:=qm hnv;obtain⟨ns,hns⟩:∃ ns,s :: l=ns:=⟨_,rfl⟩
 rw[hns]at hnv hcl hpos RES ⊢;clear hns hne;have hn1:=hnv.1;unfold maxLen at hn1;obtain⟨okn,hokn⟩:∃ okn,okn=fun k=>(okn' k/\k < w.heap.size)/\k≠w.heap.size:=⟨_,rfl⟩
 have KK:Ll (∀ k,okn k->k≠w.heap.size):=aa (by rw[hokn];exact fun k h=>h.2);have HT:=aa h.low;obtain⟨a1,b1,c1,d1,rfl⟩:=h.form;have BA:Ll (La w ((w.alloc (.cells #[.int .i64 o.kind,.int .i64 o.n,.string ⟨o.s.toArray⟩,.slice a1 o.keys.length c1,.slice b1 o.l.length d1] 25)).alloc (.cells #[.int .i64 0,.int .i64 0,.string ⟨#[]⟩,.slice none 0 0,.slice none 0 0] 25))):=aa (ab (ae _ _) (ae _ _));have S0:Ll (V2 w ok okn o ns nb no nc ns.length ((w.alloc (.cells #[.int .i64 o.kind,.int .i64 o.n,.string ⟨o.s.toArray⟩,.slice a1 o.keys.length c1,.slice b1 o.l.length d1] 25)).alloc (.cells #[.int .i64 0,.int .i64 0,.string ⟨#[]⟩,.slice none 0 0,.slice none 0 0] 25))):=aa ⟨o,a1,b1,c1,d1,rfl,fb _ _ _,et _ _ _,BA.o,uK (HT.o.bel BA.o),hob,hcn,by
  rw[hokn];exact hnv.imp fun a x h1 h2=>⟨⟨⟨h1,World.block_lt_of_cell? w a h2⟩,by have:=World.block_lt_of_cell? w a h2;omega⟩,ah BA.o h2⟩⟩
 clear h hnv hob hcn;go_enter func37,ntmps37;go_wp2_with fail
 go_loopg [5] ns.length (fun gk i wr=>∃ k:Nat,k<=ns.length/\gk=k/\i=.int .i64 k/\V2 w ok okn o ns nb no nc k wr)
 case atStart=>exact⟨ns.length,MG _,rfl,rfl,S0.o⟩
 case round=>
  obtain⟨k,hk,hgk,rfl,u,a2,b2,c2,d2,i1,i2,i3,i4,i5,i6,i7,i8⟩:=hrel;have GK:=aa hgk;have VB:=aa i2;have RB:=aa i3;have BW:=aa i4;have UI0:=aa i5;have UI:=aa i5.low;have OU:=aa i6;have CU:=aa i7;have NV:=aa i8;clear hgk i2 i3 i4 i5 i6 i7 i8;cases k with
  | zero=>
   have R:Ll (Ua ns ns.length o=u):=aa (by rw[i1];rfl);clear i1;have d9:¬(0:Int) < ((0:Nat):Int):=by omega
   have v0_:=VB.o.c;have n0_:=RB.o.c;have ZB:=aa (RB.o.set (.int .i64 u.kind) (.int .i64 u.n) (.string ⟨u.s.toArray⟩) (.slice a2 u.keys.length c2) (.slice b2 u.l.length d2));have Z:=aa (cY (w:=w) (ok:=ok) (C:=w.heap.size+2) (g:=(w.heap.size+1)) UI0.o BW.o (by omega) (by omega));go_wp2_with fail
   have z0_:=ZB.o.c;refine MM (v:=.agg #[.int .i64 u.kind,.int .i64 u.n,.string ⟨u.s.toArray⟩,.slice a2 u.keys.length c2,.slice b2 u.l.length d2]) ?_ rfl ?_
   ·simp only[ar]at z0_;simp[results,results37,go_sem,z0_]
   ·exact⟨_,rfl,by rw[R.o];exact Z.o.2,Z.o.1⟩
  | succ k=>
   have R:Ll (Ua ns ns.length o=Ua ns (k+1) u):=aa i1;clear i1;have NT:Ll (ao wr okn (ns.take (k+1)) (.slice (some ⟨nb,no,none⟩) (k+1) nc)):=aa (U3 NV.o hk hpos);have TKN:Ll (ns.take (k+1)≠[]):=aa (fun e=>by
    have h9:(ns.take (k+1)).length=k+1:=by rw[MC];omega
    rw[e]at h9;simp at h9)
   obtain⟨x,hx⟩:∃ x,(dr (ns.take (k+1)) u).getD aM=x:=⟨_,rfl⟩
   obtain⟨th,hth⟩:∃ x,(dr (ns.take (k+1)) u).isSome=x:=⟨_,rfl⟩
   have RA:Ll ((th=false->Ua ns (k+1) u=u)/\(th=true->dr (ns.take (k+1)) u=some x/\((k+1 < ns.length/\(x.kind≠5\/x.keys≠[]))->Ua ns (k+1) u=u)/\(¬(k+1 < ns.length/\(x.kind≠5\/x.keys≠[]))->Ua ns (k+1) u=Ua ns k (TU (ns.take (k+1)) u)))):=aa (by
    rw[Ua];cases ht:dr (ns.take (k+1)) u with
    | none=>rw[ht]at hth;exact⟨fun _=>rfl,fun h9=>(by rw[h9]at hth;cases hth)⟩
    | some z=>
     rw[ht]at hth hx;have hzx:z=x:=hx;subst hzx;exact⟨fun h9=>(by rw[h9]at hth;cases hth),fun _=>⟨rfl,fun hc=>if_pos hc,fun hc=>if_neg hc⟩⟩)
   have HX:=aa hx;have HTH:=aa hth;clear hx hth;have w1:(0:Int) < ((k:Int)+1):=by omega
   have w2:((k:Int)+1)<=(nc:Int):=by omega
   have w3:(0:Int)<=((k:Int)+1):=by omega
   go_upto_region 4 with fail
   go_cut [6,7] (fun pv bv wc=>∃ (g7:Nat) (a3 b3:Option Addr) (c3 d3:Nat),pv=.pointer (some ⟨g7,0,none⟩)/\bv=.bool th/\(ag wc g7 (.int .i64 x.kind) (.int .i64 x.n) (.string ⟨x.s.toArray⟩) (.slice a3 x.keys.length c3) (.slice b3 x.l.length d3)/\wr.heap.size<=g7/\La wr wc/\In wc (fun k=>bg ok w.heap.size (w.heap.size+2) k/\k < wr.heap.size) x (.agg #[.int .i64 x.kind,.int .i64 x.n,.string ⟨x.s.toArray⟩,.slice a3 x.keys.length c3,.slice b3 x.l.length d3])))
   case first=>
    refine aD (fun wS=>La wr wS) [9] (by kernel_rfl) (aC _ 1) (fun LI=>?_);refine WT.out ?_;iterate 4
     first
      | refine OJ 0 ?_ [4,5,6,7,9,10] LI ?_ ?_
      | refine OJ 1 ?_ [3,4,5,6,7,9,10] LI ?_ ?_
      | refine OJ 2 ?_ [3,4,5,6,7,9,10] LI ?_ ?_
      | refine OJ 3 ?_ [4,5,6,7,9,10] LI ?_ ?_
     rotate_left
     ·intro wS LN;have u0_:=(af LN VB.o).c;go_simp;all_goals with_reducible rfl
     simp only[av,List.set]
    repeat' (first
     | exact nl
     |(refine TD 4 (fun K hK=>?_) ?_
       go_simp;refine(gv (ns.take (k+1)) _ (fun k=>bg ok w.heap.size (w.heap.size+2) k/\k < wr.heap.size) okn u _ _ (by exact UI.o.bel LI) (by exact NT.o.bel LI)).mono ?_;rintro e w4q ⟨rv,rfl,hb5,hr5⟩;rw[HX.o]at hr5;rw[HTH.o];obtain⟨a3,b3,c3,d3,rfl⟩:=hr5.form;refine hK.out _ _ (ab LI hb5) (fun LJ=>?_);have WI:=aa hr5;try replace NB:=aa (af hb5 NB.o)
       have Ma:Ll True:=aa trivial;clear hb5 hr5;clear hK K;replace LI:=LJ;clear LJ;try simp only[Act.put,Mt,Mu,Mv])
     |(refine TD 8 (fun K hK=>?_) ?_
       go_simp;refine hK.out _ _ (ab LI (ae _ _)) (fun LJ=>?_);have NB:=aa (yl LI);first | (have c9:=Ma.o;clear c9;have FINA:=aa (tc LI WI.o)) | skip
       clear hK K;replace LI:=LJ;clear LJ;try simp only[Act.put,Mt,Mu,Mv])
     |(refine OO 9 (fun K hK=>?_)
       try rw[show (World.drew wr).heap.size=wr.heap.size from rfl]at NB
       have n0_:=NB.o.c;first | (have c9:=FINA.o;clear c9) | (have FINB:=aa (sX (g:=wr.heap.size) LI (MG _) NB.o WI.o (fun k hk=>hk.2)))
       go_simp;refine hK.out _ _ ?_;clear hK K;try simp only[Act.put,Mt,Mu,Mv])
     |(refine OO 10 (fun K hK=>?_)
       go_simp;refine hK.out _ _ ?_;clear hK K;try simp only[Act.put,Mt,Mu,Mv])
     |(first
        | refine OJ 5 ?_ [6,7,9,10] (by exact LI) ?_ ?_
        | refine OJ 6 ?_ [9,10] (by exact LI) ?_ ?_
       rotate_left
       ·intro wS LN;go_simp;all_goals with_reducible rfl
       simp only[av,List.set])
     |(refine Pm 7 ?_ (by exact LI) ?_ ?_
       rotate_left
       ·intro wS;go_simp;all_goals with_reducible rfl
       simp only[av,List.set])
     | refine OL [4,8] ?_
     | refine OL [8] ?_
     | refine OL [4] ?_
     | fail)
    all_goals
     refine dn (by kernel_rfl) ?_;go_wp2_with fail
     go_meet
     case rel=>first | exact⟨_,_,_,_,_,rfl,rfl,FINA.o⟩ | exact⟨_,_,_,_,_,rfl,rfl,FINB.o⟩
   case rest=>
    obtain⟨g7,a3,b3,c3,d3,rfl,rfl,hcW,hcG,hcB,hcI⟩:=hcut;have XB:=aa hcW;have BWC:=aa hcB;have BC:=aa (ab BW.o hcB);have SC:Ll (w.heap.size+2<=wc.heap.size):=aa (by have h9:=(MF.1 RB.o).1;have:=hcB.size;omega);have VC:=aa (af hcB VB.o);have RC2:=aa (af hcB RB.o);have UC0:=aa (UI0.o.bel hcB);clear hcW hcG hcB hcI;obtain⟨x0,x1,x2,x3,x4,-⟩:=XB.o.c;have STOP:Ll (Ua ns (k+1) u=u->∀ W,W=ar wc (w.heap.size+1) (.int .i64 u.kind) (.int .i64 u.n) (.string ⟨u.s.toArray⟩) (.slice a2 u.keys.length c2) (.slice b2 u.l.length d2)->ag W (w.heap.size+1) (.int .i64 u.kind) (.int .i64 u.n) (.string ⟨u.s.toArray⟩) (.slice a2 u.keys.length c2) (.slice b2 u.l.length d2)/\La w W/\In W (bQ ok w.heap.size) (Ua ns ns.length o) (.agg #[.int .i64 u.kind,.int .i64 u.n,.string ⟨u.s.toArray⟩,.slice a2 u.keys.length c2,.slice b2 u.l.length d2])):=aa (fun h9 W hW=>by
     have Z:=cY (w:=w) (ok:=ok) (C:=w.heap.size+2) (g:=(w.heap.size+1)) UC0.o BC.o (by omega) (by omega);rw[hW,R.o,h9];exact⟨RC2.o.set _ _ _ _ _,Z.1,Z.2⟩)
    cases th with
    | false=>
     have STP:=aa (RA.o.1 rfl);clear RA;have v0_:=VC.o.c;have n0_:=RC2.o.c;have ZZ:=aa (STOP.o STP.o _ rfl);go_wp2_with fail
     have z0_:=ZZ.o.1.c;refine MM (v:=.agg #[.int .i64 u.kind,.int .i64 u.n,.string ⟨u.s.toArray⟩,.slice a2 u.keys.length c2,.slice b2 u.l.length d2]) ?_ rfl ?_
     ·simp only[ar]at z0_;simp[results,results37,go_sem,z0_]
     ·exact⟨_,rfl,ZZ.o.2.2,ZZ.o.2.1⟩
    | true=>
     have RB9:=aa (RA.o.2 rfl);clear RA;have TW:Ll (∃ y,dr (ns.take (k+1)) u=some y):=aa ⟨_,RB9.o.1⟩;have cs:(k+1 < ns.length/\(x.kind != 5)=true)\/(k+1 < ns.length/\(x.kind != 5)=false/\x.keys≠[])\/(k+1 < ns.length/\(x.kind != 5)=false/\x.keys=[])\/¬k+1 < ns.length:=by
      by_cases h1:k+1 < ns.length
      ·by_cases h2:x.kind=5
       ·by_cases h3:x.keys=[]
        ·exact .inr (.inr (.inl ⟨h1,by simp[h2],h3⟩))
        ·exact .inr (.inl ⟨h1,by simp[h2],h3⟩)
       ·exact .inl ⟨h1,by simp[h2]⟩
      ·exact .inr (.inr (.inr h1))
     rcases cs with⟨q1,q2⟩ | ⟨q1,q2,q3⟩ | cs
     ·have STP:Ll (Ua ns (k+1) u=u):=aa (RB9.o.2.1 ⟨q1,.inl (by simpa using q2)⟩);have r1:((k:Int)+1) < (ns.length:Int):=by omega
      have r2:(x.kind == 5)=false:=by rw[MO];simpa using q2
      clear q1;have v0_:=VC.o.c;have n0_:=RC2.o.c;have ZZ:=aa (STOP.o STP.o _ rfl);go_wp2_with fail
      have z0_:=ZZ.o.1.c;refine MM (v:=.agg #[.int .i64 u.kind,.int .i64 u.n,.string ⟨u.s.toArray⟩,.slice a2 u.keys.length c2,.slice b2 u.l.length d2]) ?_ rfl ?_
      ·simp only[ar]at z0_;simp[results,results37,go_sem,z0_]
      ·exact⟨_,rfl,ZZ.o.2.2,ZZ.o.2.1⟩
     ·have STP:Ll (Ua ns (k+1) u=u):=aa (RB9.o.2.1 ⟨q1,.inr q3⟩);have r1:((k:Int)+1) < (ns.length:Int):=by omega
      have r2:(x.kind == 5)=true:=by simpa using q2
      have r3:(0:Int) < (x.keys.length:Int):=by have:=List.length_pos_iff.2 q3;omega
      clear q1 q3;have v0_:=VC.o.c;have n0_:=RC2.o.c;have ZZ:=aa (STOP.o STP.o _ rfl);go_wp2_with fail
      have z0_:=ZZ.o.1.c;refine MM (v:=.agg #[.int .i64 u.kind,.int .i64 u.n,.string ⟨u.s.toArray⟩,.slice a2 u.keys.length c2,.slice b2 u.l.length d2]) ?_ rfl ?_
      ·simp only[ar]at z0_;simp[results,results37,go_sem,z0_]
      ·exact⟨_,rfl,ZZ.o.2.2,ZZ.o.2.1⟩
     obtain⟨y,hy⟩:∃ y,TU (ns.take (k+1)) u=y:=⟨_,rfl⟩
     have HRES:Ll (Ua ns ns.length o=Ua ns k y):=aa (by
      rw[R.o,<-hy];refine RB9.o.2.2 fun h9=>?_;rcases cs with⟨-,q2,q3⟩ | q1
      ·rcases h9.2 with h8 | h8
       ·exact h8 (by simpa using q2)
       ·exact h8 q3
      ·exact q1 h9.1)
     have OY:Ll (fL y):=aa (by rw[<-hy];exact(UF _ _ OU.o TW.o TKN.o).1);have CY:Ll (bN y<=90000):=aa (by rw[<-hy];exact MH (Vd _ _ TW.o) CU.o);have HY:=aa hy;clear hy;rcases cs with⟨q1,q2,q3⟩ | q1
     ·have r1:((k:Int)+1) < (ns.length:Int):=by omega
      have r2:(x.kind == 5)=true:=by simpa using q2
      rw[q3]at x3;have r3:¬(0:Int) < ((0:Nat):Int):=by omega
      clear q1 q3;go_upto_region 7 with fail
      refine aD (fun wS=>La wc wS) [5] (by kernel_rfl) (aC _ 1) (fun LI=>?_);refine WT.out ?_;iterate 4
       first
        | refine OJ 0 ?_ [4,5] LI ?_ ?_
        | refine OJ 1 ?_ [3,4,5] LI ?_ ?_
        | refine OJ 2 ?_ [3,4,5] LI ?_ ?_
        | refine OJ 3 ?_ [4,5] LI ?_ ?_
       rotate_left
       ·intro wS LN;have u0_:=(af LN VC.o).c;go_simp;all_goals with_reducible rfl
       simp only[av,List.set]
      repeat' (first
       | exact nl
       |(refine TD 4 (fun K hK=>?_) ?_
         go_simp;refine(Vk (ns.take (k+1)) _ (fun k=>bg ok w.heap.size (w.heap.size+2) k/\k < wr.heap.size) okn u _ _ (by exact(UI.o.bel BWC.o).bel LI) (by exact(NT.o.bel BWC.o).bel LI) TKN.o OU.o TW.o CU.o).mono ?_;rintro e w4q ⟨rv,rfl,hr5,hb5⟩;rw[HY.o]at hr5;obtain⟨a4,b4,c4,d4,rfl⟩:=hr5.form;refine hK.out _ _ (ab LI hb5) (fun LJ=>?_);have YI:Ll (In _ (bg ok w.heap.size (w.heap.size+2)) y _):=aa (hr5.weak fun k hk=>by rcases hk with hk | hk;exact hk.1;exact Or.inr (MH SC.o (MH LI.size hk)));clear hb5 hr5;clear hK K;replace LI:=LJ;clear LJ;try simp only[Act.put,Mt,Mu,Mv])
       |(refine OO 5 (fun K hK=>?_)
         have HB:=aa (af LI VC.o);have HRB:=aa (af LI RC2.o);have HHH:=aa (ab BC.o LI);have n0_:=HB.o.c;have FIN:Ll (V2 w ok okn o ns nb no nc k _):=aa (V2.next (w:=w) (ok:=ok) (okn:=okn) (o:=o) (ns:=ns) (nb:=nb) (no:=no) (nc:=nc) (k:=k) (by exact HRES.o) (by exact HB.o) (by exact HRB.o) (by exact HHH.o) (by exact YI.o) (by exact OY.o) (by exact CY.o) (by exact((NV.o.bel BWC.o).bel LI)) KK.o);go_simp;refine hK.out _ _ ?_;clear hK K;try simp only[Act.put,Mt,Mu,Mv])
       | refine OL [4] ?_
       | fail)
      all_goals
       refine dn (by kernel_rfl) ?_;go_wp2_with fail
       go_roundg k
       case measure=>rw[GK.o];omega
       case rel=>exact⟨k,by omega,rfl,by go_num,by exact FIN.o⟩
     ·have r1:¬((k:Int)+1) < (ns.length:Int):=by omega
      clear q1;go_upto_region 7 with fail
      refine aD (fun wS=>La wc wS) [5] (by kernel_rfl) (aC _ 1) (fun LI=>?_);refine WT.out ?_;iterate 4
       first
        | refine OJ 0 ?_ [4,5] LI ?_ ?_
        | refine OJ 1 ?_ [3,4,5] LI ?_ ?_
        | refine OJ 2 ?_ [3,4,5] LI ?_ ?_
        | refine OJ 3 ?_ [4,5] LI ?_ ?_
       rotate_left
       ·intro wS LN;have u0_:=(af LN VC.o).c;go_simp;all_goals with_reducible rfl
       simp only[av,List.set]
      repeat' (first
       | exact nl
       |(refine TD 4 (fun K hK=>?_) ?_
         go_simp;refine(Vk (ns.take (k+1)) _ (fun k=>bg ok w.heap.size (w.heap.size+2) k/\k < wr.heap.size) okn u _ _ (by exact(UI.o.bel BWC.o).bel LI) (by exact(NT.o.bel BWC.o).bel LI) TKN.o OU.o TW.o CU.o).mono ?_;rintro e w4q ⟨rv,rfl,hr5,hb5⟩;rw[HY.o]at hr5;obtain⟨a4,b4,c4,d4,rfl⟩:=hr5.form;refine hK.out _ _ (ab LI hb5) (fun LJ=>?_);have YI:Ll (In _ (bg ok w.heap.size (w.heap.size+2)) y _):=aa (hr5.weak fun k hk=>by rcases hk with hk | hk;exact hk.1;exact Or.inr (MH SC.o (MH LI.size hk)));clear hb5 hr5;clear hK K;replace LI:=LJ;clear LJ;try simp only[Act.put,Mt,Mu,Mv])
       |(refine OO 5 (fun K hK=>?_)
         have HB:=aa (af LI VC.o);have HRB:=aa (af LI RC2.o);have HHH:=aa (ab BC.o LI);have n0_:=HB.o.c;have FIN:Ll (V2 w ok okn o ns nb no nc k _):=aa (V2.next (w:=w) (ok:=ok) (okn:=okn) (o:=o) (ns:=ns) (nb:=nb) (no:=no) (nc:=nc) (k:=k) (by exact HRES.o) (by exact HB.o) (by exact HRB.o) (by exact HHH.o) (by exact YI.o) (by exact OY.o) (by exact CY.o) (by exact((NV.o.bel BWC.o).bel LI)) KK.o);go_simp;refine hK.out _ _ ?_;clear hK K;try simp only[Act.put,Mt,Mu,Mv])
       | refine OL [4] ?_
       | fail)
      all_goals
       refine dn (by kernel_rfl) ?_;go_wp2_with fail
       go_roundg k
       case measure=>rw[GK.o];omega
       case rel=>exact⟨k,by omega,rfl,by go_num,by exact FIN.o⟩
end
end Go.Proofs.YtbdlfclnkpofaaaGreatDoor
