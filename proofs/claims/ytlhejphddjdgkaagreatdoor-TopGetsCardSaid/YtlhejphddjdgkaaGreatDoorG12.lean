/- Whatever it is handed, TopGets answers true and leaves all as it was. Its conditions: a text or a list takes at most 2^47 - 4096 bytes; the listed package-level variables hold what the program's text lays (the card ties them, over a pruned copy of the project). -/
import Derived.Test.YtlhejphddjdgkaaGreatDoorG11
set_option maxRecDepth 100000
set_option maxHeartbeats 40000000
set_option linter.unusedSimpArgs false
set_option linter.unusedVariables false
namespace Go.Proofs.YtlhejphddjdgkaaGreatDoor
open Go.RowKit
open _root_.Go.Proofs.Tryz
theorem yK(s:Nu)(a:cm):(dD s a).1.acts=s.acts:=by
 unfold dD;simp only;split
 ·rfl
 ·split
  ·split
   ·split <;> rfl
   ·split
    ·rfl
    ·split
     ·split <;> rfl
     ·split
      ·rfl
      ·split
       ·rfl
       ·split <;> rfl
  ·split <;> rfl
theorem Hv{s:Nu}{a:cm}(h:s.acts≠300):(je s a).1.acts=s.acts+1:=by
 unfold je;rw[if_neg h];simp only;split
 ·rfl
 ·split
  ·unfold iz;split <;> rfl
  ·split
   ·rfl
   ·exact yK _ _
theorem ur(l:List cm):∀ k,k<=100->k<=l.length->(oQ l k).acts=k
 | 0,_,_=>rfl
 | k+1,h,hk=>by
  have ih:=ur l k (by omega) (by omega);rw[uD (Mw (show k < l.length by omega)),Hv (by rw[ih];omega),ih];rfl
theorem Fc(w S v)(q:cm)(r:uf):Calls prog 5 #[.pointer (some ⟨S,0,none⟩),v,.agg (Lf q),.agg #[.int .i64 r.code,.int .i64 r.n,.string ⟨r.body.toArray⟩]] w fun e w'=>e=.returned (.bool true)/\La w w':=by
 go_enter func5,ntmps5;go_wp2
 go_ret;exact⟨rfl,ab (ae _ _) (ae _ _)⟩
theorem zk(a:LC)(l:List cm)(S0):Jf a l S0 5 #[] (fun _ _=>True):=
 ⟨fun _ _ _ _ _=>trivial,fun _ _ _ _ _ _ _ _ _=>trivial,fun k q W S v was _ _ _ hL _ _=>(Fc W S was q _).mono fun e w' h=>⟨h.1,hL.more h.2,trivial⟩⟩
theorem sM:∀ args w,(callFunc 5 args).run prog w=.ok (.enter 5 args) w:=enters_of func5 (by kernel_rfl) rfl
theorem pD(a w)(l:List cm)(v)(hb:La a w)(hl:fc a l v)(h1:cn a)(h2:bj a)(h3:di a):Calls prog 4 #[v,.func (.func 5) #[] #[]] w fun e w'=>vp a w l (fun _ _=>True) e w':=
 Ip a w l v _ _ _ sM hb hl h1 h2 h3 trivial (zk a l _)
variable {k:Nat}
def Ng (l:List Th) (n:Lz):Th:=(l.find? fun t=>t.name == n).getD dT
theorem MW{l n}(h:dR l n=true):Ng l n∈l/\(Ng l n).name=n:=by
 unfold dR at h;unfold Ng;cases e:l.find? fun t=>t.name == n with
 | none=>rw[List.find?_eq_none]at e;rw[List.any_eq_true]at h;obtain⟨x,h1,h2⟩:=h;exact absurd h2 (e x h1)
 | some t=>exact⟨List.mem_of_find?_eq_some e,by simpa using List.find?_some e⟩
theorem M6{l n}(h:∀ x∈l,x.name≠n):Ng l n=dT/\dR l n=false:=by
 unfold Ng dR;rw[List.find?_eq_none.2 (by intro x hx;simpa using h x hx)];exact⟨rfl,by rw[List.any_eq_false];intro x hx;simpa using h x hx⟩
theorem Na{l n}(hk:k < l.length)(h:∀ x∈l.take k,x.name≠n)(he:l[k].name=n):Ng l n=l[k]/\dR l n=true:=by
 unfold Ng dR;have e:l=l.take k++l[k] :: l.drop (k+1):=by rw[<-ME hk,List.take_append_drop]
 have e2:l.find? (fun t=>t.name == n)=some l[k]:=by
  have e3:∀ x,l[k]=x->(l.take k++x :: l.drop (k+1)).find? (fun t=>t.name == n)=some x:=fun x hx=>by
   rw[List.find?_append,List.find?_eq_none.2 (by intro x hx;simpa using h x hx),List.find?_cons_of_pos (by rw[<-hx];simpa using he)];rfl
  have e4:=e3 _ rfl;rwa [<-e]at e4
 exact⟨by rw[e2];rfl,by rw[List.any_eq_true];exact⟨l[k],List.getElem_mem hk,by simpa using he⟩⟩
theorem MP:∀ {l:List Th},bD (l.map Th.name)->∀ {x y:Th},x∈l->y∈l->x.name=y.name->x=y
 | [],_,_,_,h,_,_=>by cases h
 | z :: l,hr,x,y,hx,hy,e=>by
  have h0:∀ y∈l,Op.bytesLess z.name y.name=true:=fun y hy=>(List.pairwise_cons.1 hr).1 y.name (List.mem_map.2 ⟨y,hy,rfl⟩);rcases List.mem_cons.1 hx with h1 | h1 <;> rcases List.mem_cons.1 hy with h2 | h2
  ·rw[h1,h2]
  ·have:=h0 y h2;rw[<-h1,e,cd]at this;cases this
  ·have:=h0 x h1;rw[<-h2,<-e,cd]at this;cases this
  ·exact MP (List.pairwise_cons.1 hr).2 h1 h2 e
theorem MY{l n t}(hr:bD (l.map Th.name))(h:dR l n=true)(hp:l[ci l n]?=some t):Ng l n=t:=by
 obtain⟨m1,m2⟩:=MW h;obtain⟨t',h1,h2⟩:=nR l n hr h;rw[hp]at h1;cases h1;exact MP hr m1 (List.mem_of_getElem? hp) (m2.trans h2.symm)
theorem Nc(l:List cm):∀ k,dP (oQ l k)
 | 0=>by unfold oQ J4;simpa using AW
 | k+1=>by
  by_cases h:k < l.length
  ·rw[uD (Mw h)];exact Ib (Nc l k)
  ·have e:oQ l (k+1)=oQ l k:=by unfold oQ;rw[MD (by omega),MD (by omega)]
   rw[e];exact Nc l k
def M8 (w:LC) (ok:Nat->Prop) (l:List Th) (n:Lz) (e:Ending) (w':LC):Prop:=∃ (a b:Option Addr) (c d:Nat) (oa:Option Addr) (oc:Nat),e=.returned (.tuple #[.agg #[.string ⟨(Ng l n).name.toArray⟩,.int .i64 (Ng l n).value.kind,.int .i64 (Ng l n).value.n,.string ⟨(Ng l n).value.s.toArray⟩,.slice a (Ng l n).value.keys.length c,.slice b (Ng l n).value.l.length d,.slice oa (Ng l n).owners.length oc,.int .i64 (Ng l n).ver,.int .i64 (Ng l n).gen,.string ⟨(Ng l n).st.a.toArray⟩,.string ⟨(Ng l n).st.c.toArray⟩,.int .i64 (Ng l n).st.ph,.int .i64 (Ng l n).st.st,.int .i64 (Ng l n).st.we,.int .i64 (Ng l n).st.si],.bool (dR l n)])/\La w w'/\cQ w' ok (Ng l n) a b c d oa oc
theorem Q7(w ok l v n)(h:cO w ok l v):Calls prog 7 #[v,.string ⟨n.toArray⟩] w fun e w'=>M8 w ok l n e w':=by
 have H:=aa h;obtain⟨va,vc,rfl⟩:=h.form;have ll:=h.1;obtain⟨W1,hW1⟩:∃ W,W=w.alloc (.cells Le 37):=⟨_,rfl⟩
 have Y1:Ll (La w W1):=aa (by rw[hW1];exact ae _ _);have X1:Ll (fN W1 w.heap.size dT none none 0 0 none 0):=aa (by rw[hW1];exact MN _ _);have HW1:=aa hW1;clear h hW1;go_enter func7,ntmps7;go_upto_region 1 with fail
 rw[<-HW1.o];go_upto_region 2 with fail
 go_loopg [10] l.length (fun gk i wr=>∃ k:Nat,k<=l.length/\gk=l.length - k/\i=.int .i64 k/\Ll (La W1 wr)/\Ll (∀ x∈l.take k,x.name≠n))
 case atStart=>exact⟨0,Nat.zero_le _,rfl,rfl,aa (MK _ _),aa (by intro x hx;simp at hx)⟩
 case round=>
  obtain⟨k,hk,hgk,rfl,BL,NO⟩:=hrel;have GK:=aa hgk;clear hgk;have X9:=aa (X1.o.bel BL.o);by_cases hlt:k < l.length
  ·obtain⟨g1,o1,rfl,j1,j2,j3,xa,xb,xc,xd,xoa,xoc,hx,kx⟩:=(H.o.low.bel (ab Y1.o BL.o)).at hlt;have KX:=aa kx;have w2:(k:Int) < (l.length:Int):=by omega
   have w3:(0:Int)<=(k:Int):=by omega
   have AT:=aa (Na hlt NO.o);have NX:Ll (l[k].name≠n->∀ x∈l.take (k+1),x.name≠n):=aa (by
    intro h9 x hx;rw[List.take_succ_eq_append_getElem hlt,List.mem_append]at hx;rcases hx with hx | hx
    ·exact NO.o x hx
    ·rw[List.mem_singleton.1 hx];exact h9)
   obtain⟨t,ht⟩:∃ t,l[k]=t:=⟨_,rfl⟩
   rw[ht]at hx KX AT NX;clear ht kx;obtain⟨x0,x1,x2,x3,x4,x5,x6,x7,x8,x9,x10,x11,x12,x13,x14⟩:=hx;obtain⟨W2,hW2⟩:∃ W,W=wr.alloc (.cells (Ld t xa xc xb xd xoa xoc) 37):=⟨_,rfl⟩
   have A2:Ll (La wr W2):=aa (by rw[hW2];exact ae _ _);have T2:Ll (fN W2 wr.heap.size t xa xb xc xd xoa xoc):=aa (by rw[hW2];exact MN _ _);have HW2:=aa hW2;clear hW2;go_upto_region 4 with fail
   rw[<-HW2.o];obtain⟨x0,x1,x2,x3,x4,x5,x6,x7,x8,x9,x10,x11,x12,x13,x14⟩:=T2.o.c;by_cases he:t.name=n
   ·have e0:(t.name == n)=true:=by simpa using he
    have R:=aa (AT.o he);clear he;have n0_:=(X9.o.bel A2.o).c;obtain⟨m0,m1,m2,m3,m4,m5,m6,m7,m8,m9,m10,m11,m12,m13,m14⟩:=(X9.o.bel A2.o).f;have P9:=aa ((X9.o.bel A2.o).put15 t xa xb xc xd xoa xoc);have G9:=aa (mz (r:=none) (aq (ab (ab Y1.o BL.o) A2.o)) (MG _) t xa xb xc xd xoa xoc);have z0_:=P9.o.c;simp only[jE]at z0_;go_wp2
    refine MM (v:=.tuple #[.agg (Ld t xa xc xb xd xoa xoc),.bool true]) ?_ rfl ?_
    ·simp[results,results7,go_sem,z0_]
    ·refine⟨xa,xb,xc,xd,xoa,xoc,by rw[R.o.1,R.o.2],bS G9.o,?_⟩;rw[R.o.1];exact(KX.o.gr (am (aq A2.o) (g15 _ w.heap.size t xa xb xc xd xoa xoc)) (by intro k9 h9 e9;cases e9;exact absurd h9.2 (Nat.lt_irrefl _))).weak fun k9 h9=>h9.1
   ·have e0:(t.name == n)=false:=by rw[MO];exact he
    have N9:=aa (NX.o he);clear he;go_wp2
    go_roundg (l.length - (k+1))
    case measure=>rw[GK.o];omega
    case rel=>exact⟨k+1,hlt,rfl,by go_num,aa (ab BL.o A2.o),N9⟩
  ·have d9:¬(k:Int) < (l.length:Int):=by omega
   have R:=aa (M6 (fun x hx=>NO.o x (by rw[MD (by omega)];exact hx)));have n0_:=X9.o.c;obtain⟨m0,m1,m2,m3,m4,m5,m6,m7,m8,m9,m10,m11,m12,m13,m14⟩:=X9.o.f;have P9:=aa (X9.o.put15 dT none none 0 0 none 0);have G9:=aa (mz (r:=none) (aq (ab Y1.o BL.o)) (MG _) dT none none 0 0 none 0);have z0_:=P9.o.c;simp only[jE,dT,aM,List.length_nil]at z0_;go_wp2
   refine MM (v:=.tuple #[.agg Le,.bool false]) ?_ rfl ?_
   ·simp[results,results7,go_sem,z0_]
   ·refine⟨none,none,0,0,none,0,by rw[R.o.1,R.o.2];rfl,bS G9.o,?_⟩;rw[R.o.1];exact⟨by simp[dT],fG _ _,⟨by simp[dT],.inl ⟨rfl,_,rfl⟩⟩⟩
theorem Qj{s:Nu}{a:cm}(h:dP s):∀ t∈(je s a).1.ths,t∈s.ths\/(∃ o∈s.ths,∃ n,t={ o with st:=(dA (je s a).1.time o n).1 })\/∃ o,(o=eT a.name\/o∈s.ths)/\(al s.time s.ver o a).2.2=0/\t=(al s.time s.ver o a).1:=by
 unfold je;split
 ·exact fun t ht=>.inl ht
 simp only;split
 ·exact fun t ht=>.inl ht
 split
 ·unfold iz;split
  ·exact fun t ht=>.inl ht
  ·intro t ht;obtain⟨o,ho,rfl⟩:=List.mem_map.1 ht;exact .inr (.inl ⟨o,ho,_,rfl⟩)
 split
 ·exact fun t ht=>.inl ht
 generalize hs':({ s with acts:=s.acts+1 }:Nu)=s';have e1:s'.ths=s.ths:=by rw[<-hs']
 have e2:s'.time=s.time:=by rw[<-hs']
 have e3:s'.ver=s.ver:=by rw[<-hs']
 have hr:bD (s'.ths.map Th.name):=by rw[e1];exact h.rise
 by_cases hb:cj s'.ths.length a.kind (dR s'.ths a.name)=0
 ·cases ht:dR s'.ths a.name with
  | false=>
   rw[nQ hb ht];unfold iF;split
   ·rw[e1];exact fun t ht=>.inl ht
   ·rename_i he;intro t hm;simp only[List.mem_append,List.mem_cons]at hm;rcases hm with hm | rfl | hm
    ·exact .inl (by rw[<-e1];exact List.mem_of_mem_take hm)
    ·exact .inr (.inr ⟨_,.inl rfl,by rw[<-e2,<-e3];simpa using he,by rw[<-e2,<-e3]⟩)
    ·exact .inl (by rw[<-e1];exact List.mem_of_mem_drop hm)
  | true=>
   obtain⟨t,h1,h2⟩:=nR _ _ hr ht;have htm:t∈s.ths:=by rw[<-e1];exact List.mem_of_getElem? h1
   rw[fk hb ht h1];split
   ·exact fun u hu=>.inl (by rw[<-e1];exact List.mem_of_mem_eraseIdx hu)
   split
   ·unfold iG;split
    ·rw[e1];exact fun t ht=>.inl ht
    ·intro u hu;rcases List.mem_or_eq_of_mem_set hu with hu | rfl
     ·exact .inl (by rw[<-e1];exact hu)
     ·exact .inr (.inl ⟨t,htm,_,rfl⟩)
   split
   ·rw[e1];exact fun t ht=>.inl ht
   ·unfold fF;split
    ·rw[e1];exact fun t ht=>.inl ht
    split
    ·rw[e1];exact fun t ht=>.inl ht
    ·rename_i he;intro u hu;rcases List.mem_or_eq_of_mem_set hu with hu | rfl
     ·exact .inl (by rw[<-e1];exact hu)
     ·exact .inr (.inr ⟨t,.inr htm,by rw[<-e2,<-e3];simpa using he,by rw[<-e2,<-e3]⟩)
 ·rw[C8 rfl hb,e1];exact fun t ht=>.inl ht
def Qh (v:V) (l:List aL):Prop:=∀ o∈l,∀ p∈o.paths,(dr (aw p) v).isSome=true
theorem QM{v l who want force w m}{c:List (Lz × Lz)}(h:eC v l who want force=(w,m,c,0))(hv:Qh v l):Qh w m:=by
 obtain⟨A,hw,hm,-,hg,h6,-⟩:=ug h;intro o ho p hp;rw[hm,qz]at ho;have inL:p∈au want->(dr (aw p) w).isSome=true:=fun h9=>by
  obtain⟨y,h3,-⟩:=A.at (List.mem_map.2 ⟨p,h9,rfl⟩);rw[hw,h3];rfl
 rcases ho with ho | ⟨-,rfl⟩
 ·have hin:=ho;obtain⟨x,hx,rfl,hne⟩:=oE ho;obtain⟨hpx,hst⟩:=List.mem_filter.1 hp;rw[MJ]at hst;have hb:aV want v (au want) p=false:=by simpa using hst.2
  by_cases hc:p∈au want
  ·exact inL hc
  obtain⟨y,hy⟩:=Option.isSome_iff_exists.1 (hv x hx p hpx);obtain⟨s1,s2,s3⟩:=uM ((mT ((gz A.lg).2.1 x hx).2).2.1 p hpx);unfold aV at hb;rw[if_neg (by simpa using hc),List.any_eq_false]at hb;have R:dr (aw p) w=some y:=by
   rw[hw,rF A];rw[qC (kg A.wg) _ _ (fun a ha=>?_) (A.cleared _).1]
   ·refine PM _ _ (fun q hq=>?_) (fun q hq hkp=>?_) (kg A.vg) A.vk hy
    ·obtain⟨r,hr,rfl⟩:=List.mem_map.1 hq;exact(uM (lB A.lg who r hr)).2.1
    ·unfold pd at hkp;rw[Bool.or_eq_false_iff]at hkp;have hcn:=hkp.2;unfold concF at hcn;rw[List.any_eq_false]at hcn;have:=hcn _ hin;rw[Bool.not_eq_true,List.any_eq_false]at this;have:=this p hp;simp only[Bool.or_eq_true,beq_iff_eq,not_or,Bool.not_eq_true]at this;rw[Ql,s3];exact⟨fun e=>this.1.1 (by rw[e,s3]),this.2,this.1.2⟩
   ·obtain⟨q,hq,rfl⟩:=List.mem_map.1 ha;have:=hb q hq;simp only[Bool.or_eq_true,not_or,Bool.not_eq_true]at this;obtain⟨t1,t2,t3⟩:=uM (A.lv.good q hq);rw[Ql,s3,t3];refine⟨fun e=>?_,this.1,this.2⟩;rw[<-t3,e,s3]at hq;exact hc hq
  rw[R];rfl
 ·exact inL hp
theorem Ra(v l):Qh v (ir v l):=by
 unfold ir;split
 ·intro o ho p hp;obtain⟨x,hx,rfl,-⟩:=oE ho;exact(List.mem_filter.1 hp).2
 ·intro o ho;cases ho
theorem Qs{time ver t}{a:cm}(h:Qh t.value t.owners)(he:(al time ver t a).2.2=0):Qh (al time ver t a).1.value (al time ver t a).1.owners:=by
 unfold al at he ⊢;split
 ·exact h
 split
 ·exact h
 rename_i h1 _;simp only[jw];unfold aJ at h1 ⊢;split
 ·exact h
 rename_i h2;rw[if_neg h2]at h1;split
 ·rename_i h5;rw[if_pos h5]at h1;exact QM (c:=(eC t.value t.owners a.who (cW a.body).1 a.force).2.2.1) (force:=a.force) (who:=a.who) (want:=(cW a.body).1) (by
   have h9:(eC t.value t.owners a.who (cW a.body).1 a.force).2.2.2=0:=by simpa using h1
   rw[<-h9]) h
 split
 ·exact h
 ·exact Ra _ _
theorem Rm{s:Nu}{a:cm}(h:dP s)(hs:∀ t∈s.ths,Qh t.value t.owners):∀ t∈(je s a).1.ths,Qh t.value t.owners:=by
 intro t ht;rcases Qj h t ht with h1 | ⟨o,ho,x,rfl⟩ | ⟨o,ho,he,rfl⟩
 ·exact hs t h1
 ·exact hs o ho
 ·refine Qs ?_ he;rcases ho with rfl | ho
  ·intro o ho;cases ho
  ·exact hs o ho
theorem Qp(l:List cm):∀ k,∀ t∈(oQ l k).ths,Qh t.value t.owners
 | 0=>by unfold oQ J4;intro t ht;simp[vm]at ht
 | k+1=>by
  by_cases h:k < l.length
  ·rw[uD (Mw h)];exact Rm (Nc l k) (Qp l k)
  ·have e:oQ l (k+1)=oQ l k:=by unfold oQ;rw[MD (by omega),MD (by omega)]
   rw[e];exact Qp l k
def OE (n:Lz):cm:=⟨9,n,[],[],0,0,0,false⟩
def Qf (n b:Lz) (ver:Int):cm:=⟨2,n,[],b,ver,0,0,false⟩
theorem Rp{s:Nu}{n}(h:dP s)(ha:s.acts≠300):(je s (OE n)).1={ s with acts:=s.acts+1 }/\(dR s.ths n=false->(je s (OE n)).2.code=3\/(je s (OE n)).2.code=1/\bT n=false)/\(dR s.ths n=true->(je s (OE n)).2=pj (Ng s.ths n)):=by
 unfold je;rw[if_neg ha];simp only;rw[if_neg (by simp[OE]),if_neg (by simp[OE])];split
 ·rename_i hn;refine⟨rfl,fun _=>.inr ⟨rfl,hn⟩,fun h1=>?_⟩;obtain⟨m1,m2⟩:=MW h1;have:=(h.ths _ m1).name;rw[m2,show n=(OE n).name from rfl,hn]at this;cases this
 ·generalize hs:({ s with acts:=s.acts+1 }:Nu)=s';have e1:s'.ths=s.ths:=by rw[<-hs]
  rw[<-e1];have hr:bD (s'.ths.map Th.name):=by rw[e1];exact h.rise
  cases ht:dR s'.ths n with
  | false=>
   have hb:cj s'.ths.length (OE n).kind (dR s'.ths (OE n).name)=3:=by
    rw[show (OE n).name=n from rfl,ht];simp[cj,OE]
   rw[C8 hb (by decide)];exact⟨rfl,fun _=>.inl rfl,fun h9=>by cases h9⟩
  | true=>
   have hb:cj s'.ths.length (OE n).kind (dR s'.ths (OE n).name)=0:=by
    rw[show (OE n).name=n from rfl,ht];simp[cj,OE]
   obtain⟨t,h1,h2⟩:=nR _ _ hr ht;rw[fk hb ht h1,MY hr ht h1];rw[if_neg (by simp[OE]),if_neg (by simp[OE]),if_pos (show (OE n).kind=9 from rfl)];exact⟨rfl,fun h9=>(by cases h9),fun _=>rfl⟩
theorem QQ{v:V}{l:List aL}(hv:aE v=true)(hl:bp l=true)(h:Qh v l):ir v l=l:=by
 unfold ir;rw[if_pos ⟨hv,hl⟩];exact Qn l fun o ho=>⟨(mT ((gz hl).2.1 o ho).2).1,fun p hp=>h o ho p hp⟩
theorem Rn{s:Nu}{n}(h:dP s)(ho:∀ t∈s.ths,Qh t.value t.owners)(ha:s.acts≠300)(ht:dR s.ths n=true)(hp:(eP 12 (Ng s.ths n).value).2=0):(je s (Qf n (eP 12 (Ng s.ths n).value).1 (Ng s.ths n).ver)).2.code=0/\(je s (Qf n (eP 12 (Ng s.ths n).value).1 (Ng s.ths n).ver)).2.n=(Ng s.ths n).ver/\(je s (Qf n (eP 12 (Ng s.ths n).value).1 (Ng s.ths n).ver)).1.ths.length=s.ths.length:=by
 obtain⟨m1,m2⟩:=MW ht;have G:=h.ths _ m1;have O:=ho _ m1;generalize hx:Ng s.ths n=x at *;have gv:=lq G.rd;have hn:bT n=true:=by rw[<-m2];exact G.name
 have ppp:cW (eP 12 x.value).1=(x.value,0):=by
  unfold eP at hp ⊢;rw[if_pos gv]at hp ⊢;split
  ·rename_i h9;exact Qu gv 12 (fh gv).dep h9
  ·rename_i h9;rw[if_neg h9]at hp;simp at hp
 generalize hq:Qf n (eP 12 x.value).1 x.ver=q;have qkk:q.kind=2:=by rw[<-hq];rfl
 have qnn:q.name=n:=by rw[<-hq];rfl
 have qbb:q.body=(eP 12 x.value).1:=by rw[<-hq];rfl
 have qvv:q.version=x.ver:=by rw[<-hq];rfl
 unfold je;rw[if_neg ha];simp only;rw[if_neg (by omega),if_neg (by omega),if_neg (by rw[qnn,hn];simp)];generalize hs:({ s with acts:=s.acts+1 }:Nu)=s';have e1:s'.ths=s.ths:=by rw[<-hs]
 have hr:bD (s'.ths.map Th.name):=by rw[e1];exact h.rise
 have ht':dR s'.ths q.name=true:=by rw[e1,qnn];exact ht
 have hb:cj s'.ths.length q.kind (dR s'.ths q.name)=0:=by rw[ht'];simp[cj,qkk]
 obtain⟨t,h1,h2⟩:=nR _ _ hr ht';have htx:t=x:=by rw[<-hx,<-e1,<-qnn];exact(MY hr ht' h1).symm
 rw[htx]at h1;have W:aJ x q=(x.value,x.owners,0):=by
  unfold aJ;rw[qbb,ppp,if_neg (by simp),if_neg (by omega)];have c:bW x.value q.kind x.value=(x.value,0):=by unfold bW;rw[if_neg (by omega),if_neg (by omega)]
  simp only[c];rw[if_neg (by simp),QQ gv G.own O]
 rw[fk hb ht' h1,if_neg (by omega),if_neg (by omega),if_neg (by omega)];unfold fF;rw[if_neg (by rw[qvv];simp)];have R:(al s'.time s'.ver x q).2.2=0/\(al s'.time s'.ver x q).1.ver=x.ver:=by
  have g0:x.gen≠0:=by have:=G.gen.1;omega
  unfold al;rw[W];simp only;rw[if_neg (by simp),if_neg (by rw[G.rd];simp)];simp[jw,g0]
 rw[if_neg (by rw[R.1];simp)];exact⟨rfl,R.2,by simp[e1]⟩
variable {w wr:World}
variable {v:Value}
theorem gY(h:∃ n,wr=w.drewN n){a}(hc:w.cell? a=some v):wr.cell? a=some v:=by
 obtain⟨n,rfl⟩:=h;exact hc
theorem DF(h:∃ n,wr=w.drewN n):∃ n,wr.drew=w.drewN n:=by
 obtain⟨n,rfl⟩:=h;exact⟨n+1,rfl⟩
theorem vD(h:∃ n,wr=w.drewN n)(m):∃ n,wr.drewN m=w.drewN n:=by
 obtain⟨n,rfl⟩:=h;exact⟨n+m,by simp[World.drewN,Nat.add_assoc]⟩
theorem pE(h:∃ n,wr=w.drewN n):La w wr:=by
 obtain⟨n,rfl⟩:=h;exact aC _ _
theorem zg{α:Type}{xs ys:List α}(h:xs.take k=ys.take k)(hx:k < xs.length)(hy:k < ys.length)(he:xs[k]=ys[k]):xs.take (k+1)=ys.take (k+1):=by
 rw[List.take_succ_eq_append_getElem hx,List.take_succ_eq_append_getElem hy,h,he]
theorem uC(w:LC)(ok ok' xs ys v u)(h:ao w ok xs v)(h':ao w ok' ys u):Calls prog 50 #[v,u] w fun e w'=>e=.returned (.bool (decide (xs=ys)))/\∃ n,w'=w.drewN n:=by
 have H:=aa h;have H':=aa h';obtain⟨a,c,rfl⟩:=h.form;obtain⟨a',c',rfl⟩:=h'.form;have ll:=h.1;have ll':=h'.1;unfold maxLen at ll ll';clear h h';by_cases hl:xs.length=ys.length
 ·have q0:((xs.length:Int) != (ys.length:Int))=false:=by simp[hl]
  have q00:((xs.length:Int) == (ys.length:Int))=true:=by simp[hl]
  have HLN:=aa hl;rw[<-hl];clear hl;go_enter func50,ntmps50;go_wp2
  go_loopg [13] xs.length (fun gk i wr=>∃ k:Nat,k<=xs.length/\gk=xs.length - k/\i=.int .i64 k/\Ll (xs.take k=ys.take k)/\Ll (∃ n,wr=w.drewN n))
  case atStart=>exact⟨0,Nat.zero_le _,rfl,rfl,rfl,aa ⟨0,rfl⟩⟩
  case round=>
   obtain⟨k,hk,hgk,rfl,AL,BL⟩:=hrel;have GK:=aa hgk;clear hgk;by_cases hlt:k < xs.length
   ·have hlt':k < ys.length:=HLN.o ▸ hlt;obtain⟨b,off,rfl,hc1,hc2,hcell0⟩:=gQ H.o hlt;obtain⟨b',off',rfl,hc1',hc2',hcell0'⟩:=gQ H'.o hlt';unfold maxLen at hc2 hc2';have w2:(k:Int) < (xs.length:Int):=by omega
    have w3:(0:Int)<=(k:Int):=by omega
    have TK:Ll (xs[k]=ys[k]->xs.take (k+1)=ys.take (k+1)):=aa (zg AL.o hlt hlt');have NE:Ll (xs[k]≠ys[k]->decide (xs=ys)=false):=aa (fun h9=>decide_eq_false (fun e=>h9 (by subst e;rfl)));have d0:=gY BL.o hcell0;have d1:=gY BL.o hcell0';have BD:Ll (∃ n,wr.drew=w.drewN n):=aa (DF BL.o);clear hcell0 hcell0';by_cases he:xs[k]=ys[k]
    ·have TK2:=aa (TK.o he);rw[<-he]at d1;clear he;go_wp2
     go_region
     go_wp2
     go_roundg (xs.length - (k+1))
     case measure=>rw[GK.o];omega
     case rel=>exact⟨k+1,hlt,rfl,by go_num,TK2,BD⟩
    ·have R:=aa (NE.o he);have e9:(xs[k] == ys[k])=false:=by rw[MO];exact he
     obtain⟨x,hx⟩:∃ x,xs[k]=x:=⟨_,rfl⟩
     obtain⟨y,hy⟩:∃ y,ys[k]=y:=⟨_,rfl⟩
     rw[hx]at d0 he e9;rw[hy]at d1 he e9;clear hx hy TK NE;go_wp2
     go_region
     go_wp2
     go_ret;exact⟨by rw[R.o];rfl,BD.o⟩
   ·have d9:¬(k:Int) < (xs.length:Int):=by omega
    have R:Ll (decide (xs=ys)=true):=aa (decide_eq_true (by
     have:=AL.o;rwa [MD (by omega),MD (by have:=HLN.o;omega)]at this))
    go_wp2
    go_ret;exact⟨by rw[R.o];rfl,BL.o⟩
 ·have q0:((xs.length:Int) != (ys.length:Int))=true:=by simp;omega
  have q00:((xs.length:Int) == (ys.length:Int))=false:=by rw[MO];omega
  have R:Ll (decide (xs=ys)=false):=aa (decide_eq_false (fun e=>hl (by rw[e])));go_enter func50,ntmps50;go_wp2
  go_ret;exact⟨by rw[R.o];rfl,0,rfl⟩
theorem ub(w ok ok' xs v u)(h:aB w ok xs v)(h':aB w ok' xs u):Calls prog 33 #[v,u] w fun e w'=>e=.returned (.bool true)/\∃ n,w'=w.drewN n:=by
 have H:=aa h;have H':=aa h';obtain⟨a,c,rfl⟩:=h.form;obtain⟨a',c',rfl⟩:=h'.form;have ll:=h.1;unfold maxLen at ll;clear h h';go_enter func33,ntmps33;go_wp2
 go_loopg [13] xs.length (fun gk i wr=>∃ k:Nat,k<=xs.length/\gk=xs.length - k/\i=.int .i64 k/\Ll (∃ n,wr=w.drewN n))
 case atStart=>exact⟨0,Nat.zero_le _,rfl,rfl,aa ⟨0,rfl⟩⟩
 case round=>
  obtain⟨k,hk,hgk,rfl,BL⟩:=hrel;have GK:=aa hgk;clear hgk;by_cases hlt:k < xs.length
  ·obtain⟨b1,o1,pa,pc,rfl,j1,j2,k1,k2,k3,-⟩:=H.o.at hlt;obtain⟨b2,o2,qa,qc,rfl,i1,i2,l1,l2,l3,-⟩:=H'.o.at hlt;have w2:(k:Int) < (xs.length:Int):=by omega
   have w3:(0:Int)<=(k:Int):=by omega
   have d0:=gY BL.o k1;have d1:=gY BL.o k2;have d2:=gY BL.o l1;have d3:=gY BL.o l2;have TX:Ll (∀ W,(∃ n,W=wr.drewN n)->Calls prog 50 #[.slice pa xs[k].paths.length pc,.slice qa xs[k].paths.length qc] W fun e w'=>e=.returned (.bool true)/\∃ n,w'=wr.drewN n):=aa (fun W hW=>by
    have b9:=ab (pE BL.o) (pE hW);refine(uC W ok ok' _ _ _ _ (k3.bel b9) (l3.bel b9)).mono ?_;rintro e w' ⟨rfl,n,rfl⟩;exact⟨by rw[decide_eq_true rfl],vD hW n⟩)
   clear k1 k2 k3 l1 l2 l3;obtain⟨x,hx⟩:∃ x,xs[k]=x:=⟨_,rfl⟩
   rw[hx]at d0 d1 d2 d3 TX;clear hx;have e8:(x.name == x.name)=true:=by simp
   go_upto_region 6 with fail
   go_quiet ((go_at_call 50;exact TX.o _ ⟨_,rfl⟩))
   have B6:=aa (vD BL.o nq);go_wp2
   go_roundg (xs.length - (k+1))
   case measure=>rw[GK.o];omega
   case rel=>exact⟨k+1,hlt,rfl,by go_num,B6⟩
  ·have d9:¬(k:Int) < (xs.length:Int):=by omega
   go_wp2
   go_ret;exact⟨rfl,BL.o⟩
theorem tP(w:LC)(ok ok' t a b c d oa oc a' b' c' d' oa' oc')(h:cQ w ok t a b c d oa oc)(h':cQ w ok' t a' b' c' d' oa' oc')(hn:dz t.value):Calls prog 18 #[.agg (Ld t a c b d oa oc),.agg (Ld t a' c' b' d' oa' oc')] w fun e w'=>e=.returned (.bool true)/\La w w':=by
 obtain⟨W2,hW2⟩:∃ W,W=(w.alloc (.cells (Ld t a c b d oa oc) 37)).alloc (.cells (Ld t a' c' b' d' oa' oc') 37):=⟨_,rfl⟩
 have Y2:Ll (La w W2):=aa (by rw[hW2];exact ab (ae _ _) (ae _ _));have X1:fN W2 w.heap.size t a b c d oa oc:=by rw[hW2];exact fb _ _ _
 have X2:fN W2 (w.heap.size+1) t a' b' c' d' oa' oc':=by rw[hW2];exact et _ _ _
 have HX1:=aa X1;have HX2:=aa X2;have HW2:=aa hW2;have SM:=aa (lP W2 ok ok' t.value t.value _ _ (h.val.bel Y2.o) (h'.val.bel Y2.o) (MH (gE hn) (by omega)));have SO:Ll (∀ W,La W2 W->Calls prog 33 #[.slice oa t.owners.length oc,.slice oa' t.owners.length oc'] W fun e w'=>e=.returned (.bool true)/\La W w'):=aa (fun W hW=>(ub W ok ok' _ _ _ (h.own.bel (ab Y2.o hW)) (h'.own.bel (ab Y2.o hW))).mono fun e w' hh=>⟨hh.1,pE hh.2⟩);have x0_:=X1.c;have y0_:=X2.c;clear hW2 h h' hn X1 X2;go_enter func18,ntmps18;go_upto_region 1 with fail
 rw[<-HW2.o];go_wp2_with (first
  |(go_at_call 32;refine SM.o.mono ?_;rintro e w5 ⟨r5,rfl,h5,hb5⟩;obtain rfl:r5=true:=h5.2 rfl;have B5:=aa hb5;clear h5 hb5;have x0_:=(HX1.o.bel B5.o).c;have y0_:=(HX2.o.bel B5.o).c)
  |(go_at_call 33;refine Lk (SO.o _ B5.o) fun w6 hb6=>?_;have B6:=aa (ab Y2.o (ab B5.o hb6));clear hb6))
 go_ret;exact⟨rfl,B6.o⟩
theorem li(w:LC)(ok ok' xs v u)(h:cO w ok xs v)(h':cO w ok' xs u)(hn:∀ t∈xs,dz t.value):Calls prog 9 #[v,u] w fun e w'=>e=.returned (.bool true)/\La w w':=by
 have H:=aa h;have H':=aa h';have HN:=aa hn;obtain⟨a,c,rfl⟩:=h.form;obtain⟨a',c',rfl⟩:=h'.form;have ll:=h.1;clear h h' hn;go_enter func9,ntmps9;go_wp2
 go_loopg [13] xs.length (fun gk i wr=>∃ k:Nat,k<=xs.length/\gk=xs.length - k/\i=.int .i64 k/\Ll (La w wr))
 case atStart=>exact⟨0,Nat.zero_le _,rfl,rfl,MK _ _⟩
 case round=>
  obtain⟨k,hk,hgk,rfl,BL⟩:=hrel;have GK:=aa hgk;clear hgk;by_cases hlt:k < xs.length
  ·obtain⟨g1,o1,rfl,j1,j2,j3,xa,xb,xc,xd,xoa,xoc,hx,kx⟩:=(H.o.bel BL.o).at hlt;obtain⟨g2,o2,rfl,i1,i2,i3,ya,yb,yc,yd,yoa,yoc,hy,ky⟩:=(H'.o.bel BL.o).at hlt;have NT:=aa (HN.o xs[k] (List.getElem_mem hlt));have w2:(k:Int) < (xs.length:Int):=by omega
   have w3:(0:Int)<=(k:Int):=by omega
   obtain⟨t,ht⟩:∃ t,xs[k]=t:=⟨_,rfl⟩
   rw[ht]at hx hy kx ky NT;clear ht;obtain⟨x0,x1,x2,x3,x4,x5,x6,x7,x8,x9,x10,x11,x12,x13,x14⟩:=hx;obtain⟨y0,y1,y2,y3,y4,y5,y6,y7,y8,y9,y10,y11,y12,y13,y14⟩:=hy;have BD:Ll (La wr wr.drew):=aa (aC wr 1);have ST:=aa (tP wr.drew _ _ t xa xb xc xd xoa xoc ya yb yc yd yoa yoc (kx.bel BD.o) (ky.bel BD.o) NT.o);clear kx ky;go_upto_region 6 with fail
   go_region_with (go_at_call 18;refine ST.o.mono ?_;rintro e w6 ⟨rfl,hb⟩;have B6:=aa (ab BL.o (ab BD.o hb));clear hb)
   all_goals
    go_wp2
    go_roundg (xs.length - (k+1))
    case measure=>rw[GK.o];omega
    case rel=>exact⟨k+1,hlt,rfl,by go_num,B6⟩
  ·have d9:¬(k:Int) < (xs.length:Int):=by omega
   go_wp2
   go_ret;exact⟨rfl,BL.o⟩
variable {w':World}
variable {B S:Nat}
theorem fc.bel{l:List cm}(h:fc w l v)(hb:La w w'):fc w' l v:=by
 refine⟨h.1,h.2.1,?_⟩;rcases h.2.2 with h | ⟨g,off,c,e,h1,h2,h3⟩
 ·exact .inl h
 ·refine .inr ⟨g,off,c,e,h1,h2,fun i q hq=>?_⟩;obtain⟨q0,q1,q2,q3,q4,q5,q6,q7⟩:=h3 i q hq;exact⟨ah hb q0,ah hb q1,ah hb q2,ah hb q3,ah hb q4,ah hb q5,ah hb q6,ah hb q7⟩
theorem vX{w1 w2:LC}{v' l}(h:dm w1 B (fun j=>B < j) l v')(hB:w.heap.size<=B)(f:kS w1 w2 S v)(hS:S < w.heap.size)(hv:∀ r,v.ownBlock=some r->r < w.heap.size):cO w2 (fun j=>B<=j) l v':=by
 have h1:=h.ths.low;have hb:∀ j,((B < j\/v'.ownBlock=some j)/\j < w1.heap.size)->B<=j:=by
  rintro j ⟨h9 | h9,-⟩
  ·omega
  ·obtain⟨L0,-,h2,-⟩:=h;exact(bY h2 h9).1
 refine h1.imp fun k x hk hx=>⟨hb _ hk,?_⟩
 have h3:=hb _ hk;rw[<-hx];simp only[World.cell?,f.block k.block hk.2 (by omega) (fun e=>by have:=hv _ e;omega)]
theorem vU{s:Nu}(h:dP s):∀ t∈s.ths,dz t.value:=fun t ht=>dQ (lq (h.ths t ht).rd)
variable {g c d:Nat}
theorem QN(d:Nat)(t:V):(eP d t).1.length<=9223372036854775807:=by
 unfold eP;split
 ·split
  ·simp only;omega
  ·simp
 ·simp
theorem fN.sfr{t a b oa oc}(h:fN w g t a b c d oa oc)(f:kS w w' S v)(h1:g≠S)(h2:v.ownBlock≠some g):fN w' g t a b c d oa oc:=(f.block g (MF.1 h).1 h1 h2).trans h
theorem topGets_at(w:LC)(l:List cm)(v:Value)(n:Lz)(hl:fc w l v)(hn:n.length<=9223372036854775807)(h1:cn w)(h2:bj w)(h3:di w):Calls prog 3 #[v,.string ⟨n.toArray⟩] w fun e w'=>e=.returned (.bool true)/\La w w':=by
 have PL:=aa (pD w w l v (MK _ _) hl h1 h2 h3);have HN:=aa hn;clear h1 h2 h3 hl hn;go_enter func3,ntmps3;go_upto_region 4 with (go_at_call 4;refine PL.o.mono ?_;rintro e w2 ⟨S,v2,rfl,p1,p2,-⟩;have L2:=aa p1;clear p1 p2)
 have SA:Ll ((oQ l (min l.length 100)).acts<=100):=aa (by rw[ur l _ (by omega) (by omega)];omega);have OW:=aa (Qp l (min l.length 100));obtain⟨st,hst⟩:∃ st,st=oQ l (min l.length 100):=⟨_,rfl⟩
 rw[<-hst]at L2 SA OW;clear hst PL;have GEE:=Rp (n:=n) L2.o.good (by have:=SA.o;omega);have TH2:=aa (fl L2.o);go_upto_region 5 with (go_at_call 6;refine TH2.o.mono ?_;rintro e w3 ⟨rfl,p1,p2,p3⟩;have T3:=aa p1;have L3:=aa p2;have B3:=aa p3;clear p1 p2 p3)
 have FD:=aa (Q7 w3 _ st.ths _ n T3.o.ths);go_upto_region 6 with (go_at_call 7;refine FD.o.mono ?_;rintro e w4 ⟨a,b,c,d,oa,oc,rfl,p1,p2⟩;have B4:=aa p1;have OK4:=aa p2;clear p1 p2)
 have PU:Ll (dR st.ths n=true->(eP 12 (Ng st.ths n).value).2=0->(je { st with acts:=st.acts+1 } (Qf n (eP 12 (Ng st.ths n).value).1 (Ng st.ths n).ver)).2.code=0/\(je { st with acts:=st.acts+1 } (Qf n (eP 12 (Ng st.ths n).value).1 (Ng st.ths n).ver)).2.n=(Ng st.ths n).ver/\(je { st with acts:=st.acts+1 } (Qf n (eP 12 (Ng st.ths n).value).1 (Ng st.ths n).ver)).1.ths.length=st.ths.length):=fun h8 h9=>Rn (s:={ st with acts:=st.acts+1 }) (by rw[<-GEE.1];exact Ib L2.o.good) OW.o (by have:=SA.o;simp only;omega) h8 h9;obtain⟨th,hth⟩:∃ th,dR st.ths n=th:=⟨_,rfl⟩
 obtain⟨t,ht⟩:∃ t,Ng st.ths n=t:=⟨_,rfl⟩
 rw[hth,ht]at GEE PU;rw[ht]at OK4;rw[hth,ht];clear hth ht FD TH2;obtain⟨W4,hW4⟩:∃ W,W=w4.alloc (.cells (Ld t a c b d oa oc) 37):=⟨_,rfl⟩
 have A4:Ll (La w4 W4):=aa (by rw[hW4];exact ae _ _);have X4:Ll (fN W4 w4.heap.size t a b c d oa oc):=aa (by rw[hW4];exact MN _ _);rw[<-hW4];clear hW4;have B34:=aa (ab B4.o A4.o);have L4:=aa (L3.o.more B34.o);have T4:=aa (T3.o.bel B34.o);have V4:=aa (OK4.o.bel A4.o);have DO:=jy L4.o (OE n) HN.o (by simp[OE]) (by simp[OE]);rw[GEE.1]at DO;obtain⟨r,hr⟩:∃ r,(je st (OE n)).2=r:=⟨_,rfl⟩
 rw[hr]at DO GEE;have GE2:=aa GEE.2;have DOZ:=aa DO;clear DO GEE hr;go_upto_region 7 with (go_at_call 8;refine DOZ.o.mono ?_;rintro e w5 ⟨v5,rfl,p1,p2,p3⟩;have L5:=aa p1;have SF:=aa p2;have VN5:=aa p3;clear p1 p2 p3)
 obtain⟨W5,hW5⟩:∃ W,W=w5.alloc (.cells #[.int .i64 r.code,.int .i64 r.n,.string ⟨r.body.toArray⟩] 42):=⟨_,rfl⟩
 have A5:Ll (La w5 W5):=aa (by rw[hW5];exact ae _ _);have R5:Ll (dK W5 w5.heap.size r.code r.n r.body):=aa (by rw[hW5];exact MN _ _);rw[<-hW5];clear hW5 DOZ;have L6:=aa (L5.o.more A5.o);have SL:Ll (S < w2.heap.size/\∀ k,v2.ownBlock=some k->k < w2.heap.size):=aa ⟨L2.o.srv.blk.lt,fun k hk=>(L2.o.srv.ne hk).2⟩;have SZ:Ll (w2.heap.size<=w4.heap.size):=MH B3.o.size B4.o.size;have X6:Ll (fN W5 w4.heap.size t a b c d oa oc):=(fN.sfr X4.o SF.o (by have:=SL.o.1;have:=SZ.o;omega) (fun e9=>by have:=SL.o.2 _ e9;have:=SZ.o;omega)).bel A5.o;have T6:Ll (cO W5 (fun j=>w2.heap.size<=j) st.ths (.slice (some ⟨w2.heap.size,0,none⟩) st.ths.length st.ths.length)):=(vX (w:=w2) T4.o (MG _) SF.o SL.o.1 SL.o.2).bel A5.o;have V6:Ll (cQ W5 (fun j=>w2.heap.size<=j) t a b c d oa oc):=cQ.bel (cQ.imp V4.o.low fun k x hk hx=>by
  have h9:w2.heap.size<=k.block:=by
   rcases hk.1 with h8 | h8
   ·omega
   ·have:=Option.some.inj (show some w2.heap.size=some k.block from h8);omega
  refine⟨h9,?_⟩;rw[<-hx];simp only[World.cell?,SF.o.block k.block hk.2 (by have:=SL.o.1;omega) (fun e=>by have:=SL.o.2 _ e;omega)]) A5.o
 have NC:=aa (vU L2.o.good);have TH6:=aa (fl L6.o);go_upto_region 9 with (first
  |(go_at_call 6;refine TH6.o.mono ?_;rintro e w7 ⟨rfl,p1,p2,p3⟩;have L7:=aa p2;have B7:=aa p3;have SM:=aa (li w7 _ _ st.ths _ _ (T6.o.bel p3) p1.ths NC.o);clear p1 p2 p3)
  |(go_at_call 9;refine SM.o.mono ?_;rintro e w8 ⟨rfl,p1⟩;have B8:=aa (ab B7.o p1);clear p1))
 have L8:=aa (L6.o.more B8.o);obtain⟨y0,y1,y2,-⟩:=(R5.o.bel B8.o).c;cases th with
 | false=>
  have NM:=aa (lR w8 n HN.o);have GC:=GE2.o.1 rfl;clear GE2 PU;by_cases c3:r.code=3
  ·have e3:(r.code == 3)=true:=by simp[c3]
   clear c3 GC;go_wp2
   go_ret;exact⟨rfl,L8.o.bel⟩
  ·have e3:(r.code == 3)=false:=by rw[MO];exact c3
   obtain⟨c1,nb⟩:r.code=1/\bT n=false:=by
    rcases GC with h9 | h9
    ·exact absurd h9 c3
    ·exact h9
   have e1:(r.code == 1)=true:=by simp[c1]
   rw[nb]at NM;clear c3 c1 nb GC;go_wp2_with (go_at_call 10;refine NM.o.mono ?_;rintro e w9 ⟨rfl,hw9⟩;obtain rfl:w8=w9:=hw9.symm)
   go_ret;exact⟨rfl,L8.o.bel⟩
 | true=>
  have RT:=GE2.o.2 rfl;have V8:=aa (V6.o.bel B8.o);have X8:=aa (X6.o.bel B8.o);obtain⟨z0,z1,z2,z3,z4,z5,z6,z7,z8,z9,z10,z11,z12,z13,z14⟩:=X8.o.c;have PR:=EP w8 _ t.value _ V8.o.val L8.o.gl.g;have PUZ:=PU.o rfl;have PLN:=aa (QN 12 t.value);unfold pj at RT;obtain⟨pb,pe,hpr⟩:∃ pb pe,eP 12 t.value=(pb,pe):=⟨_,_,rfl⟩
  rw[hpr]at PR RT PUZ PLN;simp only at PR RT PUZ PLN;have PRZ:=aa PR;clear PR hpr GE2 PU;go_upto_region 12 with (go_at_call 11;refine PRZ.o.mono ?_;rintro e w9 ⟨rfl,p1⟩;have B9:=aa p1;clear p1)
  clear PRZ;obtain⟨y0,y1,y2,-⟩:=(R5.o.bel (ab B8.o B9.o)).c;have Lne:=aa (L8.o.more B9.o);by_cases hpe:pe=0
  ·subst hpe;rw[if_neg (by simp)]at RT;subst RT;simp only at y0 y1 y2;obtain⟨k1,k2,k3⟩:=PUZ rfl;have DO:=jy Lne.o (Qf n pb t.ver) HN.o PLN.o (by simp[Qf]);obtain⟨s9,r9,hd⟩:∃ s9 r9,je { st with acts:=st.acts+1 } (Qf n pb t.ver)=(s9,r9):=⟨_,_,rfl⟩
   rw[hd]at DO k1 k2 k3;simp only at DO k1 k2;rw[k1,k2]at DO;have LNN:Ll (s9.ths.length=st.ths.length):=aa k3;have DOZ:=aa DO;clear DO hd k1 k2 k3 PUZ;go_upto_region 15 with (go_at_call 8;refine DOZ.o.mono ?_;rintro e w10 ⟨v10,rfl,p1,p2,p3⟩;have L10:=aa p1;have SF10:=aa p2;clear p1 p2 p3)
   obtain⟨W10,hW10⟩:∃ W,W=w10.alloc (.cells #[.int .i64 0,.int .i64 t.ver,.string ⟨r9.body.toArray⟩] 42):=⟨_,rfl⟩
   have A10:Ll (La w10 W10):=aa (by rw[hW10];exact ae _ _);have R10:Ll (dK W10 w10.heap.size 0 t.ver r9.body):=aa (by rw[hW10];exact MN _ _);rw[<-hW10];clear hW10 DOZ;have VN:Ll (∀ k,v5.ownBlock=some k->k≠w4.heap.size/\k≠w5.heap.size):=fun k hk=>by
    have h7:=(L5.o.srv.ne hk).2;have h8:=(MF.1 X4.o).1;rcases VN5.o k hk with h9 | h9
    ·have:=SL.o.2 k h9;have:=SZ.o;omega
    ·omega
   have X10:Ll (fN W10 w4.heap.size t a b c d oa oc):=(fN.sfr (X8.o.bel B9.o) SF10.o (by have:=SL.o.1;have:=SZ.o;omega) (fun e9=>(VN.o _ e9).1 rfl)).bel A10.o;have R10b:Ll (dK W10 w5.heap.size 0 t.ver pb):=((R5.o.bel (ab B8.o B9.o)).sfr SF10.o (by have:=SL.o.1;have:=SZ.o;have:=B4.o.size;have:=SF.o.size;have:=A4.o.size;omega) (fun e9=>(VN.o _ e9).2 rfl)).bel A10.o;obtain⟨z0,z1,z2,z3,z4,z5,z6,z7,-⟩:=X10.o.c;obtain⟨y0,y1,y2,-⟩:=R10b.o.c;have n0_:=R10.o.c;have TH:=fl (L10.o.more A10.o);rw[LNN.o]at TH;have THZ:=aa TH;clear TH;go_wp2_with (go_at_call 6;refine THZ.o.mono ?_;rintro e w11 ⟨rfl,p1,p2,p3⟩;have L11:=aa p2;clear p1 p2 p3)
   go_ret;exact⟨rfl,L11.o.bel⟩
  ·have hne:(pe != 0)=true:=by simpa using hpe
   have heq:(pe == 0)=false:=by rw[MO];exact hpe
   rw[if_pos hpe]at RT;subst RT;simp only[bz]at y0;clear hpe PUZ;go_wp2
   all_goals
    go_ret;exact⟨rfl,Lne.o.bel⟩
end Go.Proofs.YtlhejphddjdgkaaGreatDoor
namespace Go.Proofs.YtlhejphddjdgkaaGreatDoor.topGets
open Go.ChangeShapes Go.WideShapes Go.ChangeAt Go.RowKit
open Go.ChangeMaps (open_string shut_string)
theorem mf(H:Type)(enc:TypeId × Value->H)(W:World)(base:Nat)(args:Array Value)(ds gs:List (DataW H))(before:List MemPlace)(hval:∀ (j:Nat) t v,Tryz.f3.params[j]?=some t->args[j]?=some v->Value.okWide Tryz.prog W .any base t v)(hW:DataW.Whole enc Tryz.prog Tryz.f3.params.toList Rows.topGetsSpec.vars false W args.toList ds gs before)(hZ:(DataW.weightsEach Tryz.prog (Tryz.f3.params.toList++(OpenSpec.ofChange Rows.topGetsSpec).bare.plain.varTypes Tryz.prog) (ds++gs)).all (·<=reachBytes)=true)(hL:laidMet Tryz.prog lS W)(hS:W.ShapedOpen Tryz.prog):Calls Tryz.prog 3 args W fun e W'=>∃ v,e=.returned v/\Rows.topGetsSpec.post enc Tryz.prog Tryz.f3 false true false false W args v W':=by
 have hW':=hW;obtain⟨p,q,hA0,hV,rfl,hfz,hnd⟩:=hW;have hA:DataW.TrodAll enc Tryz.prog W 0 (fun _=>true) true Tryz.f3.params.toList args.toList ds p:=hA0;rw[Tryz.params3]at hA hval;obtain⟨v0,vs0,d0,ds0,p0,q0,hargs0,rfl,rfl,h0,r0⟩:=trodAll_cons hA;obtain⟨v1,vs1,d1,ds1,p1,q1,hargs1,rfl,rfl,h1,r1⟩:=trodAll_cons r0;obtain⟨rfl,rfl,rfl⟩:=trodAll_nil r1;subst hargs1;have hargs:args=#[v0,v1]:=by
  obtain⟨l⟩:=args;exact congrArg Array.mk hargs0
 subst hargs;obtain⟨rfl,rfl⟩:=trodVars_none hV;have k0:Value.okWide Tryz.prog W .any base 22 v0:=hval 0 _ _ (by simp) (by simp);have k1:Value.okWide Tryz.prog W .any base 9 v1:=hval 1 _ _ (by simp) (by simp);obtain⟨os0,hv0⟩:=uV k0 h0;obtain⟨s1,rfl,rfl,rfl,ws1⟩:=open_string Tryz.underlying9 k1 h1;clear hA0;simp only[List.append_nil]at hW';have l1:s1.data.toList.length<=140737488351232:=sized_string (j:=1) hZ (by rw[Tryz.params3];rfl) rfl;have e1:Value.string s1=.string ⟨s1.data.toList.toArray⟩:=by cases s1;simp
 have walk:=topGets_at W os0 v0 s1.data.toList hv0 (MH l1 (by decide)) (um hL) (zS hS) (sf hL);rw[<-e1]at walk;refine walk.mono fun e W' ⟨he,hg⟩=>?_;subst he;have ef:Rows.topGetsSpec.fn H ([d0,.lit (.string s1.data.toList)]++[])={ results:=[.lit (.bool true)],args:=[d0,.lit (.string s1.data.toList)] }:=rfl;refine⟨_,rfl,_,_,_,[],(p0++([]++[])),[],hW',?_,?_,?_,hg.frame _,fun h=>by cases h⟩
 ·rw[ef];exact trodAll_mk1 (shut_bool Tryz.underlying4 _)
 ·rw[ef,Tryz.params3];exact trodAll_cons_mk (Below.trod oI pr Al h0 hg (lK h0)) (trodAll_cons_mk (shut_string Tryz.underlying9 ws1) (trodAll_mk0))
 ·rw[ef];rfl
theorem sd(os:Os){H:Type}(enc:TypeId × Value->H):∃ places,DataW.whole enc Tryz.prog ((kr os).forCall (fun _ _=>0) ⟨#[],#[.slice none 0 0,.string ⟨#[]⟩],[]⟩).memory Tryz.f3.params.toList Rows.topGetsSpec.vars false #[Value.slice none 0 0,Value.string ⟨#[]⟩].toList 8=some ([.nil,.lit (.string [])],[],places):=
 ⟨[],by kernel_rfl⟩
theorem xX(os:Os)(started:os.Started)(H:Type)(enc:TypeId × Value->H)(F:Stop.Interp):ReturnsInHanded {} Tryz.checked os 3 .any ((OpenSpec.ofChange Rows.topGetsSpec).preRow enc Tryz.prog Tryz.f3 Rows.topGetsRow.domain false Rows.topGetsRow.laid) (((OpenSpec.ofChange Rows.topGetsSpec).at F).post enc Tryz.prog Tryz.f3 false true false false):=by
 obtain⟨places,hx⟩:=sd os enc;refine returnsInHanded_of_row (C:=Tryz.checked) (s:=OpenSpec.ofChange Rows.topGetsSpec) own started (by kernel_rfl) Tryz.func3
  (witness_row_at (enc:=enc) (C:=Tryz.checked) false (kr os) #[.slice none 0 0,.string ⟨#[]⟩] rfl (by kernel_rfl) (by kernel_rfl) (by kernel_rfl)
   (OpenSpec.preRow_of_cond 8 hx (by kernel_rfl) (fun k hk=>by cases hk) (by kernel_rfl) (Af os _))) ?_
 intro W base args ds gs before hval hW _ _ hZ hL hS _;exact mf H enc W base args ds gs before hval hW hZ hL hS
theorem Oz:(Rows.topGetsRow.inPlace == Tryz.prog.inPlace 3)=true:=by kernel_rfl
theorem OA:(Rows.topGetsRow.unfollowed == Tryz.prog.unfollowed 3)=true:=by kernel_rfl
theorem OH:(Rows.topGetsRow.recurses == Tryz.prog.recurses 3)=true:=by kernel_rfl
theorem OF:(Rows.topGetsRow.named == Tryz.prog.varsNamed 3)=true:=by kernel_rfl
theorem Oy:(Rows.topGetsRow.plainKeys == Tryz.prog.plainKeys)=true:=by kernel_rfl
theorem OC:(Rows.topGetsRow.lifted == Tryz.prog.liftsFinal)=true:=by kernel_rfl
theorem Ox:joinedFacts Tryz.prog 3 Tryz.f3 (OpenSpec.ofChange Rows.topGetsSpec).bare Rows.topGetsRow=true:=
 Oq (Oq (Oq (Oq (Oq (Oq (Oq (Oq (Oq (Oq (Oq (Oq (Oq (Oq (Oq (Oq (Oq (Oq (Oq (Oq (Oq (Oq (Oq (Oq (Oq (Oq (Oq (Oq (Oq (Oq (Oq (by kernel_rfl) Ov) Ow) (by kernel_rfl)) (by kernel_rfl)) (by kernel_rfl)) (by kernel_rfl)) (by kernel_rfl)) (by kernel_rfl)) Oz) OA) OH) OF) (by kernel_rfl)) (by kernel_rfl)) (by kernel_rfl)) (by kernel_rfl)) (by kernel_rfl)) (by kernel_rfl)) (by kernel_rfl)) (by kernel_rfl)) (by kernel_rfl)) Oy) (by kernel_rfl)) Ot) Ou) OC) (by kernel_rfl)) (by kernel_rfl)) (by kernel_rfl)) (by kernel_rfl)) (by kernel_rfl)
theorem iZ:Rows.TopGetsSaid:=
 OpenClaim.holds_of_cond 3 Tryz.f3 rfl rfl rfl rfl rfl rfl rfl ⟨rfl,rfl,rfl,rfl,rfl⟩ rfl rfl rfl rfl rfl (by kernel_rfl) Tryz.func3 Ox
  (of_decide_eq_true (by kernel_rfl)) (by unfold Func.isWrapper;first | (rw[if_pos (by decide +kernel)];kernel_rfl) | (rw[if_neg (by decide +kernel)];exact⟨rfl,rfl⟩))
  (fun os started H enc _ F=>by rw[OpenClaim.pre_eq_preRow];exact xX os started H enc F)
theorem nD(f:FuncId)(fn:Func)(hf:Tryz.pinned.checked.prog.funcNamed "stairwell/stairwelltop.TopGets"=some f)(hfn:Tryz.pinned.checked.prog.funcs[f]?=some fn):true=Tryz.pinned.checked.prog.looks []/\∀ (j:Nat) t,fn.params[j]?=some t->Tryz.pinned.checked.prog.wantsStandIn t=false:=by
 obtain rfl:f=3:=Option.some.inj ((show Tryz.prog.funcNamed "stairwell/stairwelltop.TopGets"=some 3 by kernel_rfl).symm.trans hf) |>.symm
 obtain rfl:fn=Tryz.f3:=(Option.some.inj (Tryz.func3.symm.trans hfn)).symm;refine⟨by kernel_rfl,fun j t ht=>?_⟩;rw[Tryz.params3]at ht;have hm:=Array.mem_of_getElem? ht;simp only[Array.mem_def,List.mem_cons,List.not_mem_nil,or_false]at hm;rcases hm with rfl | rfl
 ·exact(show Tryz.prog.wantsStandIn 22=false by kernel_rfl)
 ·exact(show Tryz.prog.wantsStandIn 9=false by kernel_rfl)
theorem card:Rows.TopGetsCardSaid:=
 Claim7.holds_tied_plain_at .later [] _ _ _ _ iZ (fun _ h=>by cases h) (by kernel_rfl) (fun _ h=>by cases h) topGets_row_tie rfl ⟨rfl,rfl⟩ (by kernel_rfl) rfl nD (by kernel_rfl)
end Go.Proofs.YtlhejphddjdgkaaGreatDoor.topGets
