import Derived.Test.YtkjeiljdoljjgaaGreatDoorG13
set_option maxRecDepth 100000
set_option maxHeartbeats 40000000
set_option linter.unusedSimpArgs false
set_option linter.unusedVariables false
namespace Go.Proofs.YtkjeiljdoljjgaaGreatDoor
open Go.RowKit
open _root_.Go.Proofs.Tryz
variable {w:World}
variable {ok:Nat->Prop}
variable {n c d:Nat}
theorem tg{l a}(h:cS w ok (bu w ok d) l (.slice a n c))(i j)(hij:i<=j)(hj:j<=l.length)(hl:l.length<=1000000):∃ cs1 cs2 v1 v3,cA (bu w ok d) (l.take i) cs1/\cA (bu w ok d) (l.drop j) cs2/\du w 5 v1 i cs1/\du w 5 v3 (l.length - j) cs2/\(c=0/\l.length=0/\v1=.slice a 0 0/\v3=.slice a l.length 0\/∃ b off,a=some ⟨b,off,none⟩/\l.length<=c/\c<=9223372036854775807/\v1=.slice (some ⟨b,off,none⟩) i c/\v3=.slice (if c=j then some ⟨b,off,none⟩ else some ⟨b,off+j * 5,none⟩) (l.length - j) (c - j)):=by
 have h':=h;obtain⟨_,K5⟩:=h;rcases K5 with⟨e,e2⟩ | ⟨b,off,c,hls,hc1,hc2,Mb⟩
 ·obtain⟨a0,e2⟩:=e2;simp only[Value.slice.injEq]at e2;obtain⟨-,e3,e6⟩:=e2;subst e6;have e4:l.length=0:=by rw[e];rfl
  have e5:j=0:=by omega
  have e7:i=0:=by omega
  refine⟨[],[],_,_,?_,?_,?_,?_,.inl ⟨rfl,e4,rfl,rfl⟩⟩
  ·rw[e,List.take_nil];rfl
  ·rw[e,List.drop_nil];rfl
  ·rw[e7];exact mi w 5 a
  ·rw[e4,e5];exact mi w 5 a
 ·simp only[Value.slice.injEq]at hls;obtain⟨rfl,rfl,rfl⟩:=hls;obtain⟨cs1,cs2,r1,s1,r2,s2⟩:=km h' i j hij hj hl;exact⟨cs1,cs2,_,_,r1,r2,s1,s2,.inr ⟨b,off,rfl,hc1,hc2,rfl,rfl⟩⟩
theorem eI(w ok t v s)(h:In w ok t v)(hs:s.length<=9223372036854775807):Calls prog 241 #[v,aR s] w fun e w'=>∃ x b,e=.returned (.tuple #[x,.bool b])/\La w w'/\cZ w' ok (cg t s) x b:=by
 have H:=aa h.low;have HO:=aa h;obtain⟨l1,l2,l3⟩:=h.lens;obtain⟨a1,a2,c1,c2,rfl⟩:=h.form;clear h;by_cases hk:t.kind=4
 ·have q1:(t.kind == 4)=true:=by rw[hk];rfl
  have q2:(t.kind != 4)=false:=by rw[hk];rfl
  by_cases hm:∃ i,cX t.l.length s=some i/\i < t.l.length
  ·obtain⟨i,hp,hi⟩:=hm;have HM:Ll (cg t s=some t.l[i]):=aa (by unfold cg;rw[if_pos hk,hp,Option.bind_some,Mw hi]);have HP:=aa hp;have e1:((i:Int) == (t.l.length:Int))=false:=by rw[MO];omega
   clear hp hk;obtain⟨b,off,a5,c5,a6,c6,rfl,hc1,hc2,g0,g1,g2,g3,g4,g5⟩:=HO.o.item hi;have G:Ll (_/\_/\_/\_/\_):=⟨g0,g1,g2,g3,g4⟩
   have G5:=aa g5.low;clear g0 g1 g2 g3 g4 g5;go_enter func241,ntmps241;go_wp2_with fail
   refine(jb _ _ t.l.length c2 s l2 hs).mono ?_;rintro e w1 ⟨rfl,hw⟩;rw[HP.o];unfold ow;have hb1:La w w1:=by rw[hw];exact ab (ae _ _) (ae _ _)
   have LU:Lc w1 (w.heap.size+1):=by rw[hw];exact et w _ _
   have hbv:ag w1 w.heap.size (.int .i64 t.kind) (.int .i64 t.n) (.string ⟨t.s.toArray⟩) (.slice a1 t.keys.length c1) (.slice (some ⟨b,off,none⟩) t.l.length c2):=by rw[hw];exact fb w _ _
   obtain⟨-,-,-,-,p4,-⟩:=hbv.c;have x0_:=LU.c;have Z:Ll (La w w1/\ag (ar w1 (w.heap.size+1) (.int .i64 t.l[i].kind) (.int .i64 t.l[i].n) (.string ⟨t.l[i].s.toArray⟩) (.slice a5 t.l[i].keys.length c5) (.slice a6 t.l[i].l.length c6)) (w.heap.size+1) (.int .i64 t.l[i].kind) (.int .i64 t.l[i].n) (.string ⟨t.l[i].s.toArray⟩) (.slice a5 t.l[i].keys.length c5) (.slice a6 t.l[i].l.length c6)):=⟨hb1,LU.set _ _ _ _ _⟩
   obtain⟨g0,g1,g2,g3,g4⟩:=G.o;have m0:=ah hb1 g0;have m1:=ah hb1 g1;have m2:=ah hb1 g2;have m3:=ah hb1 g3;have m4:=ah hb1 g4;clear hw hb1 LU hbv g0 g1 g2 g3 g4 G;simp only[Option.getD_some,Option.isSome_some];go_wp2_with fail
   have z0_:=Z.o.2.c;refine MM (v:=.tuple #[.agg #[.int .i64 t.l[i].kind,.int .i64 t.l[i].n,.string ⟨t.l[i].s.toArray⟩,.slice a5 t.l[i].keys.length c5,.slice a6 t.l[i].l.length c6],.bool true]) ?_ rfl ?_
   ·simp only[ar]at z0_;simp[results,results241,go_sem,z0_]
   ·refine⟨_,_,rfl,aP Z.o.1 (Nat.le_succ _) _ _ _ _ _,?_⟩;rw[HM.o];exact cZ.some (((G5.o.bel Z.o.1).grown (aI w1 _ _ _ _ _ _) (fun k hk=>by omega)).weak fun k hk=>hk.1)
  ·have HM:Ll (cg t s=none):=aa (by
    unfold cg;rw[if_pos hk];cases hp:cX t.l.length s with
    | none=>rfl
    | some i=>rw[Option.bind_some,List.getElem?_eq_none];exact Nat.le_of_not_lt fun h=>hm ⟨i,hp,h⟩)
   have hq:((cX t.l.length s).isSome=false/\cX t.l.length s=none)\/cX t.l.length s=some t.l.length:=by
    cases hp:cX t.l.length s with
    | none=>exact .inl ⟨rfl,rfl⟩
    | some i=>
     have h1:=pV hp;have h2:¬i < t.l.length:=fun h=>hm ⟨i,hp,h⟩;exact .inr (by rw[show i=t.l.length by omega])
   have e1:((t.l.length:Int) == (t.l.length:Int))=true:=by simp
   clear hm hk;rcases hq with⟨-,hp⟩ | hp
   all_goals
    have HP:=aa hp;clear hp;go_enter func241,ntmps241;go_wp2_with fail
    refine(jb _ _ t.l.length c2 s l2 hs).mono ?_;rintro e w1 ⟨rfl,hw⟩;rw[HP.o];unfold ow;have hb1:La w w1:=by rw[hw];exact ab (ae _ _) (ae _ _)
    have LU:Lc w1 (w.heap.size+1):=by rw[hw];exact et w _ _
    have hbv:KY w1 w.heap.size t a1 c1 a2 c2:=by rw[hw];exact fb w _ _
    obtain⟨-,-,-,-,p4,-⟩:=hbv.c;have x0_:=LU.c;have Z:Ll (La w w1/\Lc (ar w1 (w.heap.size+1) (.int .i64 0) (.int .i64 0) (.string ⟨#[]⟩) (.slice none 0 0) (.slice none 0 0)) (w.heap.size+1)):=⟨hb1,LU.set _ _ _ _ _⟩
    clear hw hb1 LU hbv;simp only[Option.getD_some,Option.isSome_some,Option.getD_none,Option.isSome_none];go_wp2_with fail
    have z0_:=Z.o.2.c;refine MM (v:=.tuple #[.agg Lb,.bool false]) ?_ rfl ?_
    ·simp only[ar]at z0_;simp[results,results241,go_sem,z0_]
    ·refine⟨_,_,rfl,aP Z.o.1 (Nat.le_succ _) _ _ _ _ _,?_⟩;rw[HM.o];exact cZ.none (fG _ _)
 ·have q1:(t.kind == 4)=false:=by rw[MO];exact hk
  have q2:(t.kind != 4)=true:=by rw[bne_iff_ne];exact hk
  have HM:Ll (cg t s=aS t s):=aa (by unfold cg;rw[if_neg hk]);clear hk;go_enter func241,ntmps241;go_wp2_with fail
  refine(co _ (Lj ok w) t _ s (by exact H.o.bel (ab (ae _ _) (ae _ _)))).mono ?_;rintro e w1 ⟨x,b,rfl,hb1,hb2,y,hy,hyz⟩;obtain⟨a5,a6,c5,c6,rfl⟩:=hy.form;have R:Ll (La w w1/\b=(cg t s).isSome/\In w1 (Lj ok w) y (.agg (KV y a5 c5 a6 c6))/\∀ z,cg t s=some z->y=z):=
   ⟨ab (ab (ae _ _) (ae _ _)) hb1,by rw[HM.o];exact hb2,hy,by rw[HM.o];exact hyz⟩
  have LU:Lc w1 (w.heap.size+1):=af hb1 (et w _ _);have x0_:=LU.c;have Z:Ll (KY (LG w1 (w.heap.size+1) y a5 c5 a6 c6) (w.heap.size+1) y a5 c5 a6 c6):=LU.set _ _ _ _ _;clear hb1 hb2 hy hyz LU;go_wp2_with fail
  have z0_:=Z.o.c;refine MM (v:=.tuple #[.agg (KV y a5 c5 a6 c6),.bool b]) ?_ rfl ?_
  ·simp only[ar]at z0_;simp[results,results241,go_sem,z0_]
  ·obtain⟨r1,r2,r3,r4⟩:=R.o;refine⟨_,_,rfl,aP r1 (Nat.le_succ _) _ _ _ _ _,r2,y,?_,r4⟩;exact(r3.grown (aI w1 _ _ _ _ _ _) (fun k hk=>by omega)).weak fun k hk=>hk.1
variable {v:Value}
variable {x:V}
variable {g B i:Nat}
theorem sY{xs}(h:ao w ok xs v)(hl:xs.length<=1000000):du w 1 v xs.length (xs.map aR):=by
 have h':=h;rcases h.2 with⟨rfl,a,rfl⟩ | ⟨b,off,c,rfl,h1,h2,h3⟩
 ·exact mi w 1 a
 ·have:=(qG h' xs.length xs.length (MG _) (MG _) hl).1;rwa [List.take_length]at this
theorem AF{xs}(h:cS w ok (bu w ok d) xs v)(hl:xs.length<=1000000):∃ cs,cA (bu w ok d) xs cs/\du w 5 v xs.length cs:=by
 have h':=h;rcases h.2 with⟨rfl,a,rfl⟩ | ⟨b,off,c,rfl,h1,h2,h3⟩
 ·exact⟨[],rfl,mi w 5 a⟩
 ·obtain⟨c1,c2,r1,s1,-,-⟩:=km h' xs.length xs.length (MG _) (MG _) hl;rw[List.take_length]at r1;exact⟨c1,r1,s1⟩
theorem ej{e:TypeId}{size xs}(h:w.ownsRow B e size v n xs):∃ a c,v=.slice a n c/\(n=0\/∃ g,a=some ⟨g,0,none⟩)/\n<=c/\c<=9223372036854775807/\∀ g,a=some ⟨g,0,none⟩->B<=g/\g < w.heap.size:=by
 have hlt:=h.lt;rcases h.2 with⟨rfl,h0⟩ | ⟨g,cap,cur,rfl,h1,h2,h3,h4,-⟩
 ·exact⟨none,0,by rw[h0],.inl h0,by omega,by omega,fun g e=>by cases e⟩
 ·exact⟨_,cap,rfl,.inr ⟨g,rfl⟩,h3,h4,fun g' e=>by cases e;exact hlt g rfl⟩
theorem ry{e:TypeId}{size a xs}(h:w.ownsRow B e size (.slice a n c) n xs):a=none\/∃ g,a=some ⟨g,0,none⟩:=by
 rcases h.2 with⟨e,-⟩ | ⟨g,cap,cur,e,-⟩
 ·simp only[Value.slice.injEq]at e;exact .inl e.1
 ·simp only[Value.slice.injEq]at e;exact .inr ⟨g,e.1⟩
theorem mQ:∀ {xs:List V} {cs:List Value},cA (In w ok) xs cs->∃ D,cA (bu w ok D) xs cs
 | [],cs,h=>⟨0,h⟩
 | x :: xs,cs,h=>by
  obtain⟨v0,v1,v2,v3,v4,rest,e,⟨d,hd⟩,hr⟩:=h;obtain⟨D,hD⟩:=mQ hr;exact⟨d+D,v0,v1,v2,v3,v4,rest,e,bu.le (by omega) hd,hD.imp fun _ _ h=>bu.le (by omega) h⟩
theorem nG(h:ce x=true)(hl:x.l.length<=120):x.keys.length<=120:=by
 unfold ce cp at h;repeat' split at h
 all_goals first | (simp only[MJ,decide_eq_true_eq]at h;omega) | cases h
def vr (w:LC) (g i:Nat) (d0 d1 d2 d3 d4:Value):LC:=
 ((((w.setCell ⟨g,i,none⟩ d0).setCell ⟨g,i+1,none⟩ d1).setCell ⟨g,i+2,none⟩ d2).setCell ⟨g,i+3,none⟩ d3).setCell ⟨g,i+4,none⟩ d4
theorem us(w:LC)(g i d0 d1 d2 d3 d4):w.grownBy (vr w g i d0 d1 d2 d3 d4) (some g):=
 ap (ap (ap (ap (ap (az _ _) _ _) _ _) _ _) _ _) _ _
theorem Ad{e:TypeId}{cap xs zs d0 d1 d2 d3 d4 v0 v1 v2 v3 v4}(h:w.ownsRow B e 5 (.slice (some ⟨g,0,none⟩) n cap) n (xs++v0 :: v1 :: v2 :: v3 :: v4 :: zs)):(vr w g xs.length d0 d1 d2 d3 d4).ownsRow B e 5 (.slice (some ⟨g,0,none⟩) n cap) n (xs++d0 :: d1 :: d2 :: d3 :: d4 :: zs):=by
 obtain⟨hl,h⟩:=h;refine⟨by simpa using hl,?_⟩;rcases h with⟨e,_⟩ | ⟨g',cap',cur,e1,h1,h2,h3,h4,h5,h6⟩
 ·cases e
 ·simp only[Value.slice.injEq,Option.some.injEq,Addr.mk.injEq,true_and,and_true]at e1;obtain⟨rfl,rfl⟩:=e1;have e9:=ak (ak (ak (ak (ak h2 xs.length d0) (xs.length+1) d1) (xs.length+2) d2) (xs.length+3) d3) (xs.length+4) d4;refine .inr ⟨g,cap,_,rfl,h1,e9,h3,h4,by simp[h5],?_⟩;obtain⟨tl,hcur⟩:∃ tl,cur.toList=(xs++v0 :: v1 :: v2 :: v3 :: v4 :: zs)++tl:=⟨cur.toList.drop (n * 5),by rw[<-h6,List.take_append_drop]⟩
  have key:∀ (r:List Value),(((((xs++v0 :: v1 :: v2 :: v3 :: v4 :: r).set xs.length d0).set (xs.length+1) d1).set (xs.length+2) d2).set (xs.length+3) d3).set (xs.length+4) d4=xs++d0 :: d1 :: d2 :: d3 :: d4 :: r:=by
   intro r;simp[List.set_append]
  have hcur2:cur.toList=xs++v0 :: v1 :: v2 :: v3 :: v4 :: (zs++tl):=by rw[hcur];simp
  simp only[Array.toList_setIfInBounds];rw[hcur2,key];have hn:n * 5=(xs++d0 :: d1 :: d2 :: d3 :: d4 :: zs).length:=by rw[<-hl];simp
  have e10:xs++d0 :: d1 :: d2 :: d3 :: d4 :: (zs++tl)=(xs++d0 :: d1 :: d2 :: d3 :: d4 :: zs)++tl:=by simp
  rw[e10,List.take_append_of_le_length (by omega),MD (by omega)]
theorem Jc{cs:List Value}{v0 v1 v2 v3 v4}(g0:cs[i * 5]?=some v0)(g1:cs[i * 5+1]?=some v1)(g2:cs[i * 5+2]?=some v2)(g3:cs[i * 5+3]?=some v3)(g4:cs[i * 5+4]?=some v4):cs.drop (i * 5)=v0 :: v1 :: v2 :: v3 :: v4 :: cs.drop ((i+1) * 5):=by
 obtain⟨h0,e0⟩:=Mz.1 g0;obtain⟨h1,e1⟩:=Mz.1 g1;obtain⟨h2,e2⟩:=Mz.1 g2;obtain⟨h3,e3⟩:=Mz.1 g3;obtain⟨h4,e4⟩:=Mz.1 g4;rw[ME h0,ME h1,ME h2,ME h3,ME h4,e0,e1,e2,e3,e4,show i * 5+4+1=(i+1) * 5 by omega]
def Jn (w:LC) (g i:Nat):Prop:=(∃ u,w.cell? ⟨g,i,none⟩=some u)/\(∃ u,w.cell? ⟨g,i+1,none⟩=some u)/\(∃ u,w.cell? ⟨g,i+2,none⟩=some u)/\(∃ u,w.cell? ⟨g,i+3,none⟩=some u)/\(∃ u,w.cell? ⟨g,i+4,none⟩=some u) /\
 w.frozen? ⟨g,i,none⟩=false/\w.frozen? ⟨g,i+1,none⟩=false/\w.frozen? ⟨g,i+2,none⟩=false/\w.frozen? ⟨g,i+3,none⟩=false/\w.frozen? ⟨g,i+4,none⟩=false
theorem lE{e:TypeId}{cap xs zs v0 v1 v2 v3 v4}(h:w.ownsRow B e 5 (.slice (some ⟨g,0,none⟩) n cap) n (xs++v0 :: v1 :: v2 :: v3 :: v4 :: zs))(hi:xs.length=i):w.cell? ⟨g,i,none⟩=some v0/\w.cell? ⟨g,i+1,none⟩=some v1/\w.cell? ⟨g,i+2,none⟩=some v2/\w.cell? ⟨g,i+3,none⟩=some v3/\w.cell? ⟨g,i+4,none⟩=some v4:=by
 subst hi;have c:∀ j u,(xs++v0 :: v1 :: v2 :: v3 :: v4 :: zs)[j]?=some u->w.cell? ⟨g,j,none⟩=some u:=fun j u hj=>by
  have:=h.cells (g:=g) rfl j u hj;rw[eh,Nat.zero_add]at this;exact this
 exact⟨c _ _ (by simp),c _ _ (by simp),c _ _ (by simp),c _ _ (by simp),c _ _ (by simp)⟩
theorem AC{e:TypeId}{cap xs zs v0 v1 v2 v3 v4}(h:w.ownsRow B e 5 (.slice (some ⟨g,0,none⟩) n cap) n (xs++v0 :: v1 :: v2 :: v3 :: v4 :: zs))(hi:xs.length=i):Jn w g i:=by
 obtain⟨c0,c1,c2,c3,c4⟩:=lE h hi;have fz:∀ j,w.frozen? ⟨g,j,none⟩=false:=by
  intro j;rcases h.2 with⟨e,_⟩ | ⟨g',cap',cur,e1,-,h2,-⟩
  ·cases e
  ·simp only[Value.slice.injEq,Option.some.injEq,Addr.mk.injEq,and_true]at e1;obtain⟨rfl,-,-⟩:=e1;simp[World.frozen?,h2]
 exact⟨⟨_,c0⟩,⟨_,c1⟩,⟨_,c2⟩,⟨_,c3⟩,⟨_,c4⟩,fz _,fz _,fz _,fz _,fz _⟩
theorem sK{w1}(h:La w w1)(hg:w.heap.size<=g)(i d0 d1 d2 d3 d4):La w (vr w1 g i d0 d1 d2 d3 d4):=
 bS (bi (bi (bi (bi (bi (aq h) hg _ _) hg _ _) hg _ _) hg _ _) hg _ _)
section
attribute [local go_sem ↓] Go.wp_at_zero Go.wp_at_succ
theorem qQ(w ok t x v xv s i)(h:In w ok t v)(hx:In w ok x xv)(hk:t.kind=4)(hp:cX t.l.length s=some i)(hi:i < t.l.length)(L9:t.l.length<=100000)(hs:s.length<=9223372036854775807):Calls prog 208 #[v,aR s,xv] w fun e w'=>∃ r,e=.returned (.tuple #[r,.bool true])/\La w w'/\In w' (bQ ok w.heap.size) { t with l:=t.l.take i++x :: t.l.drop (i+1) } r:=by
 obtain⟨l1,l2,l3⟩:=h.lens;obtain⟨a7,a8,c7,c8,rfl⟩:=hx.form;obtain⟨d,h,hx⟩:=h.low.two hx.low;have HX:=aa hx;obtain⟨ks,ls,rfl,h1,h2,h3,h4,h5⟩:=h;have KK:Ll (dW t.kind/\dW t.n/\t.s.length<=maxLen/\ao w _ t.keys ks/\cS w _ (bu w _ d) t.l ls):=⟨h1,h2,h3,h4,h5⟩
 obtain⟨a1,c1,rfl⟩:=h4.form;obtain⟨a2,c2,rfl⟩:=h5.form;have hia:=pV hp;obtain⟨cs1,cs2,v1,v3,r1,r2,s1,s3,hcase⟩:=tg h5 i (i+1) (by omega) hi (by omega);have R:Ll (cA (bu w _ d) (t.l.take i) cs1/\cA (bu w _ d) (t.l.drop (i+1)) cs2/\du w 5 v1 i cs1/\du w 5 v3 (t.l.length - (i+1)) cs2):=⟨r1,r2,s1,s3⟩
 have HC:=aa hcase;have HP:=aa hp;have q1:(t.kind == 5)=false:=by rw[hk];rfl
 have q2:(t.kind == 4)=true:=by rw[hk];rfl
 clear h1 h2 h4 h5 hx r1 r2 s1 s3 hcase hp hk;unfold maxLen at h3;unfold aR;have HM:Ll (cg t s=some t.l[i]):=aa (by unfold cg;rw[if_pos (by simpa using q2),HP.o,Option.bind_some,Mw hi]);have HV:Ll (In w (Lj ok w) t (.agg (KV t a1 c1 a2 c2))):=⟨d+1,_,_,rfl,KK.o.1,KK.o.2.1,KK.o.2.2.1,KK.o.2.2.2.1,KK.o.2.2.2.2⟩
 go_enter func208,ntmps208;go_wp2_with fail
 refine(eI _ (Lj ok w) t _ s (by exact HV.o.bel (ab (ab (ae _ _) (ae _ _)) (ae _ _))) hs).mono ?_;rintro e w0 ⟨x9,b9,rfl,hb0,hb9,y9,hy9,-⟩;rw[HM.o]at hb9;simp only[Option.isSome_some]at hb9;subst hb9;obtain⟨a5,a6,c5,c6,rfl⟩:=hy9.form;have M0:Ll (KY w0 w.heap.size t a1 c1 a2 c2/\KY w0 (w.heap.size+1) x a7 c7 a8 c8/\Lc w0 (w.heap.size+2)/\La w w0):=
  ⟨af hb0 (lI w _ _ _),af hb0 (mE w _ _ _),af hb0 (jI w _ _ _),ab (ab (ab (ae _ _) (ae _ _)) (ae _ _)) hb0⟩
 have M1:Ll (KY (w0.alloc (.cells (KV y9 a5 c5 a6 c6) 35)) w.heap.size t a1 c1 a2 c2/\KY (w0.alloc (.cells (KV y9 a5 c5 a6 c6) 35)) (w.heap.size+1) x a7 c7 a8 c8/\Lc (w0.alloc (.cells (KV y9 a5 c5 a6 c6) 35)) (w.heap.size+2)/\La w (w0.alloc (.cells (KV y9 a5 c5 a6 c6) 35))):=by
  have LW:=ae w0 (.cells (KV y9 a5 c5 a6 c6) 35);exact⟨af LW M0.o.1,af LW M0.o.2.1,af LW M0.o.2.2.1,ab M0.o.2.2.2 LW⟩
 obtain⟨n0,-,-,-,n4,-⟩:=M1.o.1.c;clear hb0 hy9;go_wp2_with fail
 refine(jb _ _ t.l.length c2 s l2 hs).mono ?_;rintro e w1 ⟨rfl,hw⟩;rw[HP.o];unfold ow;have M:Ll (KY w1 w.heap.size t a1 c1 a2 c2/\KY w1 (w.heap.size+1) x a7 c7 a8 c8/\Lc w1 (w.heap.size+2)/\La w w1):=by
  rw[hw];exact M1.o
 clear hw M1;have hsz1:w.heap.size+2 < w1.heap.size:=M.o.2.2.1.lt;simp only[Option.getD_some,Option.isSome_some];obtain⟨p0,p1,p2,p3,p4,-,-,-,p9,p10⟩:=M.o.1.c;have q0_:=M.o.2.1.c;have k4:∀ o,(w1.alloc o).cell? ⟨w.heap.size,4,none⟩=some (.slice a2 t.l.length c2):=fun o=>(af (ae w1 o) M.o.1).c.2.2.2.2.1;have m0:∀ o,(w1.alloc o).cell? ⟨w.heap.size+1,0,none⟩=some (.int .i64 x.kind):=fun o=>(af (ae w1 o) M.o.2.1).c.1;have m1:∀ o,(w1.alloc o).cell? ⟨w.heap.size+1,1,none⟩=some (.int .i64 x.n):=fun o=>(af (ae w1 o) M.o.2.1).c.2.1;have m2:∀ o,(w1.alloc o).cell? ⟨w.heap.size+1,2,none⟩=some (.string ⟨x.s.toArray⟩):=fun o=>(af (ae w1 o) M.o.2.1).c.2.2.1;have m3:∀ o,(w1.alloc o).cell? ⟨w.heap.size+1,3,none⟩=some (.slice a7 x.keys.length c7):=fun o=>(af (ae w1 o) M.o.2.1).c.2.2.2.1;have m4:∀ o,(w1.alloc o).cell? ⟨w.heap.size+1,4,none⟩=some (.slice a8 x.l.length c8):=fun o=>(af (ae w1 o) M.o.2.1).c.2.2.2.2.1;have con:Ll (∀ W,W.heap=((w1.alloc (.cells (KV x a7 c7 a8 c8) 35)).alloc (.cells #[v1,.slice (some ⟨w1.heap.size,0,none⟩) 1 1,v3] 33)).heap->W.os=w1.os->W.tape=w1.tape->W.output=w1.output ->
  Calls prog 197 #[.slice (some ⟨w1.heap.size+1,0,none⟩) 3 3] W fun e w'=>∃ g cap,e=.returned (.slice (some ⟨g,0,none⟩) t.l.length cap)/\w'.ownsRow w1.heap.size 35 5 (.slice (some ⟨g,0,none⟩) t.l.length cap) t.l.length (cs1++[.int .i64 x.kind,.int .i64 x.n,.string ⟨x.s.toArray⟩,.slice a7 x.keys.length c7,.slice a8 x.l.length c8]++cs2)/\La w1 w'):=by
  intro W e1 e2 e4 e5;exact EJ _ _ _ _ _ _ _ _ _ (R.o.2.2.1.bel M.o.2.2.2) (R.o.2.2.2.bel M.o.2.2.2) (by omega) (by omega) W e1 e2 e4 e5
 have fin:Ll (∀ w3 g cap,w3.ownsRow w1.heap.size 35 5 (.slice (some ⟨g,0,none⟩) t.l.length cap) t.l.length (cs1++[.int .i64 x.kind,.int .i64 x.n,.string ⟨x.s.toArray⟩,.slice a7 x.keys.length c7,.slice a8 x.l.length c8]++cs2)->La w1 w3 ->
  In (ar (w3.setCell ⟨w.heap.size,4,none⟩ (.slice (some ⟨g,0,none⟩) t.l.length cap)) (w.heap.size+2) (.int .i64 t.kind) (.int .i64 t.n) (.string ⟨t.s.toArray⟩) (.slice a1 t.keys.length c1) (.slice (some ⟨g,0,none⟩) t.l.length cap)) (bQ ok w.heap.size) { t with l:=t.l.take i++x :: t.l.drop (i+1) } (.agg #[.int .i64 t.kind,.int .i64 t.n,.string ⟨t.s.toArray⟩,.slice a1 t.keys.length c1,.slice (some ⟨g,0,none⟩) t.l.length cap]) /\
  La w (ar (w3.setCell ⟨w.heap.size,4,none⟩ (.slice (some ⟨g,0,none⟩) t.l.length cap)) (w.heap.size+2) (.int .i64 t.kind) (.int .i64 t.n) (.string ⟨t.s.toArray⟩) (.slice a1 t.keys.length c1) (.slice (some ⟨g,0,none⟩) t.l.length cap))/\ag (ar (w3.setCell ⟨w.heap.size,4,none⟩ (.slice (some ⟨g,0,none⟩) t.l.length cap)) (w.heap.size+2) (.int .i64 t.kind) (.int .i64 t.n) (.string ⟨t.s.toArray⟩) (.slice a1 t.keys.length c1) (.slice (some ⟨g,0,none⟩) t.l.length cap)) (w.heap.size+2) (.int .i64 t.kind) (.int .i64 t.n) (.string ⟨t.s.toArray⟩) (.slice a1 t.keys.length c1) (.slice (some ⟨g,0,none⟩) t.l.length cap)):=by
  intro w3 g cap ho hb;have g1:w3.grownBy (w3.setCell ⟨w.heap.size,4,none⟩ (.slice (some ⟨g,0,none⟩) t.l.length cap)) (some w.heap.size):=ap (az _ _) _ _;have g2:=aI (w3.setCell ⟨w.heap.size,4,none⟩ (.slice (some ⟨g,0,none⟩) t.l.length cap)) (w.heap.size+2) (.int .i64 t.kind) (.int .i64 t.n) (.string ⟨t.s.toArray⟩) (.slice a1 t.keys.length c1) (.slice (some ⟨g,0,none⟩) t.l.length cap);have LU:=((af hb M.o.2.2.1).grown g1 (by simp)).set (.int .i64 t.kind) (.int .i64 t.n) (.string ⟨t.s.toArray⟩) (.slice a1 t.keys.length c1) (.slice (some ⟨g,0,none⟩) t.l.length cap);have hbw:La w w3:=ab M.o.2.2.2 hb;have hb9:La w (ar (w3.setCell ⟨w.heap.size,4,none⟩ (.slice (some ⟨g,0,none⟩) t.l.length cap)) (w.heap.size+2) (.int .i64 t.kind) (.int .i64 t.n) (.string ⟨t.s.toArray⟩) (.slice a1 t.keys.length c1) (.slice (some ⟨g,0,none⟩) t.l.length cap)):=bS (eD (bi (aq hbw) (MG _) _ _) (by omega) _ _ _ _ _);refine⟨⟨d+1,_,_,rfl,KK.o.1,KK.o.2.1,KK.o.2.2.1,?_,?_⟩,hb9,LU⟩
  ·exact(KK.o.2.2.2.1.bel hb9).imp fun a x hx hc=>⟨.inl hx.1,hc⟩
  ·have ho9:=aW (aW ho g1 (by omega)) g2 (by omega);have LT:t.l.length=(t.l.take i++x :: t.l.drop (i+1)).length:=by simp;omega
   refine fJ LT ho9 ?_ (fun k hk=>.inr (by omega)) (by rw[<-LT];unfold maxLen;omega);have rx:cA (bu _ (bQ (Lj ok w) w.heap.size) d) [x] [.int .i64 x.kind,.int .i64 x.n,.string ⟨x.s.toArray⟩,.slice a7 x.keys.length c7,.slice a8 x.l.length c8]:=⟨_,_,_,_,_,[],rfl,(HX.o.bel hb9).toN,rfl⟩
   have:=((R.o.2.1.bel (B:=w.heap.size) hb9).append rx).append (R.o.1.bel (B:=w.heap.size) hb9);rw[List.append_assoc];exact this.imp fun _ _ h=>h.weak fun k hk=>by rcases hk with hk | hk;exact .inl hk.1;exact .inr hk
 have j0:(0:Int)<=(i:Int):=by omega
 have j1:(i:Int)+1<=(t.l.length:Int):=by omega
 have j2:(0:Int)<=(i:Int)+1:=by omega
 have hw1:IntKind.i64.wrap ((i:Int)+1)=(i:Int)+1:=by rw[IntKind.wrap_i64];omega
 rcases HC.o with⟨-,e3,-⟩ | ⟨b,off,rfl,hc1,hc2,rfl,hv3⟩
 ·omega
 ·obtain⟨a3,hifs⟩:∃ a3,(if c2=i+1 then (some ⟨b,off,none⟩:Option Addr) else some ⟨b,off+(i+1) * 5,none⟩)=a3:=⟨_,rfl⟩
  rw[hifs]at hv3;subst hv3;clear HC;have j5:(i:Int)<=(c2:Int):=by omega
  have j6:(t.l.length:Int)<=(c2:Int):=by omega
  go_upto_region 7 with fail
  go_region_with ((go_at_call 197;refine(con.o _ (by rfl) (by rfl) (by rfl) (by rfl)).mono ?_;rintro e w3 ⟨g,cap,rfl,ho3,hb3⟩;obtain⟨p0,p1,p2,p3,p4,-,-,-,p9,p10⟩:=(af hb3 M.o.1).c;have x0_:=(af hb3 M.o.2.2.1).c;have O3:=aa ho3;have HB3:=aa hb3;clear ho3 hb3))
  all_goals
   go_wp2_with fail
   obtain⟨f1,f2,f3⟩:=fin.o _ g cap O3.o HB3.o;have z0_:=f3.c;refine MM (v:=.tuple #[.agg #[.int .i64 t.kind,.int .i64 t.n,.string ⟨t.s.toArray⟩,.slice a1 t.keys.length c1,.slice (some ⟨g,0,none⟩) t.l.length cap],.bool true]) ?_ rfl ?_
   ·simp only[ar]at z0_;simp[results,results208,go_sem,z0_]
   ·exact⟨_,rfl,f2,f1⟩
end
section
attribute [local go_sem ↓] Go.wp_at_zero Go.wp_at_succ
theorem sQ(w ok t v s i)(h:In w ok t v)(hk:t.kind=4)(hp:cX t.l.length s=some i)(hi:i < t.l.length)(L9:t.l.length<=100000)(hs:s.length<=9223372036854775807):Calls prog 207 #[v,aR s] w fun e w'=>∃ r,e=.returned (.tuple #[r,.bool true])/\La w w'/\In w' (bQ ok w.heap.size) { t with l:=t.l.take i++t.l.drop (i+1) } r:=by
 obtain⟨l1,l2,l3⟩:=h.lens;obtain⟨d,h⟩:=h.low.at;obtain⟨ks,ls,rfl,h1,h2,h3,h4,h5⟩:=h;have KK:Ll (dW t.kind/\dW t.n/\t.s.length<=maxLen/\ao w _ t.keys ks/\cS w _ (bu w _ d) t.l ls):=⟨h1,h2,h3,h4,h5⟩
 obtain⟨a1,c1,rfl⟩:=h4.form;obtain⟨a2,c2,rfl⟩:=h5.form;obtain⟨cs1,cs2,v1,v3,r1,r2,s1,s3,hcase⟩:=tg h5 i (i+1) (by omega) hi (by omega);have R:Ll (cA (bu w _ d) (t.l.take i) cs1/\cA (bu w _ d) (t.l.drop (i+1)) cs2/\du w 5 v1 i cs1/\du w 5 v3 (t.l.length - (i+1)) cs2):=⟨r1,r2,s1,s3⟩
 have HC:=aa hcase;have HP:=aa hp;have q1:(t.kind == 5)=false:=by rw[hk];rfl
 have q2:(t.kind == 4)=true:=by rw[hk];rfl
 clear h1 h2 h4 h5 r1 r2 s1 s3 hcase hp hk;unfold maxLen at h3;unfold aR;have HM:Ll (cg t s=some t.l[i]):=aa (by unfold cg;rw[if_pos (by simpa using q2),HP.o,Option.bind_some,Mw hi]);have HV:Ll (In w (Lj ok w) t (.agg (KV t a1 c1 a2 c2))):=⟨d+1,_,_,rfl,KK.o.1,KK.o.2.1,KK.o.2.2.1,KK.o.2.2.2.1,KK.o.2.2.2.2⟩
 go_enter func207,ntmps207;go_wp2_with fail
 refine(eI _ (Lj ok w) t _ s (by exact HV.o.bel (ab (ae _ _) (ae _ _))) hs).mono ?_;rintro e w0 ⟨x9,b9,rfl,hb0,hb9,y9,hy9,-⟩;rw[HM.o]at hb9;simp only[Option.isSome_some]at hb9;subst hb9;obtain⟨a5,a6,c5,c6,rfl⟩:=hy9.form;have M0:Ll (KY w0 w.heap.size t a1 c1 a2 c2/\Lc w0 (w.heap.size+1)/\La w w0):=
  ⟨af hb0 (fb w _ _),af hb0 (et w _ _),ab (ab (ae _ _) (ae _ _)) hb0⟩
 have M1:Ll (KY (w0.alloc (.cells (KV y9 a5 c5 a6 c6) 35)) w.heap.size t a1 c1 a2 c2/\Lc (w0.alloc (.cells (KV y9 a5 c5 a6 c6) 35)) (w.heap.size+1)/\La w (w0.alloc (.cells (KV y9 a5 c5 a6 c6) 35))):=by
  have LW:=ae w0 (.cells (KV y9 a5 c5 a6 c6) 35);exact⟨af LW M0.o.1,af LW M0.o.2.1,ab M0.o.2.2 LW⟩
 obtain⟨n0,-,-,-,n4,-⟩:=M1.o.1.c;clear hb0 hy9;go_wp2_with fail
 refine(jb _ _ t.l.length c2 s l2 hs).mono ?_;rintro e w1 ⟨rfl,hw⟩;rw[HP.o];unfold ow;have M:Ll (KY w1 w.heap.size t a1 c1 a2 c2/\Lc w1 (w.heap.size+1)/\La w w1):=by
  rw[hw];exact M1.o
 clear hw M1;have hsz1:w.heap.size+1 < w1.heap.size:=M.o.2.1.lt;simp only[Option.getD_some,Option.isSome_some];obtain⟨p0,p1,p2,p3,p4,-,-,-,p9,p10⟩:=M.o.1.c;have k4:∀ o,(w1.alloc o).cell? ⟨w.heap.size,4,none⟩=some (.slice a2 t.l.length c2):=fun o=>(af (ae w1 o) M.o.1).c.2.2.2.2.1;have con:Ll (∀ W,W.heap=(w1.alloc (.cells #[v1,v3] 33)).heap->W.os=w1.os->W.tape=w1.tape->W.output=w1.output ->
  Calls prog 197 #[.slice (some ⟨w1.heap.size,0,none⟩) 2 2] W fun e w'=>∃ a8 cap,e=.returned (.slice a8 (t.l.length - 1) cap)/\w'.ownsRow w1.heap.size 35 5 (.slice a8 (t.l.length - 1) cap) (t.l.length - 1) (cs1++cs2)/\La w1 w'):=by
  intro W e1 e2 e4 e5;exact nB (R.o.2.2.1.bel M.o.2.2) (R.o.2.2.2.bel M.o.2.2) (by omega) (by omega) W e1 e2 e4 e5
 have fin:Ll (∀ w3 a8 cap,w3.ownsRow w1.heap.size 35 5 (.slice a8 (t.l.length - 1) cap) (t.l.length - 1) (cs1++cs2)->La w1 w3 ->
  In (ar (w3.setCell ⟨w.heap.size,4,none⟩ (.slice a8 (t.l.length - 1) cap)) (w.heap.size+1) (.int .i64 t.kind) (.int .i64 t.n) (.string ⟨t.s.toArray⟩) (.slice a1 t.keys.length c1) (.slice a8 (t.l.length - 1) cap)) (bQ ok w.heap.size) { t with l:=t.l.take i++t.l.drop (i+1) } (.agg #[.int .i64 t.kind,.int .i64 t.n,.string ⟨t.s.toArray⟩,.slice a1 t.keys.length c1,.slice a8 (t.l.length - 1) cap]) /\
  La w (ar (w3.setCell ⟨w.heap.size,4,none⟩ (.slice a8 (t.l.length - 1) cap)) (w.heap.size+1) (.int .i64 t.kind) (.int .i64 t.n) (.string ⟨t.s.toArray⟩) (.slice a1 t.keys.length c1) (.slice a8 (t.l.length - 1) cap))/\ag (ar (w3.setCell ⟨w.heap.size,4,none⟩ (.slice a8 (t.l.length - 1) cap)) (w.heap.size+1) (.int .i64 t.kind) (.int .i64 t.n) (.string ⟨t.s.toArray⟩) (.slice a1 t.keys.length c1) (.slice a8 (t.l.length - 1) cap)) (w.heap.size+1) (.int .i64 t.kind) (.int .i64 t.n) (.string ⟨t.s.toArray⟩) (.slice a1 t.keys.length c1) (.slice a8 (t.l.length - 1) cap)):=by
  intro w3 a8 cap ho hb;have g1:w3.grownBy (w3.setCell ⟨w.heap.size,4,none⟩ (.slice a8 (t.l.length - 1) cap)) (some w.heap.size):=ap (az _ _) _ _;have g2:=aI (w3.setCell ⟨w.heap.size,4,none⟩ (.slice a8 (t.l.length - 1) cap)) (w.heap.size+1) (.int .i64 t.kind) (.int .i64 t.n) (.string ⟨t.s.toArray⟩) (.slice a1 t.keys.length c1) (.slice a8 (t.l.length - 1) cap);have LU:=((af hb M.o.2.1).grown g1 (by simp)).set (.int .i64 t.kind) (.int .i64 t.n) (.string ⟨t.s.toArray⟩) (.slice a1 t.keys.length c1) (.slice a8 (t.l.length - 1) cap);have hbw:La w w3:=ab M.o.2.2 hb;have hb9:La w (ar (w3.setCell ⟨w.heap.size,4,none⟩ (.slice a8 (t.l.length - 1) cap)) (w.heap.size+1) (.int .i64 t.kind) (.int .i64 t.n) (.string ⟨t.s.toArray⟩) (.slice a1 t.keys.length c1) (.slice a8 (t.l.length - 1) cap)):=bS (eD (bi (aq hbw) (MG _) _ _) (by omega) _ _ _ _ _);have LT:t.l.length - 1=(t.l.take i++t.l.drop (i+1)).length:=by simp;omega
  refine⟨⟨d+1,_,_,by simp only[<-LT];rfl,KK.o.1,KK.o.2.1,KK.o.2.2.1,?_,?_⟩,hb9,LU⟩
  ·exact(KK.o.2.2.2.1.bel hb9).imp fun a x hx hc=>⟨.inl hx.1,hc⟩
  ·have ho9:=aW (aW ho g1 (by omega)) g2 (by omega);refine fJ LT ho9 ?_ (fun k hk=>.inr (by omega)) (by rw[<-LT];unfold maxLen;omega);have:=(R.o.2.1.bel (B:=w.heap.size) hb9).append (R.o.1.bel (B:=w.heap.size) hb9);exact this.imp fun _ _ h=>h.weak fun k hk=>by rcases hk with hk | hk;exact .inl hk.1;exact .inr hk
 have j0:(0:Int)<=(i:Int):=by omega
 have j1:(i:Int)+1<=(t.l.length:Int):=by omega
 have j2:(0:Int)<=(i:Int)+1:=by omega
 have hw1:IntKind.i64.wrap ((i:Int)+1)=(i:Int)+1:=by rw[IntKind.wrap_i64];omega
 rcases HC.o with⟨-,e3,-⟩ | ⟨b,off,rfl,hc1,hc2,rfl,hv3⟩
 ·omega
 ·obtain⟨a3,hifs⟩:∃ a3,(if c2=i+1 then (some ⟨b,off,none⟩:Option Addr) else some ⟨b,off+(i+1) * 5,none⟩)=a3:=⟨_,rfl⟩
  rw[hifs]at hv3;subst hv3;clear HC;have j5:(i:Int)<=(c2:Int):=by omega
  have j6:(t.l.length:Int)<=(c2:Int):=by omega
  go_upto_region 7 with fail
  go_region_with ((go_at_call 197;refine(con.o _ (by rfl) (by rfl) (by rfl) (by rfl)).mono ?_;rintro e w3 ⟨a8,cap,rfl,ho3,hb3⟩;obtain⟨p0,p1,p2,p3,p4,-,-,-,p9,p10⟩:=(af hb3 M.o.1).c;have x0_:=(af hb3 M.o.2.1).c;have O3:=aa ho3;have HB3:=aa hb3;clear ho3 hb3))
  all_goals
   go_wp2_with fail
   obtain⟨f1,f2,f3⟩:=fin.o _ a8 cap O3.o HB3.o;have z0_:=f3.c;refine MM (v:=.tuple #[.agg #[.int .i64 t.kind,.int .i64 t.n,.string ⟨t.s.toArray⟩,.slice a1 t.keys.length c1,.slice a8 (t.l.length - 1) cap],.bool true]) ?_ rfl ?_
   ·simp only[ar]at z0_;simp[results,results207,go_sem,z0_]
   ·exact⟨_,rfl,f2,f1⟩
end
def Jm (w:LC) (ok:Nat->Prop) (t:V) (ns:List Lz) (na:Option Addr) (nc k:Nat) (wr:LC):Prop:=
 ∃ (y:V) (a5 a6:Option Addr) (c5 c6:Nat),mh ns t=mh (ns.drop k) y/\KY wr w.heap.size y a5 c5 a6 c6/\Lc wr (w.heap.size+1)/\La w wr /\
  In wr (Lj ok w) y (.agg (KV y a5 c5 a6 c6))/\ao wr (fun k=>w.heap.size+2<=k) ns (.slice na ns.length nc)
theorem zD(w:LC)(ok t v p)(h:In w ok t v)(hp:p.length<=140737488351232)(hM:bj w):Calls prog 209 #[v,aR p] w fun e w'=>∃ r,e=.returned (.tuple #[r,.int .i64 (fP (ax p) t).2])/\La w w'/\In w' ok (fP (ax p) t).1 r:=by
 have H:=aa h.low;have HMM:=aa hM;obtain⟨l1,l2,l3⟩:=h.lens;obtain⟨a1,a2,c1,c2,rfl⟩:=h.form;clear h hM;go_enter func209,ntmps209;go_wp2_with fail
 refine(iO _ p hp (by exact HMM.o.bel (ab (ae _ _) (ae _ _)))).mono ?_;rintro e w1 ⟨ns,ee,na,nc,rfl,hsp,hns,hb1⟩;have SP:=aa hsp;have nlen:=hns.1;unfold maxLen at nlen;have K1:Ll (KY w1 w.heap.size t a1 c1 a2 c2/\Lc w1 (w.heap.size+1)/\La w w1/\ao w1 (fun k=>w.heap.size+2<=k) ns (.slice na ns.length nc)):=⟨af hb1 (fb w _ _),af hb1 (et w _ _),ab (ab (ae _ _) (ae _ _)) hb1,hns.imp fun a x hx hc=>⟨by simpa using hx,hc⟩⟩
 clear hb1 hns hsp;by_cases he:ee=0
 ·subst he;obtain⟨p0,p1,p2,p3,p4,-⟩:=K1.o.1.c;go_wp2_with fail
  refine Lk (bG _ (Lj ok w) t _ (by exact H.o.bel K1.o.2.2.1)) fun w2 hb2=>?_;have K2:Ll (KY w2 w.heap.size t a1 c1 a2 c2/\Lc w2 (w.heap.size+1)/\La w w2/\ao w2 (fun k=>w.heap.size+2<=k) ns (.slice na ns.length nc)):=⟨af hb2 K1.o.1,af hb2 K1.o.2.1,ab K1.o.2.2.1 hb2,K1.o.2.2.2.bel hb2⟩
  clear hb2 K1;cases hg:aE t with
  | false=>
   have x0_:=(K2.o.2.1).c;have Z:=aa (aP K2.o.2.2.1 (Nat.le_succ w.heap.size) (.int .i64 0) (.int .i64 0) (.string ⟨#[]⟩) (.slice none 0 0) (.slice none 0 0));have ZB:=aa ((K2.o.2.1).set (.int .i64 0) (.int .i64 0) (.string ⟨#[]⟩) (.slice none 0 0) (.slice none 0 0));have HA:Ll (fP (ax p) t=(aM,1)):=aa (by rw[SP.o];unfold fP;rw[if_neg (by simp),if_pos hg]);clear hg;go_wp2_with fail
   have z0_:=ZB.o.c;refine MM (v:=.tuple #[.agg Lb,.int .i64 1]) ?_ rfl ?_
   ·simp only[ar]at z0_;simp[results,results209,go_sem,z0_]
   ·refine⟨_,by rw[HA.o],Z.o,?_⟩;rw[HA.o];exact fG _ _
  | true=>
   have HG:=aa hg;clear hg;have S0:Ll (Jm w ok t ns na nc 0 w2):=⟨t,a1,a2,c1,c2,rfl,K2.o.1,K2.o.2.1,K2.o.2.2.1,H.o.bel K2.o.2.2.1,K2.o.2.2.2⟩
   clear K2;go_wp2_with fail
   go_loopg [27] ns.length (fun gk i wr=>∃ k:Nat,k<=ns.length/\gk=ns.length - k/\i=.int .i64 k/\Jm w ok t ns na nc k wr)
   case atStart=>exact⟨0,Nat.zero_le _,rfl,rfl,S0.o⟩
   case round=>
    obtain⟨k,hk,hgk,rfl,y,a5,a6,c5,c6,i1,i2,i3,i4,i5,i6⟩:=hrel;have GK:=aa hgk;have I:Ll (mh ns t=mh (ns.drop k) y/\KY wr w.heap.size y a5 c5 a6 c6/\Lc wr (w.heap.size+1)/\La w wr/\In wr (Lj ok w) y (.agg (KV y a5 c5 a6 c6))/\ao wr (fun k=>w.heap.size+2<=k) ns (.slice na ns.length nc)):=⟨i1,i2,i3,i4,i5,i6⟩
    obtain⟨p0,p1,p2,p3,p4,p5,p6,p7,p8,p9⟩:=i2.c;clear hgk i1 i2 i3 i4 i5 i6;by_cases hlt:k < ns.length
    ·obtain⟨nb,no,rfl,hc1,hc2,hc⟩:=lm I.o.2.2.2.2.2 hlt;unfold maxLen at hc2;have hsl:ns[k].length<=9223372036854775807:=I.o.2.2.2.2.2.mem _ (List.getElem_mem _);go_wp2_with fail
     refine(eI _ (Lj ok w) y _ ns[k] (by exact I.o.2.2.2.2.1) hsl).mono ?_;rintro e w3 ⟨r,b,rfl,hb3,hb,u,hu,huz⟩;obtain⟨b5,b6,d5,d6,rfl⟩:=hu.form;have LW:=ab hb3 (ae w3 (.cells (KV u b5 d5 b6 d6) 35));have K3:Ll (KY (w3.alloc (.cells (KV u b5 d5 b6 d6) 35)) w.heap.size y a5 c5 a6 c6/\Lc (w3.alloc (.cells (KV u b5 d5 b6 d6) 35)) (w.heap.size+1)/\La w (w3.alloc (.cells (KV u b5 d5 b6 d6) 35))/\KY (w3.alloc (.cells (KV u b5 d5 b6 d6) 35)) w3.heap.size u b5 d5 b6 d6/\In (w3.alloc (.cells (KV u b5 d5 b6 d6) 35)) (Lj ok w) u (.agg (KV u b5 d5 b6 d6))/\ao (w3.alloc (.cells (KV u b5 d5 b6 d6) 35)) (fun k=>w.heap.size+2<=k) ns (.slice (some ⟨nb,no,none⟩) ns.length nc)):=⟨af LW I.o.2.1,af LW I.o.2.2.1,ab I.o.2.2.2.1 LW,MN w3 _,hu.bel (ae _ _),I.o.2.2.2.2.2.bel LW⟩
     have GS:Ll (mh (ns.drop k) y=(cg y ns[k]).bind (mh (ns.drop (k+1)))):=aa (by rw[ME hlt,mh]);clear hb3 LW hu hc;have o0_:=K3.o.1.c;have q0_:=K3.o.2.2.2.1.c;cases hm:cg y ns[k] with
     | none=>
      rw[hm]at hb;simp only[Option.isSome_none]at hb;subst hb;have x0_:=(K3.o.2.1).c;have Z:=aa (aP K3.o.2.2.1 (Nat.le_succ w.heap.size) (.int .i64 0) (.int .i64 0) (.string ⟨#[]⟩) (.slice none 0 0) (.slice none 0 0));have ZB:=aa ((K3.o.2.1).set (.int .i64 0) (.int .i64 0) (.string ⟨#[]⟩) (.slice none 0 0) (.slice none 0 0));have HA:Ll (fP (ax p) t=(aM,3)):=aa (by rw[SP.o];unfold fP;rw[if_neg (by simp),if_neg (by simp[HG.o]),I.o.1,GS.o,hm];rfl);clear hm huz;go_wp2_with fail
      have z0_:=ZB.o.c;refine MM (v:=.tuple #[.agg Lb,.int .i64 3]) ?_ rfl ?_
      ·simp only[ar]at z0_;simp[results,results209,go_sem,z0_]
      ·refine⟨_,by rw[HA.o],Z.o,?_⟩;rw[HA.o];exact fG _ _
     | some z9=>
      rw[hm]at hb;simp only[Option.isSome_some]at hb;subst hb;obtain rfl:=huz z9 hm;have HM:=aa hm;have FIN:Ll (Jm w ok t ns (some ⟨nb,no,none⟩) nc (k+1) (LG (w3.alloc (.cells (KV u b5 d5 b6 d6) 35)) w.heap.size u b5 d5 b6 d6)):=by
       have g1:=aI (w3.alloc (.cells (KV u b5 d5 b6 d6) 35)) w.heap.size (.int .i64 u.kind) (.int .i64 u.n) (.string ⟨u.s.toArray⟩) (.slice b5 u.keys.length d5) (.slice b6 u.l.length d6);refine⟨u,b5,b6,d5,d6,?_,K3.o.1.set _ _ _ _ _,K3.o.2.1.grown g1 (by simp),aP K3.o.2.2.1 (MG _) _ _ _ _ _,K3.o.2.2.2.2.1.grown g1 (fun k hk=>by omega),K3.o.2.2.2.2.2.imp (eJ g1 (fun k hk e=>by cases e;omega))⟩;rw[I.o.1,GS.o,HM.o];rfl
      clear hm huz K3;go_wp2_with fail
      go_roundg (ns.length - (k+1))
      case measure=>rw[GK.o];omega
      case rel=>exact⟨k+1,hlt,rfl,by go_num,FIN.o⟩
    ·have Mc:k=ns.length:=by omega
     subst Mc;have x0_:=I.o.2.2.1.c;have Z:=aa (LH (aP I.o.2.2.2.1 (Nat.le_succ w.heap.size)) y a5 c5 a6 c6);have ZI:=aa ((I.o.2.2.2.2.1.grown (LH (aI wr (w.heap.size+1)) y a5 c5 a6 c6) (fun k hk=>by omega)).weak fun k hk=>hk.1);have ZB:=aa (LH I.o.2.2.1.set y a5 c5 a6 c6);have HA:Ll (fP (ax p) t=(y,0)):=aa (by rw[SP.o];refine Jp rfl HG.o ?_;rw[I.o.1,List.drop_length];rfl);go_wp2_with fail
     have z0_:=ZB.o.c;refine MM (v:=.tuple #[.agg (KV y a5 c5 a6 c6),.int .i64 0]) ?_ rfl ?_
     ·simp only[ar]at z0_;simp[results,results209,go_sem,z0_]
     ·refine⟨_,by rw[HA.o],Z.o,?_⟩;rw[HA.o];exact ZI.o
 ·have e1:(ee != 0)=true:=by rw[bne_iff_ne];exact he
  have e2:(ee == 0)=false:=by rw[MO];exact he
  have HE:=aa he;clear he;have x0_:=(K1.o.2.1).c;have Z:=aa (aP K1.o.2.2.1 (Nat.le_succ w.heap.size) (.int .i64 0) (.int .i64 0) (.string ⟨#[]⟩) (.slice none 0 0) (.slice none 0 0));have ZB:=aa ((K1.o.2.1).set (.int .i64 0) (.int .i64 0) (.string ⟨#[]⟩) (.slice none 0 0) (.slice none 0 0));have HA:Ll (fP (ax p) t=(aM,ee)):=aa (by rw[SP.o];unfold fP;rw[if_pos HE.o]);clear K1;go_wp2_with fail
  have z0_:=ZB.o.c;refine MM (v:=.tuple #[.agg Lb,.int .i64 ee]) ?_ rfl ?_
  ·simp only[ar]at z0_;simp[results,results209,go_sem,z0_]
  ·refine⟨_,by rw[HA.o],Z.o,?_⟩;rw[HA.o];exact fG _ _
end Go.Proofs.YtkjeiljdoljjgaaGreatDoor
