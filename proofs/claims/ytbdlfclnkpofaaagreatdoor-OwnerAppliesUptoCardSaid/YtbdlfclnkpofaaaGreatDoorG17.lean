import Derived.Test.YtbdlfclnkpofaaaGreatDoorG10
import Derived.Test.YtbdlfclnkpofaaaGreatDoorG16
set_option maxRecDepth 100000
set_option maxHeartbeats 40000000
set_option linter.unusedSimpArgs false
set_option linter.unusedVariables false
namespace Go.Proofs.YtbdlfclnkpofaaaGreatDoor
open Go.RowKit
open _root_.Go.Proofs.Tryz
variable {w w' W wr:World}
variable {v:Value}
variable {t:V}
variable {g B n k:Nat}
section
theorem wC(W:LC)(ok:Nat->Prop)(xs:List Lz)(v:Value)(h:ao W ok xs v)(hl:xs.length<=4000000)(ty:TypeId):∃ v' W',(Builtin.append_ #[22,22] ty #[.slice none 0 0,v]).run prog W=.ok v' W'/\W'.ownsRow W.heap.size 9 1 v' xs.length (xs.map aR)/\La W W':=by
 obtain⟨i0,hi,hz0,hz1,hz2⟩:=info_parts wG;have some_case:∀ (ad:Addr) (c:Nat),(∀ j u,(xs.map aR)[j]?=some u->W.cell? (ad.add j)=some u) ->
  ∃ v' W',(Builtin.append_ #[22,22] ty #[.slice none 0 0,.slice (some ad) xs.length c]).run prog W=.ok v' W'/\W'.ownsRow W.heap.size 9 1 v' xs.length (xs.map aR)/\La W W':=by
  intro ad c hc;obtain⟨v',W',hr,ho,hg,-,-⟩:=run_append_own_at (P:=prog) W W.heap.size 22 ty 9 i0 _ 1 16 underlying22 hi hz0 hz1 hz2 rfl (by decide) (.slice none 0 0) 0 [] (World.ownsRow_nil _ _ _ _) ad xs.length c (xs.map aR) (by simp) hc (by intro u hu;simp only[List.mem_map]at hu;obtain⟨x,-,rfl⟩:=hu;rfl) (by unfold maxLen;omega) (by omega) (MG _);exact⟨v',W',hr,by simpa using ho,bS (by simpa [Value.ownBlock] using hg)⟩
 rcases h.2 with⟨rfl,a,rfl⟩ | ⟨b,off,c,rfl,h1,h2,h3⟩
 ·cases a with
  | none=>exact⟨_,_,EZ W ty,World.ownsRow_nil _ _ _ _,MK _ _⟩
  | some ad=>exact some_case ad 0 (by simp)
 ·refine some_case ⟨b,off,none⟩ c ?_;intro j u hj;rw[eh];simp only[List.getElem?_map,Option.map_eq_some_iff]at hj;obtain⟨x,hx,rfl⟩:=hj;exact(h3 j x hx).2.2
theorem MA{cs:List Value}{nb:Nat}{k:ByteArray}(ho:W.ownsRow B 9 1 v n cs)(hnb:W.heap[nb]?=some (.cells #[.string k] 9))(hn:n<=1000000)(hB:B<=W.heap.size)(ty:TypeId):∃ v' W',(Builtin.append_ #[22,22] ty #[v,.slice (some ⟨nb,0,none⟩) 1 1]).run prog W=.ok v' W'/\∃ g cap,v'=.slice (some ⟨g,0,none⟩) (n+1) cap/\W'.ownsRow B 9 1 (.slice (some ⟨g,0,none⟩) (n+1) cap) (n+1) (cs++[.string k])/\W.grownBy W' v.ownBlock:=by
 obtain⟨g,cap,W',h1,h2,h3,-⟩:=C7 ho hnb hn hB ty;exact⟨_,W',h1,g,cap,rfl,h2,h3⟩
theorem n9(w:LC)(o:Obj):(World.drew (World.alloc w o)).heap.size=w.heap.size+1:=by show (World.alloc w o).heap.size=_;simp
theorem vc(w:LC):(World.drew w).heap.size=w.heap.size:=rfl
theorem sk(w:LC)(o:Obj):(World.alloc w o).heap.size=w.heap.size+1:=by simp
theorem Tq{a:LC}(_:La a W)(k:ByteArray):(W.alloc (.cells #[.string k] 9)).heap[W.heap.size]?=some (.cells #[.string k] 9):=MN _ _
theorem Sd{a W':LC}{xs:List Value}(ho:W.ownsRow B 9 1 v n xs)(hg:W.grownBy W' v.ownBlock)(hz:U8 a W g):U8 a W' g:=by
 refine⟨hz.1.grown hg (fun e=>?_),hz.2⟩;rcases ho.2 with⟨rfl,-⟩ | ⟨g',cap,cur,rfl,h1,h2,-⟩
 ·cases e
 ·have e2:g=g':=by simpa [Value.ownBlock] using e
  subst e2;have:=hz.1.symm.trans h2;simp at this
structure Se (a W:LC) (g:Nat) (d0 d1 d2 d3 d4 hv:Value) (n:Nat) (cs:List Value):Prop where
 bx:ag W g d0 d1 d2 d3 d4
 bl:La a W
 ow:W.ownsRow a.heap.size 9 1 hv n cs
theorem Sr{a:LC}{hv:Value}{cs:List Value}(h:La a W)(ho:W.ownsRow a.heap.size 9 1 hv n cs)(d0 d1 d2 d3 d4:Value):Se a (W.alloc (.cells #[d0,d1,d2,d3,d4] 25)) W.heap.size d0 d1 d2 d3 d4 hv n cs:=
 ⟨MN _ _,ab h (ae _ _),bM ho fun g hg=>(ae _ _).block g (bY ho hg).2⟩
theorem SX{a:LC}{hv:Value}{cs:List Value}(h:La a W)(hz:U8 a W g)(ho:W.ownsRow a.heap.size 9 1 hv n cs)(d0 d1 d2 d3 d4:Value):Se a (ar W g d0 d1 d2 d3 d4) g d0 d1 d2 d3 d4 hv n cs:=by
 refine⟨hz.1.set _ _ _ _ _,aP h hz.2 _ _ _ _ _,bM ho fun k hk=>(aI W g d0 d1 d2 d3 d4).block k (bY ho hk).2 (fun e=>?_)⟩;have e2:k=g:=by simpa using e
 subst e2;rcases ho.2 with⟨rfl,-⟩ | ⟨g',cap,cur,rfl,h1,h2,-⟩
 ·cases hk
 ·have e3:g'=k:=by simpa [Value.ownBlock] using hk
  subst e3;have:=hz.1.symm.trans h2;simp at this
def om (ns:List Lz) (l:List (List Lz)):List Lz:=l.map fun q=>aU (ns++q)
def TA (w:LC) (gl:Nat) (r:Option Nat) (L:List Lz) (D:Nat) (t:V) (ns:List Lz) (a1 a2:Option Addr) (c1 c2 k:Nat) (wr:LC):Prop:=
 ∃ r' L',pH wr gl L' r'/\kX w wr gl r/\nA w r r'/\ag wr w.heap.size (.int .i64 t.kind) (.int .i64 t.n) (.string ⟨t.s.toArray⟩) (.slice a1 t.keys.length c1) (.slice a2 t.l.length c2)/\some w.heap.size≠r'/\L'.Perm (om ns (jL D t k)++L)/\(L.Pairwise xA->L'.Pairwise xA)
theorem ND{wc:LC}{gl:Nat}{r:Option Nat}{L L' R:List Lz}{D:Nat}{ns:List Lz}{a1 a2:Option Addr}{c1 c2:Nat}{new:List (List Lz)}(hgl:gl < w.heap.size){r':Option Nat}(h2:kX w wr gl r)(h3:nA w r r')(h4:ag wr w.heap.size (.int .i64 t.kind) (.int .i64 t.n) (.string ⟨t.s.toArray⟩) (.slice a1 t.keys.length c1) (.slice a2 t.l.length c2))(h5:some w.heap.size≠r')(h6:L'.Perm (om ns (jL D t k)++L))(h7:L.Pairwise xA->L'.Pairwise xA)(hb:La wr wc)(hp:Eh wc w' gl r' R)(h8:R.Perm (om ns new++L'))(h9:L'.Pairwise xA->R.Pairwise xA)(hs:jL D t (k+1)=jL D t k++new):TA w gl r L D t ns a1 a2 c1 c2 (k+1) w':=by
 obtain⟨r2,g1,g2,g3⟩:=hp;have L9:=h4.lt;have hsz2:=hb.size;refine⟨r2,R,g1,(h2.trans h3 (sy hb)).trans (h3) g2,(h3.trans (by have:=h2.size;omega) g3),?_,?_,?_,fun h=>h9 (h7 h)⟩
 ·have e1:wc.heap[w.heap.size]?=wr.heap[w.heap.size]?:=hb.block _ L9;have e2:=g2.block w.heap.size (by omega) (by omega) h5;exact e2.trans (e1.trans h4)
 ·rcases g3 with rfl | ⟨g,rfl,hg⟩
  ·exact h5
  ·simp;omega
 ·rw[hs];unfold om at h6 h8 ⊢;rw[List.map_append];refine h8.trans ?_;refine(List.Perm.append_left _ h6).trans ?_;rw[<-List.append_assoc];exact List.Perm.append_right _ List.perm_append_comm
theorem Ta(ns:List Lz)(key:Lz)(l:List (List Lz)):om ns (l.map (key :: ·))=om (ns++[key]) l:=by
 unfold om;rw[List.map_map];refine List.map_congr_left fun q _=>?_;simp
structure Va (w:LC) (gl ga gw:Nat) (ta tw:TypeId):Prop where
 la:gl < ga
 lw:ga < gw
 a:w.heap[ga]?=some (.cells #[.func (.func 49) #[] #[.pointer (some ⟨gl,0,none⟩)]] ta)
 w:w.heap[gw]?=some (.cells #[.func (.func 50) #[] #[.pointer (some ⟨gw,0,none⟩),.pointer (some ⟨ga,0,none⟩)]] tw)
theorem Va.bel{gl ga gw:Nat}{ta tw:TypeId}(h:Va w gl ga gw ta tw)(hb:La w w'):Va w' gl ga gw ta tw:=⟨h.la,h.lw,bR hb h.a,bR hb h.w⟩
theorem Va.kept{gl ga gw:Nat}{ta tw:TypeId}{r:Option Nat}(h:Va w gl ga gw ta tw)(hr:∀ g,r=some g->gw < g)(hk:kX w w' gl r):Va w' gl ga gw ta tw:=by
 have h1:=h.la;have h2:=h.lw;refine⟨h1,h2,(hk.block ga (MF.1 h.a).1 (by omega) (fun e=>by have:=hr ga e.symm;omega)).trans h.a,(hk.block gw (MF.1 h.w).1 (by omega) (fun e=>by have:=hr gw e.symm;omega)).trans h.w⟩
attribute [local go_sem ↓] Go.wp_at_zero Go.wp_at_succ
theorem Tc:∀ (D:Nat) (w:LC) (ok okn:Nat->Prop) (t:V) (v:Value) (ns:List Lz) (nv:Value) (gl ga gw:Nat) (ta tw:TypeId) (L:List Lz) (r:Option Nat),In w ok t v->(∀ k,ok k->k < gl)->fO D t->t.kind=5->ao w okn ns nv->(∀ k,okn k->k≠gl/\some k≠r)->ns.length+D<=1000->(aU ns).length+130 * D<=100000->L.length+bN t<=100000->pH w gl L r->(∀ g,r=some g->gw < g)->Va w gl ga gw ta tw ->
 Calls prog 50 #[v,nv,.pointer (some ⟨gw,0,none⟩),.pointer (some ⟨ga,0,none⟩)] w fun e w'=>e=.returned (.tuple #[])/\∃ R,Eh w w' gl r R/\R.Perm (om ns (jK D t)++L)/\(L.Pairwise xA->R.Pairwise xA):=by
 intro D;induction D with
 | zero=>intro w ok okn t v ns nv gl ga gw ta tw L r _ _ h;exact h.elim
 | succ D ih=>
 intro w ok okn t v ns nv gl ga gw ta tw L r h hok hg hk hn hokn hnl hjl hcn hG hrg hF;have H:=aa h;have OK:=aa hok;have GD:=aa hg;have HG:=aa hG;have IH:=aa ih;have HN:=aa hn;have OKN:=aa hokn;have NL9:=aa hnl;have JL9:=aa hjl;have RG:=aa hrg;have FN:=aa hF;have CNT:Ll (L.length+bN t<=100000):=aa hcn;have hpair:t.keys.length=t.l.length:=by
  have:=(gu hg.1 hk).1;simp only[aK,MJ,decide_eq_true_eq]at this;exact this.2
 have PR:=aa hpair;have KEYS:=aa (qh hg.1 hk);have GLT:=aa hG.lt;have GWT:Ll (gw < w.heap.size):=aa (MF.1 hF.w).1;obtain⟨l1,l2,l3⟩:=h.lens;obtain⟨a1,a2,c1,c2,rfl⟩:=h.form;obtain⟨na,nc,rfl⟩:=hn.form;have hn1:=hn.1;unfold maxLen at hn1;have hrow:Ll (∀ g,r=some g->gl < g/\g < w.heap.size):=fun g hg=>hG.row hg;have OKX:=aa hF.la;have LW:=aa hF.lw;clear h hok hg hk hn hokn hnl hjl hcn hG ih hpair hrg hF;have B0:Ll (La w (w.alloc (.cells #[.int .i64 t.kind,.int .i64 t.n,.string ⟨t.s.toArray⟩,.slice a1 t.keys.length c1,.slice a2 t.l.length c2] 25))):=ae _ _;have S0:Ll (TA w gl r L D t ns a1 a2 c1 c2 0 (w.alloc (.cells #[.int .i64 t.kind,.int .i64 t.n,.string ⟨t.s.toArray⟩,.slice a1 t.keys.length c1,.slice a2 t.l.length c2] 25))):=aa ⟨r,L,HG.o.bel B0.o,sy B0.o,.inl rfl,MN _ _,fun e=>by have:=(hrow.o _ e.symm).2;omega,by rw[Dx];exact List.Perm.refl _,id⟩;go_enter func50,ntmps50;go_wp2
 go_loopg [13] t.keys.length (fun gk i wr=>∃ k:Nat,k<=t.keys.length/\gk=t.keys.length - k/\i=.int .i64 k/\Ll (TA w gl r L D t ns a1 a2 c1 c2 k wr))
 case atStart=>exact⟨0,Nat.zero_le _,rfl,rfl,S0⟩
 case round=>
  obtain⟨k,hk,hgk,rfl,I⟩:=hrel;have GK:=aa hgk;clear hgk;by_cases hlt:k < t.keys.length
  ·have hll:k < t.l.length:=by rw[<-PR.o];exact hlt
   obtain⟨r',L',i1,i2,i3,i4,i5,i6,i7⟩:=I.o;have LB:Ll (Below gl w wr):=i2.low GLT.o (fun g hg=>(hrow.o g hg).1);have HI:Ll (In wr ok t (.agg #[.int .i64 t.kind,.int .i64 t.n,.string ⟨t.s.toArray⟩,.slice a1 t.keys.length c1,.slice a2 t.l.length c2])):=H.o.belB OK.o LB.o;have I1:=aa i1;have I2:=aa i2;have I3:=aa i3;have I4:=aa i4;have I5:=aa i5;have I6:=aa i6;have I7:=aa i7;have NA:Ll (ao wr (fun k=>okn k/\k < w.heap.size) ns (.slice na ns.length nc)):=HN.o.imp fun a x g1 g2=>by
    have hlt:=World.block_lt_of_cell? w a g2;exact⟨⟨g1,hlt⟩,(World.cell?_of_block (I2.o.block a.block hlt (OKN.o _ g1).1 (OKN.o _ g1).2)).trans g2⟩
   have RG2:Ll (∀ g,r'=some g->gw < g):=fun g hg=>by
    rcases I3.o with e | ⟨g',e,hg'⟩
    ·exact RG.o g (e ▸ hg)
    ·rw[e]at hg;cases hg;have:=GWT.o;omega
   have FNR:=aa (FN.o.kept RG.o I2.o);obtain⟨kb,ko,rfl,kc1,kc2,kcell,klen⟩:=HI.o.key hlt;obtain⟨lb,lo,a5,c5,a6,c6,rfl,lc1,lc2,y0,y1,y2,y3,y4,hit⟩:=HI.o.item hll;have k60:=KEYS.o t.keys[k] (List.getElem_mem _);have US:=aa (Ck (D:=D) hlt hll);have GTX:=aa (GD.o.2 t.l[k] (List.getElem_mem _));have CX:Ll (L'.length+bN t.l[k]<=100000):=aa (by
    have h1:=Ei D t k;have h2:=zI hll;have h3:=df t;have h4:=CNT.o;have h5:=I6.o.length_eq;rw[Mx,om,List.length_map]at h5;omega)
   obtain⟨x,hx⟩:∃ x,t.l[k]=x:=⟨_,rfl⟩
   obtain⟨key,hkey⟩:∃ x,t.keys[k]=x:=⟨_,rfl⟩
   rw[hx]at y0 y1 y2 y3 y4 hit US GTX CX;rw[hkey]at kcell klen k60 US;clear hx hkey;have HIT:=aa hit;obtain⟨p0,p1,p2,p3,p4,-⟩:=i4.c;have P3:=aa p3;have P4:=aa p4;have Q0:=aa y0;have Q1:=aa y1;have Q2:=aa y2;have Q3:=aa y3;have Q4:=aa y4;have NSL:Ll (ns.length+1+D<=1000):=aa (by have:=NL9.o;omega);have NLEN:Ll (ns.length<=1000000):=aa (by have:=NL9.o;omega);have NLE2:=NLEN;have KL:Ll (key.length<=60):=aa k60;have HJ:Ll ((aU (ns++[key])).length+130 * D<=100000):=aa (by
    have h1:(aU [key]).length<=121:=by
     rw[kz];have:=(jh key).2;simp only[My,Mx,aU,List.flatMap_nil,List.length_nil];omega
    have:=JL9.o;rw[vT,Mx];omega)
   have w2:(k:Int) < (t.keys.length:Int):=by omega
   have w3:(k:Int) < (t.l.length:Int):=by omega
   have w4:(0:Int)<=(k:Int):=by omega
   clear i1 i2 i3 i4 i5 i6 i7 hit y0 y1 y2 y3 y4 klen k60 I;have q3:=P3.o;have q4:=P4.o;go_upto_region 4 with fail
   clear q3 q4 kcell;go_cut [8,9] (fun pv hv wc=>∃ (g9 hg hc:Nat),pv=.pointer (some ⟨g9,0,none⟩)/\hv=.slice (some ⟨hg,0,none⟩) (ns.length+1) hc/\Se wr wc g9 (.int .i64 x.kind) (.int .i64 x.n) (.string ⟨x.s.toArray⟩) (.slice a5 x.keys.length c5) (.slice a6 x.l.length c6) (.slice (some ⟨hg,0,none⟩) (ns.length+1) hc) (ns.length+1) (ns.map aR++[.string ⟨key.toArray⟩]))
   case first=>
    refine aD (fun wS=>La wr wS) [11] (by kernel_rfl) (aC _ 1) (fun LI=>?_);refine WT.out ?_;iterate 7
     first
      | refine OJ 0 ?_ [1,3,4,11,12] LI ?_ ?_
      | refine OJ 1 ?_ [3,4,11,12] LI ?_ ?_
      | refine OJ 2 ?_ [3,4,11,12] LI ?_ ?_
      | refine OJ 3 ?_ [4,11,12] LI ?_ ?_
      | refine OJ 4 ?_ [11,12] LI ?_ ?_
      | refine OJ 5 ?_ [6,9,11,12] LI ?_ ?_
      | refine OJ 7 ?_ [8,9,11,12] LI ?_ ?_
     rotate_left
     ·intro wS LN;have u3:=ah LN P3.o;have u4:=ah LN P4.o;have q0:=ah LN Q0.o;have q1:=ah LN Q1.o;have q2:=ah LN Q2.o;have q3:=ah LN Q3.o;have q4:=ah LN Q4.o;go_simp;all_goals with_reducible rfl
     simp only[av,List.set]
    repeat' (first
     | exact nl
     |(refine ip (i:=6) (o:={ dst:=some 24,op:=Go.Op.call { callee:=Go.Callee.builtin Go.Builtin.append,args:=#[Go.Operand.const (Go.Value.slice none 0 0),Go.Operand.tmp 23],argTypes:=#[22,22] },type:=22,pos:= "high.go:274",after:=#[{ on:=5,ground:=Go.Ground.data }],guard:=none }) rfl (fun K hK=>?_) ?_
       refine m8 (by rfl) (.const (.slice none 0 0)) (.tmp 23) 22 (by rfl) _ _ rfl rfl _ (fun ty=>wC _ _ ns _ (by exact NA.o.bel LI) (by have:=NLEN.o;omega) ty) (fun v6 W6 hR=>?_);obtain⟨hown,hb6⟩:=hR;refine hK.out _ _ (ab LI hb6) (fun LJ=>?_);have OW:=aa (TP hown LI.size);try replace NB:=aa (vY hb6 NB.o)
       try replace NK:=aa (bR hb6 NK.o)
       clear hown hb6;clear hK K;replace LI:=LJ;clear LJ;try simp only[Act.put,Mt,Mu,Mv])
     |(refine TD 8 (fun K hK=>?_) ?_
       go_simp;refine hK.out _ _ (ab LI (ae _ _)) (fun LJ=>?_);have NK:=aa (Tq LI ⟨key.toArray⟩);try simp only[n9,vc,sk]at NK
       try replace NB:=aa (vY (ae _ (.cells #[.string ⟨key.toArray⟩] 9)) NB.o)
       try replace OW:=aa (bM OW.o fun g hg=>(ae _ (.cells #[.string ⟨key.toArray⟩] 9)).block g (bY OW.o hg).2)
       clear hK K;replace LI:=LJ;clear LJ;try simp only[Act.put,Mt,Mu,Mv])
     |(refine ip (i:=9) (o:={ dst:=some 27,op:=Go.Op.call { callee:=Go.Callee.builtin Go.Builtin.append,args:=#[Go.Operand.tmp 24,Go.Operand.tmp 26],argTypes:=#[22,22] },type:=22,pos:= "high.go:274",after:=#[{ on:=6,ground:=Go.Ground.data },{ on:=8,ground:=Go.Ground.data },{ on:=6,ground:=Go.Ground.chain }],guard:=none }) rfl (fun K hK=>?_) ?_
       refine m8 (by rfl) (.tmp 24) (.tmp 26) 22 (by rfl) _ _ rfl rfl _ (fun ty=>MA OW.o NK.o (by exact NLE2.o) (by exact LI.size) ty) (fun v8 W8 hR=>?_);obtain⟨g,cap,rfl,hown,hg8⟩:=hR;refine hK.out _ _ (Jv LI hg8 (fun g e=>(bY OW.o e).1)) (fun LJ=>?_);try replace NB:=aa (Sd OW.o hg8 NB.o)
       replace OW:=aa hown;have PUSHED:Ll True:=aa trivial;clear hown hg8 NK;clear hK K;replace LI:=LJ;clear LJ;try simp only[Act.put,Mt,Mu,Mv])
     |(refine TD 10 (fun K hK=>?_) ?_
       go_simp;refine hK.out _ _ (ab LI (ae _ _)) (fun LJ=>?_);have NB:=aa (Jk LI);try simp only[n9,vc,sk]at NB
       first | (have c9:=PUSHED.o;clear c9;have FINA:=aa (Sr LI OW.o (.int .i64 x.kind) (.int .i64 x.n) (.string ⟨x.s.toArray⟩) (.slice a5 x.keys.length c5) (.slice a6 x.l.length c6))) | skip
       try replace NK:=aa (bR (ae _ (.cells #[.int .i64 0,.int .i64 0,.string ⟨#[]⟩,.slice none 0 0,.slice none 0 0] 25)) NK.o)
       try replace OW:=aa (bM OW.o fun g hg=>(ae _ (.cells #[.int .i64 0,.int .i64 0,.string ⟨#[]⟩,.slice none 0 0,.slice none 0 0] 25)).block g (bY OW.o hg).2)
       clear hK K;replace LI:=LJ;clear LJ;try simp only[Act.put,Mt,Mu,Mv])
     |(refine OO 11 (fun K hK=>?_)
       have n0_:=NB.o.1.c;first | (have c9:=FINA.o;clear c9) | (have FINB:=aa (SX LI NB.o OW.o (.int .i64 x.kind) (.int .i64 x.n) (.string ⟨x.s.toArray⟩) (.slice a5 x.keys.length c5) (.slice a6 x.l.length c6)))
       go_simp;refine hK.out _ _ ?_;clear hK K;try simp only[Act.put,Mt,Mu,Mv])
     |(refine OO 12 (fun K hK=>?_)
       go_simp;refine hK.out _ _ ?_;clear hK K;try simp only[Act.put,Mt,Mu,Mv])
     | refine OL [6,8,10] ?_
     | refine OL [8,10] ?_
     | refine OL [9,10] ?_
     | refine OL [10] ?_
     | refine OL [9] ?_
     | refine OL [8] ?_
     | refine OL [6,10] ?_
     | refine OL [6] ?_
     | refine OL [6,8] ?_
     | fail)
    all_goals
     refine dn (by kernel_rfl) ?_;go_wp2
     go_meet
     case rel=>first | exact⟨_,_,_,rfl,rfl,FINA.o⟩ | exact⟨_,_,_,rfl,rfl,FINB.o⟩
   case rest=>
    obtain⟨g9,hg,hc,rfl,rfl,hP⟩:=hcut;have BX:=aa hP.bx;have BC:=aa hP.bl;have HS:Ll (ao wc (fun k=>wr.heap.size<=k) (ns++[key]) (.slice (some ⟨hg,0,none⟩) (ns++[key]).length hc)):=kf (n:=ns.length+1) (by simp) (by have:=hP.ow;simpa [aR] using this) (fun z hz=>by
     rcases List.mem_append.1 hz with h9 | h9
     ·exact NA.o.mem z h9
     ·rw[List.mem_singleton]at h9;rw[h9];have:=KL.o;unfold maxLen;omega) (fun j hj=>hj) (by have:=NL9.o;simp;unfold maxLen;omega)
    have HLN:Ll ((ns++[key]).length=ns.length+1):=aa (by simp);rw[HLN.o]at HS;have HITC:=aa (HIT.o.bel hP.bl);have GC:=aa (I1.o.bel hP.bl);have FNC:=aa (FNR.o.bel hP.bl);have RSZ:Ll (∀ g,r'=some g->g < wr.heap.size):=fun g hg=>(I1.o.row hg).2;have GLR:Ll (gl < wr.heap.size):=aa I1.o.lt;clear hP;have fa:=(eN FNC.o.a).1;have fw:=(eN FNC.o.w).1;obtain⟨x0,x1,x2,x3,x4,-⟩:=BX.o.c;by_cases hkd:x.kind=5/\x.l≠[]
    ·have e1:(x.kind == 5)=true:=by simp[hkd.1]
     have hxk:x.keys.length=x.l.length:=by
      have hsh:ce x=true:=by cases D with | zero=>exact GTX.o.elim | succ D=>exact GTX.o.1
      have:=(gu hsh hkd.1).1;simp only[aK,MJ,decide_eq_true_eq]at this;exact this.2
     have e2:(0:Int) < (x.keys.length:Int):=by have:=List.length_pos_iff.2 hkd.2;omega
     have REC:=aa (IH.o wc ok _ x _ (ns++[key]) _ gl ga gw ta tw L' r' HITC.o OK.o GTX.o hkd.1 HS.o (fun k hk=>⟨by have:=GLR.o;omega,fun e=>by have:=RSZ.o k e.symm;omega⟩) (by rw[HLN.o];exact NSL.o) HJ.o CX.o GC.o RG2.o FNC.o);have NEWS:Ll (jL D t (k+1)=jL D t k++(jK D x).map (key :: ·)):=aa (by rw[US.o,if_pos hkd]);clear hkd hxk;go_wp2_with (go_at_call 50;refine REC.o.mono ?_;rintro e w7 ⟨rfl,R,hp7,hq7,hs7⟩;have FIN:=aa (ND GLT.o I2.o I3.o I4.o I5.o I6.o I7.o BC.o hp7 (by rw[Ta];exact hq7) hs7 NEWS.o);clear hp7 hq7 hs7)
     go_roundg (t.keys.length - (k+1))
     case measure=>rw[GK.o];omega
     case rel=>exact⟨k+1,hlt,rfl,by go_num,FIN⟩
    ·have NEWS:Ll (jL D t (k+1)=jL D t k++[[key]]):=aa (by rw[US.o,if_neg hkd]);have Mb:(x.kind == 5)=false\/(x.kind == 5)=true/\x.keys=[]:=by
      by_cases h9:x.kind=5
      ·right;refine⟨by simp[h9],?_⟩;have hsh:ce x=true:=by cases D with | zero=>exact GTX.o.elim | succ D=>exact GTX.o.1
       have:=(gu hsh h9).1;simp only[aK,MJ,decide_eq_true_eq]at this;have hl0:x.l=[]:=by
        apply Classical.byContradiction;intro h8;exact hkd ⟨h9,h8⟩
       rw[hl0]at this;exact List.length_eq_zero_iff.1 this.2
      ·left;rw[MO];exact h9
     have ADD:Ll (∀ W,La wc W->Calls prog 49 #[.string ⟨(aU (ns++[key])).toArray⟩,.pointer (some ⟨gl,0,none⟩)] W fun e w'=>e=.returned (.tuple #[])/\TA w gl r L D t ns (some ⟨kb,ko,none⟩) (some ⟨lb,lo,none⟩) c1 c2 (k+1) w'):=fun W hW=>by
      refine(Tj W gl L' r' (aU (ns++[key])) (GC.o.bel hW) (by have:=CX.o;omega)).mono ?_;rintro e w' ⟨rfl,R,hp,hq,hs⟩;exact⟨rfl,ND GLT.o I2.o I3.o I4.o I5.o I6.o I7.o (ab BC.o hW) hp (new:=[[key]]) (by exact hq) hs NEWS.o⟩
     clear hkd;have JN:Ll (∀ W,La wc W->Calls prog 45 #[.slice (some ⟨hg,0,none⟩) (ns.length+1) hc] W fun e w'=>e=.returned (.string ⟨(aU (ns++[key])).toArray⟩)/\La W w'):=fun W hW=>BO W _ (ns++[key]) _ (HS.o.bel hW) (by have:=HJ.o;omega);rcases Mb with e1 | ⟨e1,e2⟩
     rotate_left
     ·rw[e2]at x3;have FA:=aa fa;go_upto_region 7 with fail
      clear fa fw;refine aD (fun wS=>La wc wS) [3] (by kernel_rfl) (aC _ 1) (fun LI=>?_);refine WT.out ?_;iterate 2
       first
        | refine OJ 0 ?_ [3] LI ?_ ?_
        | refine OJ 1 ?_ [2,3] LI ?_ ?_
       rotate_left
       ·intro wS LN;have f0:=ah LN FA.o;go_simp;all_goals with_reducible rfl
       simp only[av,List.set]
      repeat' (first
       | exact nl
       |(refine TD 2 (fun K hK=>?_) ?_
         go_simp;refine Lk (JN.o _ (by exact LI)) fun w2q hb5=>?_;refine hK.out _ _ (ab LI hb5) (fun LJ=>?_);clear hb5;clear hK K;replace LI:=LJ;clear LJ;try simp only[Act.put,Mt,Mu,Mv])
       |(refine OO 3 (fun K hK=>?_)
         go_simp;refine(ADD.o _ (by exact LI)).mono ?_;rintro e w3q ⟨rfl,hp⟩;have FIN:=aa hp;clear hp;refine hK.out _ _ ?_;clear hK K;try simp only[Act.put,Mt,Mu,Mv])
       | refine OL [2] ?_
       | fail)
      all_goals
       refine dn (by kernel_rfl) ?_;go_wp2
       go_roundg (t.keys.length - (k+1))
       case measure=>rw[GK.o];omega
       case rel=>exact⟨k+1,hlt,rfl,by go_num,FIN⟩
     ·skip
      have FA:=aa fa;go_upto_region 7 with fail
      clear fa fw;refine aD (fun wS=>La wc wS) [3] (by kernel_rfl) (aC _ 1) (fun LI=>?_);refine WT.out ?_;iterate 2
       first
        | refine OJ 0 ?_ [3] LI ?_ ?_
        | refine OJ 1 ?_ [2,3] LI ?_ ?_
       rotate_left
       ·intro wS LN;have f0:=ah LN FA.o;go_simp;all_goals with_reducible rfl
       simp only[av,List.set]
      repeat' (first
       | exact nl
       |(refine TD 2 (fun K hK=>?_) ?_
         go_simp;refine Lk (JN.o _ (by exact LI)) fun w2q hb5=>?_;refine hK.out _ _ (ab LI hb5) (fun LJ=>?_);clear hb5;clear hK K;replace LI:=LJ;clear LJ;try simp only[Act.put,Mt,Mu,Mv])
       |(refine OO 3 (fun K hK=>?_)
         go_simp;refine(ADD.o _ (by exact LI)).mono ?_;rintro e w3q ⟨rfl,hp⟩;have FIN:=aa hp;clear hp;refine hK.out _ _ ?_;clear hK K;try simp only[Act.put,Mt,Mu,Mv])
       | refine OL [2] ?_
       | fail)
      all_goals
       refine dn (by kernel_rfl) ?_;go_wp2
       go_roundg (t.keys.length - (k+1))
       case measure=>rw[GK.o];omega
       case rel=>exact⟨k+1,hlt,rfl,by go_num,FIN⟩
  ·have d1:¬(k:Int) < (t.keys.length:Int):=by omega
   have Mc:k=t.keys.length:=by omega
   subst Mc;obtain⟨r',L',i1,i2,i3,i4,i5,i6,i7⟩:=I.o;have R:Ll (∃ R,Eh w wr gl r R/\R.Perm (om ns (jK (D+1) t)++L)/\(L.Pairwise xA->R.Pairwise xA)):=aa ⟨L',⟨r',i1,i2,i3⟩,by rw[<-D3 PR.o];exact i6,i7⟩;clear i1 i2 i3 i4 i5 i6 i7 I;go_wp2
   go_end0
   exact⟨rfl,R.o⟩
end
section
theorem UZ{R:List Lz}(hk:t.kind=5)(hg:aE t=true)(hp:R.Perm (om [] (jK 12 t)++[]))(hs:([]:List Lz).Pairwise xA->R.Pairwise xA):R=au t:=by
 rw[au,if_pos ⟨hk,hg⟩];refine Ig ?_ (hs List.Pairwise.nil);have e:om [] (jK 12 t)++[]=(jK 12 t).map aU:=by simp[om]
 rwa [e]at hp
theorem tt{P:Program}(w:LC)(a:Addr)(m:Mode)(f:Fn)(l:Array Value)(c:Array Value):(store a (.func f l c) m).run P w=stored P w a (.func f l c) m:=run_store P w a _ m rfl
attribute [local go_sem] tt
theorem sp(w:LC)(ok:Nat->Prop)(t:V)(v:Value)(h:In w ok t v)(hN:bN t<=1000000000000000):Calls prog 19 #[v] w fun e w'=>∃ (a:Option Addr) (c:Nat),e=.returned (.slice a (au t).length c)/\ao w' (fun k=>w.heap.size<=k) (au t) (.slice a (au t).length c)/\La w w':=by
 have H:=aa h.low;have HN:=aa hN;obtain⟨a1,a2,c1,c2,rfl⟩:=h.form;clear h hN;obtain⟨W1,hW1⟩:∃ W,W=w.alloc (.cells #[.int .i64 t.kind,.int .i64 t.n,.string ⟨t.s.toArray⟩,.slice a1 t.keys.length c1,.slice a2 t.l.length c2] 25):=⟨_,rfl⟩
 have B1:Ll (La w W1):=aa (by rw[hW1];exact ae _ _);have VB:Ll (ag W1 w.heap.size (.int .i64 t.kind) (.int .i64 t.n) (.string ⟨t.s.toArray⟩) (.slice a1 t.keys.length c1) (.slice a2 t.l.length c2)):=aa (by rw[hW1];exact MN _ _);have GV:=aa (rC W1 _ t _ (H.o.bel B1.o) HN.o);have HW1:=aa hW1;clear hW1;have u0_:=VB.o.c;cases hg:aE t with
 | false=>
  have R:Ll (au t=[]):=if_neg (fun h9=>by rw[hg]at h9;cases h9.2);rw[hg]at GV;clear hg;rw[R.o];go_enter func19,ntmps19;go_upto_region 1 with fail
  rw[<-HW1.o];go_wp2_with (go_at_call 20;refine GV.o.mono ?_;rintro e w2 ⟨rfl,hb⟩;have B2:=aa (ab B1.o hb);clear hb)
  go_ret;exact⟨none,0,rfl,⟨by simp,.inl ⟨rfl,none,rfl⟩⟩,B2.o⟩
 | true=>
  rw[hg]at GV;by_cases hk:t.kind=5
  ·have e0:(t.kind != 5)=false:=by simp[hk]
   have HK:=aa hk;have HG:=aa hg;clear hk hg;go_enter func19,ntmps19;go_upto_region 1 with fail
   rw[<-HW1.o];go_upto_region 4 with (go_at_call 20;refine GV.o.mono ?_;rintro e w2 ⟨rfl,hb⟩;have B2:=aa (ab B1.o hb);have VB2:=aa (af hb VB.o);have u0_:=VB2.o.c;clear hb)
   obtain⟨W3,hW3⟩:∃ W,W=w2.alloc (.cells #[.slice none 0 0] 22):=⟨_,rfl⟩
   have B3:Ll (La w2 W3):=aa (by rw[hW3];exact ae _ _);have L3:Ll (W3.heap[w2.heap.size]?=some (.cells #[.slice none 0 0] 22)):=aa (by rw[hW3];exact MN _ _);have Z3:Ll (W3.heap.size=w2.heap.size+1):=aa (by rw[hW3];simp);rw[<-hW3];clear hW3;go_upto_region 5 with fail
   obtain⟨W4,hW4⟩:∃ W,W=W3.alloc (.cells #[.func (.func 49) #[] #[.pointer (some ⟨w2.heap.size,0,none⟩)]] 76):=⟨_,rfl⟩
   have B4:Ll (La W3 W4):=aa (by rw[hW4];exact ae _ _);have A4:Ll (W4.heap[W3.heap.size]?=some (.cells #[.func (.func 49) #[] #[.pointer (some ⟨w2.heap.size,0,none⟩)]] 76)):=aa (by rw[hW4];exact MN _ _);have Z4:Ll (W4.heap.size=W3.heap.size+1):=aa (by rw[hW4];simp);rw[<-hW4];clear hW4;go_upto_region 7 with fail
   obtain⟨W5,hW5⟩:∃ W,W=W4.alloc (.cells #[.func (.func 50) #[] #[.pointer (some ⟨W4.heap.size,0,none⟩),.pointer (some ⟨W3.heap.size,0,none⟩)]] 77):=⟨_,rfl⟩
   have B5:Ll (La W4 W5):=aa (by rw[hW5];exact ae _ _);have A5:Ll (W5.heap[W4.heap.size]?=some (.cells #[.func (.func 50) #[] #[.pointer (some ⟨W4.heap.size,0,none⟩),.pointer (some ⟨W3.heap.size,0,none⟩)]] 77)):=aa (by rw[hW5];exact MN _ _);rw[<-hW5];clear hW5;have BB:=aa (ab (ab (ab B2.o B3.o) B4.o) B5.o);have u0_:=(af (ab (ab B3.o B4.o) B5.o) VB2.o).c;have c5:=(eN A5.o).1;have GT:Ll (pH W5 w2.heap.size [] none):=aa ⟨.slice none 0 0,bR (ab B4.o B5.o) L3.o,World.ownsRow_nil _ _ _ _,rfl⟩;have S2:=aa B2.o.size;have WK:=aa (Tc 12 W5 _ (fun _=>False) t _ [] (.slice none 0 0) w2.heap.size W3.heap.size W4.heap.size 76 77 [] none ((H.o.bel BB.o)) (fun k hk=>MI hk.2 S2.o) (fh HG.o) HK.o ⟨by simp,.inl ⟨rfl,none,rfl⟩⟩ (fun k h9=>h9.elim) (by simp) (by simp[aU]) (by have:=gE (dQ HG.o);simp;omega) GT.o (fun g hg=>by cases hg) ⟨by have:=Z3.o;omega,by have:=Z4.o;omega,bR B5.o A4.o,A5.o⟩);go_upto_region 8 with (go_at_call 50;refine WK.o.mono ?_;rintro e w6 ⟨rfl,R,⟨r',hG,hK,hF⟩,hp,hs⟩;have RL:=aa (UZ HK.o HG.o hp hs);have G6:=aa hG;have K6:=aa hK;clear hG hK hp hs)
   have RL2:=RL.o;subst RL2;obtain⟨sv,s1,s2,s3⟩:=G6.o;obtain⟨a,c,rfl⟩:=TG s2;have c9:=(eN s1).1;have LO:=mM HK.o HG.o;have ST:Ll (ao w6 (fun k=>w.heap.size<=k) (au t) (.slice a (au t).length c)):=kf (n:=(au t).length) rfl s2 (fun z hz=>by
    have:=(mO (p:=z) (b:=(ax z).1) (by have h9:=uM (LO.good z hz);rw[h9.1])).1;unfold maxLen;omega) (fun j hj=>by have:=S2.o;omega) (by
    have e:au t=ix ((jK 12 t).map aU):=if_pos ⟨HK.o,HG.o⟩;rw[e,(fU _).length_eq,List.length_map];have q1:=mB 12 t;have q2:=df t;have q3:=gE (dQ HG.o);unfold maxLen;omega)
   have BF:Ll (La w w6):=BB.o.trans ((K6.o.low (MI (by have:=Z3.o;omega) (MH B4.o.size B5.o.size)) (fun g hg=>by cases hg)).mono S2.o);clear s1 s2 s3 RL c5 LO;go_wp2_with fail
   go_ret;exact⟨a,c,rfl,ST.o,BF.o⟩
  ·have e0:(t.kind != 5)=true:=by simp[hk]
   have R:Ll (au t=[]):=if_neg (fun h9=>hk h9.1);clear hk hg;rw[R.o];go_enter func19,ntmps19;go_upto_region 1 with fail
   rw[<-HW1.o];go_wp2_with (go_at_call 20;refine GV.o.mono ?_;rintro e w2 ⟨rfl,hb⟩;have B2:=aa (ab B1.o hb);have VB2:=aa (af hb VB.o);have u0_:=VB2.o.c;clear hb)
   go_ret;exact⟨none,0,rfl,⟨by simp,.inl ⟨rfl,none,rfl⟩⟩,B2.o⟩
end
section
theorem Um{a W:World}{ok:Nat->Prop}{x:V}{v0 v1 v2 v3 v4:Value}(h:Below a.heap.size a W)(hi:In W ok x (.agg #[v0,v1,v2,v3,v4]))(e0 e1 e2 e3 e4:Value)(h0:v0=e0:=by rfl)(h1:v1=e1:=by rfl)(h2:v2=e2:=by rfl)(h3:v3=e3:=by rfl)(h4:v4=e4:=by rfl):ag (W.alloc (.cells #[e0,e1,e2,e3,e4] 25)) W.heap.size e0 e1 e2 e3 e4/\Below a.heap.size a (W.alloc (.cells #[e0,e1,e2,e3,e4] 25))/\In (W.alloc (.cells #[e0,e1,e2,e3,e4] 25)) ok x (.agg #[e0,e1,e2,e3,e4]):=by
 subst h0 h1 h2 h3 h4;exact⟨heap_alloc_new _ _,ab h (ae _ _),hi.bel (ae _ _)⟩
theorem AD{a W:World}{ok:Nat->Prop}{x:V}{g:Nat}{z0 z1 z2 z3 z4 v0 v1 v2 v3 v4:Value}(h:Below a.heap.size a W)(hb:ag W g z0 z1 z2 z3 z4)(hi:In W ok x (.agg #[v0,v1,v2,v3,v4]))(hg:a.heap.size<=g)(hk:∀ k,ok k->k < a.heap.size)(e0 e1 e2 e3 e4:Value)(h0:v0=e0:=by rfl)(h1:v1=e1:=by rfl)(h2:v2=e2:=by rfl)(h3:v3=e3:=by rfl)(h4:v4=e4:=by rfl):ag (ar W g e0 e1 e2 e3 e4) g e0 e1 e2 e3 e4/\Below a.heap.size a (ar W g e0 e1 e2 e3 e4)/\In (ar W g e0 e1 e2 e3 e4) ok x (.agg #[e0,e1,e2,e3,e4]):=by
 subst h0 h1 h2 h3 h4;exact⟨hb.set _ _ _ _ _,aP h hg _ _ _ _ _,hi.grown (aI W g _ _ _ _ _) (fun k h9=>by have:=hk k h9;omega)⟩
open Classical in
noncomputable def t7 (LQ t:V) (q:List UInt8):List (List UInt8)->Bool
 | []=>false
 | p :: ps=>if (aboveP q p || aboveP p q)=true then true else if p=q then fK LQ t q else t7 LQ t q ps
theorem KF(p:List UInt8):aboveP p p=false:=by
 unfold aboveP;rw[Bool.eq_false_iff];intro h;have:=(List.isPrefixOf_iff_prefix.1 h).length_le;simp only[List.length_append,List.length_cons,List.length_nil]at this;omega
theorem M5(LQ t:V)(q:List UInt8):∀ (L:List (List UInt8)),q ∉ L->t7 LQ t q L=L.any fun p=>aboveP p q || aboveP q p
 | [],_=>rfl
 | p :: L,h=>by
  rw[t7,List.any_cons,if_neg (c:=p=q) (fun e=>h (by simp[e])),M5 LQ t q L (fun h9=>h (by simp[h9]))];cases h1:aboveP q p <;> cases h2:aboveP p q <;> simp
theorem Sw(LQ t:V)(q:List UInt8):∀ (L:List (List UInt8)),q∈L->(∀ p∈L,p≠q->aboveP p q=false/\aboveP q p=false)->t7 LQ t q L=fK LQ t q
 | [],h,_=>by cases h
 | p :: L,h,hL=>by
  rw[t7];by_cases e:p=q
  ·subst e;rw[KF,if_neg (by simp),if_pos rfl]
  ·obtain⟨h1,h2⟩:=hL p (by simp) e;rw[h1,h2,if_neg (by simp),if_neg e];exact Sw LQ t q L ((List.mem_cons.1 h).resolve_left (fun e9=>e e9.symm)) fun r hr=>hL r (by simp[hr])
theorem FG(LQ t:V)(q:List UInt8):t7 LQ t q (au LQ)=aV LQ t (au LQ) q:=by
 unfold aV;by_cases h:q∈au LQ
 ·have hc:(au LQ).contains q=true:=by simpa using h
  rw[if_pos hc];by_cases hk:LQ.kind=5/\aE LQ=true
  ·have LO:=mM hk.1 hk.2;refine Sw LQ t q _ h fun p hp hne=>?_;have ha:jF (aw p) (aw q):=by
    have hpw:=List.pairwise_map.1 LO.apart;obtain⟨i,hi,rfl⟩:=List.getElem_of_mem hp;obtain⟨j,hj,rfl⟩:=List.getElem_of_mem h;rcases Nat.lt_trichotomy i j with h1 | h1 | h1
    ·exact List.pairwise_iff_getElem.1 hpw i j hi hj h1
    ·subst h1;exact absurd rfl hne
    ·exact(List.pairwise_iff_getElem.1 hpw j i hj hi h1).symm
   rw[Ql,(uM (LO.good p hp)).2.2,(uM (LO.good q h)).2.2]at ha;exact ha.2
  ·rw[au,if_neg hk]at h;cases h
 ·have hc:¬(au LQ).contains q=true:=by simpa using h
  rw[if_neg hc,M5 LQ t q _ h]
open Classical in
theorem SG(LQ t:V)(p:List UInt8):fK LQ t p=(!(dr (aw p) t).isSome || (!(decide (((dr (aw p) LQ).getD aM).kind=5)&&decide (((dr (aw p) t).getD aM).kind=5))&&!decide ((dr (aw p) t).getD aM=(dr (aw p) LQ).getD aM))):=by
 unfold fK;cases dr (aw p) t with
 | none=>rfl
 | some x=>
  simp only[Option.isSome_some,Option.getD_some,Bool.not_true,Bool.false_or];by_cases h1:x=(dr (aw p) LQ).getD aM
  ·simp[h1]
  ·by_cases h2:x.kind=5 <;> by_cases h3:((dr (aw p) LQ).getD aM).kind=5 <;> simp[h1,h2,h3]
attribute [local go_sem ↓] Go.wp_at_zero Go.wp_at_succ
open Classical in
theorem PN(w:World)(ok' okw':Nat->Prop)(t LQ:V)(vt vw:Value)(q:List UInt8)(ht:In w ok' t vt)(hw:In w okw' LQ vw)(hq:q.length<=140737488351232)(hN:bN LQ<=1000000000000000):Calls prog 35 #[vt,vw,.string ⟨q.toArray⟩] w fun e w'=>e=.returned (.bool (aV LQ t (au LQ) q))/\Below w.heap.size w w':=by
 rw[<-FG];obtain⟨ok,hok⟩:∃ ok,ok=fun k=>ok' k/\k < w.heap.size:=⟨_,rfl⟩
 obtain⟨okw,hokw⟩:∃ ok,ok=fun k=>okw' k/\k < w.heap.size:=⟨_,rfl⟩
 have HT:Ll (In w ok t vt):=aa (by rw[hok];exact ht.low);have HW:Ll (In w okw LQ vw):=aa (by rw[hokw];exact hw.low);obtain⟨a1,b1,c1,d1,rfl⟩:=ht.form;obtain⟨a2,b2,c2,d2,rfl⟩:=hw.form;clear ht hw hok hokw;obtain⟨W2,hW2⟩:∃ W,W=(w.alloc (.cells #[.int .i64 t.kind,.int .i64 t.n,.string ⟨t.s.toArray⟩,.slice a1 t.keys.length c1,.slice b1 t.l.length d1] 25)).alloc (.cells #[.int .i64 LQ.kind,.int .i64 LQ.n,.string ⟨LQ.s.toArray⟩,.slice a2 LQ.keys.length c2,.slice b2 LQ.l.length d2] 25):=⟨_,rfl⟩
 have B2:Ll (Below w.heap.size w W2):=aa (by rw[hW2];exact ab (ae _ _) (ae _ _));have VB2:Ll (ag W2 w.heap.size (.int .i64 t.kind) (.int .i64 t.n) (.string ⟨t.s.toArray⟩) (.slice a1 t.keys.length c1) (.slice b1 t.l.length d1)):=aa (by rw[hW2];exact fb _ _ _);have WB2:Ll (ag W2 (w.heap.size+1) (.int .i64 LQ.kind) (.int .i64 LQ.n) (.string ⟨LQ.s.toArray⟩) (.slice a2 LQ.keys.length c2) (.slice b2 LQ.l.length d2)):=aa (by rw[hW2];exact et _ _ _);have HW2:=aa hW2;have LV:=aa (sp W2 _ LQ _ (HW.o.bel B2.o) hN);have LG:Ll (∀ p∈au LQ,p.length<=2000):=aa (fun p hp=>by
  by_cases hk:LQ.kind=5/\aE LQ=true
  ·have h9:=uM ((mM hk.1 hk.2).good p hp);exact(mO h9.1).1
  ·rw[au,if_neg hk]at hp;cases hp)
 obtain⟨L,hL⟩:∃ L,au LQ=L:=⟨_,rfl⟩
 rw[hL]at LV LG ⊢;clear hW2 hL;have QL:=aa hq;obtain⟨v0,v1,v2,v3,v4,-⟩:=WB2.o.c;go_enter func35,ntmps35;go_upto_region 1 with fail
 rw[<-HW2.o];go_wp2_with (go_at_call 19;refine LV.o.mono ?_;rintro e w3 ⟨la,lc,rfl,hls,hb⟩;have B3:=aa (ab B2.o hb);have VB3:=aa (af hb VB2.o);have WB3:=aa (af hb WB2.o);have LS:=aa hls;clear hb hls)
 have ll:=LS.o.1;unfold maxLen at ll;clear v0 v1 v2 v3 v4;go_loopg [17] L.length (fun gk i wr=>∃ k:Nat,k<=L.length/\gk=L.length - k/\i=.int .i64 k/\Ll (t7 LQ t q L=t7 LQ t q (L.drop k))/\Ll (Below w3.heap.size w3 wr))
 case atStart=>exact⟨0,Nat.zero_le _,rfl,rfl,rfl,Below.refl _ _⟩
 case round=>
  obtain⟨k,hk,hgk,rfl,AL,BL⟩:=hrel;have GK:=aa hgk;clear hgk;by_cases hlt:k < L.length
  ·obtain⟨pb,po,rfl,hc1,hc2,hcell0⟩:=gQ LS.o hlt;unfold maxLen at hc2;have LV:=ah BL.o hcell0;have w2:(k:Int) < (L.length:Int):=by omega
   have w5:(0:Int)<=(k:Int):=by omega
   have PL0:=LG.o _ (List.getElem_mem hlt);have RW:Ll (t7 LQ t q L=if (aboveP q L[k] || aboveP L[k] q)=true then true else if L[k]=q then fK LQ t q else t7 LQ t q (L.drop (k+1))):=aa (by rw[AL.o,List.drop_eq_getElem_cons hlt,t7]);obtain⟨p,hp⟩:∃ p,L[k]=p:=⟨_,rfl⟩
   rw[hp]at LV PL0 RW;clear hp hcell0;have PL:Ll (p.length<=140737488351232):=aa (by omega);have PLL:=aa PL0;have s1:¬9223372036854775807 < q.length+1:=by have:=QL.o;omega
   have s2:¬9223372036854775807 < p.length+1:=by omega
   have k1:ByteArray.mk q.toArray++ByteArray.mk #[47]=ByteArray.mk (q++[47]).toArray:=f7 q [47] #[47] rfl;have k2:ByteArray.mk p.toArray++ByteArray.mk #[47]=ByteArray.mk (p++[47]).toArray:=f7 p [47] #[47] rfl;have BG1:Ll (∀ W,Calls prog 36 #[.string ⟨p.toArray⟩,.string ⟨(q++[47]).toArray⟩] W fun e w'=>e=.returned (.bool (aboveP q p))/\w'=W):=aa (fun W=>wF W p (q++[47]) PL.o (by have:=QL.o;simp;omega));have BG2:Ll (∀ W,Calls prog 36 #[.string ⟨q.toArray⟩,.string ⟨(p++[47]).toArray⟩] W fun e w'=>e=.returned (.bool (aboveP p q))/\w'=W):=aa (fun W=>wF W q (p++[47]) (by have:=QL.o;omega) (by have:=PLL.o;simp;omega));clear PL0;cases h1:aboveP q p with
   | true=>
    have R:Ll (t7 LQ t q L=true):=aa (by rw[RW.o,h1];rfl);rw[h1]at BG1;clear h1;go_wp2_with (go_at_call 36;refine(BG1.o _).mono ?_;rintro e w4 ⟨rfl,hw4⟩;have hw5:=hw4.symm;subst hw5;clear hw4)
    go_ret;exact⟨by rw[R.o];first | done | rfl,ab B3.o BL.o⟩
   | false=>
    rw[h1]at BG1;cases h2:aboveP p q with
    | true=>
     have R:Ll (t7 LQ t q L=true):=aa (by rw[RW.o,h1,h2];rfl);rw[h2]at BG2;clear h1 h2;go_wp2_with (go_at_call 36;first | (refine(BG1.o _).mono ?_;rintro e w4 ⟨rfl,hw4⟩;have hw5:=hw4.symm;subst hw5;clear hw4 BG1) | (refine(BG2.o _).mono ?_;rintro e w4 ⟨rfl,hw4⟩;have hw5:=hw4.symm;subst hw5;clear hw4))
     go_ret;exact⟨by rw[R.o];first | done | rfl,ab B3.o BL.o⟩
    | false=>
     rw[h2]at BG2;by_cases he:p=q
     rotate_left
     ·have e9:(p == q)=false:=by rw[beq_eq_false_iff_ne];exact he
      have AL2:Ll (t7 LQ t q L=t7 LQ t q (L.drop (k+1))):=aa (by rw[RW.o,h1,h2,if_neg he];rfl);clear h1 h2 he;go_wp2_with (go_at_call 36;first | (refine(BG1.o _).mono ?_;rintro e w4 ⟨rfl,hw4⟩;have hw5:=hw4.symm;subst hw5;clear hw4 BG1) | (refine(BG2.o _).mono ?_;rintro e w4 ⟨rfl,hw4⟩;have hw5:=hw4.symm;subst hw5;clear hw4))
      go_roundg (L.length - (k+1))
      case measure=>rw[GK.o];omega
      case rel=>exact⟨k+1,hlt,rfl,by go_num,AL2,BL⟩
     have R:Ll (t7 LQ t q L=fK LQ t p):=aa (by rw[RW.o,h1,h2,if_pos he,he];rfl);clear RW AL;subst he;have BG3:Ll (∀ W,Calls prog 36 #[.string ⟨p.toArray⟩,.string ⟨(p++[47]).toArray⟩] W fun e w'=>e=.returned (.bool false)/\w'=W):=aa BG1.o;clear BG1 BG2;rw[SG]at R;clear h1 h2;go_upto_region 7 with (go_at_call 36;refine(BG3.o _).mono ?_;rintro e w4 ⟨rfl,hw4⟩;have hw5:=hw4.symm;subst hw5;clear hw4)
     obtain⟨x,hx⟩:∃ x,(dr (aw p) t).getD aM=x:=⟨_,rfl⟩
     obtain⟨tx,htx⟩:∃ x,(dr (aw p) t).isSome=x:=⟨_,rfl⟩
     obtain⟨y,hy⟩:∃ x,(dr (aw p) LQ).getD aM=x:=⟨_,rfl⟩
     obtain⟨ty,hty⟩:∃ x,(dr (aw p) LQ).isSome=x:=⟨_,rfl⟩
     rw[hx,htx,hy]at R;have HX:=aa hx;have HTX:=aa htx;have HY:=aa hy;have HTY:=aa hty;have VB:=aa (af BL.o VB3.o);have TI:=aa ((HT.o.bel (ab B3.o BL.o)).low);clear hx htx hy hty LV s1 s2 k1 k2;go_cut [9,10] (fun pv bv wc=>∃ (g7:Nat) (a3 b3:Option Addr) (c3 d3:Nat),pv=.pointer (some ⟨g7,0,none⟩)/\bv=.bool tx/\ag wc g7 (.int .i64 x.kind) (.int .i64 x.n) (.string ⟨x.s.toArray⟩) (.slice a3 x.keys.length c3) (.slice b3 x.l.length d3)/\Below wr.heap.size wr wc/\In wc (fun k=>ok k/\k < wr.heap.size) x (.agg #[.int .i64 x.kind,.int .i64 x.n,.string ⟨x.s.toArray⟩,.slice a3 x.keys.length c3,.slice b3 x.l.length d3]))
     case first=>
      refine aD (fun wS=>Below wr.heap.size wr wS) [8] (by kernel_rfl) (aC _ 1) (fun LI=>?_);refine WT.out ?_;refine OJ 0 ?_ [3,4,5,6,8,9] LI ?_ ?_;rotate_left
      ·intro wS LN;obtain⟨u0,u1,u2,u3,u4,-⟩:=(af LN VB.o).c;go_simp;all_goals with_reducible rfl
      simp only[av,List.set];refine OJ 1 ?_ [2,3,4,5,6,8,9] LI ?_ ?_;rotate_left
      ·intro wS LN;go_simp;all_goals with_reducible rfl
      simp only[av,List.set];repeat' (first
       | exact nl
       |(refine TD 2 (fun K hK=>?_) ?_
         go_simp;refine(oL _ p PL.o).mono ?_;rintro e w2q ⟨na,nc,rfl,hns,hb5⟩;obtain⟨nz,hnl⟩:∃ n,(aw p).length=n:=⟨_,rfl⟩
         rw[hnl]at hns;try rw[hnl]
         refine hK.out _ _ (ab LI hb5) (fun LJ=>?_);have NS:=aa (And.intro hnl hns);try replace NB:=aa (af hb5 NB.o)
         clear hb5 hns;clear hK K;replace LI:=LJ;clear LJ;try simp only[Act.put,List.setIfInBounds_toArray,List.set_cons_zero,List.set_cons_succ])
       |(refine TD 3 (fun K hK=>?_) ?_
         go_simp;refine(gv (aw p) _ (fun k=>ok k/\k < wr.heap.size) _ t _ _ (by exact TI.o.bel LI) (by exact NS.o.2)).mono ?_;rintro e w3q ⟨rv,rfl,hb5,hr5⟩;rw[HX.o]at hr5;rw[HTX.o];obtain⟨a3,b3,c3,d3,rfl⟩:=hr5.form;refine hK.out _ _ (ab LI hb5) (fun LJ=>?_);have WI:=aa hr5;try replace NB:=aa (af hb5 NB.o)
         have Ma:Ll True:=aa trivial;clear hb5 hr5;clear hK K;replace LI:=LJ;clear LJ;try simp only[Act.put,List.setIfInBounds_toArray,List.set_cons_zero,List.set_cons_succ])
       |(refine TD 7 (fun K hK=>?_) ?_
         go_simp;refine hK.out _ _ (ab LI (ae _ _)) (fun LJ=>?_);have GEB:=aa LI.size;have NB:=aa (yl LI);try simp only[n9,vc,sk]at NB
         first | (have c9:=Ma.o;clear c9;have FINA:=aa (Um LI WI.o (.int .i64 x.kind) (.int .i64 x.n) (.string ⟨x.s.toArray⟩) (.slice a3 x.keys.length c3) (.slice b3 x.l.length d3))) | skip
         try replace NS:=aa (And.intro NS.o.1 (NS.o.2.bel (ae _ (.cells #[.int .i64 0,.int .i64 0,.string ⟨#[]⟩,.slice none 0 0,.slice none 0 0] 25))))
         clear hK K;replace LI:=LJ;clear LJ;try simp only[Act.put,List.setIfInBounds_toArray,List.set_cons_zero,List.set_cons_succ])
       |(refine OO 8 (fun K hK=>?_)
         obtain⟨n0,n1,n2,n3,n4,m0,m1,m2,m3,m4⟩:=NB.o.c;first | (have c9:=FINA.o;clear c9) | (have FINB:=aa (AD LI NB.o WI.o (by first | exact Nat.le_refl _ | exact GEB.o) (fun k hk=>by exact hk.2) (.int .i64 x.kind) (.int .i64 x.n) (.string ⟨x.s.toArray⟩) (.slice a3 x.keys.length c3) (.slice b3 x.l.length d3)))
         go_simp;refine hK.out _ _ ?_;clear hK K;try simp only[Act.put,List.setIfInBounds_toArray,List.set_cons_zero,List.set_cons_succ])
       |(refine OO 9 (fun K hK=>?_)
         go_simp;refine hK.out _ _ ?_;clear hK K;try simp only[Act.put,List.setIfInBounds_toArray,List.set_cons_zero,List.set_cons_succ])
       |(refine OJ 4 ?_ [5,6,8,9] (by exact LI) ?_ ?_
         rotate_left
         ·intro wS LN;go_simp;all_goals with_reducible rfl
         simp only[av,List.set])
       |(refine OJ 5 ?_ [8,9] (by exact LI) ?_ ?_
         rotate_left
         ·intro wS LN;go_simp;all_goals with_reducible rfl
         simp only[av,List.set])
       |(refine Pm 6 ?_ (by exact LI) ?_ ?_
         rotate_left
         ·intro wS;go_simp;all_goals with_reducible rfl
         simp only[av,List.set])
       | refine OL [2,7] ?_
       | refine OL [3,7] ?_
       | refine OL [7] ?_
       | refine OL [3] ?_
       | refine OL [2] ?_
       | fail)
      all_goals
       refine dn (by kernel_rfl) ?_;go_wp2_with fail
       go_meet
       case rel=>first | exact⟨_,_,_,_,_,rfl,rfl,FINA.o⟩ | exact⟨_,_,_,_,_,rfl,rfl,FINB.o⟩
     case rest=>
      obtain⟨g7,a3,b3,c3,d3,rfl,rfl,hcW,hcB,hcI⟩:=hcut;obtain⟨wa,hwa⟩:∃ W,W=wc:=⟨_,rfl⟩
      rw[<-hwa]at hcW hcB hcI ⊢;clear hwa;have XB:=aa hcW;have BA:=aa (ab BL.o hcB);have XI:=aa hcI;have WB:=aa (af (ab BL.o hcB) WB3.o);have WI0:=aa ((HW.o.bel (ab B3.o BA.o)).low);clear hcW hcB hcI;go_upto_region 8 with fail
      go_cut [11,12] (fun pv bv wc=>∃ (g7:Nat) (a4 b4:Option Addr) (c4 d4:Nat),pv=.pointer (some ⟨g7,0,none⟩)/\bv=.bool ty/\ag wc g7 (.int .i64 y.kind) (.int .i64 y.n) (.string ⟨y.s.toArray⟩) (.slice a4 y.keys.length c4) (.slice b4 y.l.length d4)/\Below wa.heap.size wa wc/\In wc (fun k=>okw k/\k < wa.heap.size) y (.agg #[.int .i64 y.kind,.int .i64 y.n,.string ⟨y.s.toArray⟩,.slice a4 y.keys.length c4,.slice b4 y.l.length d4]))
      case first=>
       refine aD (fun wS=>Below wa.heap.size wa wS) [8] (by kernel_rfl) (aC _ 1) (fun LI=>?_);refine WT.out ?_;refine OJ 0 ?_ [3,4,5,6,8,9] LI ?_ ?_;rotate_left
       ·intro wS LN;obtain⟨u0,u1,u2,u3,u4,-⟩:=(af LN WB.o).c;go_simp;all_goals with_reducible rfl
       simp only[av,List.set];refine OJ 1 ?_ [2,3,4,5,6,8,9] LI ?_ ?_;rotate_left
       ·intro wS LN;go_simp;all_goals with_reducible rfl
       simp only[av,List.set];repeat' (first
        | exact nl
        |(refine TD 2 (fun K hK=>?_) ?_
          go_simp;refine(oL _ p PL.o).mono ?_;rintro e w2q ⟨na,nc,rfl,hns,hb5⟩;obtain⟨nz,hnl⟩:∃ n,(aw p).length=n:=⟨_,rfl⟩
          rw[hnl]at hns;try rw[hnl]
          refine hK.out _ _ (ab LI hb5) (fun LJ=>?_);have NS:=aa (And.intro hnl hns);try replace NB:=aa (af hb5 NB.o)
          clear hb5 hns;clear hK K;replace LI:=LJ;clear LJ;try simp only[Act.put,List.setIfInBounds_toArray,List.set_cons_zero,List.set_cons_succ])
        |(refine TD 3 (fun K hK=>?_) ?_
          go_simp;refine(gv (aw p) _ (fun k=>okw k/\k < wa.heap.size) _ LQ _ _ (by exact WI0.o.bel LI) (by exact NS.o.2)).mono ?_;rintro e w3q ⟨rv,rfl,hb5,hr5⟩;rw[HY.o]at hr5;rw[HTY.o];obtain⟨a4,b4,c4,d4,rfl⟩:=hr5.form;refine hK.out _ _ (ab LI hb5) (fun LJ=>?_);have WI:=aa hr5;try replace NB:=aa (af hb5 NB.o)
          have Ma:Ll True:=aa trivial;clear hb5 hr5;clear hK K;replace LI:=LJ;clear LJ;try simp only[Act.put,List.setIfInBounds_toArray,List.set_cons_zero,List.set_cons_succ])
        |(refine TD 7 (fun K hK=>?_) ?_
          go_simp;refine hK.out _ _ (ab LI (ae _ _)) (fun LJ=>?_);have GEB:=aa LI.size;have NB:=aa (yl LI);try simp only[n9,vc,sk]at NB
          first | (have c9:=Ma.o;clear c9;have FINA:=aa (Um LI WI.o (.int .i64 y.kind) (.int .i64 y.n) (.string ⟨y.s.toArray⟩) (.slice a4 y.keys.length c4) (.slice b4 y.l.length d4))) | skip
          try replace NS:=aa (And.intro NS.o.1 (NS.o.2.bel (ae _ (.cells #[.int .i64 0,.int .i64 0,.string ⟨#[]⟩,.slice none 0 0,.slice none 0 0] 25))))
          clear hK K;replace LI:=LJ;clear LJ;try simp only[Act.put,List.setIfInBounds_toArray,List.set_cons_zero,List.set_cons_succ])
        |(refine OO 8 (fun K hK=>?_)
          obtain⟨n0,n1,n2,n3,n4,m0,m1,m2,m3,m4⟩:=NB.o.c;first | (have c9:=FINA.o;clear c9) | (have FINB:=aa (AD LI NB.o WI.o (by first | exact Nat.le_refl _ | exact GEB.o) (fun k hk=>by exact hk.2) (.int .i64 y.kind) (.int .i64 y.n) (.string ⟨y.s.toArray⟩) (.slice a4 y.keys.length c4) (.slice b4 y.l.length d4)))
          go_simp;refine hK.out _ _ ?_;clear hK K;try simp only[Act.put,List.setIfInBounds_toArray,List.set_cons_zero,List.set_cons_succ])
        |(refine OO 9 (fun K hK=>?_)
          go_simp;refine hK.out _ _ ?_;clear hK K;try simp only[Act.put,List.setIfInBounds_toArray,List.set_cons_zero,List.set_cons_succ])
        |(refine OJ 4 ?_ [5,6,8,9] (by exact LI) ?_ ?_
          rotate_left
          ·intro wS LN;go_simp;all_goals with_reducible rfl
          simp only[av,List.set])
        |(refine OJ 5 ?_ [8,9] (by exact LI) ?_ ?_
          rotate_left
          ·intro wS LN;go_simp;all_goals with_reducible rfl
          simp only[av,List.set])
        |(refine Pm 6 ?_ (by exact LI) ?_ ?_
          rotate_left
          ·intro wS;go_simp;all_goals with_reducible rfl
          simp only[av,List.set])
        | refine OL [2,7] ?_
        | refine OL [3,7] ?_
        | refine OL [7] ?_
        | refine OL [3] ?_
        | refine OL [2] ?_
        | fail)
       all_goals
        refine dn (by kernel_rfl) ?_;go_wp2_with fail
        go_meet
        case rel=>first | exact⟨_,_,_,_,_,rfl,rfl,FINA.o⟩ | exact⟨_,_,_,_,_,rfl,rfl,FINB.o⟩
      case rest=>
       obtain⟨g8,a4,b4,c4,d4,rfl,rfl,hcW,hcB,hcI⟩:=hcut;have YB:=aa hcW;have BB:=aa (ab BA.o hcB);have YI:=aa hcI;have XB2:=aa (af hcB XB.o);have XI2:=aa (XI.o.bel hcB);clear hcW hcB hcI;obtain⟨x0,x1,x2,x3,x4,-⟩:=XB2.o.c;obtain⟨y0,y1,y2,y3,y4,-⟩:=YB.o.c;have SV:=aa (Sk wc _ _ x y _ _ XI2.o YI.o);obtain⟨sv,hsv⟩:∃ b,decide (x=y)=b:=⟨_,rfl⟩
       rw[hsv]at SV R;clear hsv;cases tx with
       | false=>
        have R2:Ll (t7 LQ t p L=true):=aa (by rw[R.o];rfl);by_cases hk1:y.kind=5
        ·have e1:(y.kind == 5)=true:=by simp[hk1]
         clear hk1;go_wp2_with fail
         go_ret;exact⟨by rw[R2.o];first | done | rfl,ab B3.o BB.o⟩
        ·have e1:(y.kind == 5)=false:=by rw[beq_eq_false_iff_ne];exact hk1
         clear hk1;go_wp2_with fail
         go_ret;exact⟨by rw[R2.o];first | done | rfl,ab B3.o BB.o⟩
       | true=>
        have cs:((y.kind == 5)=true/\(x.kind == 5)=true/\t7 LQ t p L=false)\/((y.kind == 5)=true/\(x.kind == 5)=false/\t7 LQ t p L=!sv)\/((y.kind == 5)=false/\t7 LQ t p L=!sv):=by
         have R3:=R.o;by_cases h1:y.kind=5
         ·by_cases h2:x.kind=5
          ·exact .inl ⟨by simp[h1],by simp[h2],by rw[R3];simp[h1,h2]⟩
          ·exact .inr (.inl ⟨by simp[h1],by rw[beq_eq_false_iff_ne];exact h2,by rw[R3];simp[h2]⟩)
         ·exact .inr (.inr ⟨by rw[beq_eq_false_iff_ne];exact h1,by rw[R3];simp[h1]⟩)
        clear R;rcases cs with⟨e1,e2,hR⟩ | ⟨e1,e2,hR⟩ | ⟨e1,hR⟩
        all_goals
         have R2:=aa hR;clear hR;go_wp2_with (go_at_call 9;refine SV.o.mono ?_;rintro e w9 ⟨rfl,hb⟩;have B9:=aa (ab BB.o hb);clear hb)
         go_ret;first
          | exact⟨by rw[R2.o];first | done | rfl,ab B3.o B9.o⟩
          | exact⟨by rw[R2.o];first | done | rfl,ab B3.o BB.o⟩
  ·have d9:¬(k:Int) < (L.length:Int):=by omega
   have R:Ll (t7 LQ t q L=false):=aa (by rw[AL.o,List.drop_of_length_le (by omega)];rfl);go_wp2_with fail
   go_ret;exact⟨by rw[R.o];first | done | rfl,ab B3.o BL.o⟩
end
def fr (blk:Lz->Bool) (who:Lz) (o:aL) (j:Nat):List (Lz × Lz):=((o.paths.take j).filter fun p=>o.name != who&&blk p).map fun p=>(o.name,p)
theorem L7(blk:Lz->Bool)(who:Lz)(o:aL){j:Nat}(hj:j < o.paths.length):fr blk who o (j+1)=fr blk who o j++(if (o.name != who&&blk o.paths[j])=true then [(o.name,o.paths[j])] else []):=by
 unfold fr;rw[List.take_succ_eq_append_getElem hj,List.filter_append,List.map_append];cases h:(o.name != who&&blk o.paths[j]) with
 | true=>rw[List.filter_cons_of_pos (p:=fun p=>o.name != who&&blk p) h];rfl
 | false=>rw[List.filter_cons_of_neg (p:=fun p=>o.name != who&&blk p) (by rw[h];simp)];rfl
theorem GL(blk:Lz->Bool)(who:Lz)(l:List aL)(hk:k < l.length):eu blk who (l.take (k+1))=eu blk who (l.take k)++fr blk who l[k] l[k].paths.length:=by
 unfold eu fr;rw[List.take_succ_eq_append_getElem hk,List.flatMap_append,List.take_length];simp
theorem TZ(blk:Lz->Bool)(who:Lz):∀ (l:List aL),(eu blk who l).length<=(bA l).length
 | []=>MG _
 | o :: l=>by
  have ih:=TZ blk who l;unfold eu bA at ih ⊢;rw[List.flatMap_cons,List.flatMap_cons,Mx,Mx,List.length_map,List.length_map];exact Nat.add_le_add (List.length_filter_le _ _) ih
theorem Sa(blk:Lz->Bool)(who:Lz)(o:aL)(j:Nat):(fr blk who o j).length<=j:=by
 unfold fr;rw[List.length_map];exact MH (List.length_filter_le _ _) (by rw[MC];omega)
def F7 (W:LC) (c:List (Lz × Lz)) (ov:Value) (wr:LC):Prop:=La W wr/\wr.ownsRow W.heap.size 64 2 ov c.length (jV c)
theorem F7.bel{c:List (Lz × Lz)}{ov:Value}(h:F7 W c ov wr)(hb:La wr w'):F7 W c ov w':=⟨ab h.1 hb,bM h.2 fun g hg=>hb.block g (bY h.2 hg).2⟩
theorem Fr(c:List (Lz × Lz))(n p:Lz):jV (c++[(n,p)])=jV c++[.string ⟨n.toArray⟩,.string ⟨p.toArray⟩]:=by simp[jV]
theorem F7.push{W':LC}{c:List (Lz × Lz)}{ov:Value}{n p:Lz}{cap:Nat}(h:F7 W c ov wr)(ho:W'.ownsRow W.heap.size 64 2 (.slice (some ⟨g,0,none⟩) (c.length+1) cap) (c.length+1) (jV c++[.string ⟨n.toArray⟩,.string ⟨p.toArray⟩]))(hg:(wr.alloc (.cells #[.string ⟨n.toArray⟩,.string ⟨p.toArray⟩] 64)).grownBy W' ov.ownBlock):F7 W (c++[(n,p)]) (.slice (some ⟨g,0,none⟩) (c.length+1) cap) W':=by
 refine⟨Jv (ab h.1 (ae _ _)) hg (fun k hk=>(bY h.2 hk).1),?_⟩;rw[Fr,Mx];exact ho
theorem vv{e:TypeId}{size:Nat}{xs:List Value}(h:w.ownsRow B e size v n xs):∃ a c,v=.slice a n c:=TG h
theorem Sf(w:LC)(ok okl okw:Nat->Prop)(t LQ:V)(l:List aL)(who:Lz)(vt vl vw:Value)(ht:In w ok t vt)(hl:aB w okl l vl)(hw:In w okw LQ vw)(hN:bN LQ<=1000000000000000)(hA:(bA l).length<=4000000)(hP:∀ o∈l,∀ x∈o.paths,x.length<=140737488351232):Calls prog 22 #[vt,vl,.string ⟨who.toArray⟩,vw] w fun e w'=>∃ r,e=.returned r/\w'.ownsRow w.heap.size 64 2 r (eu (aV LQ t (au LQ)) who l).length (jV (eu (aV LQ t (au LQ)) who l))/\La w w':=by
 have HT:=aa ht;have HL:=aa hl;have HW:=aa hw;have HA:=aa hA;have HP:=aa hP;have HN:=aa hN;obtain⟨a1,b1,c1,d1,rfl⟩:=ht.form;obtain⟨a2,b2,c2,d2,rfl⟩:=hw.form;obtain⟨la,lc,rfl⟩:=hl.form;have ll:=hl.1;unfold maxLen at ll;clear ht hl hw hA hP hN;obtain⟨W2,hW2⟩:∃ W,W=(w.alloc (.cells #[.int .i64 t.kind,.int .i64 t.n,.string ⟨t.s.toArray⟩,.slice a1 t.keys.length c1,.slice b1 t.l.length d1] 25)).alloc (.cells #[.int .i64 LQ.kind,.int .i64 LQ.n,.string ⟨LQ.s.toArray⟩,.slice a2 LQ.keys.length c2,.slice b2 LQ.l.length d2] 25):=⟨_,rfl⟩
 have B2:Ll (La w W2):=aa (by rw[hW2];exact ab (ae _ _) (ae _ _));have VB2:Ll (ag W2 w.heap.size (.int .i64 t.kind) (.int .i64 t.n) (.string ⟨t.s.toArray⟩) (.slice a1 t.keys.length c1) (.slice b1 t.l.length d1)):=aa (by rw[hW2];exact fb _ _ _);have WB2:Ll (ag W2 (w.heap.size+1) (.int .i64 LQ.kind) (.int .i64 LQ.n) (.string ⟨LQ.s.toArray⟩) (.slice a2 LQ.keys.length c2) (.slice b2 LQ.l.length d2)):=aa (by rw[hW2];exact et _ _ _);have HW2:=aa hW2;have TI:=aa (HT.o.bel B2.o);have WI:=aa (HW.o.bel B2.o);have LI:=aa (HL.o.bel B2.o);clear hW2;obtain⟨blk,hblk⟩:∃ b,aV LQ t (au LQ)=b:=⟨_,rfl⟩
 have IW:Ll (∀ W,La W2 W->∀ q:Lz,q.length<=140737488351232->Calls prog 35 #[.agg #[.int .i64 t.kind,.int .i64 t.n,.string ⟨t.s.toArray⟩,.slice a1 t.keys.length c1,.slice b1 t.l.length d1],.agg #[.int .i64 LQ.kind,.int .i64 LQ.n,.string ⟨LQ.s.toArray⟩,.slice a2 LQ.keys.length c2,.slice b2 LQ.l.length d2],.string ⟨q.toArray⟩] W fun e w'=>e=.returned (.bool (blk q))/\La W w'):=aa (fun W hW q hq=>by
  have:=PN W _ _ t LQ _ _ q (TI.o.bel hW) (WI.o.bel hW) hq HN.o;rwa [hblk]at this)
 rw[hblk];clear hblk;have S0:Ll (F7 W2 (eu blk who (l.take 0)) (.slice none 0 0) W2):=aa ⟨MK _ _,World.ownsRow_nil _ _ _ _⟩;go_enter func22,ntmps22;go_upto_region 1 with fail
 rw[<-HW2.o];go_wp2_with fail
 go_loopg [16,9] l.length (fun gk i ov wr=>∃ k:Nat,k<=l.length/\gk=l.length - k/\i=.int .i64 k/\Ll (F7 W2 (eu blk who (l.take k)) ov wr))
 case atStart=>exact⟨0,Nat.zero_le _,rfl,rfl,S0⟩
 case round=>
  obtain⟨k,hk,hgk,rfl,I⟩:=hrel;obtain⟨wo,hwo⟩:∃ W,W=wr:=⟨_,rfl⟩
  rw[<-hwo]at I ⊢;clear hwo;have GK:=aa hgk;clear hgk;obtain⟨oa,oc,hov⟩:=vv I.o.2;subst hov;by_cases hlt:k < l.length
  ·obtain⟨b,off,pa,pc,rfl,hc1,hc2,hn0,hp0,hst,hnl⟩:=LI.o.at hlt;have hn:=ah I.o.1 hn0;have hp:=ah I.o.1 hp0;have w2:(k:Int) < (l.length:Int):=by omega
   have w3:(0:Int)<=(k:Int):=by omega
   have FS:=aa (GL blk who l hlt);have LP:=aa (HP.o _ (List.getElem_mem hlt));have CL:Ll (∀ j,j < l[k].paths.length->(eu blk who (l.take k)++fr blk who l[k] j).length<=4000000):=aa (fun j hj=>by
    have h1:=(Bw hlt hj).length_le;have h2:=TZ blk who (l.take k);have h3:=Sa blk who l[k] j;have h4:=HA.o;simp only[Mx,List.length_map,MC,My,List.length_nil]at h1 ⊢;omega)
   have PS:=aa (fun(j:Nat) (hj:j < l[k].paths.length)=>L7 blk who l[k] hj);obtain⟨o,ho⟩:∃ o,l[k]=o:=⟨_,rfl⟩
   rw[ho]at hn hp hst hnl FS LP CL PS;clear ho hn0 hp0;have ST:=aa hst;have pl:=hst.1;unfold maxLen at pl;clear hst;obtain⟨nm,hnm⟩:∃ n,o.name=n:=⟨_,rfl⟩
   rw[hnm]at hn PS;obtain⟨W5,hW5⟩:∃ W,W=wo.alloc (.cells #[.string ⟨nm.toArray⟩,.slice pa o.paths.length pc] 47):=⟨_,rfl⟩
   have A5:Ll (La wo W5):=aa (by rw[hW5];exact ae _ _);have N5:Ll (W5.cell? ⟨wo.heap.size,0,none⟩=some (.string ⟨nm.toArray⟩)):=aa (by rw[hW5];exact(rl (MN _ _)).1);have P5:Ll (W5.cell? ⟨wo.heap.size,1,none⟩=some (.slice pa o.paths.length pc)):=aa (by rw[hW5];exact(rl (MN _ _)).2);have I5:=aa (I.o.bel A5.o);have NB:Ll (some wo.heap.size≠(Value.slice oa (eu blk who (l.take k)).length oc).ownBlock):=aa (fun e=>by have:=(bY I.o.2 e.symm).2;omega);have HNM:=aa hnm;have HW5:=aa hW5;have NZ:Ll (wo.heap.size < W5.heap.size):=aa (by rw[hW5];simp);clear hW5 hnm;obtain⟨m,hm⟩:∃ m,(eu blk who (l.take k)).length=m:=⟨_,rfl⟩
   have HM:=aa hm;rw[hm]at NB ⊢;go_upto_region 5 with fail
   rw[<-HW5.o];have n5:=N5.o;have p5:=P5.o;go_wp2_with fail
   clear n5 p5 hn hp;have S5:Ll (F7 W2 (eu blk who (l.take k)++fr blk who o 0) (.slice oa m oc) W5/\W5.cell? ⟨wo.heap.size,0,none⟩=some (.string ⟨nm.toArray⟩)/\some wo.heap.size≠(Value.slice oa m oc).ownBlock/\wo.heap.size < W5.heap.size):=aa ⟨by
    have e:fr blk who o 0=[]:=by simp[fr]
    rw[e,List.append_nil,<-hm];exact I5.o,N5.o,NB.o,NZ.o⟩
   clear hm;go_loopg [23,9] o.paths.length (fun gk i ov wj=>∃ j:Nat,j<=o.paths.length/\gk=o.paths.length - j/\i=.int .i64 j/\Ll (F7 W2 (eu blk who (l.take k)++fr blk who o j) ov wj/\wj.cell? ⟨wo.heap.size,0,none⟩=some (.string ⟨nm.toArray⟩)/\some wo.heap.size≠ov.ownBlock/\wo.heap.size < wj.heap.size))
   case atStart=>exact⟨0,Nat.zero_le _,rfl,rfl,S5⟩
   case round=>
    obtain⟨j,hj,hgj,rfl,J⟩:=hrel;have GJ:=aa hgj;clear hgj;obtain⟨ja,jc,hov⟩:=vv J.o.1.2;subst hov;obtain⟨C,hC⟩:∃ C,eu blk who (l.take k)++fr blk who o j=C:=⟨_,rfl⟩
    rw[hC]at J ⊢;have HC:=aa hC;clear hC;by_cases hjt:j < o.paths.length
    ·obtain⟨pb,po,rfl,hc1',hc2',hcell0⟩:=gQ ST.o hjt;unfold maxLen at hc2';have LV:=ah J.o.1.1 hcell0;have j2:(j:Int) < (o.paths.length:Int):=by omega
     have j3:(0:Int)<=(j:Int):=by omega
     have PST:=aa (PS.o j hjt);have CLJ:Ll (C.length<=4000000):=aa (by rw[<-HC.o];exact CL.o j hjt);have QL:=aa (LP.o _ (List.getElem_mem hjt));clear hcell0;obtain⟨p,hp⟩:∃ p,o.paths[j]=p:=⟨_,rfl⟩
     rw[hp]at LV PST QL;clear hp;have n5:=J.o.2.1;have v0_:=(af J.o.1.1 VB2.o).c;have u0_:=(af J.o.1.1 WB2.o).c;by_cases hwho:nm=who
     ·have e9:(nm == who)=true:=by rw[beq_iff_eq];exact hwho
      have e8:(nm != who)=false:=by simp[hwho]
      have NX:Ll (eu blk who (l.take k)++fr blk who o (j+1)=C):=aa (by rw[PST.o,e8,<-HC.o];simp);have J2:=aa (show F7 W2 (eu blk who (l.take k)++fr blk who o (j+1)) _ wr/\_/\_/\_ from by rw[NX.o];exact J.o);clear NX;subst hwho;go_wp2_with fail
      go_roundg (o.paths.length - (j+1))
      case measure=>rw[GJ.o];omega
      case rel=>exact⟨j+1,hjt,rfl,by go_num,J2⟩
     ·have e9:(nm == who)=false:=by rw[MO];exact hwho
      have e8:(nm != who)=true:=by simp[hwho]
      have CALL:=aa (IW.o wr J.o.1.1 p QL.o);cases hb:blk p with
      | false=>
       have NX:Ll (eu blk who (l.take k)++fr blk who o (j+1)=C):=aa (by rw[PST.o,hb,<-HC.o];simp);rw[hb]at CALL;clear hb hwho;go_wp2_with (go_at_call 35;refine CALL.o.mono ?_;rintro e w7 ⟨rfl,hb7⟩;have J2:=aa (show F7 W2 (eu blk who (l.take k)++fr blk who o (j+1)) _ w7/\_/\_/\_ from by rw[NX.o];exact⟨J.o.1.bel hb7,ah hb7 J.o.2.1,J.o.2.2.1,MI J.o.2.2.2 hb7.size⟩);clear hb7)
       go_roundg (o.paths.length - (j+1))
       case measure=>rw[GJ.o];omega
       case rel=>exact⟨j+1,hjt,rfl,by go_num,J2⟩
      | true=>
       have NX:Ll (eu blk who (l.take k)++fr blk who o (j+1)=C++[(nm,p)]):=aa (by rw[PST.o,hb,e8,<-HC.o];simp);rw[hb]at CALL;clear hb hwho;go_upto_region 9 with (go_at_call 35;refine CALL.o.mono ?_;rintro e w7 ⟨rfl,hb7⟩;have J2:=aa (show F7 W2 C _ w7/\w7.cell? ⟨wo.heap.size,0,none⟩=some (.string ⟨nm.toArray⟩)/\_/\wo.heap.size < w7.heap.size from ⟨J.o.1.bel hb7,ah hb7 J.o.2.1,J.o.2.2.1,MI J.o.2.2.2 hb7.size⟩);clear hb7)
       clear n5 LV;have n5:=J2.o.2.1;obtain⟨g,cap,W',hR,ho,hg,hf⟩:=Dl (W:=w7.alloc (.cells #[.string ⟨nm.toArray⟩,.string ⟨p.toArray⟩] 64)) (B:=W2.heap.size) (v:=.slice ja C.length jc) (n:=C.length) (cs:=jV C) (nb:=w7.heap.size) (k:=⟨nm.toArray⟩) (q:=⟨p.toArray⟩) (bM J2.o.1.2 fun g hg=>(ae _ _).block g (bY J2.o.1.2 hg).2) (MN _ _) CLJ.o (MH J2.o.1.1.size (ae w7 (.cells #[.string ⟨nm.toArray⟩,.string ⟨p.toArray⟩] 64)).size) 29;have FIN:Ll (F7 W2 (eu blk who (l.take k)++fr blk who o (j+1)) (.slice (some ⟨g,0,none⟩) (C.length+1) cap) W'/\W'.cell? ⟨wo.heap.size,0,none⟩=some (.string ⟨nm.toArray⟩)/\some wo.heap.size≠(Value.slice (some ⟨g,0,none⟩) (C.length+1) cap).ownBlock/\wo.heap.size < W'.heap.size):=aa (by
        have hs:=J2.o.2.2.2;have ha:=(ae w7 (.cells #[.string ⟨nm.toArray⟩,.string ⟨p.toArray⟩] 64))
        refine⟨?_,hg.cell (ah ha J2.o.2.1) J2.o.2.2.1,fun e=>?_,MI hs (MH ha.size hg.size)⟩
        ·rw[NX.o];exact J2.o.1.push ho hg
        ·rcases hf with hf | hf
         ·exact J2.o.2.2.1 (e.trans hf.symm)
         ·have e2:wo.heap.size=g:=by simpa [Value.ownBlock] using e
          have:=ha.size;omega)
       have HR:=aa hR;clear hR ho hg hf;go_wp2_with (at_builtin;go_must (refine Lib.wpList_append_run _ rfl _ _ _ _ rfl (.slice ja C.length jc) (.slice (some ⟨w7.heap.size,0,none⟩) 1 1) rfl rfl _ _ HR.o ?_);refine Ll.o ?_)
       refine aa ?_;go_wp2_with fail
       go_roundg (o.paths.length - (j+1))
       case measure=>rw[GJ.o];omega
       case rel=>exact⟨j+1,hjt,rfl,by go_num,FIN⟩
    ·have d9:¬(j:Int) < (o.paths.length:Int):=by omega
     have hje:j=o.paths.length:=by omega
     have FIN:Ll (F7 W2 (eu blk who (l.take (k+1))) (.slice ja C.length jc) wr):=aa (by
      rw[FS.o,<-hje,HC.o];exact J.o.1)
     clear hje;go_wp2_with fail
     go_roundg (l.length - (k+1))
     case measure=>rw[GK.o];omega
     case rel=>exact⟨k+1,hlt,rfl,by go_num,FIN⟩
  ·have d9:¬(k:Int) < (l.length:Int):=by omega
   have FIN:Ll (wo.ownsRow w.heap.size 64 2 (.slice oa (eu blk who (l.take k)).length oc) (eu blk who l).length (jV (eu blk who l))/\La w wo):=aa ⟨by
    have:=TP I.o.2 B2.o.size;rwa [MD (by omega)]at this ⊢,ab B2.o (I.o.1)⟩
   go_wp2_with fail
   go_ret;exact⟨_,rfl,FIN.o.1,FIN.o.2⟩
theorem KW{cs:List Value}{nb:Nat}{k:ByteArray}(ho:W.ownsRow B 9 1 v n cs)(hnb:W.heap[nb]?=some (.cells #[.string k] 9))(hn:n<=4000000)(hB:B<=W.heap.size)(ty:TypeId):∃ g cap W',(Builtin.append_ #[22,22] ty #[v,.slice (some ⟨nb,0,none⟩) 1 1]).run prog W=.ok (.slice (some ⟨g,0,none⟩) (n+1) cap) W'/\W'.ownsRow B 9 1 (.slice (some ⟨g,0,none⟩) (n+1) cap) (n+1) (cs++[.string k])/\W.grownBy W' v.ownBlock/\(v.ownBlock=some g\/W.heap.size=g):=by
 obtain⟨i0,hi,hz0,hz1,hz2⟩:=info_parts wG;obtain⟨g,cap,W',hr,h1,h2,h3,-⟩:=run_append_lies (P:=prog) W 22 ty B 9 i0 _ 1 16 underlying22 hi hz0 hz1 hz2 rfl (by decide) v n cs ho ⟨nb,0,none⟩ 1 1 [.string k] rfl
  (World.news_of_block (cs:=#[.string k]) hnb) (by intro u hu;simp only[List.mem_cons,List.not_mem_nil,or_false]at hu;subst hu;rfl) (by decide) (by unfold maxLen;omega) (by omega) hB W.heap.size rfl
 exact⟨g,cap,W',hr,h1,h2,h3.imp id Eq.symm⟩
structure t6 (W:LC) (g:Nat) (nm:Lz) (ps:List Lz) (pv:Value) (wr:LC):Prop where
 bel:La W wr
 low:W.heap.size<=g
 bx:wr.heap[g]?=some (.cells #[.string ⟨nm.toArray⟩,pv] 47)
 row:wr.ownsRow (g+1) 9 1 pv ps.length (ps.map fun s=>.string ⟨s.toArray⟩)
theorem t6.grow{nm:Lz}{ps:List Lz}{pv:Value}(h:t6 W g nm ps pv wr)(hb:La wr w'):t6 W g nm ps pv w':=
 ⟨ab h.bel hb,h.low,bR hb h.bx,bM h.row fun g hg=>hb.block g (bY h.row hg).2⟩
theorem t6.push{W':LC}{cap:Nat}{nm p:Lz}{ps:List Lz}{pv:Value}(h:t6 W g nm ps pv wr)(ho:W'.ownsRow (g+1) 9 1 (.slice (some ⟨k,0,none⟩) (ps.length+1) cap) (ps.length+1) ((ps.map fun s=>Value.string ⟨s.toArray⟩)++[.string ⟨p.toArray⟩]))(hg:(wr.alloc (.cells #[.string ⟨p.toArray⟩] 9)).grownBy W' pv.ownBlock):t6 W g nm (ps++[p]) (.slice (some ⟨k,0,none⟩) (ps.length+1) cap) (W'.setCell ⟨g,1,none⟩ (.slice (some ⟨k,0,none⟩) (ps.length+1) cap))/\W'.cell? ⟨g,1,none⟩=some pv/\W'.frozen? ⟨g,1,none⟩=false:=by
 have ha:=ae wr (.cells #[.string ⟨p.toArray⟩] 9);have hlt:=(MF.1 h.bx).1;have hbox:W'.heap[g]?=some (.cells #[.string ⟨nm.toArray⟩,pv] 47):=by
  rw[hg.block g (MI hlt ha.size) (fun e=>by have:=(bY h.row e.symm).1;omega),ha.block g hlt,h.bx]
 refine⟨⟨?_,h.low,ak hbox 1 _,?_⟩,?_,?_⟩
 ·exact bS (lC (aq (Jv (ab h.bel ha) hg (fun k hk=>MH h.low (Nat.le_of_succ_le (bY h.row hk).1)))) (ap (az _ _) _ _) h.low)
 ·have e:(ps++[p]).map (fun s=>Value.string ⟨s.toArray⟩)=ps.map (fun s=>Value.string ⟨s.toArray⟩)++[.string ⟨p.toArray⟩]:=by simp
  rw[e,Mx];exact bM ho fun j hj=>Below.heap_setCell W' ⟨g,1,none⟩ _ j (fun e=>by have e2:j=g:=e;have:=(bY ho hj).1;omega)
 ·simp[World.cell?,hbox]
 ·simp[World.frozen?,hbox]
theorem m6:∀ (os:List aL) (vs:List Value) (o:aL) (v:Value),os.length=vs.length->ba (os++[o]) (vs++[v])=ba os vs++[.string ⟨o.name.toArray⟩,v]
 | [],[],o,v,_=>rfl
 | [],_ :: _,o,v,h=>by simp at h
 | _ :: _,[],o,v,h=>by simp at h
 | a :: os,b :: vs,o,v,h=>by
  rw[List.cons_append,List.cons_append,ba,ba,m6 os vs o v (by simpa using h)];rfl
theorem fA.snoc{W':LC}{cap:Nat}{os:List aL}{r pv:Value}{o:aL}{pvs:List Value}(h1:os.length=pvs.length)(h3:∀ (i:Nat) (o:aL) (v:Value),os[i]?=some o->pvs[i]?=some v->(∃ a c,v=.slice a o.paths.length c)/\ao wr (fun k=>B<=k/\some k≠r.ownBlock) o.paths v)(hs:ao wr (fun k=>B<=k/\some k≠r.ownBlock) o.paths pv)(ho:W'.ownsRow B 47 2 (.slice (some ⟨g,0,none⟩) (os.length+1) cap) (os.length+1) (ba os pvs++[.string ⟨o.name.toArray⟩,pv]))(hg:(wr.alloc (.cells #[.string ⟨o.name.toArray⟩,pv] 47)).grownBy W' r.ownBlock)(hf:r.ownBlock=some g\/wr.heap.size < g):fA W' B (os++[o]) (.slice (some ⟨g,0,none⟩) (os.length+1) cap):=by
 have ha:=ae wr (.cells #[.string ⟨o.name.toArray⟩,pv] 47);have key:∀ (a:Addr) (x:Value),(B<=a.block/\some a.block≠r.ownBlock)->wr.cell? a=some x->(B<=a.block/\some a.block≠(Value.slice (some ⟨g,0,none⟩) (os.length+1) cap).ownBlock)/\W'.cell? a=some x:=fun a x hk hx=>by
  have hlt:=World.block_lt_of_cell? wr a hx;refine⟨⟨hk.1,fun e=>?_⟩,hg.cell (ah ha hx) hk.2⟩;have e2:a.block=g:=by simpa [Value.ownBlock] using e
  rcases hf with hf | hf
  ·exact hk.2 (by rw[hf,e2])
  ·omega
 refine⟨pvs++[pv],by simp[h1],?_,fun i x v hx hv=>?_⟩
 ·rw[m6 _ _ _ _ h1,Mx];exact ho
 ·by_cases hi:i < os.length
  ·rw[List.getElem?_append_left hi]at hx;rw[List.getElem?_append_left (by omega)]at hv;obtain⟨g1,g2⟩:=h3 i x v hx hv;exact⟨g1,g2.imp key⟩
  ·rw[List.getElem?_append_right (by omega)]at hx;rw[List.getElem?_append_right (by omega)]at hv;cases h8:i - os.length with
   | succ m=>rw[h8]at hx;simp at hx
   | zero=>
    rw[h8]at hx;rw[show i - pvs.length=0 by omega]at hv;simp only[List.getElem?_cons_zero,Option.some.injEq]at hx hv;subst hx hv;exact⟨hs.form.imp fun a h=>h,hs.imp key⟩
end Go.Proofs.YtbdlfclnkpofaaaGreatDoor
