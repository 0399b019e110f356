import Derived.Test.YtbdlfclnkpofaaaGreatDoorG15
import Derived.Shelf.Spec.SlicesInsertGrow
set_option maxRecDepth 100000
set_option maxHeartbeats 40000000
set_option linter.unusedSimpArgs false
set_option linter.unusedVariables false
namespace Go.Proofs.YtbdlfclnkpofaaaGreatDoor
open Go.RowKit
open _root_.Go.Proofs.Tryz
variable {w w' W w0:World}
variable {v:Value}
variable {g B n i:Nat}
section
theorem ng{ops:Array Oper}{o:Oper}{a}{K:Act->LC->Prop}{Q:Exit->Act->LC->Prop}{E:Prop}(hgd:o.guard=none)(s x:Operand)(t:TypeId)(ho:o.op=.call { callee:=.builtin .append,args:=#[s,x],argTypes:=#[t,t] })(v u)(hs:a.eval s=v)(hx:a.eval x=u)(R:Value->LC->Prop)(hr:∀ ty,∃ v' w',(Builtin.append_ #[t,t] ty #[v,u]).run prog w=.ok v' w'/\R v' w')(hK:∀ v' w',R v' w'->K (a.put o.dst v') w'):if Region.wanted o (yielded ops a.tmps)=true then Oper.wp prog o a w K Q else E:=by
 have hw:Region.wanted o (yielded ops a.tmps)=true:=by simp[Region.wanted,hgd]
 rw[if_pos hw];obtain⟨v',w',h1,h2⟩:=hr o.type;unfold Oper.wp execOp;simp only[ho,resolve,invoke,builtin,Sem.run_bind,Sem.run_pure,Result.andThen_ok,List.map_toArray,List.map_cons,List.map_nil,hs,hx,h1];exact hK v' w' h2
theorem F6{e:TypeId}{size xs}(h:w.ownsRow B e size v n xs)(hh:w'.heap=w.heap):w'.ownsRow B e size v n xs:=bM h fun g _=>by rw[hh]
theorem pP{wq:LC}{cs k}(hh:W.heap=(wq.alloc (.cells #[.string k] 9)).heap)(h1:W.os=wq.os)(h2:W.tape=wq.tape)(h3:W.output=wq.output)(ho:wq.ownsRow B 9 1 v n cs)(hn:n<=4000000)(hB:B<=wq.heap.size)(ty:TypeId):∃ v' w',(Builtin.append_ #[22,22] ty #[v,.slice (some ⟨wq.heap.size,0,none⟩) 1 1]).run prog W=.ok v' w'/\(∃ g cap,v'=.slice (some ⟨g,0,none⟩) (n+1) cap/\w'.ownsRow B 9 1 (.slice (some ⟨g,0,none⟩) (n+1) cap) (n+1) (cs++[.string k])/\(wq.alloc (.cells #[.string k] 9)).grownBy w' v.ownBlock/\(v.ownBlock=some g\/(wq.alloc (.cells #[.string k] 9)).heap.size=g)):=by
 obtain⟨i0,hi,hz0,hz1,hz2⟩:=info_parts wG;have hnb:W.heap[wq.heap.size]?=some (.cells #[.string k] 9):=by rw[hh];exact MN _ _
 have hoW:W.ownsRow B 9 1 v n cs:=F6 (bM ho fun g hg=>(ae wq (.cells #[.string k] 9)).block g (bY ho hg).2) hh;obtain⟨g,cap,W',hr,g1,g2,g3,-⟩:=run_append_lies (P:=prog) W 22 ty B 9 i0 _ 1 16 underlying22 hi hz0 hz1 hz2 rfl (by decide) v n cs hoW ⟨wq.heap.size,0,none⟩ 1 1 [.string k] rfl
  (World.news_of_block (cs:=#[.string k]) hnb) (by intro u hu;simp only[List.mem_cons,List.not_mem_nil,or_false]at hu;subst hu;rfl) (by decide) (by unfold maxLen;omega) (by omega) (by rw[hh];have:=(ae wq (.cells #[.string k] 9)).size;omega) W.heap.size rfl
 exact⟨_,W',hr,g,cap,rfl,g1,⟨g2.os.trans h1,g2.tape.trans h2,g2.output.trans h3,by rw[<-hh];exact g2.size,fun i hi hr=>by rw[<-hh]at hi ⊢;exact g2.block i hi hr⟩,g3.imp id fun e=>by rw[<-hh];exact e.symm⟩
theorem dJ{e:TypeId}{size cap xs}(h:w.ownsRow B e size (.slice (some ⟨g,0,none⟩) n cap) n xs)(hn:0 < n)(hi:xs[i]?=some v):w.cell? ⟨g,i,none⟩=some v/\w.frozen? ⟨g,i,none⟩=false:=by
 rcases h.2 with⟨h0,-⟩ | ⟨g',cap',cur,e1,h1,h2,h3,h4,h5,h6⟩
 ·cases h0
 ·cases e1;have e9:=congrArg (fun l=>l[i]?) h6;simp only[hi,List.getElem?_take]at e9;split at e9
  ·have:cur[i]?=some v:=by simpa using e9
   exact⟨by simp[World.cell?,h2,this],by simp[World.frozen?,h2]⟩
  ·cases e9
theorem iX{init o F gb oc pl pin Z}(h:gG w0 init (some o) F W (.slice (some ⟨gb,0,none⟩) (init.length+1) oc) pl pin Z):W.cell? ⟨gb,init.length * 2+1,none⟩=some pl/\W.cell? ⟨gb,init.length * 2,none⟩=some (.string ⟨o.name.toArray⟩):=by
 have hl:=h.last.1;have LT:=fS init pin h.plen;refine⟨(dJ hl (by omega) ?_).1,(dJ hl (by omega) ?_).1⟩
 ·rw[eG _ _ _ _ h.plen,List.getElem?_append_right (by omega),LT,show init.length * 2+1 - init.length * 2=1 by omega];rfl
 ·rw[eG _ _ _ _ h.plen,List.getElem?_append_right (by omega),LT,Nat.sub_self];rfl
theorem qg{init o F W9}{ob:Obj}{gb oc pl pin Z}(h:gG w0 init (some o) F W (.slice (some ⟨gb,0,none⟩) (init.length+1) oc) pl pin Z)(hg:(W.alloc ob).grownBy W9 pl.ownBlock):W9.cell? ⟨gb,init.length * 2+1,none⟩=some pl/\W9.frozen? ⟨gb,init.length * 2+1,none⟩=false:=by
 have hl:=h.last.1;have hr:=h.rows.1 gb rfl;have LT:=fS init pin h.plen;refine dJ (bM hl fun g' hg'=>?_) (by omega) ?_
 ·have e9:gb=g':=by simpa [Value.ownBlock] using hg'
  subst e9;have ha:=ae W ob;rw[hg.block gb (MI hr.2 ha.size) (fun e=>h.off gb rfl e.symm),ha.block gb hr.2]
 ·rw[eG _ _ _ _ h.plen,List.getElem?_append_right (by omega),LT,show init.length * 2+1 - init.length * 2=1 by omega];rfl
theorem Fi{init o F ov pl pin Z}(h:gG w0 init (some o) F W ov pl pin Z):∃ gb oc,ov=.slice (some ⟨gb,0,none⟩) (init.length+1) oc:=by
 rcases h.last.1.2 with⟨-,h0⟩ | ⟨g,cap,cur,e,-⟩
 ·omega
 ·exact⟨g,cap,e⟩
attribute [local go_sem ↓] Go.wp_at_zero Go.wp_at_succ
theorem Eg(w0 W gs g)(lb:Array Value)(stays:Lz->Lz->Bool)(os F n p)(eg:∀ args w,(callFunc g args).run prog w=.ok (.enter g args) w)(hI:D4 w0 os F W)(hgs:w0.cell? ⟨gs,0,none⟩=some (.func (.func g) #[] lb))(hp:p.length<=maxLen)(hst:Calls prog g (#[.string ⟨n.toArray⟩,.string ⟨p.toArray⟩]++lb) W fun e w'=>e=.returned (.bool (stays n p))/\La W w')(hN:os.length<=4000000)(hP:∀ o∈os,o.paths.length<=4000000):Calls prog 57 #[.string ⟨n.toArray⟩,.string ⟨p.toArray⟩,.pointer (some ⟨gs,0,none⟩),.pointer (some ⟨w0.heap.size,0,none⟩)] W fun e w'=>e=.returned (.tuple #[])/\D4 w0 (if stays n p=true then kq os n p else os) F w'/\W.heap.size<=w'.heap.size/\∀ k,F k->k < W.heap.size->w'.heap[k]?=W.heap[k]?:=by
 obtain⟨init,LZ,ov,pl,pin,Z,hos,hK⟩:=hI;have PLX:=aa hp;have c0:=ah hK.low hgs;have KK:=aa hK;have ST:=aa hst;clear hK hgs hp hst;obtain⟨b,hb⟩:∃ b,stays n p=b:=⟨_,rfl⟩
 rw[hb]at ST ⊢;clear hb;cases b with
 | false=>
  go_enter func57,ntmps57;go_wp2_with (go_at_fn g;refine ST.o.mono ?_;rintro e w1 ⟨rfl,hb⟩;have B1:=aa hb;clear hb)
  try simp only[Exit.inBlock,Exit.then]
  refine MM (results_none rfl _ _ _) rfl ?_;exact⟨rfl,⟨init,LZ,ov,pl,pin,Z,(by first | rfl | (simp[hos])),KK.o.bel B1.o⟩,B1.o.size,fun k hk hlt=>B1.o.block k hlt⟩
 | true=>
  rw[if_pos rfl];go_enter func57,ntmps57;go_upto_region 1 with (go_at_fn g;refine ST.o.mono ?_;rintro e w1 ⟨rfl,hb⟩;have B1:=aa hb;clear hb)
  clear c0;have K1:=aa (KK.o.bel B1.o);have c1:w1.cell? ⟨w0.heap.size,0,none⟩=some ov:=by have h9:=K1.o.box;simp[World.cell?,h9]
  have FR:Ll (∀ w',D4 w0 (kq os n p) F w'/\w1.heap.size<=w'.heap.size/\(∀ k,F k->k < w1.heap.size->w'.heap[k]?=w1.heap[k]?)->D4 w0 (kq os n p) F w'/\W.heap.size<=w'.heap.size/\∀ k,F k->k < W.heap.size->w'.heap[k]?=W.heap[k]?):=aa (fun w' h=>⟨h.1,MH B1.o.size h.2.1,fun k hk hlt=>by rw[h.2.2 k hk (MI hlt B1.o.size),B1.o.block k hlt]⟩);clear KK B1;cases LZ with
  | none=>
   obtain⟨hin,hpl,hrow⟩:=K1.o.last;subst hin;subst hpl;have hpn:pin=[]:=List.length_eq_zero_iff.1 K1.o.plen.symm;subst hpn;have hoe:os=[]:=by simpa using hos
   obtain⟨oa,oc,hov⟩:∃ oa oc,ov=.slice oa 0 oc:=by
    rcases hrow.2 with⟨h9,-⟩ | ⟨g9,c9,_,h9,-⟩
    ·exact⟨_,_,h9⟩
    ·exact⟨_,_,h9⟩
   subst hov;have ADD:Ll (kq os n p=[⟨n,[]++[p]⟩]):=aa (by rw[hoe];rfl);have PLN:Ll ((([]:List Lz)).length<=4000000):=aa (by simp);clear hos hP hN hoe;obtain⟨g7,c7,W7,hR,ho7,hg7,hf7⟩:=mW (W:=w1.alloc (.cells #[.string ⟨n.toArray⟩,.slice none 0 0] 47)) (B:=w0.heap.size+1) (v:=.slice oa 0 oc) (n:=0) (cs:=[]) (nb:=w1.heap.size) (k:=⟨n.toArray⟩) (pa:=none) (pn:=0) (pc:=0) (bM hrow fun g hg=>(ae _ _).block g (bY hrow hg).2) (MN _ _) (by omega) (by have:=(ae w1 (.cells #[.string ⟨n.toArray⟩,.slice none 0 0] 47)).size;have:=(MF.1 K1.o.box).1;omega) 26;have KN:=aa (NQ (n:=n) (N:=0) (cells:=[]) K1.o (by simp) rfl ho7 hg7 hf7);have HR:=aa hR;have hgl:w0.heap.size < w1.heap.size:=(MF.1 K1.o.box).1;have c0a:∀ o,(w1.alloc o).cell? ⟨w0.heap.size,0,none⟩=some (.slice oa 0 oc):=fun o=>ah (ae _ _) c1;have hb7:W7.heap[w0.heap.size]?=some (.cells #[.slice oa 0 oc] 26):=by
    rw[hg7.block _ (MI hgl (ae w1 _).size) (fun e=>by have:=(bY hrow e.symm).1;omega),(ae w1 _).block _ hgl,K1.o.box]
   have c7a:W7.cell? ⟨w0.heap.size,0,none⟩=some (.slice oa 0 oc):=by simp[World.cell?,hb7]
   have c7f:W7.frozen? ⟨w0.heap.size,0,none⟩=false:=by simp[World.frozen?,hb7]
   clear hR ho7 hg7 hf7 hb7 hrow;go_wp2_with (at_builtin;go_must (refine Lib.wpList_append_run _ rfl _ _ _ _ rfl (.slice oa 0 oc) (.slice (some ⟨w1.heap.size,0,none⟩) 1 1) rfl rfl _ _ HR.o ?_);refine Ll.o ?_)
   refine aa ?_;go_upto_region 5 with fail
   obtain⟨wq,hwq⟩:∃ wq,wq=W7.setCell ⟨w0.heap.size,0,none⟩ (.slice (some ⟨g7,0,none⟩) (0+1) c7):=⟨_,rfl⟩
   rw[<-hwq]at KN ⊢;clear hwq c1 c0a c7a c7f;obtain⟨in2,hin2⟩:∃ i:List aL,[]=i:=⟨_,rfl⟩
   have LT:in2.length=0:=by rw[<-hin2];rfl
   obtain⟨pin2,hpin2⟩:∃ i:List Value,[]=i:=⟨_,rfl⟩
   obtain⟨Z2,hZ2⟩:∃ i,(fun k=>Z k\/(Value.slice none 0 0).ownBlock=some k)=i:=⟨_,rfl⟩
   have KQ:Ll (gG w0 in2 (some ⟨n,[]⟩) F wq (.slice (some ⟨g7,0,none⟩) (in2.length+1) c7) (.slice none 0 0) pin2 Z2):=aa (by
    rw[LT,<-hin2,<-hpin2,<-hZ2];exact KN.o.1)
   have FK:=aa KN.o.2;have HLEN:=aa LT;have FINAL:Ll (∀ w' pl',gG w0 in2 (some ⟨n,[]++[p]⟩) F w' (.slice (some ⟨g7,0,none⟩) (in2.length+1) c7) pl' pin2 Z2/\wq.heap.size<=w'.heap.size/\(∀ k,F k->k < wq.heap.size->w'.heap[k]?=wq.heap[k]?)->D4 w0 (kq os n p) F w'/\W.heap.size<=w'.heap.size/\∀ k,F k->k < W.heap.size->w'.heap[k]?=W.heap[k]?):=aa (fun w' pl' h=>FR.o w' ⟨⟨in2,some ⟨n,[]++[p]⟩,_,pl',pin2,Z2,by rw[ADD.o,<-hin2];rfl,h.1⟩,MH FK.o.1 h.2.1,fun k hk hlt=>by rw[h.2.2 k hk (MI hlt FK.o.1),FK.o.2 k hk hlt]⟩);clear LT KN K1 hin2 hpin2 hZ2;obtain⟨pl9,hpl9⟩:∃ x:Value,x=.slice none 0 0:=⟨_,rfl⟩
   rw[<-hpl9]at KQ;clear hpl9;have C0:Ll (wq.cell? ⟨w0.heap.size,0,none⟩=some (.slice (some ⟨g7,0,none⟩) (0+1) c7)):=aa (by have h9:=KQ.o.box;rw[HLEN.o]at h9;simp[World.cell?,h9]);have N0:Ll (some w0.heap.size≠pl9.ownBlock):=aa (fun e=>by have:=(KQ.o.rows.2 _ e.symm).1;omega);have C1:Ll (wq.cell? ⟨g7,0 * 2+1,none⟩=some pl9):=aa (by have h9:=(iX KQ.o).1;rw[HLEN.o]at h9;exact h9);have N1:Ll (some g7≠pl9.ownBlock):=aa (fun e=>KQ.o.off g7 rfl e.symm);have PLF:=KQ.o.last.2.1;obtain⟨sa,sn,sc,hsv⟩:∃ sa sn sc,pl9=.slice sa sn sc:=by
    rcases PLF.2 with⟨h9,-⟩ | ⟨_,_,_,h9,-⟩
    ·exact⟨_,_,_,h9⟩
    ·exact⟨_,_,_,h9⟩
   subst hsv;clear PLF;refine aD (fun wS=>World.grownBy wq wS (Value.slice sa sn sc).ownBlock) [12] (by kernel_rfl) (oD (az _ _)) (fun LI=>?_);refine WT.out ?_;iterate 8
    first
     | refine OJ 0 ?_ [10,11,12] LI ?_ ?_
     | refine OJ 1 ?_ [10,11,12] LI ?_ ?_
     | refine OJ 2 ?_ [4,5,6,9,10,11,12] LI ?_ ?_
     | refine OJ 3 ?_ [4,5,6,9,10,11,12] LI ?_ ?_
     | refine OJ 4 ?_ [5,6,9,10,11,12] LI ?_ ?_
     | refine OJ 5 ?_ [6,9,10,11,12] LI ?_ ?_
     | refine OJ 6 ?_ [9,10,11,12] LI ?_ ?_
     | refine OJ 7 ?_ [8,9,10,11,12] LI ?_ ?_
    rotate_left
    ·intro wS LN;have u0:=LN.cell C0.o N0.o;have u1:=LN.cell C1.o N1.o;go_simp;all_goals with_reducible rfl
    simp only[av,List.set]
   repeat' (first
    | exact nl
    |(refine TD 8 (fun K hK=>?_) ?_
      go_simp;refine hK.out _ _ (bd LI _) (fun LJ=>?_);clear hK K;replace LI:=LJ;clear LJ;try simp only[Act.put,Mt,Mu,Mv])
    |(refine ip (i:=9) (o:={ dst:=some 42,op:=Go.Op.call { callee:=Go.Callee.builtin Go.Builtin.append,args:=#[Go.Operand.tmp 39,Go.Operand.tmp 41],argTypes:=#[22,22] },type:=22,pos:= "owner.go:130",after:=#[{ on:=6,ground:=Go.Ground.data },{ on:=8,ground:=Go.Ground.data }],guard:=none }) rfl (fun K hK=>?_) ?_
      refine ng (by rfl) (.tmp 39) (.tmp 41) 22 (by rfl) _ _ (by rfl) (by rfl) _ (fun ty=>pP (wq:=wq) (by rfl) (by rfl) (by rfl) (by rfl) KQ.o.last.2.1 PLN.o (by have:=(MF.1 KQ.o.box).1;omega) ty) (fun v9 W9 hR=>?_);obtain⟨g9,c9,rfl,ho9,hg9,hf9⟩:=hR;have FIN:=aa (oW KQ.o PLX.o ho9 hg9 hf9);have ROWS:=aa (qg KQ.o hg9);refine hK.out _ _ (am (World.grownBy_alloc wq _ _) hg9) (fun LJ=>?_);clear ho9 hg9 hf9;clear hK K;replace LI:=LJ;clear LJ;try simp only[Act.put,Mt,Mu,Mv])
    |(refine OO 12 (fun K hK=>?_)
      obtain⟨n0,m0⟩:=ROWS.o;rw[HLEN.o]at n0 m0;have FIN2:=FINAL.o _ _ FIN.o;rw[HLEN.o]at FIN2;have FIN3:=aa FIN2;clear FIN2;go_simp;refine hK.out _ _ ?_;clear hK K;try simp only[Act.put,Mt,Mu,Mv])
    |(first
       | refine OJ 10 ?_ [11,12] (by exact LI) ?_ ?_
       | refine OJ 11 ?_ [12] (by exact LI) ?_ ?_
      rotate_left
      ·intro wS LN;go_simp;all_goals with_reducible rfl
      simp only[av,List.set])
    | refine OL [8] ?_
    | refine OL [9] ?_
    | fail)
   all_goals
    refine dn (by kernel_rfl) ?_;clear n0 m0;go_wp2
    go_end0
    exact⟨rfl,FIN3.o⟩
  | some o=>
   obtain⟨gb,oc,hov⟩:=Fi K1.o;subst hov;by_cases hn:o.name=n
   ·subst hn;have ADD:Ll (kq os o.name p=init++[⟨o.name,o.paths++[p]⟩]):=aa (by rw[hos];exact nu init o p);have c2:=(iX K1.o).2;have PLN:Ll (o.paths.length<=4000000):=aa (hP o (by rw[hos];simp));have hnl:init.length+1<=4000000:=by rw[hos]at hN;simpa using hN
    clear hos hP hN;obtain⟨wq,hwq⟩:∃ wq,wq=w1:=⟨_,rfl⟩
    subst hwq;have FINAL:Ll (∀ w' pl',gG w0 init (some ⟨o.name,o.paths++[p]⟩) F w' (.slice (some ⟨gb,0,none⟩) (init.length+1) oc) pl' pin Z/\wq.heap.size<=w'.heap.size/\(∀ k,F k->k < wq.heap.size->w'.heap[k]?=wq.heap[k]?)->D4 w0 (kq os o.name p) F w'/\W.heap.size<=w'.heap.size/\∀ k,F k->k < W.heap.size->w'.heap[k]?=W.heap[k]?):=aa (fun w' pl' h=>FR.o w' ⟨⟨init,some ⟨o.name,o.paths++[p]⟩,_,pl',pin,Z,by rw[ADD.o];rfl,h.1⟩,h.2⟩);have KQ:=K1;clear K1;go_upto_region 5 with fail
    clear c1 c2;have C0:Ll (wq.cell? ⟨w0.heap.size,0,none⟩=some (.slice (some ⟨gb,0,none⟩) (init.length+1) oc)):=aa (by have h9:=KQ.o.box;simp[World.cell?,h9]);have N0:Ll (some w0.heap.size≠pl.ownBlock):=aa (fun e=>by have:=(KQ.o.rows.2 _ e.symm).1;omega);have C1:Ll (wq.cell? ⟨gb,init.length * 2+1,none⟩=some pl):=aa (by have h9:=(iX KQ.o).1;exact h9);have N1:Ll (some gb≠pl.ownBlock):=aa (fun e=>KQ.o.off gb rfl e.symm);have PLF:=KQ.o.last.2.1;obtain⟨sa,sn,sc,hsv⟩:∃ sa sn sc,pl=.slice sa sn sc:=by
     rcases PLF.2 with⟨h9,-⟩ | ⟨_,_,_,h9,-⟩
     ·exact⟨_,_,_,h9⟩
     ·exact⟨_,_,_,h9⟩
    subst hsv;clear PLF;refine aD (fun wS=>World.grownBy wq wS (Value.slice sa sn sc).ownBlock) [12] (by kernel_rfl) (oD (az _ _)) (fun LI=>?_);refine WT.out ?_;iterate 8
     first
      | refine OJ 0 ?_ [10,11,12] LI ?_ ?_
      | refine OJ 1 ?_ [10,11,12] LI ?_ ?_
      | refine OJ 2 ?_ [4,5,6,9,10,11,12] LI ?_ ?_
      | refine OJ 3 ?_ [4,5,6,9,10,11,12] LI ?_ ?_
      | refine OJ 4 ?_ [5,6,9,10,11,12] LI ?_ ?_
      | refine OJ 5 ?_ [6,9,10,11,12] LI ?_ ?_
      | refine OJ 6 ?_ [9,10,11,12] LI ?_ ?_
      | refine OJ 7 ?_ [8,9,10,11,12] LI ?_ ?_
     rotate_left
     ·intro wS LN;have u0:=LN.cell C0.o N0.o;have u1:=LN.cell C1.o N1.o;go_simp;all_goals with_reducible rfl
     simp only[av,List.set]
    repeat' (first
     | exact nl
     |(refine TD 8 (fun K hK=>?_) ?_
       go_simp;refine hK.out _ _ (bd LI _) (fun LJ=>?_);clear hK K;replace LI:=LJ;clear LJ;try simp only[Act.put,Mt,Mu,Mv])
     |(refine ip (i:=9) (o:={ dst:=some 42,op:=Go.Op.call { callee:=Go.Callee.builtin Go.Builtin.append,args:=#[Go.Operand.tmp 39,Go.Operand.tmp 41],argTypes:=#[22,22] },type:=22,pos:= "owner.go:130",after:=#[{ on:=6,ground:=Go.Ground.data },{ on:=8,ground:=Go.Ground.data }],guard:=none }) rfl (fun K hK=>?_) ?_
       refine ng (by rfl) (.tmp 39) (.tmp 41) 22 (by rfl) _ _ (by rfl) (by rfl) _ (fun ty=>pP (wq:=wq) (by rfl) (by rfl) (by rfl) (by rfl) KQ.o.last.2.1 PLN.o (by have:=(MF.1 KQ.o.box).1;omega) ty) (fun v9 W9 hR=>?_);obtain⟨g9,c9,rfl,ho9,hg9,hf9⟩:=hR;have FIN:=aa (oW KQ.o PLX.o ho9 hg9 hf9);have ROWS:=aa (qg KQ.o hg9);refine hK.out _ _ (am (World.grownBy_alloc wq _ _) hg9) (fun LJ=>?_);clear ho9 hg9 hf9;clear hK K;replace LI:=LJ;clear LJ;try simp only[Act.put,Mt,Mu,Mv])
     |(refine OO 12 (fun K hK=>?_)
       obtain⟨n0,m0⟩:=ROWS.o;have FIN3:=aa (FINAL.o _ _ FIN.o);go_simp;refine hK.out _ _ ?_;clear hK K;try simp only[Act.put,Mt,Mu,Mv])
     |(first
        | refine OJ 10 ?_ [11,12] (by exact LI) ?_ ?_
        | refine OJ 11 ?_ [12] (by exact LI) ?_ ?_
       rotate_left
       ·intro wS LN;go_simp;all_goals with_reducible rfl
       simp only[av,List.set])
     | refine OL [8] ?_
     | refine OL [9] ?_
     | fail)
    all_goals
     refine dn (by kernel_rfl) ?_;clear n0 m0;go_wp2
     go_end0
     exact⟨rfl,FIN3.o⟩
   ·have e9:(o.name == n)=false:=by simpa using hn
    have i9:(0:Int)<=(init.length:Int)+1:=by omega
    have ADD:Ll (kq os n p=(init++[o])++[⟨n,[]++[p]⟩]):=aa (by rw[hos];exact oT init o n p hn);have c2:=(iX K1.o).2;have hnl:init.length+1<=4000000:=by rw[hos]at hN;simpa using hN
    have PLN:Ll ((([]:List Lz)).length<=4000000):=aa (by simp);clear hos hP hN;obtain⟨g7,c7,W7,hR,ho7,hg7,hf7⟩:=mW (W:=w1.alloc (.cells #[.string ⟨n.toArray⟩,.slice none 0 0] 47)) (B:=w0.heap.size+1) (v:=.slice (some ⟨gb,0,none⟩) (init.length+1) oc) (n:=init.length+1) (cs:=ba (init++[o]) (pin++[pl])) (nb:=w1.heap.size) (k:=⟨n.toArray⟩) (pa:=none) (pn:=0) (pc:=0) (bM K1.o.last.1 fun g hg=>(ae _ _).block g (bY K1.o.last.1 hg).2) (MN _ _) hnl (by have:=(ae w1 (.cells #[.string ⟨n.toArray⟩,.slice none 0 0] 47)).size;have:=(MF.1 K1.o.box).1;omega) 26;have KN:=aa (NQ (n:=n) (N:=init.length+1) (cells:=ba (init++[o]) (pin++[pl])) K1.o (by simp) rfl ho7 hg7 hf7);have HR:=aa hR;have hgl:w0.heap.size < w1.heap.size:=(MF.1 K1.o.box).1;have c0a:∀ o,(w1.alloc o).cell? ⟨w0.heap.size,0,none⟩=some (.slice (some ⟨gb,0,none⟩) (init.length+1) oc):=fun o=>ah (ae _ _) c1;have hb7:W7.heap[w0.heap.size]?=some (.cells #[.slice (some ⟨gb,0,none⟩) (init.length+1) oc] 26):=by
     rw[hg7.block _ (MI hgl (ae w1 _).size) (fun e=>by have:=(bY K1.o.last.1 e.symm).1;omega),(ae w1 _).block _ hgl,K1.o.box]
    have c7a:W7.cell? ⟨w0.heap.size,0,none⟩=some (.slice (some ⟨gb,0,none⟩) (init.length+1) oc):=by simp[World.cell?,hb7]
    have c7f:W7.frozen? ⟨w0.heap.size,0,none⟩=false:=by simp[World.frozen?,hb7]
    clear hR ho7 hg7 hf7 hb7;go_wp2_with (at_builtin;go_must (refine Lib.wpList_append_run _ rfl _ _ _ _ rfl (.slice (some ⟨gb,0,none⟩) (init.length+1) oc) (.slice (some ⟨w1.heap.size,0,none⟩) 1 1) rfl rfl _ _ HR.o ?_);refine Ll.o ?_)
    refine aa ?_;go_upto_region 5 with fail
    obtain⟨wq,hwq⟩:∃ wq,wq=W7.setCell ⟨w0.heap.size,0,none⟩ (.slice (some ⟨g7,0,none⟩) (init.length+1+1) c7):=⟨_,rfl⟩
    rw[<-hwq]at KN ⊢;clear hwq c1 c2 c0a c7a c7f;obtain⟨in2,hin2⟩:∃ i,init++[o]=i:=⟨_,rfl⟩
    have LT:in2.length=init.length+1:=by rw[<-hin2];simp
    obtain⟨pin2,hpin2⟩:∃ i,pin++[pl]=i:=⟨_,rfl⟩
    obtain⟨Z2,hZ2⟩:∃ i,(fun k=>Z k\/pl.ownBlock=some k)=i:=⟨_,rfl⟩
    have KQ:Ll (gG w0 in2 (some ⟨n,[]⟩) F wq (.slice (some ⟨g7,0,none⟩) (in2.length+1) c7) (.slice none 0 0) pin2 Z2):=aa (by
     rw[LT,<-hin2,<-hpin2,<-hZ2];exact KN.o.1)
    have FK:=aa KN.o.2;have HLEN:=aa LT;have FINAL:Ll (∀ w' pl',gG w0 in2 (some ⟨n,[]++[p]⟩) F w' (.slice (some ⟨g7,0,none⟩) (in2.length+1) c7) pl' pin2 Z2/\wq.heap.size<=w'.heap.size/\(∀ k,F k->k < wq.heap.size->w'.heap[k]?=wq.heap[k]?)->D4 w0 (kq os n p) F w'/\W.heap.size<=w'.heap.size/\∀ k,F k->k < W.heap.size->w'.heap[k]?=W.heap[k]?):=aa (fun w' pl' h=>FR.o w' ⟨⟨in2,some ⟨n,[]++[p]⟩,_,pl',pin2,Z2,by rw[ADD.o,hin2];rfl,h.1⟩,MH FK.o.1 h.2.1,fun k hk hlt=>by rw[h.2.2 k hk (MI hlt FK.o.1),FK.o.2 k hk hlt]⟩);clear LT KN K1 hin2 hpin2 hZ2;obtain⟨pl9,hpl9⟩:∃ x:Value,x=.slice none 0 0:=⟨_,rfl⟩
    rw[<-hpl9]at KQ;clear hpl9;have C0:Ll (wq.cell? ⟨w0.heap.size,0,none⟩=some (.slice (some ⟨g7,0,none⟩) (init.length+1+1) c7)):=aa (by have h9:=KQ.o.box;rw[HLEN.o]at h9;simp[World.cell?,h9]);have N0:Ll (some w0.heap.size≠pl9.ownBlock):=aa (fun e=>by have:=(KQ.o.rows.2 _ e.symm).1;omega);have C1:Ll (wq.cell? ⟨g7,(init.length+1) * 2+1,none⟩=some pl9):=aa (by have h9:=(iX KQ.o).1;rw[HLEN.o]at h9;exact h9);have N1:Ll (some g7≠pl9.ownBlock):=aa (fun e=>KQ.o.off g7 rfl e.symm);have PLF:=KQ.o.last.2.1;obtain⟨sa,sn,sc,hsv⟩:∃ sa sn sc,pl9=.slice sa sn sc:=by
     rcases PLF.2 with⟨h9,-⟩ | ⟨_,_,_,h9,-⟩
     ·exact⟨_,_,_,h9⟩
     ·exact⟨_,_,_,h9⟩
    subst hsv;clear PLF;refine aD (fun wS=>World.grownBy wq wS (Value.slice sa sn sc).ownBlock) [12] (by kernel_rfl) (oD (az _ _)) (fun LI=>?_);refine WT.out ?_;iterate 8
     first
      | refine OJ 0 ?_ [10,11,12] LI ?_ ?_
      | refine OJ 1 ?_ [10,11,12] LI ?_ ?_
      | refine OJ 2 ?_ [4,5,6,9,10,11,12] LI ?_ ?_
      | refine OJ 3 ?_ [4,5,6,9,10,11,12] LI ?_ ?_
      | refine OJ 4 ?_ [5,6,9,10,11,12] LI ?_ ?_
      | refine OJ 5 ?_ [6,9,10,11,12] LI ?_ ?_
      | refine OJ 6 ?_ [9,10,11,12] LI ?_ ?_
      | refine OJ 7 ?_ [8,9,10,11,12] LI ?_ ?_
     rotate_left
     ·intro wS LN;have u0:=LN.cell C0.o N0.o;have u1:=LN.cell C1.o N1.o;go_simp;all_goals with_reducible rfl
     simp only[av,List.set]
    repeat' (first
     | exact nl
     |(refine TD 8 (fun K hK=>?_) ?_
       go_simp;refine hK.out _ _ (bd LI _) (fun LJ=>?_);clear hK K;replace LI:=LJ;clear LJ;try simp only[Act.put,Mt,Mu,Mv])
     |(refine ip (i:=9) (o:={ dst:=some 42,op:=Go.Op.call { callee:=Go.Callee.builtin Go.Builtin.append,args:=#[Go.Operand.tmp 39,Go.Operand.tmp 41],argTypes:=#[22,22] },type:=22,pos:= "owner.go:130",after:=#[{ on:=6,ground:=Go.Ground.data },{ on:=8,ground:=Go.Ground.data }],guard:=none }) rfl (fun K hK=>?_) ?_
       refine ng (by rfl) (.tmp 39) (.tmp 41) 22 (by rfl) _ _ (by rfl) (by rfl) _ (fun ty=>pP (wq:=wq) (by rfl) (by rfl) (by rfl) (by rfl) KQ.o.last.2.1 PLN.o (by have:=(MF.1 KQ.o.box).1;omega) ty) (fun v9 W9 hR=>?_);obtain⟨g9,c9,rfl,ho9,hg9,hf9⟩:=hR;have FIN:=aa (oW KQ.o PLX.o ho9 hg9 hf9);have ROWS:=aa (qg KQ.o hg9);refine hK.out _ _ (am (World.grownBy_alloc wq _ _) hg9) (fun LJ=>?_);clear ho9 hg9 hf9;clear hK K;replace LI:=LJ;clear LJ;try simp only[Act.put,Mt,Mu,Mv])
     |(refine OO 12 (fun K hK=>?_)
       obtain⟨n0,m0⟩:=ROWS.o;rw[HLEN.o]at n0 m0;have FIN2:=FINAL.o _ _ FIN.o;rw[HLEN.o]at FIN2;have FIN3:=aa FIN2;clear FIN2;go_simp;refine hK.out _ _ ?_;clear hK K;try simp only[Act.put,Mt,Mu,Mv])
     |(first
        | refine OJ 10 ?_ [11,12] (by exact LI) ?_ ?_
        | refine OJ 11 ?_ [12] (by exact LI) ?_ ?_
       rotate_left
       ·intro wS LN;go_simp;all_goals with_reducible rfl
       simp only[av,List.set])
     | refine OL [8] ?_
     | refine OL [9] ?_
     | fail)
    all_goals
     refine dn (by kernel_rfl) ?_;clear n0 m0;go_wp2
     go_end0
     exact⟨rfl,FIN3.o⟩
end
variable {ok:Nat->Prop}
def fA (w:LC) (B:Nat) (os:List aL) (r:Value):Prop:=∃ pvs,os.length=pvs.length/\w.ownsRow B 47 2 r os.length (ba os pvs) /\
 ∀ (i:Nat) (o:aL) (v:Value),os[i]?=some o->pvs[i]?=some v->(∃ a c,v=.slice a o.paths.length c)/\ao w (fun k=>B<=k/\some k≠r.ownBlock) o.paths v
theorem kN:∀ (os:List aL) (vs:List Value) (i:Nat) (o:aL) (v:Value),os[i]?=some o->vs[i]?=some v->(ba os vs)[i * 2]?=some (.string ⟨o.name.toArray⟩)/\(ba os vs)[i * 2+1]?=some v
 | [],_,i,o,v,h,_=>by simp at h
 | _ :: _,[],i,o,v,_,h=>by simp at h
 | o' :: os,v' :: vs,0,o,v,h1,h2=>by simp at h1 h2;subst h1;subst h2;exact⟨rfl,rfl⟩
 | o' :: os,v' :: vs,i+1,o,v,h1,h2=>by
  have:=kN os vs i o v (by simpa using h1) (by simpa using h2);rw[show (i+1) * 2=i * 2+1+1 by omega];exact this
theorem fA.owns{os r}(h:fA w B os r)(hn:∀ o∈os,o.name.length<=maxLen):aB w (fun k=>B<=k) os r:=by
 obtain⟨pvs,h1,h2,h3⟩:=h;rcases h2.2 with⟨rfl,h0⟩ | ⟨g,cap,cur,rfl,g1,g2,g3,g4,g5,g6⟩
 ·have e:os=[]:=List.length_eq_zero_iff.1 h0;subst e;exact aB.nil _ _
 ·refine⟨by omega,?_⟩;by_cases h0:os=[]
  ·subst h0;have:cap=cap:=rfl;refine .inr ⟨g,0,cap,rfl,g3,g4,fun i x hx=>by simp at hx⟩
  ·refine .inr ⟨g,0,cap,rfl,g3,g4,fun i x hx=>?_⟩;obtain⟨hi,rfl⟩:=Mz.1 hx;obtain⟨v,hv⟩:∃ v,pvs[i]?=some v:=⟨_,Mw (by omega)⟩
   obtain⟨⟨a,c,rfl⟩,hs⟩:=h3 i _ v hx hv;obtain⟨e1,e2⟩:=kN os pvs i _ _ hx hv;have hpos:0 < os.length:=List.length_pos_iff.2 h0;refine⟨a,_,c,hn _ (List.getElem_mem hi),g1,?_,?_,hs.imp fun a x q1 q2=>⟨q1.1,q2⟩⟩
   ·rw[Nat.zero_add];exact(dJ h2 hpos e1).1
   ·rw[Nat.zero_add];exact(dJ h2 hpos e2).1
theorem fA.base{B' os r}(h:fA w B os r)(hb:B'<=B):fA w B' os r:=by
 obtain⟨pvs,h1,h2,h3⟩:=h;exact⟨pvs,h1,TP h2 hb,fun i o v g1 g2=>⟨(h3 i o v g1 g2).1,(h3 i o v g1 g2).2.imp fun a x q1 q2=>⟨⟨MH hb q1.1,q1.2⟩,q2⟩⟩⟩
theorem D4.row{os F}(h:D4 w0 os F W):∃ ov,W.heap[w0.heap.size]?=some (.cells #[ov] 26)/\fA W (w0.heap.size+1) os ov:=by
 obtain⟨init,LZ,ov,pl,pin,Z,rfl,h⟩:=h;refine⟨ov,h.box,?_⟩;have hl:=h.last;have hr:=h.rows;have hZ:∀ k,Z k->w0.heap.size+1<=k/\some k≠ov.ownBlock:=fun k hk=>⟨h.zlow k hk,(h.keep k (.inr hk)).2.2.1⟩
 cases LZ with
 | none=>
  obtain⟨rfl,-,hrow⟩:=hl;exact⟨[],rfl,hrow,fun i o v h1=>by simp at h1⟩
 | some o=>
  refine⟨pin++[pl],by simp[h.plen],by simpa using hl.1,fun i o' v h1 h2=>?_⟩;by_cases hi:i < init.length
  ·rw[List.getElem?_append_left hi]at h1;rw[List.getElem?_append_left (by rw[<-h.plen];exact hi)]at h2;obtain⟨g1,g2⟩:=h.ini i o' v h1 h2;exact⟨g1,g2.imp fun a x q1 q2=>⟨hZ _ q1,q2⟩⟩
  ·rw[List.getElem?_append_right (by omega)]at h1;rw[List.getElem?_append_right (by rw[<-h.plen];omega),<-h.plen]at h2;cases h8:i - init.length with
   | succ m=>rw[h8]at h1;simp at h1
   | zero=>
    rw[h8]at h1 h2;simp at h1 h2;subst h1;subst h2;exact sA hl.2.1 hl.2.2 fun g' hg'=>⟨(hr.2 g' hg').1,fun e=>h.off g' e.symm hg'⟩
theorem Hp(stays:Lz->Lz->Bool)(d:List (Lz × Lz)):(xz stays d).length<=d.length/\∀ o∈xz stays d,o.paths.length<=d.length:=by
 have key:∀ (k:Nat) (d:List (Lz × Lz)),d.length=k->(xz stays d).length<=d.length/\∀ o∈xz stays d,o.paths.length<=d.length:=by
  intro k;induction k with
  | zero=>intro d hd;rw[List.length_eq_zero_iff.1 hd];simp[xz]
  | succ k ih=>
   intro d hd;rcases List.eq_nil_or_concat d with rfl | ⟨r,c,rfl⟩
   ·simp at hd
   ·rw[List.concat_eq_append]at hd ⊢;obtain⟨n,p⟩:=c;obtain⟨h1,h2⟩:=ih r (by simpa using hd);rw[wQ,Mx,List.length_singleton];split
    ·rcases List.eq_nil_or_concat (xz stays r) with h9 | ⟨q,o,h9⟩
     ·rw[h9,Ev];refine⟨by simp,fun o ho=>?_⟩;rw[List.mem_singleton]at ho;rw[ho];simp
     ·rw[List.concat_eq_append]at h9;rw[h9]at h1 h2 ⊢;by_cases hn:o.name=n
      ·subst hn;rw[nu];refine⟨by simp at h1 ⊢;omega,fun x hx=>?_⟩;rcases List.mem_append.1 hx with hx | hx
       ·have:=h2 x (by simp[hx]);omega
       ·rw[List.mem_singleton]at hx;have:=h2 o (by simp);rw[hx];simp;omega
      ·rw[oT _ _ _ _ hn];refine⟨by simp at h1 ⊢;omega,fun x hx=>?_⟩;rcases List.mem_append.1 hx with hx | hx
       ·have:=h2 x hx;omega
       ·rw[List.mem_singleton]at hx;rw[hx];simp
    ·exact⟨by omega,fun o ho=>by have:=h2 o ho;omega⟩
 exact key _ d rfl
theorem sS:∀ args w,(callFunc 57 args).run prog w=.ok (.enter 57 args) w:=enters_of func57 (by kernel_rfl) rfl
theorem DQ{l:List aL}{vl:Value}{gs:Nat}{lb:Array Value}{stays:Lz->Lz->Bool}(eg:∀ args w,(callFunc g args).run prog w=.ok (.enter g args) w)(hgs:w0.cell? ⟨gs,0,none⟩=some (.func (.func g) #[] lb))(hst:∀ W n p,La w0 W->(n,p)∈bA l->Calls prog g (#[.string ⟨n.toArray⟩,.string ⟨p.toArray⟩]++lb) W fun e w'=>e=.returned (.bool (stays n p))/\La W w')(hl:aB w0 ok l vl)(hok:∀ k,ok k->k < w0.heap.size)(hN:(bA l).length<=4000000)(hP:∀ o∈l,∀ x∈o.paths,x.length<=maxLen):Sh w0 57 #[.pointer (some ⟨gs,0,none⟩),.pointer (some ⟨w0.heap.size,0,none⟩)] l ok vl (fun d F W=>D4 w0 (xz stays d) F W) where
 owns:=hl
 cells d F W hI a x h1 h2:=by
  obtain⟨_,_,_,_,_,_,-,h⟩:=hI;exact(World.cell?_of_block (h.low.block _ (hok _ h1))).trans h2
 alloc d F W o hI:=by
  obtain⟨a1,a2,a3,a4,a5,a6,e,h⟩:=hI;exact⟨a1,a2,a3,a4,a5,a6,e,h.alloc o⟩
 low d F G W hI hg:=by
  obtain⟨a1,a2,a3,a4,a5,a6,e,h⟩:=hI;exact⟨a1,a2,a3,a4,a5,a6,e,h.lower hg⟩
 step d F W n p hI hpre:=by
  have hm:(n,p)∈bA l:=hpre.subset (by simp);obtain⟨o,ho,rfl,hp⟩:=kL hm;have LT:=hpre.length_le;rw[Mx]at LT;have hlow:La w0 W:=by
   obtain⟨_,_,_,_,_,_,-,h⟩:=hI;exact h.low
  obtain⟨g1,g2⟩:=Hp stays d;have:=Eg w0 W gs g lb stays (xz stays d) F o.name p eg hI hgs (hP o ho p hp) (hst W o.name p hlow hm) (by omega) (fun x hx=>by have:=g2 x hx;omega);rw[<-wQ]at this;exact this
theorem Am(w:LC)(ok l vl g)(lb:Array Value)(stays:Lz->Lz->Bool)(eg:∀ args w,(callFunc g args).run prog w=.ok (.enter g args) w)(hst:∀ W n p,La w W->(n,p)∈bA l->Calls prog g (#[.string ⟨n.toArray⟩,.string ⟨p.toArray⟩]++lb) W fun e w'=>e=.returned (.bool (stays n p))/\La W w')(hl:aB w ok l vl)(hr:bD (l.map aL.name))(hN:(bA l).length<=4000000)(hP:∀ o∈l,∀ x∈o.paths,x.length<=maxLen):Calls prog 27 #[vl,.func (.func g) #[] lb] w fun e w'=>∃ a c,e=.returned (.slice a (dV stays l).length c)/\fA w' w.heap.size (dV stays l) (.slice a (dV stays l).length c)/\La w w':=by
 have HL:=aa hl.low;obtain⟨la,lc,rfl⟩:=hl.form;have ll:=hl.1;unfold maxLen at ll;have HR:=aa (Gn (stays:=stays) hr);obtain⟨W1,hW1⟩:∃ W,W=w.alloc (.cells #[.func (.func g) #[] lb] 53):=⟨_,rfl⟩
 have B1:Ll (La w W1):=aa (by rw[hW1];exact ae _ _);have CS:Ll (W1.cell? ⟨w.heap.size,0,none⟩=some (.func (.func g) #[] lb)):=aa (by
  have h9:W1.heap[w.heap.size]?=some (.cells #[.func (.func g) #[] lb] 53):=by rw[hW1];exact MN _ _
  simp[World.cell?,h9])
 have SZ:Ll (W1.heap.size=w.heap.size+1):=aa (by rw[hW1];simp);have SEES:=aa (DQ (w0:=W1) (gs:=w.heap.size) (stays:=stays) eg CS.o (fun W n p hb hm=>hst W n p (B1.o.trans (hb.mono B1.o.size)) hm) (HL.o.bel B1.o) (fun k hk=>by have:=hk.2;have:=SZ.o;omega) hN hP);have CALL:=aa (nW W1 (W1.alloc (.cells #[.slice none 0 0] 26)) _ l _ _ _ _ (fun k=>k < W1.heap.size) sS SEES.o ⟨[],none,_,_,[],_,rfl,A0 W1⟩);have HW1:=aa hW1;clear hl hr hN hP hst hW1;go_enter func27,ntmps27;go_upto_region 1 with fail
 rw[<-HW1.o];go_upto_region 3 with (go_at_call 53;refine CALL.o.mono ?_;rintro e w7 ⟨rfl,hi7⟩;have I7:=aa hi7;clear hi7)
 obtain⟨ov,r1,r2⟩:=D4.row I7.o;rw[HR.o]at r2;have c0:w7.cell? ⟨W1.heap.size,0,none⟩=some ov:=by simp[World.cell?,r1]
 obtain⟨sa,sc,hsv⟩:∃ sa sc,ov=.slice sa (dV stays l).length sc:=by
  obtain⟨pvs,-,h2,-⟩:=r2;rcases h2.2 with⟨h9,h8⟩ | ⟨_,_,_,h9,-⟩
  ·exact⟨none,0,by rw[h8];exact h9⟩
  ·exact⟨_,_,h9⟩
 subst hsv;have ROW:=aa r2;have LOW:Ll (La w w7):=aa (by
  obtain⟨_,_,_,_,_,_,-,h⟩:=I7.o;exact B1.o.trans (h.low.mono B1.o.size))
 have S1:=aa B1.o.size;clear r1 r2;go_wp2
 go_ret;exact⟨sa,sc,rfl,ROW.o.base (by have:=S1.o;omega),LOW.o⟩
theorem kR(w)(ty:TypeId)(g o dLen dCap a sLen sCap)(cur:Array Value)(t:TypeId)(cs)(hg:w.heap[g]?=some (.cells cur t (0,0)))(hn:cs.length=Nat.min sLen dLen * 2)(hsrc:∀ j v,cs[j]?=some v->w.cell? (a.add j)=some v)(hfit:o+cs.length<=cur.size)(h1:∀ v∈cs,v.oneCell'=true):(Builtin.copy_ #[26,26] ty #[.slice (some ⟨g,o,none⟩) dLen dCap,.slice (some a) sLen sCap]).run prog w =
 .ok (goInt (Nat.min sLen dLen)) (w.setRow g (cur.toList.take o++cs++cur.toList.drop (o+cs.length)).toArray):=by
 have hl:=run_loadCells_list (P:=prog) w a cs hsrc;have hst:=run_storeCells_at prog g o t cs 0 cur w hg (by simpa using hfit) h1;obtain⟨i0,hi,hz0,hz1,hz2⟩:=info_parts Iq;simp[Builtin.copy_,run_underlying underlying26,Builtin.lenOf,Builtin.firstCells,sizeOf,typeInfo,hi,hz1,<-hn,hl,hst]
theorem nC:∀ (os:List aL) (vs:List Value) (i:Nat),os.length=vs.length->ba (os.take i) (vs.take i)=(ba os vs).take (i * 2)
 | [],[],i,_=>by simp[ba]
 | [],_ :: _,i,h=>by simp at h
 | _ :: _,[],i,h=>by simp at h
 | o :: os,v :: vs,0,_=>by simp[ba]
 | o :: os,v :: vs,i+1,h=>by
  rw[List.take_succ_cons,List.take_succ_cons,ba,ba,nC os vs i (by simpa using h),show (i+1) * 2=i * 2+1+1 by omega,List.take_succ_cons,List.take_succ_cons]
theorem nS:∀ (os:List aL) (vs:List Value) (i:Nat),os.length=vs.length->ba (os.drop i) (vs.drop i)=(ba os vs).drop (i * 2)
 | [],[],i,_=>by simp[ba]
 | [],_ :: _,i,h=>by simp at h
 | _ :: _,[],i,h=>by simp at h
 | o :: os,v :: vs,0,_=>by simp
 | o :: os,v :: vs,i+1,h=>by
  rw[List.drop_succ_cons,List.drop_succ_cons,ba,nS os vs i (by simpa using h),show (i+1) * 2=i * 2+1+1 by omega,List.drop_succ_cons,List.drop_succ_cons]
theorem kY:∀ (a:List aL) (va:List Value) (b:List aL) (vb:List Value),a.length=va.length->ba (a++b) (va++vb)=ba a va++ba b vb
 | [],[],b,vb,_=>rfl
 | [],_ :: _,b,vb,h=>by simp at h
 | _ :: _,[],b,vb,h=>by simp at h
 | o :: a,v :: va,b,vb,h=>by simp only[List.cons_append,ba,kY a va b vb (by simpa using h)]
theorem xG{os vs o}(h:os.length=vs.length):ba (os.take i++o :: os.drop i) (vs.take i++v :: vs.drop i)=(ba os vs).take (i * 2)++[.string ⟨o.name.toArray⟩,v]++(ba os vs).drop (i * 2):=by
 rw[kY _ _ _ _ (by simp[h]),nC _ _ _ h];simp only[ba,nS _ _ _ h];simp
theorem oZ:∀ (os:List aL) (vs:List Value),(∀ v∈vs,v.oneCell'=true)->∀ u∈ba os vs,u.oneCell'=true
 | [],_,_,u,hu=>by simp[ba]at hu
 | _ :: _,[],_,u,hu=>by simp[ba]at hu
 | o :: os,v :: vs,h,u,hu=>by
  simp only[ba,List.mem_cons]at hu;rcases hu with rfl | rfl | hu
  ·rfl
  ·exact h _ (by simp)
  ·exact oZ os vs (fun x hx=>h x (by simp[hx])) u hu
theorem ux(w vb b off lb cb)(tA tB:TypeId)(kA kB)(hne:vb≠b)(hsa:w.shape? vb=some (tA,kA))(hsb:w.shape? b=some (tB,kB))(hkB:kB≠0)(hfa:w.frozen? ⟨vb,0,none⟩=false)(hfe:w.frozen? ⟨vb,kA,none⟩=false):(callFunc 95 #[.slice (some ⟨vb,0,none⟩) 1 1,.slice (some ⟨b,off,none⟩) lb cb]).run prog w=.ok (.value (.bool false)) w:=by
 rw[run_callFunc_extern func95 (by kernel_rfl) (by kernel_rfl) (by kernel_rfl) (e:=Extern.SlicesOverlaps.overlaps #[26,26] #[4]) (by kernel_rfl),
  Lib.run_overlaps_apart w 26 4 47 underlying26 2 Tryz.sizeOf47 ⟨vb,0,none⟩ ⟨b,off,none⟩ 1 1 lb cb hne tA tB kA kB hsa hsb hkB hfa hfe]
 rfl
variable {c:Nat}
theorem zQ(n i)(h:i < n):Nat.min 1 (n+1 - i)=1:=by simp only[Nat.min_def];split <;> omega
theorem Dm{cur:List Value}{cells two:List Value}(hs:cur.length=c * 2)(hx:cur.take (n * 2)=cells)(hl:cells.length=n * 2)(h2:two.length=2)(hi:i < n)(hroom:n+1<=c):let a1:=cur.take ((i+1) * 2)++cells.drop (i * 2)++cur.drop ((i+1) * 2+(cells.drop (i * 2)).length)
 let a2:=a1.take (i * 2)++two++a1.drop (i * 2+two.length)
 a1.length=c * 2/\a2.length=c * 2/\a2.take ((n+1) * 2)=cells.take (i * 2)++two++cells.drop (i * 2):=by
 intro a1 a2;have e1:(cur.take ((i+1) * 2)).length=(i+1) * 2:=by rw[MC];omega
 have e2:(cells.drop (i * 2)).length=n * 2 - i * 2:=by rw[MB,hl]
 have l1:a1.length=c * 2:=by simp only[a1,Mx,MB,e1,hs,hl];omega
 have t1:a1.take (i * 2)=cells.take (i * 2):=by
  simp only[a1];rw[List.append_assoc,List.take_append_of_le_length (by rw[e1];omega),List.take_take,<-hx,List.take_take,Nat.min_eq_left (by omega),Nat.min_eq_left (by omega)]
 have t2:a1.drop (i * 2+two.length)=cells.drop (i * 2)++cur.drop ((i+1) * 2+(cells.drop (i * 2)).length):=by
  simp only[a1];rw[h2,List.append_assoc,show i * 2+2=(cur.take ((i+1) * 2)).length by rw[e1];omega,List.drop_left]
 have l2:a2.length=c * 2:=by
  simp only[a2,t1,t2,Mx,MC,MB,hl,hs,h2];omega
 refine⟨l1,l2,?_⟩;simp only[a2,t1,t2];rw[<-List.append_assoc,List.take_append_of_le_length (by simp only[Mx,MC,MB,hl,h2];omega),MD (by simp only[Mx,MC,MB,hl,h2];omega)]
theorem UX(w:LC)(B g n c i vb:Nat)(cur:Array Value)(cells)(name:Lz)(pa)(pn pc:Nat)(hi:i < n)(hroom:n+1<=c)(hc:c<=maxLen)(hBg:B<=g)(hg:w.heap[g]?=some (.cells cur 47 (0,0)))(hs:cur.size=c * 2)(hx:cur.toList.take (n * 2)=cells)(hl:cells.length=n * 2)(hv:w.heap[vb]?=some (.cells #[Value.string ⟨name.toArray⟩,Value.slice pa pn pc] 47))(hvb:vb≠g)(h1:∀ u∈cells,u.oneCell'=true):Calls prog 68 #[.slice (some ⟨g,0,none⟩) n c,.int .i64 i,.slice (some ⟨vb,0,none⟩) 1 1] w fun e w'=>e=.returned (.slice (some ⟨g,0,none⟩) (n+1) c)/\w'.ownsRow B 47 2 (.slice (some ⟨g,0,none⟩) (n+1) c) (n+1) (cells.take (i * 2)++[Value.string ⟨name.toArray⟩,Value.slice pa pn pc]++cells.drop (i * 2))/\w.grownBy w' (some g):=by
 have hov:=fun off lb cb=>ux w vb g off lb cb _ _ 2 (c * 2) hvb (by simp[World.shape?,hv];rfl) (by simp[World.shape?,hg,hs];rfl) (by omega) (by simp[World.frozen?,hv]) (by simp[World.frozen?,hv]);obtain⟨l1,l2,l3⟩:=Dm (cur:=cur.toList) (two:=[Value.string ⟨name.toArray⟩,Value.slice pa pn pc]) (by simpa using hs) hx hl rfl hi hroom;have hcp1:∀ ty dc sc,(Builtin.copy_ #[26,26] ty #[.slice (some ⟨g,(i+1) * 2,none⟩) (n - i) dc,.slice (some ⟨g,i * 2,none⟩) (n+1 - i) sc]).run prog w.drew=.ok (goInt (Nat.min (n+1 - i) (n - i))) (w.drew.setRow g (cur.toList.take ((i+1) * 2)++cells.drop (i * 2)++cur.toList.drop ((i+1) * 2+(cells.drop (i * 2)).length)).toArray):=fun ty dc sc=>
  kR w.drew ty g ((i+1) * 2) (n - i) dc ⟨g,i * 2,none⟩ (n+1 - i) sc cur _ (cells.drop (i * 2)) hg (by rw[MB,hl];simp only[Nat.min_def];split <;> omega)
   (fun j v hj=>by
    rw[List.getElem?_drop,<-hx,List.getElem?_take]at hj;split at hj
    ·rw[Addr.add_lit];simp only[World.cell?,show w.drew.heap=w.heap from rfl,hg];simpa using hj
    ·cases hj)
   (by rw[MB,hl];omega) (fun v hv=>h1 v (List.mem_of_mem_drop hv))
 obtain⟨A1,hA1⟩:∃ A1,A1=(cur.toList.take ((i+1) * 2)++cells.drop (i * 2)++cur.toList.drop ((i+1) * 2+(cells.drop (i * 2)).length)):=⟨_,rfl⟩
 rw[<-hA1]at hcp1 l1 l2 l3;have hgW:(w.drew.setRow g A1.toArray).heap[g]?=some (.cells A1.toArray 47 (0,0)):=setRow_heap w.drew g cur _ _ _ hg;have hvW:(w.drew.setRow g A1.toArray).heap[vb]?=some (.cells #[Value.string ⟨name.toArray⟩,Value.slice pa pn pc] 47):=(setRow_other w.drew g vb _ hvb).trans hv;have hcp2:∀ (W:LC),(∀ k,W.heap[k]?=(w.drew.setRow g A1.toArray).heap[k]?)->∀ ty dc,(Builtin.copy_ #[26,26] ty #[.slice (some ⟨g,i * 2,none⟩) (n+1 - i) dc,.slice (some ⟨vb,0,none⟩) 1 1]).run prog W=.ok (goInt (Nat.min 1 (n+1 - i))) (W.setRow g (A1.take (i * 2)++[Value.string ⟨name.toArray⟩,Value.slice pa pn pc]++A1.drop (i * 2+2)).toArray):=fun W hW ty dc=>
  kR W ty g (i * 2) (n+1 - i) dc ⟨vb,0,none⟩ 1 1 A1.toArray _ [Value.string ⟨name.toArray⟩,Value.slice pa pn pc] ((hW g).trans hgW) (by rw[zQ n i hi];rfl)
   (fun j v hj=>by
    rw[Addr.add_lit];simp only[World.cell?,hW,hvW];simpa using hj)
   (by simp only[My,List.length_nil,List.size_toArray,l1];omega) (by intro u hu;simp only[List.mem_cons,List.not_mem_nil,or_false]at hu;rcases hu with rfl | rfl <;> rfl)
 have HF:Ll (∀ W:LC,W=(w.drew.setRow g A1.toArray).drew.setRow g (A1.take (i * 2)++[Value.string ⟨name.toArray⟩,Value.slice pa pn pc]++A1.drop (i * 2+2)).toArray\/W=(w.drew.setRow g A1.toArray).setRow g (A1.take (i * 2)++[Value.string ⟨name.toArray⟩,Value.slice pa pn pc]++A1.drop (i * 2+2)).toArray->W.ownsRow B 47 2 (.slice (some ⟨g,0,none⟩) (n+1) c) (n+1) (cells.take (i * 2)++[Value.string ⟨name.toArray⟩,Value.slice pa pn pc]++cells.drop (i * 2))/\w.grownBy W (some g)):=aa (by
  intro W hW;have e0:W.heap[g]?=some (.cells (A1.take (i * 2)++[Value.string ⟨name.toArray⟩,Value.slice pa pn pc]++A1.drop (i * 2+2)).toArray 47 (0,0)):=by
   rcases hW with rfl | rfl
   ·exact setRow_heap _ g _ _ _ _ hgW
   ·exact setRow_heap _ g _ _ _ _ hgW
  refine⟨⟨?_,.inr ⟨g,c,_,rfl,hBg,e0,hroom,hc,by simpa using l2,by simpa using l3⟩⟩,?_⟩
  ·simp only[Mx,MC,MB,hl,My,List.length_nil];omega
  ·rcases hW with rfl | rfl <;> refine⟨rfl,rfl,rfl,by simp[World.setRow],fun k hk hne=>?_⟩
   ·have:k≠g:=fun e=>hne (by rw[e]);exact(setRow_other _ g k _ this).trans (setRow_other w.drew g k _ this)
   ·have:k≠g:=fun e=>hne (by rw[e]);exact(setRow_other _ g k _ this).trans (setRow_other w.drew g k _ this))
 have q0:((i:Int) == (n:Int))=false:=by rw[MO];omega
 have q1:(0:Int)<=(i:Int):=by omega
 have q2:(i:Int)<=(n:Int):=by omega
 have q3:¬(c:Int) < (n:Int)+1:=by omega
 have q4:(n:Int)+1<=(c:Int):=by omega
 have q5:(0:Int)<=(n:Int)+1:=by omega
 have q6:(i:Int)+1<=(n:Int)+1:=by omega
 have q7:(0:Int)<=(i:Int)+1:=by omega
 unfold maxLen at hc;have hcl:(c:Int)<=9223372036854775807:=by omega
 have hw1:IntKind.i64.wrap ((i:Int)+1)=(i:Int)+1:=by rw[IntKind.wrap_i64];omega
 have htn:((i:Int)+1).toNat=i+1:=by omega
 have q8:(i:Int)<=(n:Int)+1:=by omega
 have hc1:=hcp1 3 (c - (i+1)) (c - i);have hc2:=hcp2 (w.drew.setRow g A1.toArray) (fun _=>rfl) 3 (c - i);have z1:¬(c=i):=by omega
 have z2:¬(c=i+1):=by omega
 clear hcp1 hcp2 hgW hvW l1 l2 l3 hA1 hx hl h1 hv hg hs;go_enter func68,ntmps68;go_wp2_with (simp only[hov])
 go_region
 go_wp2_with (simp only[hc2])
 go_ret;exact⟨rfl,HF.o _ (.inr (by simp))⟩
theorem Cf{R cells two Z:List Value}{G:Nat}(hR:R=cells.take (i * 2)++Z)(hZ:Z.length=(G - i) * 2)(hl:cells.length=n * 2)(h2:two.length=2)(hi:i < n)(hG:n+1<=G):let a1:=R.take (i * 2)++two++R.drop (i * 2+two.length)
 let a2:=a1.take ((i+1) * 2)++cells.drop (i * 2)++a1.drop ((i+1) * 2+(cells.drop (i * 2)).length)
 R.length=G * 2/\a1.length=G * 2/\a2.length=G * 2/\a2.take ((n+1) * 2)=cells.take (i * 2)++two++cells.drop (i * 2):=by
 intro a1 a2;have e1:(cells.take (i * 2)).length=i * 2:=by rw[MC];omega
 have l0:R.length=G * 2:=by rw[hR,Mx,e1,hZ];omega
 have t1:R.take (i * 2)=cells.take (i * 2):=by rw[hR,List.take_append_of_le_length (by omega),MD (by omega)]
 have l1:a1.length=G * 2:=by simp only[a1,t1,Mx,MB,e1,l0,h2];omega
 have t2:a1.take ((i+1) * 2)=cells.take (i * 2)++two:=by
  simp only[a1,t1];rw[List.take_append_of_le_length (by rw[Mx];omega),MD (by rw[Mx];omega)]
 have l2:a2.length=G * 2:=by simp only[a2,t2,Mx,MB,e1,h2,l1,hl];omega
 refine⟨l0,l1,l2,?_⟩;simp only[a2,t2];rw[List.take_append_of_le_length (by simp only[Mx,MB,e1,hl,h2];omega),MD (by simp only[Mx,MB,e1,hl,h2];omega)]
theorem uy(w:LC)(B g n c i vb:Nat)(cur:Array Value)(cells)(name:Lz)(pa)(pn pc:Nat)(hi:i < n)(hnc:n<=c)(hroom:c < n+1)(hn:n<=4000000)(hB:B<=w.heap.size)(hg:w.heap[g]?=some (.cells cur 47 (0,0)))(hx:cur.toList.take (n * 2)=cells)(hl:cells.length=n * 2)(hv:w.heap[vb]?=some (.cells #[.string ⟨name.toArray⟩,.slice pa pn pc] 47))(h1:∀ u∈cells,u.oneCell'=true):Calls prog 68 #[.slice (some ⟨g,0,none⟩) n c,.int .i64 i,.slice (some ⟨vb,0,none⟩) 1 1] w fun e w'=>∃ G,e=.returned (.slice (some ⟨w.heap.size,0,none⟩) (n+1) G)/\w'.ownsRow B 47 2 (.slice (some ⟨w.heap.size,0,none⟩) (n+1) G) (n+1) (cells.take (i * 2)++[Value.string ⟨name.toArray⟩,Value.slice pa pn pc]++cells.drop (i * 2))/\w.grownBy w' none:=by
 obtain⟨i0,hi0,hz0,hz1,hz2⟩:=info_parts Iq;have hgl:=(MF.1 hg).1;have hvl:=(MF.1 hv).1;have LV:∀ j v,cells[j]?=some v->w.cell? ⟨g,j,none⟩=some v:=fun j v hj=>by
  rw[<-hx,List.getElem?_take]at hj;split at hj
  ·simp only[World.cell?,hg];simpa using hj
  ·cases hj
 have hold:(Builtin.firstCells i0.size i (.slice (some ⟨g,0,none⟩) i c)).run prog w.drew=.ok (cells.take (i * 2)).toArray w.drew:=by
  rw[hz1];exact run_firstCells_some w.drew 2 i ⟨g,0,none⟩ i c (cells.take (i * 2)) (by rw[MC];omega) (fun j v hj=>by
   rw[Addr.add_lit,Nat.zero_add];rw[List.getElem?_take]at hj;split at hj
   ·exact LV j v hj
   ·cases hj)
 have hik:i+(n+1 - i)=n+1:=by omega
 have hkk:(n:Int)+1 - (i:Int)=((n+1 - i:Nat):Int):=by omega
 have hrz:=Lib.run_append_grow_zeros w 26 3 26 47 i0 _ .i64 .i64 underlying26 underlying3 hi0 hz0 (some ⟨g,0,none⟩) i c (cells.take (i * 2)) hold (n+1 - i) (by omega) (by omega) (by omega) (by omega) (by rw[hz2];omega) (by rw[hz2,hik];exact growslice_fits hroom (by omega));rw[hik,<-hkk]at hrz;have hGn:=grownCap_ge w (n+1) c 47;have hGm:=grownCap_le_maxLen w (n+1) c 47 (by unfold maxLen;omega);obtain⟨G,hG⟩:∃ G,G=grownCap w (n+1) c 47:=⟨_,rfl⟩
 rw[<-hG]at hrz hGn hGm;obtain⟨Z,hZ,hZl⟩:∃ Z:List Value,(Builtin.zeroCells (Value.agg #[.string ⟨#[]⟩,.slice none 0 0]).cells (n+1 - i)).toList++(Builtin.zeroCells (Value.agg #[.string ⟨#[]⟩,.slice none 0 0]).cells (G - (n+1))).toList=Z/\Z.length=(G - i) * 2:=⟨_,rfl,by
  simp only[Mx,Array.length_toList,size_zeroCells];have:(Value.agg #[.string ⟨#[]⟩,.slice none 0 0]).cells.size=2:=by rfl
  rw[this];omega⟩
 obtain⟨R,hR⟩:∃ R:List Value,R=cells.take (i * 2)++Z:=⟨_,rfl⟩
 obtain⟨l0,l1,l2,l3⟩:=Cf (two:=[Value.string ⟨name.toArray⟩,Value.slice pa pn pc]) hR hZl hl rfl hi hGn;have hRR:(cells.take (i * 2)).toArray++Builtin.zeroCells (Value.agg #[.string ⟨#[]⟩,.slice none 0 0]).cells (n+1 - i)++Builtin.zeroCells (Value.agg #[.string ⟨#[]⟩,.slice none 0 0]).cells (G - (n+1))=R.toArray:=by
  apply Array.toList_inj.1;rw[hR,<-hZ];simp
 rw[hRR]at hrz;obtain⟨A1,hA1⟩:∃ A1,A1=R.take (i * 2)++[Value.string ⟨name.toArray⟩,Value.slice pa pn pc]++R.drop (i * 2+2):=⟨_,rfl⟩
 have e2:[Value.string ⟨name.toArray⟩,Value.slice pa pn pc].length=2:=rfl;rw[e2,<-hA1]at l1 l2 l3;have hgW:∀ k,k < w.heap.size->(w.drew.alloc (.cells R.toArray 47)).heap[k]?=w.heap[k]?:=fun k hk=>heap_alloc_old w.drew _ hk;have hnW:(w.drew.alloc (.cells R.toArray 47)).heap[w.heap.size]?=some (.cells R.toArray 47 (0,0)):=MN w.drew _;have hcpA:∀ (W:LC),(∀ k,W.heap[k]?=(w.drew.alloc (.cells R.toArray 47)).heap[k]?)->∀ ty dc,(Builtin.copy_ #[26,26] ty #[.slice (some ⟨w.heap.size,i * 2,none⟩) (n+1 - i) dc,.slice (some ⟨vb,0,none⟩) 1 1]).run prog W=.ok (goInt (Nat.min 1 (n+1 - i))) (W.setRow w.heap.size A1.toArray):=fun W hW ty dc=>by
  rw[hA1];exact kR W ty w.heap.size (i * 2) (n+1 - i) dc ⟨vb,0,none⟩ 1 1 R.toArray _ [.string ⟨name.toArray⟩,.slice pa pn pc] ((hW _).trans hnW) (by rw[zQ n i hi];rfl)
   (fun j v hj=>by
    rw[Addr.add_lit];simp only[World.cell?,hW,hgW vb hvl,hv];simpa using hj)
   (by simp only[My,List.length_nil,List.size_toArray,l0];omega) (by intro u hu;simp only[List.mem_cons,List.not_mem_nil,or_false]at hu;rcases hu with rfl | rfl <;> rfl)
 have hcpB:∀ (W W0:LC),(∀ k,W0.heap[k]?=(w.drew.alloc (.cells R.toArray 47)).heap[k]?)->(∀ k,W.heap[k]?=(W0.setRow w.heap.size A1.toArray).heap[k]?)->∀ ty dc sc,(Builtin.copy_ #[26,26] ty #[.slice (some ⟨w.heap.size,(i+1) * 2,none⟩) (n - i) dc,.slice (some ⟨g,i * 2,none⟩) (n - i) sc]).run prog W=.ok (goInt (Nat.min (n - i) (n - i))) (W.setRow w.heap.size (A1.take ((i+1) * 2)++cells.drop (i * 2)++A1.drop ((i+1) * 2+(cells.drop (i * 2)).length)).toArray):=fun W W0 hW0 hW ty dc sc=>
  kR W ty w.heap.size ((i+1) * 2) (n - i) dc ⟨g,i * 2,none⟩ (n - i) sc A1.toArray _ (cells.drop (i * 2)) ((hW _).trans (setRow_heap W0 _ R.toArray _ _ _ ((hW0 _).trans hnW))) (by rw[MB,hl];simp only[Nat.min_def];split <;> omega)
   (fun j v hj=>by
    rw[List.getElem?_drop]at hj;have:=LV _ v hj;rw[Addr.add_lit];simp only[World.cell?]at this ⊢;rw[hW,setRow_other W0 w.heap.size g _ (Nat.ne_of_lt hgl),hW0,hgW g hgl];exact this)
   (by simp only[MB,hl,List.size_toArray,l1];omega) (fun v hv=>h1 v (List.mem_of_mem_drop hv))
 have HF:Ll (∀ (W W0 W1:LC),(∀ k,W0.heap[k]?=(w.drew.alloc (.cells R.toArray 47)).heap[k]?)->(∀ k,W1.heap[k]?=(W0.setRow w.heap.size A1.toArray).heap[k]?)->W=W1.setRow w.heap.size (A1.take ((i+1) * 2)++cells.drop (i * 2)++A1.drop ((i+1) * 2+(cells.drop (i * 2)).length)).toArray->w.os=W.os->w.tape=W.tape->w.output=W.output->w.heap.size<=W.heap.size->W.ownsRow B 47 2 (.slice (some ⟨w.heap.size,0,none⟩) (n+1) G) (n+1) (cells.take (i * 2)++[Value.string ⟨name.toArray⟩,Value.slice pa pn pc]++cells.drop (i * 2))/\w.grownBy W none):=aa (by
  intro W W0 W1 hW0 hW1 hW g1 g2 g3 g4;have e1:=(hW1 w.heap.size).trans (setRow_heap W0 w.heap.size R.toArray A1.toArray _ _ ((hW0 _).trans hnW));have e0:=setRow_heap W1 w.heap.size A1.toArray (A1.take ((i+1) * 2)++cells.drop (i * 2)++A1.drop ((i+1) * 2+(cells.drop (i * 2)).length)).toArray _ _ e1;rw[<-hW]at e0;refine⟨⟨?_,.inr ⟨w.heap.size,G,_,rfl,hB,e0,hGn,hGm,by simpa using l2,by simpa using l3⟩⟩,⟨g1.symm,g2.symm,g3.symm,g4,fun k hk _=>?_⟩⟩
  ·simp only[Mx,MC,MB,hl,My,List.length_nil];omega
  ·have:k≠w.heap.size:=by omega
   rw[hW,setRow_other W1 _ k _ this,hW1,setRow_other W0 _ k _ this,hW0,hgW k hk])
 unfold maxLen at hGm;have HA:=aa hcpA;have HB2:=aa hcpB;have q0:((i:Int) == (n:Int))=false:=by rw[MO];omega
 have q1:(0:Int)<=(i:Int):=by omega
 have q2:(i:Int)<=(n:Int):=by omega
 have q3:(c:Int) < (n:Int)+1:=by omega
 have q8:(i:Int)<=(c:Int):=by omega
 have hw1:IntKind.i64.wrap ((i:Int)+1)=(i:Int)+1:=by rw[IntKind.wrap_i64];omega
 have hw2:IntKind.i64.wrap ((n:Int)+1 - (i:Int))=(n:Int)+1 - (i:Int):=by rw[IntKind.wrap_i64];omega
 have htn:((i:Int)+1).toNat=i+1:=by omega
 have q6:(i:Int)+1<=(n:Int)+1:=by omega
 have q7:(0:Int)<=(i:Int)+1:=by omega
 have q9:(i:Int)<=(n:Int)+1:=by omega
 have hGi:¬(G=i):=by omega
 have hGim:¬(G=i+1):=by omega
 have hci:¬(c=i):=by omega
 have hcl:(c:Int)<=9223372036854775807:=by omega
 have hrz2:=aa hrz;clear hcpA hcpB hA1 hR hRR hZ hZl l0 l1 l2 l3 e2 hgW hnW hx hl h1 hg hv hold hik hkk hz0 hz1 hz2 hi0 LV hrz hG;go_enter func68,ntmps68;go_wp2_with (at_builtin;refine Lib.wpList_append_run _ rfl _ _ _ _ rfl (.slice (some ⟨g,0,none⟩) i c) (.int .i64 ((n:Int)+1 - (i:Int))) rfl rfl _ _ hrz2.o ?_)
 have hA:=HA.o ((w.alloc (.cells R.toArray 47)).drew) (fun _=>rfl) 3 (G - i);go_wp2_with (simp only[hA])
 have hB9:=HB2.o (((w.alloc (.cells R.toArray 47)).drew.setRow w.heap.size A1.toArray).drew) _ (fun _=>rfl) (fun _=>rfl) 3 (G - (i+1)) (c - i);go_region
 go_wp2
 go_ret;exact⟨G,rfl,HF.o _ ((w.alloc (.cells R.toArray 47)).drew) (((w.alloc (.cells R.toArray 47)).drew.setRow w.heap.size A1.toArray).drew) (fun _=>rfl) (fun _=>rfl) (by simp) rfl rfl rfl (by simp[World.setRow])⟩
theorem yz(w:LC)(B n vb:Nat)(r cells)(name:Lz)(pa)(pn pc:Nat)(h:w.ownsRow B 47 2 r n cells)(hv:w.heap[vb]?=some (.cells #[.string ⟨name.toArray⟩,.slice pa pn pc] 47))(hn:n<=4000000)(hB:B<=w.heap.size):Calls prog 68 #[r,.int .i64 n,.slice (some ⟨vb,0,none⟩) 1 1] w fun e w'=>∃ g cap,e=.returned (.slice (some ⟨g,0,none⟩) (n+1) cap)/\w'.ownsRow B 47 2 (.slice (some ⟨g,0,none⟩) (n+1) cap) (n+1) (cells++[.string ⟨name.toArray⟩,.slice pa pn pc])/\w.grownBy w' r.ownBlock/\(r.ownBlock=some g\/w.heap.size=g):=by
 obtain⟨g,cap,W',hR,ho,hg,hgg⟩:=mW h hv hn hB 26;have HR:=aa hR;have HO:=aa ho;have HG:=aa hg;have HH:=aa hgg;have q1:((n:Int) == (n:Int))=true:=by simp
 rcases h.2 with⟨rfl,h0⟩ | ⟨g0,c0,cur,rfl,h1,h2,h3,h4,h5,h6⟩
 ·subst h0;clear hR ho hg h hgg;go_enter func68,ntmps68;go_wp2_with (at_builtin;go_must (refine Lib.wpList_append_run _ rfl _ _ _ _ rfl (.slice none 0 0) (.slice (some ⟨vb,0,none⟩) 1 1) rfl rfl _ _ HR.o ?_);refine Ll.o ?_)
  refine aa ?_;go_wp2
  go_ret;exact⟨g,cap,rfl,HO.o,HG.o,HH.o⟩
 ·unfold maxLen at h4;have x1:(n:Int)<=(c0:Int):=by omega
  have x2:(0:Int)<=(n:Int):=by omega
  have x3:(n:Int)<=9223372036854775807:=by omega
  clear hR ho hg h h1 h2 h5 h6 hgg;go_enter func68,ntmps68;go_wp2_with (at_builtin;go_must (refine Lib.wpList_append_run _ rfl _ _ _ _ rfl (.slice (some ⟨g0,0,none⟩) n c0) (.slice (some ⟨vb,0,none⟩) 1 1) rfl rfl _ _ HR.o ?_);refine Ll.o ?_)
  all_goals
   refine aa ?_;go_wp2
   go_ret;exact⟨g,cap,rfl,HO.o,HG.o,HH.o⟩
theorem PX(w:World)(B n i vb:Nat)(r cells)(name:List UInt8)(pa)(pn pc:Nat)(h:w.ownsRow B 47 2 r n cells)(hv:w.heap[vb]?=some (.cells #[.string ⟨name.toArray⟩,.slice pa pn pc] 47))(hi:i<=n)(hn:n<=4000000)(hB:B<=w.heap.size)(hvb:∀ g,r.ownBlock=some g->vb≠g)(h1:∀ u∈cells,u.oneCell'=true):Calls prog 68 #[r,.int .i64 i,.slice (some ⟨vb,0,none⟩) 1 1] w fun e w'=>∃ g cap,e=.returned (.slice (some ⟨g,0,none⟩) (n+1) cap)/\w'.ownsRow B 47 2 (.slice (some ⟨g,0,none⟩) (n+1) cap) (n+1) (cells.take (i * 2)++[Value.string ⟨name.toArray⟩,Value.slice pa pn pc]++cells.drop (i * 2))/\w.grownBy w' r.ownBlock:=by
 by_cases he:i=n
 ·subst he;refine(yz w B i vb r cells name pa pn pc h hv hn hB).mono ?_;rintro e w' ⟨g,cap,rfl,h2,h3,-⟩;refine⟨g,cap,rfl,?_,h3⟩;rw[MD (by rw[h.1];omega),List.drop_eq_nil_of_le (by rw[h.1];omega),List.append_nil];exact h2
 ·rcases h.2 with⟨rfl,h0⟩ | ⟨g,c,cur,rfl,g1,g2,g3,g4,g5,g6⟩
  ·omega
  ·by_cases hroom:n+1<=c
   ·refine(UX w B g n c i vb cur cells name pa pn pc (by omega) hroom g4 g1 g2 g5 g6 h.1 hv (hvb g rfl) h1).mono ?_;rintro e w' ⟨rfl,h2,h3⟩;exact⟨g,c,rfl,h2,h3⟩
   ·refine(uy w B g n c i vb cur cells name pa pn pc (by omega) g3 (by omega) hn hB g2 g6 h.1 hv h1).mono ?_;rintro e w' ⟨G,rfl,h2,h3⟩;exact⟨_,G,rfl,h2,h3.os,h3.tape,h3.output,h3.size,fun k hk _=>h3.block k hk (by simp)⟩
theorem Ds{os:List aL}{pvs:List Value}{i:Nat}{o:aL}{v}{P:aL->Value->Prop}(hl:os.length=pvs.length)(hi:i<=os.length)(hP:∀ (j:Nat) (x:aL) (u:Value),os[j]?=some x->pvs[j]?=some u->P x u)(ho:P o v):∀ (j:Nat) (x:aL) (u:Value),(os.take i++o :: os.drop i)[j]?=some x->(pvs.take i++v :: pvs.drop i)[j]?=some u->P x u:=by
 intro j x u hx hu;have e1:(os.take i).length=i:=by rw[MC];omega
 have e2:(pvs.take i).length=i:=by rw[MC];omega
 by_cases h1:j < i
 ·rw[List.getElem?_append_left (by omega),List.getElem?_take_of_lt h1]at hx hu;exact hP j x u hx hu
 ·rw[List.getElem?_append_right (by omega)]at hx hu;rw[e1]at hx;rw[e2]at hu;rcases hd:j - i with _ | d
  ·rw[hd]at hx hu;simp only[List.getElem?_cons_zero,Option.some.injEq]at hx hu;subst hx;subst hu;exact ho
  ·rw[hd]at hx hu;simp only[List.getElem?_cons_succ,List.getElem?_drop]at hx hu;exact hP _ x u hx hu
theorem zB{w w':World}{B i g cap:Nat}{os:List aL}{pvs:List Value}{r:Value}{o:aL}{pa:Option Addr}{pc:Nat}{okp:Nat->Prop}(h1:os.length=pvs.length)(h3:∀ (i:Nat) (o:aL) (v:Value),os[i]?=some o->pvs[i]?=some v->(∃ a c,v=.slice a o.paths.length c)/\ao w (fun k=>B<=k/\some k≠r.ownBlock) o.paths v)(hi:i<=os.length)(hn:∀ o∈os,o.name.length<=maxLen)(hno:o.name.length<=maxLen)(ho:ao w okp o.paths (.slice pa o.paths.length pc))(hoff:∀ k,okp k->some k≠r.ownBlock)(hrow:w'.ownsRow B 47 2 (.slice (some ⟨g,0,none⟩) (os.length+1) cap) (os.length+1) ((ba os pvs).take (i * 2)++[Value.string ⟨o.name.toArray⟩,Value.slice pa o.paths.length pc]++(ba os pvs).drop (i * 2)))(hg:w.grownBy w' r.ownBlock):aB w' (fun k=>B<=k\/okp k) (os.take i++o :: os.drop i) (.slice (some ⟨g,0,none⟩) (os.take i++o :: os.drop i).length cap):=by
 have LT:(os.take i++o :: os.drop i).length=os.length+1:=by simp only[Mx,My,MC,MB];omega
 have hlenv:(pvs.take i++.slice pa o.paths.length pc :: pvs.drop i).length=os.length+1:=by simp only[Mx,My,MC,MB];omega
 have hp:=Ds (P:=fun x u=>x.name.length<=maxLen/\(∃ a c,u=.slice a x.paths.length c)/\ao w' (fun k=>B<=k\/okp k) x.paths u) (o:=o) (v:=.slice pa o.paths.length pc) h1 hi
  (fun j x u hx hu=>⟨hn x (List.mem_of_getElem? hx),(h3 j x u hx hu).1,(h3 j x u hx hu).2.imp fun a y q1 q2=>⟨.inl q1.1,hg.cell q2 q1.2⟩⟩)
  ⟨hno,⟨_,_,rfl⟩,ho.imp fun a y q1 q2=>⟨.inr q1,hg.cell q2 (hoff _ q1)⟩⟩
 rw[<-xG h1]at hrow;obtain⟨g1,g3,g4⟩:B<=g/\os.length+1<=cap/\cap<=maxLen:=by
  rcases hrow.2 with⟨h0,-⟩ | ⟨g',cap',cur,e,q1,q2,q3,q4,q5,q6⟩
  ·cases h0
  ·cases e;exact⟨q1,q3,q4⟩
 refine⟨by rw[LT];omega,.inr ⟨g,0,cap,rfl,by rw[LT];exact g3,g4,fun j x hx=>?_⟩⟩;obtain⟨hj,-⟩:=Mz.1 hx;obtain⟨u,hu⟩:∃ u,(pvs.take i++.slice pa o.paths.length pc :: pvs.drop i)[j]?=some u:=⟨_,Mw (by omega)⟩
 obtain⟨p1,⟨a,c,rfl⟩,p3⟩:=hp j x u hx hu;obtain⟨e1,e2⟩:=kN _ _ j _ _ hx hu;refine⟨a,_,c,p1,.inl g1,?_,?_,p3⟩
 ·rw[Nat.zero_add];exact(dJ hrow (by omega) e1).1
 ·rw[Nat.zero_add];exact(dJ hrow (by omega) e2).1
theorem Dy(os p):bB os p<=os.length:=by
 unfold bB;exact List.countP_le_length
theorem JW{w:World}{B:Nat}{os:List aL}{pvs:List Value}{ok}(h1:os.length=pvs.length)(h3:∀ (i:Nat) (o:aL) (v:Value),os[i]?=some o->pvs[i]?=some v->(∃ a c,v=.slice a o.paths.length c)/\ao w ok o.paths v):∀ v∈pvs,v.oneCell'=true:=by
 intro v hv;obtain⟨i,hi,rfl⟩:=List.getElem_of_mem hv;obtain⟨⟨a,c,e⟩,-⟩:=h3 i _ _ (Mw (by omega)) (Mw hi);rw[e];rfl
theorem ue(w:World)(B os r o pa pc okp)(h:fA w B os r)(hn:∀ o∈os,o.name.length<=maxLen)(hr:bD (os.map aL.name))(LT:os.length<=4000000)(hB:B<=w.heap.size)(hno:o.name.length<=maxLen)(ho:ao w okp o.paths (.slice pa o.paths.length pc))(hoff:∀ k,okp k->some k≠r.ownBlock):Calls prog 33 #[r,.agg #[.string ⟨o.name.toArray⟩,.slice pa o.paths.length pc]] w fun e w'=>∃ a c,e=.returned (.slice a (bP os o).length c)/\aB w' (fun k=>B<=k\/okp k) (bP os o) (.slice a (bP os o).length c)/\w.grownBy w' r.ownBlock:=by
 have OW:=aa (h.owns hn);obtain⟨ra,rc,hform⟩:=(h.owns hn).form;by_cases hp0:o.paths=[]
 ·have E:Ll (bP os o=os):=aa (by unfold bP;rw[if_pos hp0]);have z0:o.paths.length=0:=by rw[hp0];rfl
  rw[z0];subst hform;have GB:Ll (∀ o,w.grownBy (w.alloc o) (Value.slice ra os.length rc).ownBlock):=aa (fun o=>aq (ae w o));clear hp0 z0 ho h hn hr;go_enter func33,ntmps33;go_wp2
  go_ret;exact⟨ra,rc,by rw[E.o];rfl,by rw[E.o];exact(OW.o.bel (ae w _)).weak fun k hk=>.inl hk,GB.o _⟩
 ·have E:Ll (bP os o=os.take (bB os o.name)++o :: os.drop (bB os o.name)):=aa (by unfold bP;rw[if_neg hp0]);have z0:((o.paths.length:Int) == 0)=false:=by
   rw[MO];have:o.paths.length≠0:=fun e=>hp0 (List.length_eq_zero_iff.1 e);omega
  obtain⟨pvs,h1,h2,h3⟩:=h;have FI:Ll (∀ W,La w W->Calls prog 67 #[r,.string ⟨o.name.toArray⟩] W fun e w'=>e=.returned (.tuple #[.int .i64 (bB os o.name:Nat),.bool ((os.map aL.name).contains o.name)])/\La W w'):=aa (fun W hW=>qo W _ os r o.name (OW.o.bel hW) hr (by omega));obtain⟨i,hie⟩:∃ i,bB os o.name=i:=⟨_,rfl⟩
  have hi:i<=os.length:=hie ▸ Dy os o.name;have IN:Ll (∀ W vb,La w W->w.heap.size<=vb->W.heap[vb]?=some (.cells #[.string ⟨o.name.toArray⟩,.slice pa o.paths.length pc] 47)->Calls prog 68 #[r,.int .i64 i,.slice (some ⟨vb,0,none⟩) 1 1] W fun e w'=>∃ g cap,e=.returned (.slice (some ⟨g,0,none⟩) (os.length+1) cap)/\aB w' (fun k=>B<=k\/okp k) (os.take i++o :: os.drop i) (.slice (some ⟨g,0,none⟩) (os.take i++o :: os.drop i).length cap)/\w.grownBy w' r.ownBlock):=aa (fun W vb hW hvb hv=>by
   refine(PX W B os.length i vb r (ba os pvs) o.name pa o.paths.length pc (bM h2 fun g hg=>hW.block g (bY h2 hg).2) hv hi LT (by have:=hW.size;omega) (fun g hg=>by have:=(bY h2 hg).2;omega) (oZ os pvs (JW (B:=B) h1 h3))).mono ?_;rintro e w' ⟨g,cap,rfl,q1,q2⟩;have q3:=am (aq hW) q2;exact⟨g,cap,rfl,zB h1 h3 hi hn hno ho hoff q1 q3,q3⟩)
  obtain⟨bb,LW⟩:∃ bb,(os.map aL.name).contains o.name=bb:=⟨_,rfl⟩
  rw[LW]at FI;rw[hie]at E FI;clear hie LW hp0 h1 h2 h3 hn hr ho OW;subst hform;have B0:Ll (∀ o,La w (w.alloc o)):=aa (fun o=>ae w o);have A1:Ll (∀ w1,La (w.alloc (.cells #[.string ⟨o.name.toArray⟩,.slice pa o.paths.length pc] 47)) w1->w1.cell? ⟨w.heap.size,0,none⟩=some (.string ⟨o.name.toArray⟩)/\w1.cell? ⟨w.heap.size,1,none⟩=some (.slice pa o.paths.length pc)/\w.heap.size<=w1.heap.size/\∀ o,La w (w1.alloc o)):=aa (fun w1 hb=>by
   refine⟨ah hb (by rw[World.cell?_alloc_at _ _ _ _ rfl];rfl),ah hb (by rw[World.cell?_alloc_at _ _ _ _ rfl];rfl),?_,fun o=>?_⟩
   ·have:=hb.size;simp at this;omega
   ·have b1:=(ae w _).trans (hb.mono (by simp));exact b1.trans ((ae w1 o).mono b1.size))
  have NB:Ll (∀ (w1:World) o,(w1.alloc o).heap[w1.heap.size]?=some o):=aa (fun w1 o=>MN w1 o);go_enter func33,ntmps33;go_wp2_with (first
   |(go_at_call 67;go_must (refine(FI.o _ (B0.o _)).mono ?_);rintro e w1 ⟨rfl,hb⟩;obtain⟨c0,c1,s1,b1⟩:=A1.o _ hb;have S1:=aa s1;have B1:=aa b1;clear hb s1 b1)
   |(go_at_call 68;go_must (refine(IN.o _ _ (B1.o _) S1.o (NB.o _ _)).mono ?_);rintro e w3 ⟨g,cap,rfl,p1,p2⟩;have P1:=aa p1;have P2:=aa p2;clear p1 p2))
  go_ret;refine⟨some ⟨g,0,none⟩,cap,?_,?_,P2.o⟩
  ·rw[E.o];have:(os.take i++o :: os.drop i).length=os.length+1:=by simp only[Mx,My,MC,MB];omega
   rw[this];rfl
  ·rw[E.o];exact P1.o
theorem DD(W:LC)(ok ok' who LQ t L g2 g9 g4 a1 a2 a3 b1 b2 c1 c2 c3 d1 d2 n p)(hc:ri W ok ok' who LQ t L g2 g9 g4 a1 a2 a3 b1 b2 c1 c2 c3 d1 d2)(hp:p.length<=140737488351232):Calls prog 28 #[.string ⟨n.toArray⟩,.string ⟨p.toArray⟩,.pointer (some ⟨g2,0,none⟩),.pointer (some ⟨g9,0,none⟩),.pointer (some ⟨g4,0,none⟩)] W fun e w'=>e=.returned (.bool (n != who&&!aV LQ t L p))/\La W w':=by
 have BK:=aa (hc.blocked p hp);have q9:=hc.who;obtain⟨x0,x1,x2,x3,x4,x5⟩:=lr hc.wish;have y0_:=hc.val.c;clear hc;generalize aV LQ t L p=o at BK ⊢;by_cases hn:n=who
 ·have R:Ll ((n != who&&!o)=false):=aa (by simp[hn]);subst hn;go_enter func28,ntmps28;go_wp2
  go_ret;exact⟨by rw[R.o];first | done | rfl | simp,MK _ _⟩
 ·have e9:(n == who)=false:=by simpa using hn
  have R:Ll ((n != who&&!o)=!o):=aa (by simp[hn]);go_enter func28,ntmps28;go_wp2_with (go_at_call 29;refine BK.o.mono ?_;rintro e w1 ⟨rfl,hb⟩;have B1:=aa hb;clear hb)
  go_ret;exact⟨by rw[R.o];first | done | rfl | simp,B1.o⟩
theorem qT:∀ args w,(callFunc 28 args).run prog w=.ok (.enter 28 args) w:=enters_of func28 (by kernel_rfl) rfl
variable {wr:World}
variable {k:Nat}
theorem TG{e:TypeId}{size:Nat}{xs:List Value}(h:w.ownsRow B e size v n xs):∃ a c,v=.slice a n c:=by
 rcases h.2 with⟨rfl,rfl⟩ | ⟨g,cap,cur,rfl,h1,h2,h3,h4,h5,h6⟩
 ·exact⟨none,0,rfl⟩
 ·exact⟨_,_,rfl⟩
theorem Su{cap size:Nat}{e:TypeId}{xs:List Value}(h:w.ownsRow B e size (.slice (some ⟨g,0,none⟩) n cap) n xs):n<=cap/\cap<=9223372036854775807:=by
 rcases h.2 with⟨e,-⟩ | ⟨g',cap',cur,e1,h1,h2,h3,h4,h5,h6⟩
 ·cases e
 ·cases e1;exact⟨h3,h4⟩
theorem eN{t:TypeId}(h:w.heap[g]?=some (.cells #[v] t)):w.cell? ⟨g,0,none⟩=some v/\w.frozen? ⟨g,0,none⟩=false:=by
 simp[World.cell?,World.frozen?,h]
def Im (w:LC) (gl:Nat) (L:List Lz) (p:Lz) (r:Option Nat) (g cap k:Nat) (wr:LC):Prop:=
 k<=L.length/\wr.heap[gl]?=some (.cells #[.slice (some ⟨g,0,none⟩) (L.length+1) cap] 22)/\wr.ownsRow (gl+1) 9 1 (.slice (some ⟨g,0,none⟩) (L.length+1) cap) (L.length+1) ((L.take k++p :: L.drop k).map fun s=>.string ⟨s.toArray⟩) /\
  kX w wr gl r/\(r=some g\/w.heap.size<=g)/\gl < g/\∀ x∈L.drop k,Op.bytesLess p x=true
theorem N2{L:List Lz}{p:Lz}(hk:k < L.length):(((L.take (k+1)++p :: L.drop (k+1)).map fun s=>Value.string ⟨s.toArray⟩).set (k+1) (.string ⟨L[k].toArray⟩)).set k (.string ⟨p.toArray⟩)=(L.take k++p :: L.drop k).map fun s=>Value.string ⟨s.toArray⟩:=by
 apply List.ext_getElem?;intro i;rw[ME hk,List.take_succ_eq_append_getElem hk];have hl:(L.take k).length=k:=by rw[MC];omega
 simp only[List.map_append,List.map_cons,List.append_assoc,List.cons_append,List.nil_append,List.map_nil,List.singleton_append];rw[List.set_append_right _ _ (by simp;omega),List.set_append_right _ _ (by simp;omega)];simp only[List.length_map,hl,Nat.sub_self];rw[show k+1 - k=1 by omega];rfl
theorem SB{gl:Nat}{L:List Lz}{p:Lz}{r:Option Nat}{cap:Nat}(h:Im w gl L p r g cap (k+1) wr)(hk:k < L.length)(hp:Op.bytesLess p L[k]=true):Im w gl L p r g cap k ((wr.drew.setCell ⟨g,k+1,none⟩ (.string ⟨L[k].toArray⟩)).setCell ⟨g,k,none⟩ (.string ⟨p.toArray⟩)):=by
 obtain⟨h1,h2,h3,h4,h5,h6,h7⟩:=h;have hs:∀ j,j≠g->((wr.drew.setCell ⟨g,k+1,none⟩ (.string ⟨L[k].toArray⟩)).setCell ⟨g,k,none⟩ (.string ⟨p.toArray⟩)).heap[j]?=wr.heap[j]?:=fun j hj=>by
  rw[Below.heap_setCell _ ⟨g,k,none⟩ _ j hj,Below.heap_setCell _ ⟨g,k+1,none⟩ _ j hj];rfl
 refine⟨by omega,(hs gl (by omega)).trans h2,?_,⟨?_,?_,?_,?_,fun j hj j1 j2=>?_⟩,h5,h6,fun x hx=>?_⟩
 ·have h9:wr.drew.ownsRow (gl+1) 9 1 (.slice (some ⟨g,0,none⟩) (L.length+1) cap) (L.length+1) ((L.take (k+1)++p :: L.drop (k+1)).map fun s=>.string ⟨s.toArray⟩):=bM h3 (fun g _=>rfl);have:=jQ (jQ h9 (by omega) (k+1) (.string ⟨L[k].toArray⟩)) (by omega) k (.string ⟨p.toArray⟩);rwa [N2 hk]at this
 ·exact h4.os
 ·exact h4.tape
 ·exact h4.output
 ·have:=h4.size;simp only[World.setCell,Array.size_modify];exact this
 ·rw[hs j ?_]
  ·exact h4.block j hj j1 j2
  ·rcases h5 with e | e
   ·intro e9;subst e9;exact j2 e.symm
   ·omega
 ·rw[ME hk]at hx;rcases List.mem_cons.1 hx with rfl | hx
  ·exact hp
  ·exact h7 x hx
theorem E9(L:List Lz)(p:Lz)(k:Nat):(L.take k++p :: L.drop k).Perm (p :: L):=by
 have h:=List.perm_middle (a:=p) (l₁:=L.take k) (l₂:=L.drop k);rwa [List.take_append_drop]at h
theorem I9{L:List Lz}{p:Lz}(hL:L.Pairwise xA)(hd:∀ x∈L.drop k,Op.bytesLess p x=true)(ht:∀ x∈L.take k,xA x p):(L.take k++p :: L.drop k).Pairwise xA:=by
 have h:=hL;rw[<-List.take_append_drop k L,List.pairwise_append]at h;obtain⟨h1,h2,h3⟩:=h;rw[List.pairwise_append,List.pairwise_cons];refine⟨h1,⟨fun x hx=>pA (hd x hx),h2⟩,fun a ha b hb=>?_⟩;rcases List.mem_cons.1 hb with rfl | hb
 ·exact ht a ha
 ·exact h3 a ha b hb
theorem sC{L:List Lz}{p:Lz}(hk:k < L.length)(hL:L.Pairwise xA)(hp:Op.bytesLess p L[k]=false):∀ x∈L.take (k+1),xA x p:=by
 intro x hx;have h9:xA L[k] p:=hp;rw[List.take_succ_eq_append_getElem hk,List.mem_append,List.mem_singleton]at hx;rcases hx with hx | rfl
 ·obtain⟨i,hi,rfl⟩:=List.getElem_of_mem hx;rw[MC]at hi;rw[List.getElem_take];exact rE (List.pairwise_iff_getElem.1 hL i k (by omega) hk (by omega)) h9
 ·exact h9
def Tz (w w':LC) (gl:Nat) (r:Option Nat) (L:List Lz) (p:Lz):Prop:=∃ R,Eh w w' gl r R/\R.Perm (p :: L)/\(L.Pairwise xA->R.Pairwise xA)
theorem Im.o{gl:Nat}{L:List Lz}{p:Lz}{r:Option Nat}{cap:Nat}(h:Im w gl L p r g cap k wr)(hs:L.Pairwise xA->∀ x∈L.take k,xA x p):Tz w wr gl r L p:=by
 obtain⟨h1,h2,h3,h4,h5,h6,h7⟩:=h;have hl:(L.take k++p :: L.drop k).length=L.length+1:=by rw[(E9 L p k).length_eq];rfl
 refine⟨L.take k++p :: L.drop k,⟨some g,⟨_,h2,by rw[hl];exact h3,rfl⟩,h4,?_⟩,E9 L p k,fun hL=>I9 hL h7 (hs hL)⟩;rcases h5 with e | e
 ·exact .inl e.symm
 ·exact .inr ⟨g,rfl,e⟩
theorem Tj(w:LC)(gl:Nat)(L:List Lz)(r:Option Nat)(p:Lz)(h:pH w gl L r)(hn:L.length<=1000000):Calls prog 49 #[.string ⟨p.toArray⟩,.pointer (some ⟨gl,0,none⟩)] w fun e w'=>e=.returned (.tuple #[])/\Tz w w' gl r L p:=by
 have GC:=aa h;obtain⟨sv,s1,s2,s3⟩:=h;obtain⟨a,c,rfl⟩:=TG s2;obtain⟨g,cap,W7,hR,ho,hg,hf⟩:=C7 (W:=w.alloc (.cells #[.string ⟨p.toArray⟩] 9)) (B:=gl+1) (v:=.slice a L.length c) (n:=L.length) (cs:=L.map fun s=>Value.string ⟨s.toArray⟩) (nb:=w.heap.size) (k:=⟨p.toArray⟩) (bM s2 fun g hg=>(ae _ _).block g (bY s2 hg).2) (MN _ _) hn (by have:=(ae w (.cells #[.string ⟨p.toArray⟩] 9)).size;have:=GC.o.lt;omega) 22;have GP:=aa (Gk (p:=p) s1 s3 (fun g hg=>(GC.o.row hg).1) ho hg hf GC.o.lt);have gg:gl < g:=by have:=(bY ho (g:=g) rfl).1;omega
 have S0:Ll (Im w gl L p r g cap L.length (W7.setCell ⟨gl,0,none⟩ (.slice (some ⟨g,0,none⟩) (L.length+1) cap))):=aa (by
  obtain⟨r',⟨sv',q1,q2,q3⟩,q4,q5⟩:=GP.o;have hb:W7.heap[gl]?=some (.cells #[.slice a L.length c] 22):=by
   have ha:=ae w (.cells #[.string ⟨p.toArray⟩] 9);rw[hg.block gl (MI GC.o.lt ha.size) ?_,ha.block gl GC.o.lt,s1];intro e;have:=(GC.o.row (g:=gl) (by rw[<-s3];exact e.symm)).1;omega
  have hb2:=ak hb 0 (.slice (some ⟨g,0,none⟩) (L.length+1) cap);have e2:sv'=.slice (some ⟨g,0,none⟩) (L.length+1) cap:=by
   have:=q1.symm.trans hb2;simpa using this
  subst e2;refine⟨MG _,q1,?_,q4,?_,gg,fun x hx=>by simp at hx⟩
  ·simpa using q2
  ·have e3:r'=some g:=q3.symm;subst e3;rcases q5 with e | ⟨g',e,hg'⟩
   ·exact .inl e.symm
   ·cases e;exact .inr hg')
 have c0:=(eN s1).1;obtain⟨c7,f0⟩:W7.cell? ⟨gl,0,none⟩=some (.slice a L.length c)/\W7.frozen? ⟨gl,0,none⟩=false:=by
  have hb:W7.heap[gl]?=some (.cells #[.slice a L.length c] 22):=by
   have ha:=ae w (.cells #[.string ⟨p.toArray⟩] 9);rw[hg.block gl (MI GC.o.lt ha.size) ?_,ha.block gl GC.o.lt,s1];intro e;have:=(GC.o.row (g:=gl) (by rw[<-s3];exact e.symm)).1;omega
  exact eN hb
 have c1:(w.alloc (.cells #[.string ⟨p.toArray⟩] 9)).cell? ⟨gl,0,none⟩=some (.slice a L.length c):=ah (ae _ _) c0;have HR:=aa hR;clear s1 s2 s3 ho hg hf hR;go_enter func49,ntmps49;go_wp2_with (at_builtin;go_must (refine Lib.wpList_append_run _ rfl _ _ _ _ rfl (.slice a L.length c) (.slice (some ⟨w.heap.size,0,none⟩) 1 1) rfl rfl _ _ HR.o ?_);refine Ll.o ?_)
 refine aa ?_;go_wp2
 clear c0 c1 f0 c7;go_loopg [3] L.length (fun gk i wr=>∃ k:Nat,k<=L.length/\gk=k/\i=.int .i64 k/\Im w gl L p r g cap k wr)
 case atStart=>exact⟨L.length,MG _,rfl,rfl,S0.o⟩
 case round=>
  obtain⟨k,hk,hgk,rfl,hI⟩:=hrel;have GK:=aa hgk;have HI:=aa hI;have c0:=(eN hI.2.1).1;have LC:Ll (L.length+1<=cap/\cap<=9223372036854775807):=Su hI.2.2.1;clear hgk hI;cases k with
  | zero=>
   have d9:¬(0:Int) < ((0:Nat):Int):=by omega
   have FIN:=aa (HI.o.o (fun _ x hx=>by simp at hx));go_wp2
   go_end0
   exact⟨rfl,FIN.o⟩
  | succ k=>
   have hlt:k < L.length:=by omega
   have ck:=(dJ HI.o.2.2.1 (by omega) (i:=k) (v:=.string ⟨L[k].toArray⟩) (by
    rw[List.getElem?_map,List.getElem?_append_left (by rw[MC];omega),List.getElem?_take_of_lt (by omega),Mw hlt];rfl))
   have cp:=(dJ HI.o.2.2.1 (by omega) (i:=k+1) (v:=.string ⟨p.toArray⟩) (by
    rw[List.getElem?_map,List.getElem?_append_right (by rw[MC];omega),MC];rw[show k+1 - min (k+1) L.length=0 by omega];rfl))
   obtain⟨k0,k1⟩:=ck;obtain⟨p0,p1⟩:=cp;have w1:(0:Int) < (k:Int)+1:=by omega
   have w2:(k:Int)+1<=(L.length:Int):=by omega
   have w3:(k:Int) < (L.length:Int)+1:=by omega
   have w4:(0:Int)<=(k:Int):=by omega
   have w5:(k:Int)+1 < (L.length:Int)+1:=by omega
   have w6:(0:Int)<=(k:Int)+1:=by omega
   have HLT:=aa hlt;obtain⟨x,hx⟩:∃ x,L[k]'hlt=x:=⟨_,rfl⟩
   have cs:Op.bytesLess x p=true\/Op.bytesLess x p=false/\x=p\/(Op.bytesLess x p=false/\(x == p)=false):=by
    cases h1:Op.bytesLess x p with
    | true=>exact .inl rfl
    | false=>
     by_cases h2:x=p
     ·exact .inr (.inl ⟨rfl,h2⟩)
     ·exact .inr (.inr ⟨rfl,by rw[MO];exact h2⟩)
   replace k0:wr.cell? ⟨g,k,none⟩=some (.string ⟨x.toArray⟩):=hx ▸ k0;rcases cs with hb | ⟨hb,rfl⟩ | ⟨hb,he⟩
   ·have FIN:=aa (HI.o.o (fun hL=>sC hlt hL (by
     have h9:Op.bytesLess p (L[k]'hlt)=false:=by
      rw[hx];exact pA hb
     exact h9)))
    clear hx;go_wp2
    go_end0
    exact⟨rfl,FIN.o⟩
   ·have FIN:=aa (HI.o.o (fun hL=>sC hlt hL (by
     have h9:Op.bytesLess x (L[k]'hlt)=false:=by
      rw[hx];exact TE x
     exact h9)))
    clear hx hb;have hb:=TE x;go_wp2
    go_end0
    exact⟨rfl,FIN.o⟩
   ·have NX:=aa (SB HI.o hlt (by
     have h9:Op.bytesLess p (L[k]'hlt)=true:=by
      rw[hx];exact ez x p hb (by simpa using he)
     exact h9))
    have NX2:Ll (Im w gl L p r g cap k ((wr.drew.setCell ⟨g,k+1,none⟩ (.string ⟨x.toArray⟩)).setCell ⟨g,k,none⟩ (.string ⟨p.toArray⟩))):=hx ▸ NX.o;clear hx NX;go_wp2
    go_region
    all_goals
     go_wp2
     go_roundg k
     case measure=>rw[GK.o];omega
     case rel=>exact⟨k,by omega,rfl,by go_num,NX2.o⟩
end Go.Proofs.YtbdlfclnkpofaaaGreatDoor
