/- Whatever it is handed, TopRuns answers true and leaves all as it was. Its conditions: a text or a list takes at most 2^47 - 4096 bytes; the listed package-level variables hold what the program's text lays (the card ties them, over a pruned copy of the project). -/
import Derived.Test.YtfpcghnhjlnnoaaGreatDoorG21
set_option maxRecDepth 100000
set_option maxHeartbeats 40000000
set_option linter.unusedSimpArgs false
set_option linter.unusedVariables false
namespace Go.Proofs.YtfpcghnhjlnnoaaGreatDoor
open Go.RowKit
open _root_.Go.Proofs.Tryz
variable {w wr:World}
variable {v:Value}
variable {k:Nat}
theorem gY(h:∃ n,wr=w.drewN n){a}(hc:w.cell? a=some v):wr.cell? a=some v:=by
 obtain⟨n,rfl⟩:=h;exact hc
theorem DF(h:∃ n,wr=w.drewN n):∃ n,wr.drew=w.drewN n:=by
 obtain⟨n,rfl⟩:=h;exact⟨n+1,rfl⟩
theorem pE(h:∃ n,wr=w.drewN n):La w wr:=by
 obtain⟨n,rfl⟩:=h;exact aC _ _
variable {w':World}
variable {B S:Nat}
theorem fc.bel{l:List cm}(h:fc w l v)(hb:La w w'):fc w' l v:=by
 refine⟨h.1,h.2.1,?_⟩;rcases h.2.2 with h | ⟨g,off,c,e,h1,h2,h3⟩
 ·exact .inl h
 ·refine .inr ⟨g,off,c,e,h1,h2,fun i q hq=>?_⟩;obtain⟨q0,q1,q2,q3,q4,q5,q6,q7⟩:=h3 i q hq;exact⟨ah hb q0,ah hb q1,ah hb q2,ah hb q3,ah hb q4,ah hb q5,ah hb q6,ah hb q7⟩
theorem Nc(l:List cm):∀ k,dP (oQ l k)
 | 0=>by unfold oQ J4;simpa using AW
 | k+1=>by
  by_cases h:k < l.length
  ·rw[uD (Mw h)];exact Ib (Nc l k)
  ·have e:oQ l (k+1)=oQ l k:=by unfold oQ;rw[MD (by omega),MD (by omega)]
   rw[e];exact Nc l k
variable {i:Nat}
def OQ (q:cm):List Value:=[.int .i64 q.kind,.string ⟨q.name.toArray⟩,.string ⟨q.who.toArray⟩,.string ⟨q.body.toArray⟩,.int .i64 q.version,.int .i64 q.n,.int .i64 q.order,.bool q.force]
theorem Pz:(prog.info? 28).map (fun i=>(i.zero,i.size,i.bytes))=some (some (.agg #[.int .i64 0,.string ⟨#[]⟩,.string ⟨#[]⟩,.string ⟨#[]⟩,.int .i64 0,.int .i64 0,.int .i64 0,.bool false]),8,88):=by kernel_rfl
theorem Pv:(prog.info? 31).map (fun i=>(i.zero,i.size,i.bytes))=some (some (.agg #[.int .i64 0,.int .i64 0,.string ⟨#[]⟩]),3,32):=by kernel_rfl
theorem Pj:∀ (l:List cm) (i j:Nat) (q:cm),l[i]?=some q->j < 8->(l.flatMap OQ)[i * 8+j]?=(OQ q)[j]?
 | [],i,j,q,h,_=>by simp at h
 | x :: l,0,j,q,h,hj=>by
  have e9:x=q:=by simpa using h
  subst e9;rw[List.flatMap_cons,List.getElem?_append_left (by simp[OQ];omega)];simp
 | x :: l,i+1,j,q,h,hj=>by
  rw[List.flatMap_cons,List.getElem?_append_right (by simp[OQ];omega)];have e9:(i+1) * 8+j - (OQ x).length=i * 8+j:=by simp[OQ];omega
  rw[e9];exact Pj l i j q (by simpa using h) hj
theorem O2(l:List cm):(l.flatMap OQ).length=l.length * 8:=by
 induction l with
 | nil=>rfl
 | cons x l ih=>rw[List.flatMap_cons,Mx,ih];simp[OQ];omega
theorem Pg{l:List cm}{j u}(h:(l.flatMap OQ)[j]?=some u):∃ q,l[j / 8]?=some q/\(OQ q)[j % 8]?=some u:=by
 have h1:=(Mz.1 h).1;rw[O2]at h1;have h2:j / 8 < l.length:=by omega
 refine⟨l[j / 8],Mw h2,?_⟩;rw[<-Pj l (j / 8) (j % 8) _ (Mw h2) (Nat.mod_lt _ (by omega)),show j / 8 * 8+j % 8=j by omega];exact h
theorem O7(w)(l:List cm)(v)(hl:fc w l v)(h9:l.length<=100)(ty:TypeId):∃ v' w',(Builtin.append_ #[22,22] ty #[.slice none 0 0,v]).run prog w=.ok v' w'/\fc w' l v'/\La w w':=by
 obtain⟨i0,hi,hz0,hz1,hz2⟩:=info_parts Pz;have ONL:=World.ownsRow_nil w w.heap.size 28 8;have hone:∀ u∈l.flatMap OQ,u.oneCell'=true:=by
  intro u hu;obtain⟨q,-,hu⟩:=List.mem_flatMap.1 hu;simp only[OQ,List.mem_cons,List.not_mem_nil,or_false]at hu;rcases hu with rfl | rfl | rfl | rfl | rfl | rfl | rfl | rfl <;> rfl
 have some_case:∀ (ad:Addr) (c:Nat),(∀ j u,(l.flatMap OQ)[j]?=some u->w.cell? (ad.add j)=some u) ->
  ∃ v' w',(Builtin.append_ #[22,22] ty #[.slice none 0 0,.slice (some ad) l.length c]).run prog w=.ok v' w'/\fc w' l v'/\La w w':=by
  intro ad c hc;obtain⟨v',w',hr,ho,hg,-,-⟩:=run_append_own_at (P:=prog) w w.heap.size 22 ty 28 i0 _ 8 88 underlying22 hi hz0 hz1 hz2 rfl (by decide) (.slice none 0 0) 0 [] ONL ad l.length c (l.flatMap OQ) (O2 l) hc hone (by unfold maxLen;omega) (by omega) (MG _);rw[Nat.zero_add,List.nil_append]at ho;refine⟨v',w',hr,⟨hl.1,hl.2.1,?_⟩,bS hg⟩;rcases ho.2 with⟨e,h0⟩ | ⟨g,cap,cur,e,h1,h2,h3,h4,h5,h6⟩
  ·exact .inl ⟨List.eq_nil_of_length_eq_zero h0,none,e⟩
  ·refine .inr ⟨g,0,cap,e,h3,by unfold maxLen at h4;exact h4,fun i q hq=>?_⟩;have key:∀ j,j < 8->∀ u,(OQ q)[j]?=some u->w'.cell? ⟨g,0+i * 8+j,none⟩=some u:=by
    intro j hj u hu;have h7:=ho.cells (g:=g) (by rw[e];rfl) (i * 8+j) u (by rw[Pj l i j q hq hj];exact hu);rw[eh]at h7;rw[Nat.add_assoc];exact h7
   exact⟨key 0 (by omega) _ rfl,key 1 (by omega) _ rfl,key 2 (by omega) _ rfl,key 3 (by omega) _ rfl,key 4 (by omega) _ rfl,key 5 (by omega) _ rfl,key 6 (by omega) _ rfl,key 7 (by omega) _ rfl⟩
 rcases hl.2.2 with⟨e0,a,rfl⟩ | ⟨b1,off,c,rfl,h1,h2,h3⟩
 ·cases a with
  | none=>exact⟨_,_,run_append_owned_none (P:=prog) w w.heap.size 22 ty 28 i0 8 underlying22 hi _ 0 [] ONL,⟨hl.1,hl.2.1,.inl ⟨e0,none,rfl⟩⟩,MK _ _⟩
  | some ad=>
   have h9:=some_case ad 0 (by rw[e0];simp);rw[e0]at h9 ⊢;exact h9
 ·refine some_case ⟨b1,off,none⟩ c ?_;intro j u hu;obtain⟨q,hq,hc⟩:=Pg hu;obtain⟨q0,q1,q2,q3,q4,q5,q6,q7⟩:=h3 _ q hq;have hm:j % 8 < 8:=Nat.mod_lt _ (by omega);rw[eh,show off+j=off+j / 8 * 8+j % 8 by omega];generalize j % 8=m at hc hm;obtain rfl | rfl | rfl | rfl | rfl | rfl | rfl | rfl:m=0\/m=1\/m=2\/m=3\/m=4\/m=5\/m=6\/m=7:=by omega
  all_goals
   simp only[OQ,List.getElem?_cons_zero,List.getElem?_cons_succ,Option.some.injEq]at hc;subst hc;assumption
def Pd (w:LC) (G:Nat) (l:List cm) (m:Nat):Prop:=∃ cs:Array Value,w.heap[G]?=some (.cells cs 31)/\cs.size=l.length * 3/\∀ i q,i < m->l[i]?=some q->cs[i * 3]?=some (.int .i64 (je (oQ l i) q).2.code)/\cs[i * 3+1]?=some (.int .i64 (je (oQ l i) q).2.n)/\cs[i * 3+2]?=some (.string ⟨(je (oQ l i) q).2.body.toArray⟩)
theorem Pd.keep{G}{l:List cm}{m}(h:Pd w G l m)(hb:w'.heap[G]?=w.heap[G]?):Pd w' G l m:=by
 obtain⟨cs,h1,h2⟩:=h;exact⟨cs,hb.trans h1,h2⟩
theorem Pd.bel{G}{l:List cm}{m}(h:Pd w G l m)(hb:La w w'):Pd w' G l m:=by
 obtain⟨cs,h1,h2⟩:=h;exact⟨cs,(hb.block G (MF.1 h1).1).trans h1,h2⟩
theorem Pd.cells{G}{l:List cm}{m}(h:Pd w G l m)(hi:i < l.length):∃ u0 u1 u2,w.cell? ⟨G,i * 3,none⟩=some u0/\w.cell? ⟨G,i * 3+1,none⟩=some u1/\w.cell? ⟨G,i * 3+2,none⟩=some u2/\w.frozen? ⟨G,i * 3,none⟩=false/\w.frozen? ⟨G,i * 3+1,none⟩=false/\w.frozen? ⟨G,i * 3+2,none⟩=false:=by
 obtain⟨cs,h1,h2,-⟩:=h;refine⟨cs[i * 3]'(by omega),cs[i * 3+1]'(by omega),cs[i * 3+2]'(by omega),?_,?_,?_,?_,?_,?_⟩
 ·simp[World.cell?,h1,show i * 3 < cs.size by omega]
 ·simp[World.cell?,h1,show i * 3+1 < cs.size by omega]
 ·simp[World.cell?,h1,show i * 3+2 < cs.size by omega]
 all_goals simp[World.frozen?,h1]
theorem Pd.reply{G}{l:List cm}{m}{q:cm}(h:Pd w G l m)(hi:i < m)(hq:l[i]?=some q):w.cell? ⟨G,i * 3,none⟩=some (.int .i64 (je (oQ l i) q).2.code)/\w.cell? ⟨G,i * 3+1,none⟩=some (.int .i64 (je (oQ l i) q).2.n)/\w.cell? ⟨G,i * 3+2,none⟩=some (.string ⟨(je (oQ l i) q).2.body.toArray⟩):=by
 obtain⟨cs,h1,-,h3⟩:=h;obtain⟨k0,k1,k2⟩:=h3 i q hi hq;refine⟨?_,?_,?_⟩
 ·simp[World.cell?,h1,k0]
 ·simp[World.cell?,h1,k1]
 ·simp[World.cell?,h1,k2]
theorem Pd.step{G}{l:List cm}{m}{q:cm}(h:Pd w G l m)(hq:l[m]?=some q):Pd (((w.setCell ⟨G,m * 3,none⟩ (.int .i64 (je (oQ l m) q).2.code)).setCell ⟨G,m * 3+1,none⟩ (.int .i64 (je (oQ l m) q).2.n)).setCell ⟨G,m * 3+2,none⟩ (.string ⟨(je (oQ l m) q).2.body.toArray⟩)) G l (m+1):=by
 obtain⟨cs,h1,h2,h3⟩:=h;have hm:=(Mz.1 hq).1;refine⟨_,ak (ak (ak h1 _ _) _ _) _ _,by simp[h2],fun i q9 hi hq9=>?_⟩;by_cases he:i=m
 ·subst he;rw[hq]at hq9;cases hq9;simp[Array.getElem?_set,Array.getElem?_setIfInBounds,h2];omega
 ·obtain⟨k0,k1,k2⟩:=h3 i q9 (by omega) hq9;refine⟨?_,?_,?_⟩
  ·rw[Array.getElem?_setIfInBounds_ne (by omega),Array.getElem?_setIfInBounds_ne (by omega),Array.getElem?_setIfInBounds_ne (by omega)];exact k0
  ·rw[Array.getElem?_setIfInBounds_ne (by omega),Array.getElem?_setIfInBounds_ne (by omega),Array.getElem?_setIfInBounds_ne (by omega)];exact k1
  ·rw[Array.getElem?_setIfInBounds_ne (by omega),Array.getElem?_setIfInBounds_ne (by omega),Array.getElem?_setIfInBounds_ne (by omega)];exact k2
structure OU (w:LC) (l:List cm) (S G:Nat) (v:Value) (k m:Nat) (wr:LC):Prop where
 bel:La w wr
 srv:bo wr (fun j=>j≠G/\IT S v j) S v (oQ l k)
 gl:Gl wr S
 reps:Pd wr G l m
 lo:w.heap.size<=S/\S < G
 own:v.ownBlock≠some G
theorem OU.more{wr'}{l:List cm}{G m}(h:OU w l S G v k m wr)(hb:La wr wr'):OU w l S G v k m wr':=⟨ab h.bel hb,h.srv.bel hb,h.gl.bel hb,h.reps.bel hb,h.lo,h.own⟩
theorem OU.put{l:List cm}{G}{q:cm}(h:OU w l S G v (k+1) k wr)(hq:l[k]?=some q):OU w l S G v (k+1) (k+1) (((wr.setCell ⟨G,k * 3,none⟩ (.int .i64 (je (oQ l k) q).2.code)).setCell ⟨G,k * 3+1,none⟩ (.int .i64 (je (oQ l k) q).2.n)).setCell ⟨G,k * 3+2,none⟩ (.string ⟨(je (oQ l k) q).2.body.toArray⟩)):=by
 have g9:wr.grownBy (((wr.setCell ⟨G,k * 3,none⟩ (.int .i64 (je (oQ l k) q).2.code)).setCell ⟨G,k * 3+1,none⟩ (.int .i64 (je (oQ l k) q).2.n)).setCell ⟨G,k * 3+2,none⟩ (.string ⟨(je (oQ l k) q).2.body.toArray⟩)) (some G):=ap (ap (ap (az _ _) _ _) _ _) _ _;have lo:=h.lo;refine⟨Jv h.bel g9 (fun j e9=>by cases e9;omega),h.srv.gr g9 (by omega) h.own (fun j hj=>hj.1),h.gl.gr (fun j h1 h2=>g9.block j h2 (by intro e9;cases e9;omega)) ⟨g9.os,g9.tape,g9.output,g9.size⟩,h.reps.step hq,h.lo,h.own⟩
theorem Py{l:List cm}{G}{q:cm}(h:OU w l S G v k k wr)(hq:l[k]?=some q)(hn:q.name.length<=9223372036854775807/\q.body.length<=9223372036854775807/\q.who.length<=9223372036854775807):Calls prog 22 #[.pointer (some ⟨S,0,none⟩),.agg (Lf q)] wr fun e w'=>∃ v',e=.returned (.agg #[.int .i64 (je (oQ l k) q).2.code,.int .i64 (je (oQ l k) q).2.n,.string ⟨(je (oQ l k) q).2.body.toArray⟩])/\OU w l S G v' (k+1) k w':=
 (Kd wr _ S v (oQ l k) q h.srv (Nc l k) h.gl hn.1 hn.2.1 hn.2.2).mono fun e w' hh=>by
  obtain⟨v',rfl,h1,h2,h3⟩:=hh;have lo:=h.lo;have hG:G < wr.heap.size:=by obtain⟨cs,h9,-⟩:=h.reps;exact(MF.1 h9).1
  refine⟨v',rfl,Ik h.bel h3 (by omega) (fun j hj=>by have:=h.srv.ne hj;omega),?_,h.gl.sfr h3 (fun j hj=>(h.srv.ne hj).1),h.reps.keep (h3.block G hG (by omega) h.own),h.lo,fun e9=>?_⟩
  ·rw[uD hq];exact h1.imp (fun j hj=>⟨by rcases hj.1 with h8 | h8;exact h8.1;omega,hj.2⟩) fun j hj=>hj.2
  ·rcases h2 G e9 with h8 | h8
   ·exact h.own h8
   ·omega
def Px (w:LC) (l:List cm) (e:Ending) (w':LC):Prop:=∃ G,e=.returned (.tuple #[.slice (some ⟨G,0,none⟩) l.length l.length,.int .i64 0])/\Pd w' G l l.length/\La w w'
theorem Ps(w)(l:List cm)(v)(hl:fc w l v)(LT:l.length<=300)(g1:cn w)(g2:bj w)(g3:di w):Calls prog 20 #[v] w fun e w'=>Px w l e w':=by
 obtain⟨va,vc,rfl⟩:=hl.form;have HNEW:=aa (JH w);have HGLB:=aa (Jq g1 g2 g3);have HACT:=aa hl;obtain⟨i0,hi0,hz0,hz1,hz2⟩:=info_parts Pv;have MAKE:Ll (∀ W:LC,(Instr.makeSlice 51 (.int .i64 (l.length:Int)) (.int .i64 (l.length:Int))).run prog W=.ok (.slice (some ⟨W.heap.size,0,none⟩) l.length l.length) (W.alloc (.cells (madeCells #[.int .i64 0,.int .i64 0,.string ⟨#[]⟩] (l.length * 3)) 31))):=fun W=>by
  have k:=run_make (P:=prog) W 51 31 i0 _ underlying51 hi0 hz0 .i64 .i64 (l.length:Int) (l.length:Int) (by omega) (Int.le_refl _) (by rw[hz2];omega) (by omega);rw[hz1]at k;simpa [Value.cells] using k
 have hgt:¬300 < (l.length:Int):=by omega
 clear hi0 hz0 hz1 hz2 hl g1 g2 g3;go_enter func20,ntmps20;go_upto_region 4 with (go_at_call 21;refine HNEW.o.mono ?_;rintro e w2 ⟨rfl,p1,p2⟩;have SRV2:=aa p1;have BEL2:=aa p2;clear p1 p2)
 have mk2:=MAKE.o w2;obtain⟨W3,hW3⟩:∃ W,W=w2.alloc (.cells (madeCells #[.int .i64 0,.int .i64 0,.string ⟨#[]⟩] (l.length * 3)) 31):=⟨_,rfl⟩
 have STT:Ll (OU w l w.heap.size w2.heap.size (.slice none 0 0) 0 0 W3):=aa (by
  have b3:La w2 W3:=by rw[hW3];exact ae _ _
  have e0:oQ l 0=vm:=by unfold oQ J4;simp
  refine⟨ab BEL2.o b3,?_,(HGLB.o.bel BEL2.o).bel b3,⟨_,by rw[hW3];exact MN _ _,by simp[madeCells],fun i q h=>by omega⟩,⟨MG _,SRV2.o.blk.lt⟩,by intro h;cases h⟩;rw[e0];exact(SRV2.o.imp (fun _ h=>h.elim) fun _ h=>h.2).bel b3)
 rw[<-hW3]at mk2;obtain⟨S,hS⟩:∃ S,S=w.heap.size:=⟨_,rfl⟩
 obtain⟨G,hG⟩:∃ G,G=w2.heap.size:=⟨_,rfl⟩
 rw[<-hG]at mk2 STT;rw[<-hS]at STT ⊢;clear hW3 hS hG SRV2 BEL2 HNEW HGLB MAKE;go_upto_region 6 with fail
 clear mk2;go_loopg [17] l.length (fun gk iv wr=>∃ k:Nat,k<=l.length/\gk=l.length - k/\iv=.int .i64 k/\∃ v9,Ll (OU w l S G v9 k k wr))
 case atStart=>exact⟨0,Nat.zero_le _,rfl,rfl,_,STT⟩
 case round=>
  obtain⟨k,hk,hgk,rfl,v9,HJJ⟩:=hrel;have HGK:=aa hgk;clear hgk STT;obtain⟨wo,hwo⟩:∃ wo,wo=wr:=⟨wr,rfl⟩
  subst hwo;by_cases hlt:k < l.length
  ·obtain⟨q,hq⟩:∃ q,l[k]?=some q:=⟨_,Mw hlt⟩
   have HQQ:=aa hq;have HQM:=aa (HACT.o.2.1 q (List.mem_of_getElem? hq));have k1:(k:Int) < (l.length:Int):=by omega
   have k3:(0:Int)<=(k:Int):=by omega
   obtain⟨b,off,rfl,j1,j2,c0,c1,c2,c3,c4,c5,c6,c7⟩:=HACT.o.at hq;have t0:=ah HJJ.o.bel c0;have t1:=ah HJJ.o.bel c1;have t2:=ah HJJ.o.bel c2;have t3:=ah HJJ.o.bel c3;have t4:=ah HJJ.o.bel c4;have t5:=ah HJJ.o.bel c5;have t6:=ah HJJ.o.bel c6;have t7:=ah HJJ.o.bel c7;clear hq c0 c1 c2 c3 c4 c5 c6 c7;obtain⟨W5,hW5⟩:∃ W,W=wo.alloc (.cells (Lf q) 28):=⟨_,rfl⟩
   have A5:Ll (La wo W5):=aa (by rw[hW5];exact ae _ _);have ABX:Ll (jC W5 wo.heap.size q):=aa (by rw[hW5];exact MN _ _);have HW5:=aa hW5;clear hW5;go_upto_region 8 with fail
   rw[<-HW5.o];clear t0 t1 t2 t3 t4 t5 t6 t7;have HDO:=aa (Py (HJJ.o.more A5.o) HQQ.o HQM.o);have q0_:=ABX.o.c;obtain⟨r,hr⟩:∃ r,(je (oQ l k) q).2=r:=⟨_,rfl⟩
   have HRR:=aa hr;rw[hr]at HDO;clear hr;go_upto_region 9 with (go_at_call 22;refine HDO.o.mono ?_;rintro e w7 ⟨v7,rfl,p1⟩;have RI7:=aa p1;obtain⟨u0,u1,u2,n0,n1,n2,m0,m1,m2⟩:=p1.reps.cells hlt;clear p1)
   obtain⟨W9,hW9⟩:∃ W,W=((w7.setCell ⟨G,k * 3,none⟩ (.int .i64 r.code)).setCell ⟨G,k * 3+1,none⟩ (.int .i64 r.n)).setCell ⟨G,k * 3+2,none⟩ (.string ⟨r.body.toArray⟩):=⟨_,rfl⟩
   have RI9:Ll (OU w l S G v7 (k+1) (k+1) W9):=aa (by rw[hW9,<-HRR.o];exact RI7.o.put HQQ.o);rw[<-hW9];clear hW9;go_wp2
   go_roundg (l.length - (k+1))
   case measure=>rw[HGK.o];omega
   case rel=>exact⟨k+1,hlt,rfl,by go_num,v7,RI9⟩
  ·have d9:¬(k:Int) < (l.length:Int):=by omega
   have Mc:k=l.length:=by omega
   have FIN:Ll (Pd wo G l l.length/\La w wo):=aa (by rw[<-Mc];exact⟨HJJ.o.reps,HJJ.o.bel⟩);clear Mc;go_wp2
   refine MM (v:=.tuple #[.slice (some ⟨G,0,none⟩) l.length l.length,.int .i64 0]) ?_ rfl ?_
   ·simp[results,results20,go_sem]
   ·exact⟨G,rfl,FIN.o.1,FIN.o.2⟩
theorem fc.take{w}{l:List cm}{a n c m}(h:fc w l (.slice a n c))(hm:m<=l.length):fc w (l.take m) (.slice a m c):=by
 refine⟨by rw[List.length_take];have:=h.1;omega,fun q hq=>h.2.1 q (List.mem_of_mem_take hq),?_⟩;rcases h.2.2 with⟨rfl,a9,e9⟩ | ⟨b1,off,c9,e9,h1,h2,h3⟩
 ·simp only[Value.slice.injEq]at e9;obtain⟨rfl,-,rfl⟩:=e9;obtain rfl:m=0:=by simpa using hm
  exact .inl ⟨rfl,_,rfl⟩
 ·simp only[Value.slice.injEq]at e9;obtain⟨rfl,-,rfl⟩:=e9;refine .inr ⟨b1,off,c,by rw[List.length_take,Nat.min_eq_left hm],by rw[List.length_take];omega,h2,fun i q hq=>?_⟩;refine h3 i q ?_;have hi:=(List.getElem?_eq_some_iff.1 hq).1;rw[List.length_take]at hi;rw[<-hq,List.getElem?_take,if_pos (by omega)]
theorem Pi{l:List cm}{m i}(h:i<=m):oQ (l.take m) i=oQ l i:=by
 unfold oQ;rw[List.take_take,Nat.min_eq_left h]
theorem Pf(n:Int)(m:Nat):-((m:Int)+1) < Int.tmod n ((m:Int)+1)/\Int.tmod n ((m:Int)+1) < (m:Int)+1:=by
 have h1:=Int.lt_tmod_of_pos n (show (0:Int) < (m:Int)+1 by omega);have h2:=Int.tmod_lt_of_pos n (show (0:Int) < (m:Int)+1 by omega);omega
theorem Pp(n:Int)(m:Nat):∃ k:Nat,k<=m/\Int.tmod (Int.tmod n ((m:Int)+1)+(m:Int)+1) ((m:Int)+1)=(k:Int):=by
 have h1:=Pf n m;have h2:=Int.tmod_nonneg ((m:Int)+1) (show 0<=Int.tmod n ((m:Int)+1)+(m:Int)+1 by omega);have h3:=Int.tmod_lt_of_pos (Int.tmod n ((m:Int)+1)+(m:Int)+1) (show (0:Int) < (m:Int)+1 by omega);exact⟨(Int.tmod (Int.tmod n ((m:Int)+1)+(m:Int)+1) ((m:Int)+1)).toNat,by omega,by omega⟩
theorem topRuns_at(w)(l:List cm)(v n)(hl:fc w l v)(hn:dW n)(h1:cn w)(h2:bj w)(h3:di w):Calls prog 7 #[v,.int .i64 n] w fun e w'=>e=.returned (.bool true)/\Below w.heap.size w w':=by
 obtain⟨va,vc,rfl⟩:=hl.form;have ALIV:Ll (∀ W,Below w.heap.size w W->Calls prog 19 #[] W fun e w'=>e=.returned (.bool true)/\Below W.heap.size W w'):=aa (fun W hW=>Fb W (h1.grown (r:=none) (aq hW) (by simp)) (h2.bel hW) (h3.bel hW));have RUN:Ll (∀ W (l':List cm) (v':Value),Below w.heap.size w W->fc W l' v'->l'.length<=100->Calls prog 20 #[v'] W fun e w'=>Px W l' e w'):=aa (fun W l' v' hW ha hl'=>Ps W l' v' ha (by omega) (h1.grown (r:=none) (aq hW) (by simp)) (h2.bel hW) (h3.bel hW));have HACT:=aa hl;have hll:=hl.1;clear hl h1 h2 h3;have AL0:=aa (ALIV.o w (Below.refl _ _));by_cases hbig:100 < (l.length:Int)
 ·go_enter func7,ntmps7;go_upto_region 2 with (go_at_call 19;refine AL0.o.mono ?_;rintro e w1 ⟨rfl,p1⟩;have BEL1:=aa p1;have AL1:=aa (ALIV.o w1 p1);clear p1)
  go_wp2_with (go_at_call 19;refine AL1.o.mono ?_;rintro e w3 ⟨rfl,p1⟩;have BEL3:=aa (ab BEL1.o p1);clear p1)
  go_ret;exact⟨rfl,BEL3.o⟩
 obtain⟨m,hm,hmk⟩:=Pp n l.length;have HMK:=aa hmk;clear hmk;go_enter func7,ntmps7;go_upto_region 3 with (go_at_call 19;refine AL0.o.mono ?_;rintro e w1 ⟨rfl,p1⟩;have BEL1:=aa p1;clear p1)
 go_upto_region 4 with fail
 have r1:-((l.length:Int)+1) < n.tmod ((l.length:Int)+1)/\n.tmod ((l.length:Int)+1) < (l.length:Int)+1:=Pf n l.length;have e1:wrap64 (n.tmod ((l.length:Int)+1)+(l.length:Int))=n.tmod ((l.length:Int)+1)+(l.length:Int):=by unfold wrap64;omega
 have e2:wrap64 (n.tmod ((l.length:Int)+1)+(l.length:Int)+1)=n.tmod ((l.length:Int)+1)+(l.length:Int)+1:=by unfold wrap64;omega
 rw[e1,e2,HMK.o];clear e1 e2 r1 HMK hn;obtain⟨x0,hx0⟩:∃ x,x=n.tmod ((l.length:Int)+1):=⟨_,rfl⟩
 rw[<-hx0];clear hx0;have A1:=aa (HACT.o.bel BEL1.o);obtain⟨vvA,wA,ra,pa,bbA⟩:=O7 w1 l (.slice va l.length vc) A1.o (by omega) 22;have HRA:=aa ra;have RUNA:=aa (RUN.o wA l vvA (ab BEL1.o bbA) pa (by omega));have BELA:=aa (ab BEL1.o bbA);clear ra pa bbA;go_upto_region 5 with (at_builtin;go_must (refine Lib.wpList_append_run _ rfl _ _ _ _ rfl (.slice none 0 0) (.slice va l.length vc) rfl rfl _ _ (by exact HRA.o) ?_);refine Ll.o ?_)
 refine aa ?_;go_upto_region 5 with (go_at_call 20;refine RUNA.o.mono ?_;rintro e w2 ⟨Gaa,rfl,p1,p2⟩;have RPA:=aa p1;have BEL2:=aa (ab BELA.o p2);clear p1 p2)
 have A2:=aa ((HACT.o.bel BEL2.o).take hm);have hmc:m<=vc:=by
  rcases HACT.o.2.2 with⟨e9,a9,h9⟩ | ⟨b1,off,c9,h9,k1,k2,k3⟩
  ·rw[e9]at hm;simp at hm;omega
  ·simp only[Value.slice.injEq]at h9;omega
 have htl:(l.take m).length=m:=by rw[List.length_take,Nat.min_eq_left hm]
 obtain⟨vvB,wB,rb,pb,bb⟩:=O7 w2 (l.take m) (.slice va m vc) A2.o (by rw[htl];omega) 22;have HRB:=aa rb;have RUNB0:=RUN.o wB (l.take m) vvB (ab BEL2.o bb) pb (by rw[htl];omega);unfold Px at RUNB0;rw[htl]at RUNB0;have RUNB:=aa RUNB0;have BELB:=aa (ab BEL2.o bb);have RPB2:=aa (RPA.o.bel bb);clear rb pb bb RUNB0 RUNA BELA HRA htl;have m0:(0:Int)<=(m:Int):=by omega
 have m1:(m:Int)<=(vc:Int):=by omega
 go_upto_region 6 with (at_builtin;go_must (refine Lib.wpList_append_run _ rfl _ _ _ _ rfl (.slice none 0 0) (.slice va m vc) rfl rfl _ _ (by exact HRB.o) ?_);refine Ll.o ?_)
 refine aa ?_;go_upto_region 6 with (go_at_call 20;refine RUNB.o.mono ?_;rintro e w4 ⟨Gbb,rfl,p1,p2⟩;have RPB:=aa p1;have RPA4:=aa (RPB2.o.bel p2);have BEL4:=aa (ab BELB.o p2);clear p1 p2)
 clear RUNB HRB RPB2 BELB RPA BEL2 A2 m1 hmc;go_upto_region 9 with fail
 go_loopg [9] m (fun gk iv wr=>∃ k:Nat,k<=m/\gk=m - k/\iv=.int .i64 k/\Ll (∃ j,wr=w4.drewN j))
 case atStart=>exact⟨0,Nat.zero_le _,rfl,rfl,aa ⟨0,rfl⟩⟩
 case round=>
  obtain⟨k,hk,hgk,rfl,DRW⟩:=hrel;have HGK:=aa hgk;clear hgk;by_cases hlt:k < m
  ·have hkl:k < l.length:=by omega
   have k1:(k:Int) < (m:Int):=by omega
   have k2:(k:Int) < (l.length:Int):=by omega
   have k3:(0:Int)<=(k:Int):=by omega
   have wk:IntKind.i64.wrap ((k:Int)+1)=(k:Int)+1:=by rw[IntKind.wrap_i64];omega
   obtain⟨q,hq⟩:∃ q,l[k]?=some q:=⟨_,List.getElem?_eq_getElem hkl⟩
   obtain⟨c0,c1,c2⟩:=RPA4.o.reply hkl hq;obtain⟨d0,d1,d2⟩:=RPB.o.reply hlt (show (l.take m)[k]?=some q by rw[List.getElem?_take,if_pos hlt];exact hq);rw[Pi (Nat.le_of_lt hlt)]at d0 d1 d2;generalize (je (oQ l k) q).2=r at c0 c1 c2 d0 d1 d2;have t0:=gY DRW.o c0;have t1:=gY DRW.o c1;have t2:=gY DRW.o c2;have t3:=gY DRW.o d0;have t4:=gY DRW.o d1;have t5:=gY DRW.o d2;have DRM:=aa (DF DRW.o);clear c0 c1 c2 d0 d1 d2 hq;go_upto_region 11 with fail
   go_region
   go_wp2_with fail
   go_roundg (m - (k+1))
   case measure=>rw[HGK.o];omega
   case rel=>exact⟨k+1,hlt,rfl,by go_num,DRM⟩
  ·have d9:¬(k:Int) < (m:Int):=by omega
   have FIN:=aa (ab BEL4.o (pE DRW.o));go_wp2_with fail
   go_ret;exact⟨rfl,FIN.o⟩
end Go.Proofs.YtfpcghnhjlnnoaaGreatDoor
namespace Go.Proofs.YtfpcghnhjlnnoaaGreatDoor.topRuns
open Go.ChangeShapes Go.WideShapes Go.ChangeAt Go.RowKit
open Go.ChangeMaps (open_string shut_string)
theorem mf(H:Type)(enc:TypeId × Value->H)(W:World)(base:Nat)(args:Array Value)(ds gs:List (DataW H))(before:List MemPlace)(hval:∀ (j:Nat) t v,Tryz.f7.params[j]?=some t->args[j]?=some v->Value.okWide Tryz.prog W .any base t v)(hW:DataW.Whole enc Tryz.prog Tryz.f7.params.toList Rows.topRunsSpec.vars false W args.toList ds gs before)(hZ:(DataW.weightsEach Tryz.prog (Tryz.f7.params.toList++(OpenSpec.ofChange Rows.topRunsSpec).bare.plain.varTypes Tryz.prog) (ds++gs)).all (·<=reachBytes)=true)(hL:laidMet Tryz.prog lS W)(hS:W.ShapedOpen Tryz.prog):Calls Tryz.prog 7 args W fun e W'=>∃ v,e=.returned v/\Rows.topRunsSpec.post enc Tryz.prog Tryz.f7 false true false false W args v W':=by
 have hW':=hW;obtain⟨p,q,hA0,hV,rfl,hfz,hnd⟩:=hW;have hA:DataW.TrodAll enc Tryz.prog W 0 (fun _=>true) true Tryz.f7.params.toList args.toList ds p:=hA0;rw[Tryz.params7]at hA hval;obtain⟨v0,vs0,d0,ds0,p0,q0,hargs0,rfl,rfl,h0,r0⟩:=trodAll_cons hA;obtain⟨v1,vs1,d1,ds1,p1,q1,hargs1,rfl,rfl,h1,r1⟩:=trodAll_cons r0;obtain⟨rfl,rfl,rfl⟩:=trodAll_nil r1;subst hargs1;have hargs:args=#[v0,v1]:=by
  obtain⟨l⟩:=args;exact congrArg Array.mk hargs0
 subst hargs;obtain⟨rfl,rfl⟩:=trodVars_none hV;have k0:Value.okWide Tryz.prog W .any base 22 v0:=hval 0 _ _ (by simp) (by simp);have k1:Value.okWide Tryz.prog W .any base 3 v1:=hval 1 _ _ (by simp) (by simp);obtain⟨os0,hv0⟩:=arg_acts k0 h0;obtain⟨n1,rfl,rfl,rfl,wn1⟩:=open_int Tryz.underlying3 k1 h1;clear hA0;simp only[List.append_nil]at hW';have walk:=topRuns_at W os0 v0 n1 hv0 (Pu wn1) (glob_top hL) (zS hS) (glob_topw hL);refine walk.mono fun e W' ⟨he,hg⟩=>?_;subst he;have ef:Rows.topRunsSpec.fn H ([d0,.lit (.int .i64 n1)]++[])={ results:=[.lit (.bool true)],args:=[d0,.lit (.int .i64 n1)] }:=rfl;refine⟨_,rfl,_,_,_,[],(p0++([]++[])),[],hW',?_,?_,?_,hg.frame _,fun h=>by cases h⟩
 ·rw[ef];exact trodAll_mk1 (shut_bool Tryz.underlying4 _)
 ·rw[ef,Tryz.params7];exact trodAll_cons_mk (Below.trod oI pr Al h0 hg (lK h0)) (trodAll_cons_mk (shut_int Tryz.underlying3 wn1) (trodAll_mk0))
 ·rw[ef];rfl
theorem sd(os:Os){H:Type}(enc:TypeId × Value->H):∃ places,DataW.whole enc Tryz.prog ((kr os).forCall (fun _ _=>0) ⟨#[],#[.slice none 0 0,.int .i64 0],[]⟩).memory Tryz.f7.params.toList Rows.topRunsSpec.vars false #[Value.slice none 0 0,Value.int .i64 0].toList 8=some ([.nil,.lit (.int .i64 0)],[],places):=
 ⟨[],by kernel_rfl⟩
theorem xX(os:Os)(started:os.Started)(H:Type)(enc:TypeId × Value->H)(F:Stop.Interp):ReturnsInHanded {} Tryz.checked os 7 .any ((OpenSpec.ofChange Rows.topRunsSpec).preRow enc Tryz.prog Tryz.f7 Rows.topRunsRow.domain false Rows.topRunsRow.laid) (((OpenSpec.ofChange Rows.topRunsSpec).at F).post enc Tryz.prog Tryz.f7 false true false false):=by
 obtain⟨places,hx⟩:=sd os enc;refine returnsInHanded_of_row (C:=Tryz.checked) (s:=OpenSpec.ofChange Rows.topRunsSpec) own started (by kernel_rfl) Tryz.func7
  (witness_row_at (enc:=enc) (C:=Tryz.checked) false (kr os) #[.slice none 0 0,.int .i64 0] rfl (by kernel_rfl) (by kernel_rfl) (by kernel_rfl)
   (OpenSpec.preRow_of_cond 8 hx (by kernel_rfl) (fun k hk=>by cases hk) (by kernel_rfl) (Af os _))) ?_
 intro W base args ds gs before hval hW _ _ hZ hL hS _;exact mf H enc W base args ds gs before hval hW hZ hL hS
theorem Oz:(Rows.topRunsRow.inPlace == Tryz.prog.inPlace 7)=true:=by kernel_rfl
theorem OA:(Rows.topRunsRow.unfollowed == Tryz.prog.unfollowed 7)=true:=by kernel_rfl
theorem OH:(Rows.topRunsRow.recurses == Tryz.prog.recurses 7)=true:=by kernel_rfl
theorem OF:(Rows.topRunsRow.named == Tryz.prog.varsNamed 7)=true:=by kernel_rfl
theorem Oy:(Rows.topRunsRow.plainKeys == Tryz.prog.plainKeys)=true:=by kernel_rfl
theorem OC:(Rows.topRunsRow.lifted == Tryz.prog.liftsFinal)=true:=by kernel_rfl
theorem Ox:joinedFacts Tryz.prog 7 Tryz.f7 (OpenSpec.ofChange Rows.topRunsSpec).bare Rows.topRunsRow=true:=
 Oq (Oq (Oq (Oq (Oq (Oq (Oq (Oq (Oq (Oq (Oq (Oq (Oq (Oq (Oq (Oq (Oq (Oq (Oq (Oq (Oq (Oq (Oq (Oq (Oq (Oq (Oq (Oq (Oq (Oq (Oq (by kernel_rfl) Ov) Ow) (by kernel_rfl)) (by kernel_rfl)) (by kernel_rfl)) (by kernel_rfl)) (by kernel_rfl)) (by kernel_rfl)) Oz) OA) OH) OF) (by kernel_rfl)) (by kernel_rfl)) (by kernel_rfl)) (by kernel_rfl)) (by kernel_rfl)) (by kernel_rfl)) (by kernel_rfl)) (by kernel_rfl)) (by kernel_rfl)) Oy) (by kernel_rfl)) Ot) Ou) OC) (by kernel_rfl)) (by kernel_rfl)) (by kernel_rfl)) (by kernel_rfl)) (by kernel_rfl)
theorem iZ:Rows.TopRunsSaid:=
 OpenClaim.holds_of_cond 7 Tryz.f7 rfl rfl rfl rfl rfl rfl rfl ⟨rfl,rfl,rfl,rfl,rfl⟩ rfl rfl rfl rfl rfl (by kernel_rfl) Tryz.func7 Ox
  (of_decide_eq_true (by kernel_rfl)) (by unfold Func.isWrapper;first | (rw[if_pos (by decide +kernel)];kernel_rfl) | (rw[if_neg (by decide +kernel)];exact⟨rfl,rfl⟩))
  (fun os started H enc _ F=>by rw[OpenClaim.pre_eq_preRow];exact xX os started H enc F)
theorem nD(f:FuncId)(fn:Func)(hf:Tryz.pinned.checked.prog.funcNamed "stairwell/stairwelltop.TopRuns"=some f)(hfn:Tryz.pinned.checked.prog.funcs[f]?=some fn):true=Tryz.pinned.checked.prog.looks []/\∀ (j:Nat) t,fn.params[j]?=some t->Tryz.pinned.checked.prog.wantsStandIn t=false:=by
 obtain rfl:f=7:=Option.some.inj ((show Tryz.prog.funcNamed "stairwell/stairwelltop.TopRuns"=some 7 by kernel_rfl).symm.trans hf) |>.symm
 obtain rfl:fn=Tryz.f7:=(Option.some.inj (Tryz.func7.symm.trans hfn)).symm;refine⟨by kernel_rfl,fun j t ht=>?_⟩;rw[Tryz.params7]at ht;have hm:=Array.mem_of_getElem? ht;simp only[Array.mem_def,List.mem_cons,List.not_mem_nil,or_false]at hm;rcases hm with rfl | rfl
 ·exact(show Tryz.prog.wantsStandIn 22=false by kernel_rfl)
 ·exact(show Tryz.prog.wantsStandIn 3=false by kernel_rfl)
theorem card:Rows.TopRunsCardSaid:=
 Claim7.holds_tied_plain_at .later [] _ _ _ _ iZ (fun _ h=>by cases h) (by kernel_rfl) (fun _ h=>by cases h) topRuns_row_tie rfl ⟨rfl,rfl⟩ (by kernel_rfl) rfl nD (by kernel_rfl)
end Go.Proofs.YtfpcghnhjlnnoaaGreatDoor.topRuns
