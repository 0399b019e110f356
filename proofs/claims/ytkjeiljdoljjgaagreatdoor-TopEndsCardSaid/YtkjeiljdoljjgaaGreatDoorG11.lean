import Derived.Test.YtkjeiljdoljjgaaGreatDoorG2
import Derived.Test.YtkjeiljdoljjgaaGreatDoorG5
import Derived.Test.YtkjeiljdoljjgaaGreatDoorG6
set_option maxRecDepth 100000
set_option maxHeartbeats 40000000
set_option linter.unusedSimpArgs false
set_option linter.unusedVariables false
namespace Go.Proofs.YtkjeiljdoljjgaaGreatDoor
open Go.RowKit
open _root_.Go.Proofs.Tryz
variable {i:Nat}
theorem ki:∀ (a b:Lz),Lib.compareBytes a b < 0↔Op.bytesLess a b=true
 | [],[]=>by simp[Lib.compareBytes,Op.bytesLess]
 | [],_ :: _=>by simp[Lib.compareBytes,Op.bytesLess]
 | _ :: _,[]=>by simp[Lib.compareBytes,Op.bytesLess]
 | x :: a,y :: b=>by
  have ih:=ki a b;simp only[Lib.compareBytes,Op.bytesLess,Bool.or_eq_true,MJ,decide_eq_true_eq,beq_iff_eq];by_cases h1:x < y
  ·simp[h1]
  ·by_cases h2:y < x
   ·have:x≠y:=fun e=>by subst e;exact h1 h2
    simp[h1,h2,this]
   ·have:x=y:=by
     rw[UInt8.lt_iff_toNat_lt]at h1 h2;exact UInt8.toNat_inj.1 (by omega)
    simp[h1,h2,this,ih]
theorem oO:∀ (a b:Lz),Lib.compareBytes a b=0↔a=b
 | [],[]=>by simp[Lib.compareBytes]
 | [],_ :: _=>by simp[Lib.compareBytes]
 | _ :: _,[]=>by simp[Lib.compareBytes]
 | x :: a,y :: b=>by
  have ih:=oO a b;simp only[Lib.compareBytes,List.cons.injEq];by_cases h1:x < y
  ·have:x≠y:=fun e=>by subst e;exact UInt8.lt_irrefl _ h1
   simp[h1,this]
  ·by_cases h2:y < x
   ·have:x≠y:=fun e=>by subst e;exact h1 h2
    simp[h1,h2,this]
   ·have:x=y:=by
     rw[UInt8.lt_iff_toNat_lt]at h1 h2;exact UInt8.toNat_inj.1 (by omega)
    simp[h1,h2,this,ih]
def gK (ks:List Lz) (p:Lz) (lo hi:Nat):Prop:=(∀ t x,t < lo->ks[t]?=some x->Op.bytesLess x p=true)/\(∀ t x,hi<=t->ks[t]?=some x->Op.bytesLess x p=false)
theorem tR{ks p lo hi m}(hr:bD ks)(h:gK ks p lo hi)(hm:m < ks.length)(hl:Op.bytesLess ks[m] p=true):gK ks p (m+1) hi:=by
 refine⟨fun t x ht hx=>?_,h.2⟩;by_cases e:t=m
 ·subst e;rw[Mw hm]at hx;cases hx;exact hl
 ·obtain⟨ht2,rfl⟩:=Mz.1 hx;exact cP _ _ _ (List.pairwise_iff_getElem.1 hr t m ht2 hm (by omega)) hl
theorem mK{ks p lo hi m}(hr:bD ks)(h:gK ks p lo hi)(hm:m < ks.length)(hl:Op.bytesLess ks[m] p=false):gK ks p lo m:=by
 refine⟨h.1,fun t x ht hx=>?_⟩;by_cases e:t=m
 ·subst e;rw[Mw hm]at hx;cases hx;exact hl
 ·obtain⟨ht2,rfl⟩:=Mz.1 hx;cases h9:Op.bytesLess ks[t] p with
  | false=>rfl
  | true=>
   have:=cP _ _ _ (List.pairwise_iff_getElem.1 hr m t hm ht2 (by omega)) h9;rw[hl]at this;cases this
theorem jm:∀ (ks:List Lz) (p:Lz) (i:Nat),i<=ks.length->gK ks p i i->ks.countP (fun x=>Op.bytesLess x p)=i
 | [],p,i,hi,_=>by simp at hi;simp[hi]
 | a :: r,p,0,_,h=>by
  rw[List.countP_eq_zero];intro x hx;obtain⟨t,ht,rfl⟩:=List.getElem_of_mem hx;rw[h.2 t _ (Nat.zero_le _) (Mw ht)];simp
 | a :: r,p,i+1,hi,h=>by
  rw[List.countP_cons_of_pos (p:=fun x=>Op.bytesLess x p) (h.1 0 a (by omega) rfl),jm r p i (by simpa using hi) ⟨fun t x ht hx=>h.1 (t+1) x (by omega) (by simpa using hx),fun t x ht hx=>h.2 (t+1) x (by omega) (by simpa using hx)⟩]
theorem pz{ks p}(h:gK ks p i i)(hi:i < ks.length)(hr:bD ks):ks.contains p=decide (ks[i]=p):=by
 rw[Bool.eq_iff_iff,List.contains_iff_mem,decide_eq_true_eq];constructor
 ·intro hm;obtain⟨t,ht,e⟩:=List.getElem_of_mem hm;have h1:i<=t:=by
   apply Classical.byContradiction;intro h9;have:=h.1 t _ (by omega) (Mw ht);rw[e,cd]at this;cases this
  by_cases e2:t=i
  ·subst e2;exact e
  ·have h3:=List.pairwise_iff_getElem.1 hr i t hi ht (by omega);rw[e,h.2 i _ (MG _) (Mw hi)]at h3;cases h3
 ·intro e;rw[<-e];exact List.getElem_mem _
theorem mI{ks p}(h:gK ks p i i)(hi:ks.length<=i):ks.contains p=false:=by
 rw[Bool.eq_false_iff];intro hm;rw[List.contains_iff_mem]at hm;obtain⟨t,ht,e⟩:=List.getElem_of_mem hm;have:=h.1 t _ (by omega) (Mw ht);rw[e,cd]at this;cases this
theorem yg(w:LC)(ok xs v p)(h:ao w ok xs v)(hr:bD xs)(hn:xs.length < 4611686018427387904):Calls prog 161 #[v,.string ⟨p.toArray⟩,.func (.func 44) #[] #[]] w fun e w'=>e=.returned (.tuple #[.int .i64 (xs.countP (fun x=>Op.bytesLess x p):Nat),.bool (xs.contains p)])/\La w w':=by
 obtain⟨a,c,rfl⟩:=h.form;have H:=aa h;have HR:=aa hr;clear h hr;go_enter func161,ntmps161;go_wp2_with fail
 go_loopg [9,10] xs.length (fun kx s9 s10 wr=>∃ lo hi:Nat,s9=.int .i64 lo/\s10=.int .i64 hi/\lo<=hi/\hi<=xs.length/\hi - lo<=kx/\Ll (gK xs p lo hi)/\Ll (La w wr))
 case atStart=>exact⟨0,xs.length,rfl,rfl,Nat.zero_le _,MG _,by omega,aa ⟨fun t x ht=>absurd ht (Nat.not_lt_zero _),fun t x ht hx=>by rw[List.getElem?_eq_none ht]at hx;cases hx⟩,MK _ _⟩
 case round=>
  obtain⟨lo,hi,rfl,rfl,hlh,hin,hg,I,BL⟩:=hrel;by_cases hlt:lo < hi
  ·have hm:(lo+hi) / 2 < xs.length:=by omega
   obtain⟨b,off,rfl,j1,j2,k1⟩:=gQ H.o hm;unfold maxLen at j2;have c1:=ah BL.o k1;clear k1;have UP:Ll (Lib.compareBytes xs[(lo+hi) / 2] p < 0->gK xs p ((lo+hi) / 2+1) hi):=fun h9=>tR HR.o I.o hm ((ki _ _).1 h9);have DN:Ll (¬Lib.compareBytes xs[(lo+hi) / 2] p < 0->gK xs p lo ((lo+hi) / 2)):=fun h9=>mK HR.o I.o hm (by rw[Bool.eq_false_iff];exact fun h8=>h9 ((ki _ _).2 h8));have CALL:=Tryz.strCompare ⟨xs[(lo+hi) / 2].toArray⟩ ⟨p.toArray⟩ wr;simp only[List.toList_toArray]at CALL;obtain⟨r,hr⟩:∃ r,Lib.compareBytes xs[(lo+hi) / 2] p=r:=⟨_,rfl⟩
   rw[hr]at CALL UP DN;clear hr;by_cases hyx:r < 0
   ·go_wp2_with (go_at_call 44;refine CALL.mono ?_;rintro e w' ⟨rfl,hw1⟩;have hw2:=hw1.symm;subst hw2;clear hw1)
    go_roundg (hi - ((lo+hi) / 2+1))
    case measure=>omega
    case rel=>exact⟨(lo+hi) / 2+1,hi,by rw[show ((lo:Int)+(hi:Int)) / 2+1=(((lo+hi) / 2+1:Nat):Int) by omega],rfl,by omega,hin,MG _,aa (UP.o hyx),BL⟩
   ·go_wp2_with (go_at_call 44;refine CALL.mono ?_;rintro e w' ⟨rfl,hw1⟩;have hw2:=hw1.symm;subst hw2;clear hw1)
    go_roundg ((lo+hi) / 2 - lo)
    case measure=>omega
    case rel=>exact⟨lo,(lo+hi) / 2,rfl,by rw[show ((lo:Int)+(hi:Int)) / 2=(((lo+hi) / 2:Nat):Int) by omega],by omega,by omega,MG _,aa (DN.o hyx),BL⟩
  ·obtain rfl:hi=lo:=by omega
   have CN:=aa (jm xs p hi hin I.o);by_cases hn:hi < xs.length
   ·obtain⟨b,off,rfl,j1,j2,k1⟩:=gQ H.o hn;unfold maxLen at j2;have c1:=ah BL.o k1;clear k1;have HS:=aa (pz I.o hn HR.o);have E0:Ll (Lib.compareBytes xs[hi] p=0↔xs[hi]=p):=oO _ _;have CALL:=Tryz.strCompare ⟨xs[hi].toArray⟩ ⟨p.toArray⟩ wr;simp only[List.toList_toArray]at CALL;obtain⟨r,hr⟩:∃ r,Lib.compareBytes xs[hi] p=r:=⟨_,rfl⟩
    rw[hr]at CALL E0;clear hr;by_cases hyx:r=0
    ·have R:Ll (xs.contains p=true):=aa (by rw[HS.o];exact decide_eq_true (E0.o.1 hyx));subst hyx;go_wp2_with (go_at_call 44;refine CALL.mono ?_;rintro e w' ⟨rfl,hw1⟩;have hw2:=hw1.symm;subst hw2;clear hw1)
     go_ret2
     exact⟨by rw[R.o,CN.o];first | done | rfl | simp,BL.o⟩
    ·have R:Ll (xs.contains p=false):=aa (by rw[HS.o];exact decide_eq_false (fun h9=>hyx (E0.o.2 h9)));have e9:(r == 0)=false:=by rw[MO];exact hyx
     clear hyx;go_wp2_with (go_at_call 44;refine CALL.mono ?_;rintro e w' ⟨rfl,hw1⟩;have hw2:=hw1.symm;subst hw2;clear hw1)
     go_ret2
     exact⟨by rw[R.o,CN.o];first | done | rfl | simp,BL.o⟩
   ·have R:=aa (mI I.o (by omega));go_wp2_with fail
    go_ret2
    exact⟨by rw[R.o,CN.o];first | done | rfl | simp,BL.o⟩
theorem nP(w n p v):Calls prog 171 #[.agg #[.string ⟨n.toArray⟩,v],.string ⟨p.toArray⟩] w fun e w'=>e=.returned (.int .i64 (Lib.compareBytes n p))/\La w w':=by
 have CALL:Ll (∀ W,Calls prog 44 #[.string ⟨n.toArray⟩,.string ⟨p.toArray⟩] W fun e w'=>e=.returned (.int .i64 (Lib.compareBytes n p))/\w'=W):=fun W=>by
  have:=Tryz.strCompare ⟨n.toArray⟩ ⟨p.toArray⟩ W;simpa only[List.toList_toArray] using this
 obtain⟨r,hr⟩:∃ r,Lib.compareBytes n p=r:=⟨_,rfl⟩
 rw[hr]at CALL ⊢;clear hr;go_enter func171,ntmps171;go_wp2_with (go_at_call 44;refine(CALL.o _).mono ?_;rintro e w' ⟨rfl,hw1⟩;have hw2:=hw1.symm;subst hw2;clear hw1)
 go_ret;exact⟨rfl,ae _ _⟩
theorem xP(w:LC)(ok xs v p)(h:aB w ok xs v)(hr:bD (xs.map aL.name))(hn:xs.length < 4611686018427387904):Calls prog 170 #[v,.string ⟨p.toArray⟩,.func (.func 171) #[] #[]] w fun e w'=>e=.returned (.tuple #[.int .i64 (bB xs p:Nat),.bool ((xs.map aL.name).contains p)])/\La w w':=by
 obtain⟨a,c,rfl⟩:=h.form;have H:=aa h;have HR:=aa hr;have LM:(xs.map aL.name).length=xs.length:=List.length_map _;have PL:Ll (bB xs p=(xs.map aL.name).countP (fun x=>Op.bytesLess x p)):=aa (by unfold bB;rw[List.countP_map];rfl);have LMH:=aa LM;clear h hr LM;go_enter func170,ntmps170;go_wp2_with fail
 go_loopg [9,10] xs.length (fun kx s9 s10 wr=>∃ lo hi:Nat,s9=.int .i64 lo/\s10=.int .i64 hi/\lo<=hi/\hi<=xs.length/\hi - lo<=kx/\Ll (gK (xs.map aL.name) p lo hi)/\Ll (La w wr))
 case atStart=>exact⟨0,xs.length,rfl,rfl,Nat.zero_le _,MG _,by omega,aa ⟨fun t x ht=>absurd ht (Nat.not_lt_zero _),fun t x ht hx=>by rw[List.getElem?_eq_none (by rw[LMH.o];exact ht)]at hx;cases hx⟩,MK _ _⟩
 case round=>
  obtain⟨lo,hi,rfl,rfl,hlh,hin,hg,I,BL⟩:=hrel;by_cases hlt:lo < hi
  ·have hm:(lo+hi) / 2 < xs.length:=by omega
   obtain⟨b,off,pa,pc,rfl,j1,j2,k1,k2,-,-⟩:=H.o.at hm;have c1:=ah BL.o k1;have c2:=ah BL.o k2;clear k1 k2;have UP:Ll (Lib.compareBytes xs[(lo+hi) / 2].name p < 0->gK (xs.map aL.name) p ((lo+hi) / 2+1) hi):=fun h9=>tR HR.o I.o (by rw[LMH.o];exact hm) (by rw[List.getElem_map];exact(ki _ _).1 h9);have DN:Ll (¬Lib.compareBytes xs[(lo+hi) / 2].name p < 0->gK (xs.map aL.name) p lo ((lo+hi) / 2)):=fun h9=>mK HR.o I.o (by rw[LMH.o];exact hm) (by rw[List.getElem_map,Bool.eq_false_iff];exact fun h8=>h9 ((ki _ _).2 h8));have CALL:Ll (∀ W,Calls prog 171 #[.agg #[.string ⟨xs[(lo+hi) / 2].name.toArray⟩,.slice pa xs[(lo+hi) / 2].paths.length pc],.string ⟨p.toArray⟩] W fun e w'=>e=.returned (.int .i64 (Lib.compareBytes xs[(lo+hi) / 2].name p))/\La W w'):=fun W=>nP W _ p _;obtain⟨r,hr⟩:∃ r,Lib.compareBytes xs[(lo+hi) / 2].name p=r:=⟨_,rfl⟩
   rw[hr]at CALL UP DN;clear hr;by_cases hyx:r < 0
   ·go_wp2_with (go_at_call 171;refine Lk (CALL.o _) fun w' hb=>?_)
    go_roundg (hi - ((lo+hi) / 2+1))
    case measure=>omega
    case rel=>exact⟨(lo+hi) / 2+1,hi,by rw[show ((lo:Int)+(hi:Int)) / 2+1=(((lo+hi) / 2+1:Nat):Int) by omega],rfl,by omega,hin,MG _,aa (UP.o hyx),aa (ab BL.o hb)⟩
   ·go_wp2_with (go_at_call 171;refine Lk (CALL.o _) fun w' hb=>?_)
    go_roundg ((lo+hi) / 2 - lo)
    case measure=>omega
    case rel=>exact⟨lo,(lo+hi) / 2,rfl,by rw[show ((lo:Int)+(hi:Int)) / 2=(((lo+hi) / 2:Nat):Int) by omega],by omega,by omega,MG _,aa (DN.o hyx),aa (ab BL.o hb)⟩
  ·obtain rfl:hi=lo:=by omega
   have CN:Ll (bB xs p=hi):=aa (by rw[PL.o];exact jm _ p hi (by rw[LMH.o];exact hin) I.o);by_cases hn:hi < xs.length
   ·obtain⟨b,off,pa,pc,rfl,j1,j2,k1,k2,-,-⟩:=H.o.at hn;have c1:=ah BL.o k1;have c2:=ah BL.o k2;clear k1 k2;have HS:Ll ((xs.map aL.name).contains p=decide (xs[hi].name=p)):=aa (by have:=pz I.o (by rw[LMH.o];exact hn) HR.o;rwa [List.getElem_map]at this);have E0:Ll (Lib.compareBytes xs[hi].name p=0↔xs[hi].name=p):=oO _ _;have CALL:Ll (∀ W,Calls prog 171 #[.agg #[.string ⟨xs[hi].name.toArray⟩,.slice pa xs[hi].paths.length pc],.string ⟨p.toArray⟩] W fun e w'=>e=.returned (.int .i64 (Lib.compareBytes xs[hi].name p))/\La W w'):=fun W=>nP W _ p _;obtain⟨r,hr⟩:∃ r,Lib.compareBytes xs[hi].name p=r:=⟨_,rfl⟩
    rw[hr]at CALL E0;clear hr;by_cases hyx:r=0
    ·have R:Ll ((xs.map aL.name).contains p=true):=aa (by rw[HS.o];exact decide_eq_true (E0.o.1 hyx));subst hyx;go_wp2_with (go_at_call 171;refine Lk (CALL.o _) fun w' hb=>?_)
     go_ret2
     exact⟨by rw[R.o,CN.o];first | done | rfl | simp,ab BL.o hb⟩
    ·have R:Ll ((xs.map aL.name).contains p=false):=aa (by rw[HS.o];exact decide_eq_false (fun h9=>hyx (E0.o.2 h9)));have e9:(r == 0)=false:=by rw[MO];exact hyx
     clear hyx;go_wp2_with (go_at_call 171;refine Lk (CALL.o _) fun w' hb=>?_)
     go_ret2
     exact⟨by rw[R.o,CN.o];first | done | rfl | simp,ab BL.o hb⟩
   ·have R:Ll ((xs.map aL.name).contains p=false):=mI I.o (by rw[LMH.o];omega);go_wp2_with fail
    go_ret2
    exact⟨by rw[R.o,CN.o];first | done | rfl | simp,BL.o⟩
theorem qo(w:LC)(ok xs v p)(h:aB w ok xs v)(hr:bD (xs.map aL.name))(hn:xs.length < 4611686018427387904):Calls prog 139 #[v,.string ⟨p.toArray⟩] w fun e w'=>e=.returned (.tuple #[.int .i64 (bB xs p:Nat),.bool ((xs.map aL.name).contains p)])/\La w w':=by
 have C:=xP w ok xs v p h hr hn;obtain⟨a,c,rfl⟩:=h.form;generalize (xs.map aL.name).contains p=o at C ⊢;clear h hr;go_enter func139,ntmps139;go_wp2_with (go_at_call 170;refine C.mono ?_;rintro e w1 ⟨rfl,hb⟩)
 go_ret2
 exact⟨rfl,hb⟩
variable {w w' W wr:World}
variable {t:V}
variable {g k:Nat}
section
theorem Jz{a:LC}{key}(_:La a W)(hk:key.length<=maxLen):ao (W.alloc (.cells #[.string ⟨key.toArray⟩] 9)) (fun _=>True) [key] (.slice (some ⟨W.heap.size,0,none⟩) 1 1):=IC W key hk
def G0 (a W:LC) (g:Nat):Prop:=Lc W g/\a.heap.size<=g
theorem Jk{a}(h:La a W):G0 a (W.alloc (.cells Lb 35)) W.heap.size:=⟨MN _ _,h.size⟩
theorem vY{a W'}(hb:La W W')(h:G0 a W g):G0 a W' g:=⟨af hb h.1,h.2⟩
theorem JA{a:LC}(h:La a W)(hz:G0 a W g)(d0 d1 d2 d3 d4):ag (ar W g d0 d1 d2 d3 d4) g d0 d1 d2 d3 d4/\La a (ar W g d0 d1 d2 d3 d4):=
 ⟨hz.1.set _ _ _ _ _,aP h hz.2 _ _ _ _ _⟩
theorem Jw{a:LC}(h:La a W)(d0 d1 d2 d3 d4):ag (W.alloc (.cells #[d0,d1,d2,d3,d4] 35)) W.heap.size d0 d1 d2 d3 d4/\La a (W.alloc (.cells #[d0,d1,d2,d3,d4] 35)):=⟨MN _ _,ab h (ae _ _)⟩
theorem zY(w:LC)(o:Obj):(w.alloc o).drew.heap.size=w.heap.size+1:=by show (World.alloc w o).heap.size=_;simp
def AR (w:LC) (gl:Nat) (r:Option Nat) (L:List Lz) (D:Nat) (t:V) (at_:Lz) (a1 a2:Option Addr) (c1 c2 k:Nat) (wr:LC):Prop:=
 ∃ r',pH wr gl (L++dC at_ (jL D t k)) r'/\kX w wr gl r/\nA w r r'/\KY wr w.heap.size t a1 c1 a2 c2/\some w.heap.size≠r'
theorem A9{wc:LC}{gl r L D at_ a1 a2 c1 c2}(hgl:gl < w.heap.size){r'}(h2:kX w wr gl r)(h3:nA w r r')(h4:KY wr w.heap.size t a1 c1 a2 c2)(h5:some w.heap.size≠r')(hb:La wr wc)(hp:Eh wc w' gl r' (L++dC at_ (jL D t (k+1)))):AR w gl r L D t at_ a1 a2 c1 c2 (k+1) w':=by
 obtain⟨r2,g1,g2,g3⟩:=hp;have L9:=h4.lt;have hsz2:=hb.size;refine⟨r2,g1,(h2.trans h3 (sy hb)).trans (h3) g2,(h3.trans (by have:=h2.size;omega) g3),?_,?_⟩
 ·have e1:wc.heap[w.heap.size]?=wr.heap[w.heap.size]?:=hb.block _ L9;have e2:=g2.block w.heap.size (by omega) (by omega) h5;exact e2.trans (e1.trans h4)
 ·rcases g3 with rfl | ⟨g,rfl,hg⟩
  ·exact h5
  ·simp;omega
attribute [local go_sem ↓] Go.wp_at_zero Go.wp_at_succ
theorem De:∀ (D:Nat) (w:LC) (ok:Nat->Prop) (t:V) (v:Value) (at_:Lz) (gl:Nat) (L:List Lz) (r:Option Nat),In w ok t v->(∀ k,ok k->k < gl)->fO D t->t.kind=5->at_.length+130 * D<=100000->L.length+fa t<=100000->pH w gl L r->(∀ W,Below gl w W->bj W) ->
 Calls prog 159 #[v,.string ⟨at_.toArray⟩,.pointer (some ⟨gl,0,none⟩)] w fun e w'=>e=.returned (.tuple #[])/\Eh w w' gl r (L++dC at_ (jK D t)):=by
 intro D;induction D with
 | zero=>intro w ok t v at_ gl L r _ _ h;exact h.elim
 | succ D ih=>
 intro w ok t v at_ gl L r h hok hg hk hat hcn hG hM;have H:=aa h;have OK:=aa hok;have GD:=aa hg;have HG:=aa hG;have HM:=aa hM;have IH:=aa ih;have AT:=aa hat;have CNT:Ll (L.length+fa t<=100000):=aa hcn;have hpair:t.keys.length=t.l.length:=by
  have:=(gu hg.1 hk).1;simp only[aK,MJ,decide_eq_true_eq]at this;exact this.2
 have PR:=aa hpair;have KEYS:=aa (qh hg.1 hk);have GLT:=aa hG.lt;obtain⟨l1,l2,l3⟩:=h.lens;obtain⟨a1,a2,c1,c2,rfl⟩:=h.form;have hrow:Ll (∀ g,r=some g->gl < g/\g < w.heap.size):=aa (fun g hg=>hG.row hg);clear h hok hg hk hat hcn hG hM ih hpair;have B0:Ll (La w (w.alloc (.cells (KV t a1 c1 a2 c2) 35))):=aa (ae _ _);have S0:Ll (AR w gl r L D t at_ a1 a2 c1 c2 0 (w.alloc (.cells (KV t a1 c1 a2 c2) 35))):=aa ⟨r,by rw[Dx];simpa [dC] using HG.o.bel B0.o,sy B0.o,.inl rfl,MN _ _,fun e=>by have:=(hrow.o _ e.symm).2;omega⟩;go_enter func159,ntmps159;go_wp2_with fail
 go_loopg [13] t.keys.length (fun gk i wr=>∃ k:Nat,k<=t.keys.length/\gk=t.keys.length - k/\i=.int .i64 k/\Ll (AR w gl r L D t at_ a1 a2 c1 c2 k wr))
 case atStart=>exact⟨0,Nat.zero_le _,rfl,rfl,S0⟩
 case round=>
  obtain⟨k,hk,hgk,rfl,I⟩:=hrel;have GK:=aa hgk;clear hgk;by_cases hlt:k < t.keys.length
  ·have hll:k < t.l.length:=by rw[<-PR.o];exact hlt
   obtain⟨r',i1,i2,i3,i4,i5⟩:=I.o;have LB:Ll (Below gl w wr):=aa (i2.low GLT.o (fun g hg=>(hrow.o g hg).1));have HI:Ll (In wr ok t (.agg (KV t a1 c1 a2 c2))):=aa (H.o.belB OK.o LB.o);have I1:=aa i1;have I2:=aa i2;have I3:=aa i3;have I4:=aa i4;have I5:=aa i5;obtain⟨kb,ko,rfl,kc1,kc2,kcell,klen⟩:=HI.o.key hlt;obtain⟨lb,lo,a5,c5,a6,c6,rfl,lc1,lc2,y0,y1,y2,y3,y4,hit⟩:=HI.o.item hll;have HIT:=aa hit;obtain⟨p0,p1,p2,p3,p4,-⟩:=i4.c;have P3:=aa p3;have P4:=aa p4;have Q0:=aa y0;have Q1:=aa y1;have Q2:=aa y2;have Q3:=aa y3;have Q4:=aa y4;have KL:Ll (t.keys[k].length<=maxLen):=aa (by unfold maxLen;exact klen);have k60:=KEYS.o t.keys[k] (List.getElem_mem _);have KN:Ll (∀ x∈[t.keys[k]],x.length<=10000000):=aa (fun x hx=>by rw[List.mem_singleton]at hx;rw[hx];omega);have kjl:(aU [t.keys[k]]).length<=121:=by
    rw[kz];have:=(jh t.keys[k]).2;simp only[My,Mx,aU,List.flatMap_nil,List.length_nil];omega
   have KJ:Ll ((aU [t.keys[k]]).length<=10000000):=aa (by omega);have KJL:=aa kjl;have GM:Ll (∀ W,La wr W->bj W):=aa (fun W hW=>HM.o W (LB.o.trans (hW.mono (MH (Nat.le_of_lt GLT.o) I2.o.size))));have w2:(k:Int) < (t.keys.length:Int):=by omega
   have w3:(k:Int) < (t.l.length:Int):=by omega
   have w4:(0:Int)<=(k:Int):=by omega
   have sl:¬9223372036854775807 < at_.length+(aU [t.keys[k]]).length:=by have:=AT.o;omega
   have CAT0:ByteArray.mk at_.toArray++ByteArray.mk (aU [t.keys[k]]).toArray=ByteArray.mk (at_++aU [t.keys[k]]).toArray:=yR _ _;have CAT:Ll ((at_++aU [t.keys[k]])=(at_++aU [t.keys[k]])):=aa rfl;have US:=aa (Ck (D:=D) hlt hll);have UC:=aa (Ei D t k);have CT:=aa (zI hll);have CE:=aa (df t);clear i1 i2 i3 i4 i5 hit y0 y1 y2 y3 y4 klen k60 kjl I;have q3:=P3.o;have q4:=P4.o;go_upto_region 4 with fail
   clear q3 q4;go_cut [8,9] (fun sv pv wc=>∃ g9:Nat,pv=.pointer (some ⟨g9,0,none⟩)/\sv=.string ⟨(at_++aU [t.keys[k]]).toArray⟩/\ag wc g9 (.int .i64 t.l[k].kind) (.int .i64 t.l[k].n) (.string ⟨t.l[k].s.toArray⟩) (.slice a5 t.l[k].keys.length c5) (.slice a6 t.l[k].l.length c6)/\La wr wc)
   case first=>
    refine aD (fun wS=>La wr wS) [12] (by kernel_rfl) (aC _ 1) (fun LI=>?_);refine WT.out ?_;iterate 7
     first
      | refine tk (i:=0) (v:=?_) [4,11,12] rfl rfl (by decide +kernel) rfl (fun _ _ _ h=>h) LI ?_ ?_
      | refine tk (i:=1) (v:=?_) [2,3,4,11,12] rfl rfl (by decide +kernel) rfl (fun _ _ _ h=>h) LI ?_ ?_
      | refine tk (i:=5) (v:=?_) [6,8,9,12] rfl rfl (by decide +kernel) rfl (fun _ _ _ h=>h) LI ?_ ?_
      | refine tk (i:=6) (v:=?_) [8,9,12] rfl rfl (by decide +kernel) rfl (fun _ _ _ h=>h) LI ?_ ?_
      | refine tk (i:=7) (v:=?_) [8,9,12] rfl rfl (by decide +kernel) rfl (fun _ _ _ h=>h) LI ?_ ?_
      | refine tk (i:=8) (v:=?_) [9,12] rfl rfl (by decide +kernel) rfl (fun _ _ _ h=>h) LI ?_ ?_
      | refine tk (i:=9) (v:=?_) [12] rfl rfl (by decide +kernel) rfl (fun _ _ _ h=>h) LI ?_ ?_
     rotate_left
     ·intro wS LN;have u3:=ah LN P3.o;have u4:=ah LN P4.o;have q0:=ah LN Q0.o;have q1:=ah LN Q1.o;have q2:=ah LN Q2.o;have q3:=ah LN Q3.o;have q4:=ah LN Q4.o;go_simp;all_goals with_reducible rfl
     simp only[av,List.set]
    repeat' (first
     | exact nl
     |(refine ip (i:=2) (o:=_) rfl (fun K hK=>?_) ?_
       go_simp;refine hK.out _ _ (ab LI (ae _ _)) (fun LJ=>?_);have SK:=aa (Jz LI KL.o);try rw[show (World.drew (World.alloc wr (.cells Lb 35))).heap.size=wr.heap.size+1 from zY _ _]at SK
       try replace NB:=aa (vY (ae _ (.cells #[.string ⟨t.keys[k].toArray⟩] 9)) NB.o)
       clear hK K;replace LI:=LJ;clear LJ;try simp only[Act.put,Mt,Mu,Mv])
     |(refine ip (i:=3) (o:=_) rfl (fun K hK=>?_) ?_
       go_simp;refine Lk (AJ _ (fun _=>True) [t.keys[k]] _ (by exact SK.o) KN.o KJ.o (GM.o _ LI)) fun w3q hb5=>?_;unfold aR;refine hK.out _ _ (ab LI hb5) (fun LJ=>?_);try replace NB:=aa (vY hb5 NB.o)
       clear hb5 SK;have Ma:Ll True:=aa trivial;clear hK K;replace LI:=LJ;clear LJ;try simp only[Act.put,Mt,Mu,Mv])
     |(refine ip (i:=10) (o:=_) rfl (fun K hK=>?_) ?_
       go_simp;refine hK.out _ _ (ab LI (ae _ _)) (fun LJ=>?_);have NB:=aa (Jk LI);first | (have c9:=Ma.o;clear c9;have FINA:=aa (Jw LI (.int .i64 t.l[k].kind) (.int .i64 t.l[k].n) (.string ⟨t.l[k].s.toArray⟩) (.slice a5 t.l[k].keys.length c5) (.slice a6 t.l[k].l.length c6))) | skip
       try replace SK:=aa (ao.bel SK.o (ae _ (.cells Lb 35)))
       clear hK K;replace LI:=LJ;clear LJ;try simp only[Act.put,Mt,Mu,Mv])
     |(refine jZ (i:=12) (o:=_) (by decide +kernel) rfl (fun K hK=>?_)
       try rw[show (World.drew wr).heap.size=wr.heap.size from rfl]at NB
       try rw[show (World.drew (World.alloc wr (.cells #[.string ⟨t.keys[k].toArray⟩] 9))).heap.size=wr.heap.size+1 from zY _ _]at NB
       have n0_:=NB.o.1.c;have FIN:=aa (JA LI NB.o (.int .i64 t.l[k].kind) (.int .i64 t.l[k].n) (.string ⟨t.l[k].s.toArray⟩) (.slice a5 t.l[k].keys.length c5) (.slice a6 t.l[k].l.length c6));go_simp;refine hK.out _ _ ?_;clear hK K;try simp only[Act.put,Mt,Mu,Mv])
     |(first
        | refine tk (i:=4) (v:=?_) [11,12] rfl rfl (by decide +kernel) rfl (fun _ _ _ h=>h) (by exact LI) ?_ ?_
        | refine tk (i:=11) (v:=?_) [12] rfl rfl (by decide +kernel) rfl (fun _ _ _ h=>h) (by exact LI) ?_ ?_
       rotate_left
       ·intro wS LN;go_simp;all_goals with_reducible rfl
       simp only[av,List.set])
     | refine gc [2,10] (by decide +kernel) ?_
     | refine gc [3,10] (by decide +kernel) ?_
     | refine gc [10] (by decide +kernel) ?_
     | refine gc [3] (by decide +kernel) ?_
     | refine gc [2] (by decide +kernel) ?_
     | fail)
    all_goals
     refine dn (by kernel_rfl) ?_;go_wp2_with fail
     go_meet
     case rel=>first | exact⟨_,rfl,rfl,FINA.o⟩ | exact⟨_,rfl,rfl,FIN.o⟩
   case rest=>
    obtain⟨g9,rfl,rfl,LU,hbl⟩:=hcut;have BX:=aa LU;have BC:=aa hbl;have HITC:=aa (HIT.o.bel hbl);have GC:=aa (I1.o.bel hbl);have x0_:=LU.c;have PL:Ll ((at_++aU [t.keys[k]]).length+130 * D<=100000):=aa (by have:=KJL.o;have:=AT.o;rw[Mx];omega);have NX:Ll (∀ w',Eh wc w' gl r' (L++dC at_ (jL D t (k+1)))->AR w gl r L D t at_ (some ⟨kb,ko,none⟩) (some ⟨lb,lo,none⟩) c1 c2 (k+1) w'):=aa (fun w' hp=>A9 GLT.o I2.o I3.o I4.o I5.o BC.o hp);have LBC:Ll (Below gl w wc):=aa (LB.o.trans (BC.o.mono (MH (Nat.le_of_lt GLT.o) I2.o.size)));clear LU hbl;obtain⟨p,hp⟩:∃ p,at_++aU [t.keys[k]]=p:=⟨_,rfl⟩
    rw[hp]at PL ⊢;have HPP:=aa hp;clear hp;by_cases hkd:t.l[k].kind=5/\t.l[k].l≠[]
    ·have e1:(t.l[k].kind == 5)=true:=by simp[hkd.1]
     have e2:(0:Int) < ((t.l[k].l.length:Nat):Int):=by have:=List.length_pos_iff.2 hkd.2;omega
     have e3:decide (0 < t.l[k].l.length)=true:=decide_eq_true (List.length_pos_iff.2 hkd.2);have CALL:=aa (IH.o wc ok t.l[k] _ p gl (L++dC at_ (jL D t k)) r' HITC.o OK.o (GD.o.2 _ (List.getElem_mem _)) hkd.1 PL.o (by
      have h1:=UC.o;have h2:=CT.o;have h3:=CE.o;have h4:=CNT.o;rw[Mx,dC,List.length_map];omega) GC.o (fun W hW=>HM.o W (LBC.o.trans hW)))
     have UE:Ll (L++dC at_ (jL D t k)++dC p (jK D t.l[k])=L++dC at_ (jL D t (k+1))):=aa (by
      rw[US.o,if_pos hkd,<-HPP.o,<-vQ,List.append_assoc];simp[dC])
     clear hkd;go_wp2_with (go_at_call 159;refine CALL.o.mono ?_;rintro e w5 ⟨rfl,hgp⟩;rw[UE.o]at hgp;have GP:=aa (NX.o _ hgp);clear hgp)
     go_roundg (t.keys.length - (k+1))
     case measure=>rw[GK.o];omega
     case rel=>exact⟨k+1,hlt,rfl,by go_num,GP⟩
    ·obtain⟨sv,s1,s2,s3⟩:=GC.o;have UE:Ll (L++dC at_ (jL D t k)++[p]=L++dC at_ (jL D t (k+1))):=aa (by
      rw[US.o,if_neg hkd,<-HPP.o,List.append_assoc];simp[dC])
     obtain⟨LL,hLL⟩:∃ LL,L++dC at_ (jL D t k)=LL:=⟨_,rfl⟩
     have hn:LL.length<=1000000:=by
      have h1:=UC.o;have h2:=CT.o;have h3:=CE.o;have h4:=CNT.o;rw[<-hLL,Mx,dC,List.length_map];omega
     rw[hLL]at s2 UE;have hglc:gl < wc.heap.size:=(MF.1 s1).1;obtain⟨g7,c7,W7,hR,ho7,hg7,hf7⟩:=C7 (W:=wc.alloc (.cells #[.string ⟨p.toArray⟩] 9)) (B:=gl+1) (v:=sv) (n:=LL.length) (cs:=LL.map fun s=>Value.string ⟨s.toArray⟩) (nb:=wc.heap.size) (k:=⟨p.toArray⟩) (bM s2 fun g hg=>(ae _ _).block g (bY s2 hg).2) (MN _ _) hn (by have:=(ae wc (.cells #[.string ⟨p.toArray⟩] 9)).size;omega) 32;have GP:=aa (NX.o _ (by have h9:=Gk s1 s3 (fun g hg=>(GC.o.row hg).1) ho7 hg7 hf7 hglc;rw[UE.o]at h9;exact h9));have HR:=aa hR;have c0:wc.cell? ⟨gl,0,none⟩=some sv:=by simp[World.cell?,s1]
     have c0a:∀ o,(wc.alloc o).cell? ⟨gl,0,none⟩=some sv:=fun o=>ah (ae _ _) c0;have hb7:W7.heap[gl]?=some (.cells #[sv] 32):=by
      rw[hg7.block gl (MI hglc (ae wc _).size) (fun e=>by have:=(bY s2 e.symm).1;omega),(ae wc _).block gl hglc,s1]
     have c7a:W7.cell? ⟨gl,0,none⟩=some sv:=by simp[World.cell?,hb7]
     have c7f:W7.frozen? ⟨gl,0,none⟩=false:=by simp[World.frozen?,hb7]
     obtain⟨sa,sn,sc,hsv⟩:∃ sa sn sc,sv=.slice sa sn sc:=by
      rcases s2.2 with⟨h9,-⟩ | ⟨_,_,_,h9,-⟩
      ·exact⟨_,_,_,h9⟩
      ·exact⟨_,_,_,h9⟩
     subst hsv;by_cases hk5:t.l[k].kind=5
     ·have e1:(t.l[k].kind == 5)=true:=by simp[hk5]
      have hl0:t.l[k].l=[]:=by
       apply Classical.byContradiction;intro h9;exact hkd ⟨hk5,h9⟩
      have e2:¬(0:Int) < ((t.l[k].l.length:Nat):Int):=by rw[hl0];simp
      have e3:decide (0 < t.l[k].l.length)=false:=by rw[hl0];simp
      clear hl0 hk5 hkd hR ho7 hg7 hf7 s1 s2 s3 hb7 hLL;go_wp2_with (at_builtin;go_must (refine Lib.wpList_append_run _ rfl _ _ _ _ rfl (.slice sa sn sc) (.slice (some ⟨wc.heap.size,0,none⟩) 1 1) rfl rfl _ _ HR.o ?_);refine Ll.o ?_)
      refine aa ?_;go_wp2_with fail
      go_roundg (t.keys.length - (k+1))
      case measure=>rw[GK.o];omega
      case rel=>exact⟨k+1,hlt,rfl,by go_num,GP⟩
     ·have e1:(t.l[k].kind == 5)=false:=by rw[MO];exact hk5
      clear hk5 hkd hR ho7 hg7 hf7 s1 s2 s3 hb7 hLL;go_wp2_with (at_builtin;go_must (refine Lib.wpList_append_run _ rfl _ _ _ _ rfl (.slice sa sn sc) (.slice (some ⟨wc.heap.size,0,none⟩) 1 1) rfl rfl _ _ HR.o ?_);refine Ll.o ?_)
      refine aa ?_;go_wp2_with fail
      go_roundg (t.keys.length - (k+1))
      case measure=>rw[GK.o];omega
      case rel=>exact⟨k+1,hlt,rfl,by go_num,GP⟩
  ·have d1:¬(k:Int) < (t.keys.length:Int):=by omega
   have Mc:k=t.keys.length:=by omega
   subst Mc;obtain⟨r',i1,i2,i3,i4,i5⟩:=I.o;have R:Ll (Eh w wr gl r (L++dC at_ (jK (D+1) t))):=aa ⟨r',by rw[<-D3 PR.o];exact i1,i2,i3⟩;clear i1 i2 i3 i4 i5 I;go_wp2_with fail
   go_end0
   exact⟨rfl,R.o⟩
end
section
open Go.RowKit Go.Shelf Go.Sort
def ji (x:Lz):Value:=.string ⟨x.toArray⟩
theorem tQ(x y):ltOf Lib.compareBytes x y=Op.bytesLess x y:=by
 unfold ltOf;rw[Bool.eq_iff_iff,decide_eq_true_eq];exact ki x y
theorem Hj:SWO (ltOf Lib.compareBytes) where
 irrefl x:=by rw[tQ];exact cd x
 trans x y z h1 h2:=by rw[tQ]at *;exact cP _ _ _ h1 h2
 ntrans x y z h1 h2:=by
  rw[tQ]at *;exact rE (a:=z) (b:=y) (c:=x) h2 h1
theorem xr{L}{d:Array Lz}(hp:PermIn 0 L.length L.toArray d)(hs:SortedIn (ltOf Lib.compareBytes) 0 L.length d):d.toList=ix L:=by
 obtain⟨h1,-,h2⟩:=hp;have L9:d.size=L.length:=by simpa using h1
 have e1:(d.extract 0 L.length)=d:=by rw[<-L9];simp
 have e2:(L.toArray.extract 0 L.length)=L.toArray:=by
  have:L.length=L.toArray.size:=by simp
  rw[this];exact Array.extract_size
 rw[e1,e2]at h2;refine Ig (by simpa using h2) ?_;rw[List.pairwise_iff_getElem];intro i j hi hj hij;have hi':i < d.size:=by simpa using hi
 have hj':j < d.size:=by simpa using hj
 have:=hs i j (Nat.zero_le _) hij (by omega);rw[tQ,getElem!_pos d j hj',getElem!_pos d i hi']at this;simpa [xA] using this
theorem oo(W:LC)(g m)(d:Array Lz)(os:Array Obj)(k)(hk:k < W.heap.size)(hne:k≠g):(sortWorld ji W g 0 m d os).heap[k]?=W.heap[k]?:=by
 change (W.heap.modify g (onCells (putCells ji 0 d))++os)[k]?=W.heap[k]?;rw[Array.getElem?_append_left (by simpa using hk),Array.getElem?_modify,if_neg (fun e=>hne e.symm)]
theorem ox(W:LC)(g m)(d:Array Lz)(os:Array Obj):W.grownBy (sortWorld ji W g 0 m d os) (some g):=by
 refine⟨rfl,rfl,rfl,?_,fun k hk hr=>oo W g m d os k hk (fun e=>hr (by rw[e]))⟩;change W.heap.size<=(W.heap.modify g (onCells (putCells ji 0 d))++os).size;simp
theorem qn:∀ args w,(callFunc 44 args).run prog w=.ok (.enter 44 args) w:=enters_of func44 (by kernel_rfl) rfl
theorem Bh(blk off size)(w:LC):CmpReads prog 44 #[] ji Lib.compareBytes blk off size w:=fun m os dk _ x y=>by
 have:=Tryz.strCompare ⟨x.toArray⟩ ⟨y.toArray⟩ (sortWorld ji w blk off m dk os);simp only[List.toList_toArray]at this;exact this.mono fun e w' h=>⟨h.1,0,h.2⟩
theorem Fy(W:LC)(B L sv)(h:W.ownsRow B 9 1 sv L.length (L.map ji))(hl:∀ x∈L,x.length<=maxLen)(hn:L.length < 4611686018427387904):Calls prog 160 #[sv,.func (.func 44) #[] #[]] W fun e w'=>e=.returned (.tuple #[])/\ao w' (fun k=>B<=k) (ix L) sv/\W.grownBy w' sv.ownBlock:=by
 rcases h.2 with⟨rfl,h0⟩ | ⟨g,cap,cur,rfl,h1,h2,h3,h4,h5,h6⟩
 ·have hL:L=[]:=List.length_eq_zero_iff.1 h0;subst hL;have hc:=AnyF.slices_SortFunc_none (P:=prog) (ρ:=Tryz.laysSort_ren) { Tryz.laysSort with } none 0 (.func (.func 44) #[] #[]) W;change Calls prog 160 _ _ _ at hc;exact hc.mono fun e w' h=>⟨h.1,⟨by simp[ix,maxLen],.inl ⟨rfl,none,rfl⟩⟩,by rw[h.2];exact az _ _⟩
 ·have hblk:g < W.heap.size:=(MF.1 h2).1;have LV:∀ j (hj:j < L.length),cur[j]?=some (ji L[j]):=fun j hj=>by
   have e:=congrArg (fun l=>l[j]?) h6;simp only[Nat.mul_one,List.getElem?_take,List.getElem?_map,Mw hj,Option.map_some]at e;rw[if_pos hj]at e;simpa using e
  have hH:Holds ji W g 0 L.toArray:=fun j hj=>by
   have hj':j < L.length:=by simpa using hj
   rw[getElem!_pos L.toArray j hj];refine⟨?_,?_⟩
   ·simp[World.cell?,h2,LV j hj']
   ·simp[World.frozen?,h2]
  have hc:=Any.slices_SortFunc Tryz.laysSort ji (fun _=>rfl) Lib.compareBytes Hj 44 #[] g 0 cap L.toArray W qn (Bh g 0 L.toArray.size W).lays hH hblk (by simpa using hn);have L9:L.toArray.size=L.length:=by simp
  rw[L9]at hc;change Calls prog 160 _ _ _ at hc;refine hc.mono ?_;rintro e w' ⟨rfl,d,n,os,hp,hs,rfl⟩;have hd:=xr hp hs;have hdl:d.size=L.length:=by have:=hp.1;simpa using this
  have hsl:(ix L).length=L.length:=(fU L).length_eq;refine⟨rfl,⟨by rw[hsl];omega,.inr ⟨g,0,cap,by rw[hsl],by rw[hsl];exact h3,h4,fun i x hx=>?_⟩⟩,ox W g n d os⟩;obtain⟨hi,rfl⟩:=Mz.1 hx;have hi2:i < d.size:=by rw[hdl,<-hsl];exact hi
  refine⟨hl _ ((fU L).mem_iff.1 (List.getElem_mem hi)),h1,?_⟩;have hA:Holds ji (Go.Sort.ahead W n) g 0 L.toArray:=hH;have hcw:=cell?_putRow ji (Go.Sort.ahead W n) g 0 L.toArray d hA (by simpa using hdl) i hi2;unfold sortWorld;rw[cell?_grow _ _ _ (by rw[size_putRow];exact hblk),hcw,getElem!_pos d i hi2];have:d[i]=(ix L)[i]:=by
   have:=congrArg (fun l=>l[i]?) hd;simp only[Mw hi,Array.getElem?_toList]at this;exact(MF.1 this).2
  rw[this];rfl
theorem qY(D t):dC [] (jK D t)=(jK D t).map aU:=by simp[dC]
theorem C6(w:LC)(ok t v)(h:In w ok t v)(hM:bj w):Calls prog 128 #[v] w fun e w'=>∃ (a:Option Addr) (c:Nat),e=.returned (.slice a (au t).length c)/\ao w' (fun k=>w.heap.size<=k) (au t) (.slice a (au t).length c)/\La w w':=by
 have H:=aa h.low;have HM:=aa hM;obtain⟨a1,a2,c1,c2,rfl⟩:=h.form;clear h hM;have B0:Ll (∀ o,La w (w.alloc o)):=aa (fun o=>ae _ _);by_cases hg:t.kind=5/\aE t=true
 ·have e1:(decide (t.kind=5)&&aE t)=true:=by simp[hg.1,hg.2]
  have LF:Ll (au t=ix ((jK 12 t).map aU)):=aa (if_pos hg);have GT:=aa (fh hg.2);have NC:=aa (gE (dQ hg.2));have K5:=aa hg.1;have GG:=aa hg;clear hg;go_enter func128,ntmps128;go_upto_region 3 with (go_at_call 97;refine Lk (dq _ (Lj ok w) t _ (by exact H.o.bel (B0.o _))) fun w1 hb1=>?_;rw[e1];have B1:=aa (ab (B0.o _) hb1);have PB:=aa (af hb1 (MN w _));clear hb1)
  have W2:Ll (La w (w1.alloc (.cells #[.slice none 0 0] 32))):=aa (ab B1.o (ae _ _));have GI:Ll (pH (w1.alloc (.cells #[.slice none 0 0] 32)) w1.heap.size [] none):=aa ⟨.slice none 0 0,MN _ _,World.ownsRow_nil _ _ _ _,rfl⟩;have LO:Ll (∀ k,(ok k/\k < w.heap.size)->k < w1.heap.size):=aa (fun k hk=>by have:=B1.o.size;omega);have GMA:Ll (∀ W,Below w1.heap.size (w1.alloc (.cells #[.slice none 0 0] 32)) W->bj W):=aa (fun W hW=>HM.o.bel (W2.o.trans (hW.mono B1.o.size)));have CALL:=aa (De 12 (w1.alloc (.cells #[.slice none 0 0] 32)) (Lj ok w) t _ [] w1.heap.size [] none (by exact H.o.bel W2.o) LO.o GT.o K5.o (by simp) (by have:=NC.o;simp;omega) GI.o GMA.o);obtain⟨q0,q1,q2,q3,q4,-⟩:=ag.c (af (ae w1 (.cells #[.slice none 0 0] 32)) PB.o);go_upto_region 5 with (go_at_call 159;refine CALL.o.mono ?_;rintro e w3 ⟨rfl,r3,hg3,hk3,hf3⟩;rw[List.nil_append,qY]at hg3;have G3:=aa hg3;have L3:Ll (Below w1.heap.size (w1.alloc (.cells #[.slice none 0 0] 32)) w3):=aa (hk3.low (by simp) (by intro g hg;cases hg));clear hg3 hk3 hf3 q0 q1 q2 q3 q4)
  obtain⟨sv,s1,s2,s3⟩:=G3.o;have c0:w3.cell? ⟨w1.heap.size,0,none⟩=some sv:=by simp[World.cell?,s1]
  have SC:=aa (Fy w3 (w1.heap.size+1) ((jK 12 t).map aU) sv s2 (fun x hx=>by
   obtain⟨ns,hn,rfl⟩:=List.mem_map.1 hx;have:=tj 12 t ns GT.o K5.o hn;unfold maxLen;omega) (by
   have:=mB 12 t;have h9:=df t;have:=NC.o;rw[List.length_map];omega))
  have S1:=aa s1;have S2:=aa s2;obtain⟨sa,sn,sc,hsv⟩:∃ sa sn sc,sv=.slice sa sn sc:=by
   rcases s2.2 with⟨h9,-⟩ | ⟨_,_,_,h9,-⟩
   ·exact⟨_,_,_,h9⟩
   ·exact⟨_,_,_,h9⟩
  subst hsv;clear s1 s2 s3;go_upto_region 6 with (go_at_call 160;refine SC.o.mono ?_;rintro e w4 ⟨rfl,hst,hgb⟩;have ST:=aa hst;have GB:=aa hgb;clear hst hgb)
  have c4:w4.cell? ⟨w1.heap.size,0,none⟩=some (.slice sa sn sc):=by
   have hlt:w1.heap.size < w3.heap.size:=(MF.1 S1.o).1;have:=GB.o.block w1.heap.size hlt (fun e=>by have:=(bY S2.o e.symm).1;omega);simp[World.cell?,this,S1.o]
  have BB:Ll (La w w4):=aa (by
   have h1:Below w1.heap.size w3 w4:=⟨GB.o.os,GB.o.tape,GB.o.output,GB.o.size,fun k hk=>by
    have hlt:w1.heap.size < w3.heap.size:=(MF.1 S1.o).1;exact GB.o.block k (by omega) (fun e=>by have:=(bY S2.o e.symm).1;omega)⟩
   exact(W2.o.trans (L3.o.mono B1.o.size)).trans (h1.mono B1.o.size))
  have SN:Ll (sn=(au t).length):=aa (by
   obtain⟨a9,c9,e9⟩:=ST.o.form;simp only[Value.slice.injEq]at e9;rw[LF.o];exact e9.2.1)
  have SZ:Ll (w.heap.size<=w1.heap.size):=aa B1.o.size;clear c0;go_wp2_with fail
  go_ret;refine⟨sa,sc,by rw[<-SN.o];rfl,?_,BB.o⟩;rw[<-SN.o,LF.o];exact ST.o.imp fun a x h1 h2=>⟨MH SZ.o (Nat.le_of_succ_le h1),h2⟩
 ·have e1:(decide (t.kind=5)&&aE t)=false:=by
   rw[Bool.and_eq_false_iff];by_cases h9:t.kind=5
   ·right;rw[Bool.eq_false_iff];exact fun h8=>hg ⟨h9,h8⟩
   ·left;exact decide_eq_false h9
  have LF:Ll (au t=[]):=aa (if_neg hg);clear hg;go_enter func128,ntmps128;go_wp2_with (go_at_call 97;refine Lk (dq _ (Lj ok w) t _ (by exact H.o.bel (B0.o _))) fun w1 hb1=>?_;rw[e1];have B1:=aa (ab (B0.o _) hb1);clear hb1)
  go_ret;exact⟨none,0,by rw[LF.o];rfl,by rw[LF.o];exact⟨by simp,.inl ⟨rfl,none,rfl⟩⟩,B1.o⟩
end
theorem Bg{l who}(h:bD (l.map aL.name))(hc:(l.map aL.name).contains who=true):∃ hi:bB l who < l.length,l[bB l who].name=who/\cq l who=l[bB l who].paths:=by
 rw[List.contains_iff_mem,List.mem_map]at hc;obtain⟨o,ho,rfl⟩:=hc;obtain⟨h1,h2⟩:=kl l o.name h;have hin:o∈l.drop (bB l o.name):=by
  rw[<-List.take_append_drop (bB l o.name) l,List.mem_append]at ho;rcases ho with ho | ho
  ·have:=h1 o ho;rw[cd]at this;cases this
  ·exact ho
 have hi:bB l o.name < l.length:=by
  apply Classical.byContradiction;intro h9;rw[List.drop_eq_nil_of_le (by omega)]at hin;cases hin
 have hfirst:l[bB l o.name]∈l.drop (bB l o.name):=(ME hi) ▸ List.mem_cons_self;have hname:l[bB l o.name].name=o.name:=by
  obtain⟨j,hj,e⟩:=List.getElem_of_mem hin;rw[List.getElem_drop]at e;cases j with
  | zero=>simp only[Nat.add_zero]at e;rw[e]
  | succ j=>
   have hlt:bB l o.name+(j+1) < l.length:=by rw[MB]at hj;omega
   have:=List.pairwise_iff_getElem.1 h (bB l o.name) (bB l o.name+(j+1)) (by simpa using hi) (by simpa using hlt) (by omega);rw[List.getElem_map,List.getElem_map,e,h2 _ hfirst]at this;cases this
 refine⟨hi,hname,?_⟩;have:=wK h (List.getElem_mem hi);rwa [hname]at this
theorem xD{l who}(hc:(l.map aL.name).contains who=false):cq l who=[]:=pk fun o ho e=>by
 rw[Bool.eq_false_iff]at hc;exact hc (by rw[List.contains_iff_mem];exact List.mem_map.2 ⟨o,ho,e⟩)
theorem xU(w:LC)(ok l v who)(h:aB w ok l v)(hr:bD (l.map aL.name))(hn:l.length < 4611686018427387904):Calls prog 106 #[v,.string ⟨who.toArray⟩] w fun e w'=>∃ a c,e=.returned (.slice a (cq l who).length c)/\ao w' ok (cq l who) (.slice a (cq l who).length c)/\La w w':=by
 have C:=aa (qo w ok l v who h hr hn);have H:=aa h;obtain⟨a,c,rfl⟩:=h.form;cases hc:(l.map aL.name).contains who with
 | false=>
  have R:=aa (xD hc);rw[hc]at C;clear hc h hr;go_enter func106,ntmps106;go_wp2_with (go_at_call 139;refine C.o.mono ?_;rintro e w1 ⟨rfl,hb⟩;have B1:=aa hb;clear hb)
  go_ret;exact⟨none,0,by rw[R.o];rfl,by rw[R.o];exact⟨by simp,.inl ⟨rfl,none,rfl⟩⟩,B1.o⟩
 | true=>
  obtain⟨hi,-,hp⟩:=Bg hr hc;rw[hc]at C;obtain⟨b,off,pa,pc,rfl,j1,j2,k1,k2,k3,k4⟩:=h.at hi;have ll:=h.1;unfold maxLen at ll;obtain⟨i,hie⟩:∃ i,bB l who=i:=⟨_,rfl⟩
  rw[<-hp]at k2 k3;have K2:Ll (∀ W,La w W->W.cell? ⟨b,off+i * 2+1,none⟩=some (.slice pa (cq l who).length pc)):=aa (fun W hW=>by rw[<-hie];exact ah hW k2);have K3:=aa k3;have x1:(i:Int) < (l.length:Int):=by omega
  have x2:(0:Int)<=(i:Int):=by omega
  rw[hie]at C;clear hc h hr hp k1 k2 k3 k4 hi hie;go_enter func106,ntmps106;go_wp2_with (go_at_call 139;refine C.o.mono ?_;rintro e w1 ⟨rfl,hb⟩;have B1:=aa hb;have q9:=K2.o _ hb;clear hb)
  go_ret;exact⟨pa,pc,rfl,K3.o.imp fun a x g1 g2=>⟨g1,ah B1.o g2⟩,B1.o⟩
variable {ok:Nat->Prop}
variable {v:Value}
variable {x:V}
variable {d:Nat}
theorem bu.form(h:bu w ok d t v):∃ (a7 a8:Option Addr) (c7 c8:Nat),v=(.agg (KV t a7 c7 a8 c8)):=by
 match d,h with
 | d+1,h=>
  obtain⟨ks,ls,e,h1,h2,h3,h4,h5⟩:=h;obtain⟨a1,c1,rfl⟩:=h4.form;obtain⟨a2,c2,rfl⟩:=h5.form;exact⟨_,_,_,_,e⟩
theorem mw{key}(hp:aK t=true):aK (aG t key x)=true/\(aG t key x).l.length<=t.l.length+1:=by
 have hk:t.kind=5/\t.keys.length=t.l.length:=by simpa [aK] using hp
 unfold aG;rw[if_pos hp];split
 ·rename_i i hi;have:=(iw hi).1;simp only[aK,MJ,decide_eq_true_eq,Mx,My,MC,MB];omega
 ·simp only[aK,MJ,decide_eq_true_eq,Mx,My,MC,MB];omega
theorem Hk{g:Lz->Option (V × Lz)}{key}{st st1 st3:Option Lz}(h1:st.bind iS=st1.map (fun l=>(key,l)))(h3:(st1.bind (aA 58)).bind g=st3.map (fun l=>(x,l))):st.bind (lO g t)=if (aS t key).isSome then none else st3.map (fun l=>(aG t key x,l)):=by
 have e:st.bind (lO g t)=(st.bind iS).bind fun q=>(aA 58 q.2).bind fun l=>(g l).bind fun p=>if (aS t q.1).isSome then none else some (aG t q.1 p.1,p.2):=by
  cases st <;> rfl
 rw[e,h1];cases st1 with
 | none=>
  cases st3 with
  | none=>simp
  | some l=>cases h3
 | some l1=>
  simp only[Option.map_some,Option.bind_some]at h3 ⊢;cases hm:aA 58 l1 with
  | none=>
   rw[hm]at h3;cases st3 with
   | none=>simp
   | some l=>cases h3
  | some l2=>
   rw[hm]at h3;simp only[Option.bind_some]at h3 ⊢;rw[h3];cases st3 <;> simp
theorem rI(hW:vW)(f)(ih:zo f)(w:LC)(b B s)(st:Option Lz)(t a7 a8 c7 c8)(h:bf w b s st)(hG:cn w)(hb4:7<=b)(hf0:0 < f)(LT:(st.getD []).length < f+1)(hbB:b < B)(hBw:B<=w.heap.size)(hv:bu w (fun k=>B<=k) (f+1) t (.agg (KV t a7 c7 a8 c8)))(hp:aK t=true)(htl:t.l.length<=10000):Calls prog 155 #[.pointer (some ⟨b,0,none⟩),(.agg (KV t a7 c7 a8 c8))] w fun e w'=>∃ (t':V) (st':Option Lz) (a5 a6:Option Addr) (c5 c6:Nat),
 e=.returned (.agg (KV t' a5 c5 a6 c6))/\bu w' (fun k=>B<=k) (f+1) t' (.agg (KV t' a5 c5 a6 c6))/\aK t'=true/\t'.l.length<=t.l.length+1 /\
 st.bind (lO (cH f) t)=st'.map (fun l=>(t',l))/\bf w' b s st'/\w.grownBy w' (some b):=by
 have H:Ll (bf w b s st/\cn w):=⟨h,hG⟩
 have HV:=aa hv;have IH:=aa ih;have HW:=aa hW;have HP:=aa hp;have hbl:=h.lt;clear h hG hv ih hW hp;go_enter func155,ntmps155;go_wp2_with fail
 refine(rY _ b s st (by exact H.o.1.grown (bd (World.grownBy_alloc w _ none) _) (by simp))).mono ?_;rintro e w1 ⟨key,st1,rfl,hq,hkl,h1,hg1⟩;have K1:Ll (st.bind iS=st1.map (fun l=>(key,l))/\bf w1 b s st1/\w.grownBy w1 (some b)/\KY w1 w.heap.size t a7 c7 a8 c8/\Lc w1 (w.heap.size+1)):=
  ⟨hq,h1,am (bd (bd (az _ _) _) _) hg1,ag.grown (fb w _ _) hg1 (by simp;omega),ag.grown (et w _ _) hg1 (by simp;omega)⟩
 clear hq h1 hg1;go_wp2_with fail
 refine(kP _ b s st1 58 58 rfl (by decide) (by exact K1.o.2.1)).mono ?_;rintro e w2 ⟨rfl,h2,hg2⟩;have K2:Ll (bf w2 b s (st1.bind (aA 58))/\w.grownBy w2 (some b)/\KY w2 w.heap.size t a7 c7 a8 c8/\Lc w2 (w.heap.size+1)/\cn w2):=
  ⟨h2,am K1.o.2.2.1 hg2,K1.o.2.2.2.1.grown hg2 (by simp;omega),K1.o.2.2.2.2.grown hg2 (by simp;omega),H.o.2.grown (am K1.o.2.2.1 hg2) (by intro k hk;cases hk;exact hb4)⟩
 have hl2:Ll (((st1.bind (aA 58)).getD []).length < f):=by
  show _ < _;cases st1 with
  | none=>exact hf0
  | some l1=>
   cases hm:aA 58 l1 with
   | none=>simp only[Option.bind_some,hm];exact hf0
   | some l2=>
    cases st with
    | none=>have:=K1.o.1;cases this
    | some l0=>
     have h9:=mL (show iS l0=some (key,l1) from K1.o.1);have:=bU hm;simp only[Option.bind_some,hm,Option.getD_some]at LT ⊢;simp only at h9;omega
 clear h2 hg2;go_wp2_with fail
 refine(IH.o _ b s _ (by exact K2.o.1) (by exact K2.o.2.2.2.2) hb4 hl2.o).mono ?_;rintro e w3 ⟨x,st3,a5,a6,c5,c6,rfl,hx,hst3,h3,hg3⟩;have K3:Ll ((st1.bind (aA 58)).bind (cH f)=st3.map (fun l=>(x,l))/\bf w3 b s st3/\w.grownBy w3 (some b)/\KY w3 w.heap.size t a7 c7 a8 c8/\Lc w3 (w.heap.size+1) /\
  bu w3 (fun k=>B<=k/\k≠w.heap.size+1) f x (.agg (KV x a5 c5 a6 c6))/\bu w3 (fun k=>B<=k/\k≠w.heap.size+1) (f+1) t (.agg (KV t a7 c7 a8 c8))):=
  ⟨hst3,h3,am K2.o.2.1 hg3,K2.o.2.2.1.grown hg3 (by simp;omega),K2.o.2.2.2.1.grown hg3 (by simp;omega),hx.weak (fun k hk=>⟨MH (MH hBw K2.o.2.1.size) hk,by have:=K2.o.2.2.2.1.lt;omega⟩),(HV.o.below.weak (fun k hk=>⟨hk.1,by omega⟩)).grown (am K2.o.2.1 hg3) (fun k hk e=>by cases e;omega)⟩
 have hsz3:w.heap.size+1 < w3.heap.size:=K3.o.2.2.2.2.1.lt;have p0_:=K3.o.2.2.2.1.c;clear hst3 h3 hg3 hx;have r0:∀ o,(w3.alloc o).cell? ⟨w.heap.size,0,none⟩=some (.int .i64 t.kind):=fun o=>(K3.o.2.2.2.1.grown (World.grownBy_alloc w3 o none) (by simp)).c.1;have r1:∀ o,(w3.alloc o).cell? ⟨w.heap.size,1,none⟩=some (.int .i64 t.n):=fun o=>(K3.o.2.2.2.1.grown (World.grownBy_alloc w3 o none) (by simp)).c.2.1;have r2:∀ o,(w3.alloc o).cell? ⟨w.heap.size,2,none⟩=some (.string ⟨t.s.toArray⟩):=fun o=>(K3.o.2.2.2.1.grown (World.grownBy_alloc w3 o none) (by simp)).c.2.2.1;have r3:∀ o,(w3.alloc o).cell? ⟨w.heap.size,3,none⟩=some (.slice a7 t.keys.length c7):=fun o=>(K3.o.2.2.2.1.grown (World.grownBy_alloc w3 o none) (by simp)).c.2.2.2.1;have r4:∀ o,(w3.alloc o).cell? ⟨w.heap.size,4,none⟩=some (.slice a8 t.l.length c8):=fun o=>(K3.o.2.2.2.1.grown (World.grownBy_alloc w3 o none) (by simp)).c.2.2.2.2.1;go_wp2_with fail
 refine(ny _ (fun k=>B<=k/\k≠w.heap.size+1) (f+1) t _ key (by exact K3.o.2.2.2.2.2.2.bel (ae _ _))).mono ?_;rintro e w4 ⟨xm,bm,rfl,hb4',hmem⟩;have B4:Ll (La w3 w4):=ab (ae _ _) hb4';have bxX:Ll (KY w4 w3.heap.size x a5 c5 a6 c6):=af hb4' (MN w3 _);have hsz4:w3.heap.size < w4.heap.size:=bxX.o.lt;clear hb4' r0 r1 r2 r3 r4;have bxV:Ll (∀ o,KY (w4.alloc o) w.heap.size t a7 c7 a8 c8/\KY (w4.alloc o) w3.heap.size x a5 c5 a6 c6/\Lc (w4.alloc o) (w.heap.size+1)):=
  fun o=>⟨af (ab B4.o (ae w4 o)) K3.o.2.2.2.1,af (ae w4 o) bxX.o,af (ab B4.o (ae w4 o)) K3.o.2.2.2.2.1⟩
 have s0:∀ o,(w4.alloc o).cell? ⟨w.heap.size,0,none⟩=some (.int .i64 t.kind):=fun o=>(bxV.o o).1.c.1;have s1:∀ o,(w4.alloc o).cell? ⟨w.heap.size,1,none⟩=some (.int .i64 t.n):=fun o=>(bxV.o o).1.c.2.1;have s2:∀ o,(w4.alloc o).cell? ⟨w.heap.size,2,none⟩=some (.string ⟨t.s.toArray⟩):=fun o=>(bxV.o o).1.c.2.2.1;have s3:∀ o,(w4.alloc o).cell? ⟨w.heap.size,3,none⟩=some (.slice a7 t.keys.length c7):=fun o=>(bxV.o o).1.c.2.2.2.1;have s4:∀ o,(w4.alloc o).cell? ⟨w.heap.size,4,none⟩=some (.slice a8 t.l.length c8):=fun o=>(bxV.o o).1.c.2.2.2.2.1;have v0:∀ o,(w4.alloc o).cell? ⟨w3.heap.size,0,none⟩=some (.int .i64 x.kind):=fun o=>(bxV.o o).2.1.c.1;have v1:∀ o,(w4.alloc o).cell? ⟨w3.heap.size,1,none⟩=some (.int .i64 x.n):=fun o=>(bxV.o o).2.1.c.2.1;have v2:∀ o,(w4.alloc o).cell? ⟨w3.heap.size,2,none⟩=some (.string ⟨x.s.toArray⟩):=fun o=>(bxV.o o).2.1.c.2.2.1;have v3:∀ o,(w4.alloc o).cell? ⟨w3.heap.size,3,none⟩=some (.slice a5 x.keys.length c5):=fun o=>(bxV.o o).2.1.c.2.2.2.1;have v4:∀ o,(w4.alloc o).cell? ⟨w3.heap.size,4,none⟩=some (.slice a6 x.l.length c6):=fun o=>(bxV.o o).2.1.c.2.2.2.2.1;have hws:Ll (st.bind (lO (cH f) t)=if (aS t key).isSome then none else st3.map (fun l=>(aG t key x,l))):=Hk K1.o.1 K3.o.1;have hklm:key.length<=maxLen:=by unfold maxLen;omega
 cases hmv:aS t key with
 | none=>
  rw[hmv]at hmem hws;obtain⟨rfl,rfl⟩:=hmem;unfold cz aR;go_wp2_with fail
  refine(HW.o _ (fun k=>B<=k/\k≠w.heap.size+1) f t x _ _ key (by exact K3.o.2.2.2.2.2.2.bel (ab B4.o (ae _ _))) (by exact K3.o.2.2.2.2.2.1.bel (ab B4.o (ae _ _))) HP.o (by omega) hklm).mono ?_;rintro e w5 ⟨r,rfl,hr5,hb5⟩;obtain⟨e5,e6,d5,d6,rfl⟩:=hr5.form;have G5:Ll (bu w5 (fun k=>B<=k/\k≠w.heap.size+1) (f+1) (aG t key x) (.agg #[.int .i64 (aG t key x).kind,.int .i64 (aG t key x).n,.string ⟨(aG t key x).s.toArray⟩,.slice e5 (aG t key x).keys.length d5,.slice e6 (aG t key x).l.length d6])/\w.grownBy w5 (some b)/\bf w5 b s st3/\Lc w5 (w.heap.size+1)):=by
   refine⟨hr5.weak fun k hk=>?_,?_,?_,?_⟩
   ·rcases hk with hk | hk
    ·exact hk
    ·have:=K3.o.2.2.1.size;simp at hk;exact⟨by omega,by omega⟩
   ·exact dv (dv (dv K3.o.2.2.1 (aq (r:=none) B4.o) (by simp)) (World.grownBy_alloc w4 _ none) (by simp)) (aq (r:=none) hb5) (by simp)
   ·exact K3.o.2.1.of_heap (((am (am (aq (r:=none) B4.o) (World.grownBy_alloc w4 _ none)) (aq hb5)).block b K3.o.2.1.lt (by simp)))
   ·exact af hb5 (bxV.o _).2.2
  clear hr5 hb5;have x0_:=G5.o.2.2.2.c;obtain⟨z0,z1,z2,z3,z4,-⟩:=(G5.o.2.2.2.set (.int .i64 (aG t key x).kind) (.int .i64 (aG t key x).n) (.string ⟨(aG t key x).s.toArray⟩) (.slice e5 (aG t key x).keys.length d5) (.slice e6 (aG t key x).l.length d6)).c;have Z:Ll (_/\_/\_/\_/\_):=⟨z0,z1,z2,z3,z4⟩
  go_wp2_with fail
  obtain⟨z0,z1,z2,z3,z4⟩:=Z.o;refine MM (v:=(.agg #[.int .i64 (aG t key x).kind,.int .i64 (aG t key x).n,.string ⟨(aG t key x).s.toArray⟩,.slice e5 (aG t key x).keys.length d5,.slice e6 (aG t key x).l.length d6])) ?_ rfl ?_
  ·simp only[ar]at z0 z1 z2 z3 z4;simp[results,results155,go_sem,z0,z1,z2,z3,z4]
  ·obtain⟨g1,g2,g3,g4⟩:=G5.o;have g5:=aI w5 (w.heap.size+1) (.int .i64 (aG t key x).kind) (.int .i64 (aG t key x).n) (.string ⟨(aG t key x).s.toArray⟩) (.slice e5 (aG t key x).keys.length d5) (.slice e6 (aG t key x).l.length d6);have hwp:=mw (key:=key) (x:=x) HP.o;refine⟨aG t key x,st3,e5,e6,d5,d6,rfl,?_,hwp.1,hwp.2,?_,g3.of_heap (g5.block b g3.lt (by simp;omega)),dv g2 g5 (by intro k hk;cases hk;omega)⟩
   ·exact(g1.grown g5 (fun k hk e=>by simp at e;exact hk.2 e)).weak fun k hk=>hk.1
   ·rw[hws.o];rfl
 | some y=>
  rw[hmv]at hmem hws;obtain⟨rfl,hy⟩:=hmem;obtain⟨i5,i6,j5,j6,rfl⟩:=hy.form;clear hy;go_wp2_with fail
  refine(go _ b s st3 (by exact K3.o.2.1.of_heap (((am (aq (r:=none) B4.o) (World.grownBy_alloc w4 _ none))).block b K3.o.2.1.lt (by simp)))).mono ?_;rintro e w6 ⟨rfl,h6,hg6⟩;have G6:Ll (bf w6 b s none/\w.grownBy w6 (some b)/\bu w6 (fun k=>B<=k/\k≠w.heap.size+1) (f+1) t (.agg (KV t a7 c7 a8 c8))/\bu w6 (fun k=>B<=k/\k≠w.heap.size+1) f x (.agg (KV x a5 c5 a6 c6))/\Lc w6 (w.heap.size+1)/\w.heap.size<=w6.heap.size):=by
   have ga:w3.grownBy w6 (some b):=am (am (aq B4.o) (World.grownBy_alloc w4 _ _)) hg6;exact⟨h6,am K3.o.2.2.1 ga,K3.o.2.2.2.2.2.2.grown ga (fun k hk e=>by cases e;omega),K3.o.2.2.2.2.2.1.grown ga (fun k hk e=>by cases e;omega),K3.o.2.2.2.2.1.grown ga (by simp;omega),MH K3.o.2.2.1.size ga.size⟩
  have t0:=(bxV.o (.cells (KV y i5 j5 i6 j6) 35))
  obtain⟨s0',s1',s2',s3',s4',-⟩:=(t0.1.grown hg6 (by simp;omega)).c;obtain⟨v0',v1',v2',v3',v4',-⟩:=(t0.2.1.grown hg6 (by simp;have:=K3.o.2.2.1.size;omega)).c;have hsz6:=hg6.size;clear h6 hg6 t0;go_wp2_with fail
  refine(HW.o _ (fun k=>B<=k/\k≠w.heap.size+1) f t x _ _ key (by exact G6.o.2.2.1) (by exact G6.o.2.2.2.1) HP.o (by omega) hklm).mono ?_;rintro e w5 ⟨r,rfl,hr5,hb5⟩;obtain⟨e5,e6,d5,d6,rfl⟩:=hr5.form;have G5:Ll (bu w5 (fun k=>B<=k/\k≠w.heap.size+1) (f+1) (aG t key x) (.agg #[.int .i64 (aG t key x).kind,.int .i64 (aG t key x).n,.string ⟨(aG t key x).s.toArray⟩,.slice e5 (aG t key x).keys.length d5,.slice e6 (aG t key x).l.length d6])/\w.grownBy w5 (some b)/\bf w5 b s (none:Option Lz)/\Lc w5 (w.heap.size+1)):=by
   refine⟨hr5.weak fun k hk=>?_,?_,?_,?_⟩
   ·rcases hk with hk | hk
    ·exact hk
    ·have:=G6.o.2.2.2.2.2;exact⟨by omega,by have:=G6.o.2.2.2.2.1.lt;omega⟩
   ·exact dv (am G6.o.2.1 (az _ _)) (aq (r:=none) hb5) (by simp)
   ·exact G6.o.1.of_heap ((aq (r:=none) hb5).block b G6.o.1.lt (by simp))
   ·exact af hb5 G6.o.2.2.2.2.1
  clear hr5 hb5;have x0_:=G5.o.2.2.2.c;obtain⟨z0,z1,z2,z3,z4,-⟩:=(G5.o.2.2.2.set (.int .i64 (aG t key x).kind) (.int .i64 (aG t key x).n) (.string ⟨(aG t key x).s.toArray⟩) (.slice e5 (aG t key x).keys.length d5) (.slice e6 (aG t key x).l.length d6)).c;have Z:Ll (_/\_/\_/\_/\_):=⟨z0,z1,z2,z3,z4⟩
  go_wp2_with fail
  obtain⟨z0,z1,z2,z3,z4⟩:=Z.o;refine MM (v:=(.agg #[.int .i64 (aG t key x).kind,.int .i64 (aG t key x).n,.string ⟨(aG t key x).s.toArray⟩,.slice e5 (aG t key x).keys.length d5,.slice e6 (aG t key x).l.length d6])) ?_ rfl ?_
  ·simp only[ar]at z0 z1 z2 z3 z4;simp[results,results155,go_sem,z0,z1,z2,z3,z4]
  ·obtain⟨g1,g2,g3,g4⟩:=G5.o;have g5:=aI w5 (w.heap.size+1) (.int .i64 (aG t key x).kind) (.int .i64 (aG t key x).n) (.string ⟨(aG t key x).s.toArray⟩) (.slice e5 (aG t key x).keys.length d5) (.slice e6 (aG t key x).l.length d6);have hwp:=mw (key:=key) (x:=x) HP.o;refine⟨aG t key x,(none:Option Lz),e5,e6,d5,d6,rfl,?_,hwp.1,hwp.2,?_,g3.of_heap (g5.block b g3.lt (by simp;omega)),dv g2 g5 (by intro k hk;cases hk;omega)⟩
   ·exact(g1.grown g5 (fun k hk e=>by simp at e;exact hk.2 e)).weak fun k hk=>hk.1
   ·rw[hws.o];rfl
theorem xj{g:Lz->Option (V × Lz)}(hg:kT g)(n):∀ (m:Nat) (v:V) (l:Lz),l.length < n->l.length < m->fC g n v l=fC g m v l:=by
 induction n with
 | zero=>intro m v l h;omega
 | succ n ih=>
  intro m v l h1 h2;cases m with
  | zero=>omega
  | succ m=>
   simp only[fC];split
   ·rename_i r hr;have:=bU hr;cases hgr:lO g v r with
    | none=>rfl
    | some p=>
     have:=iM hg _ _ _ hgr;exact ih m _ _ (by omega) (by omega)
   ·rfl
def jp (g:Lz->Option (V × Lz)) (v:V) (st:Option Lz):Option (V × Lz):=st.bind fun l=>fC g (l.length+1) v l
theorem yk{g:Lz->Option (V × Lz)}(hg:kT g){v t0}{st1 st3:Option Lz}(h2:(st1.bind (aA 44)).isSome=true)(h3:(st1.bind (aA 44)).bind (lO g v)=st3.map (fun l=>(t0,l))):jp g v st1=jp g t0 st3/\dw st3 < dw st1:=by
 cases st1 with
 | none=>cases h2
 | some l=>
  cases hm:aA 44 l with
  | none=>simp[hm]at h2
  | some r=>
   have hr:=bU hm;simp only[Option.bind_some,hm]at h3;have e:jp g v (some l)=(lO g v r).bind fun p=>fC g l.length p.1 p.2:=by
    show fC g (l.length+1) v l=_;simp only[fC,hm]
   rw[e,h3];cases st3 with
   | none=>exact⟨rfl,by simp[dw]⟩
   | some l3=>
    have hl:=iM hg _ _ _ h3;simp only at hl;exact⟨xj hg _ _ _ _ (by simp only;omega) (by simp only;omega),by simp only[dw];omega⟩
theorem Bn{g:Lz->Option (V × Lz)}{v}{st1:Option Lz}(h2:(st1.bind (aA 44)).isSome=false):jp g v st1=((st1.map (List.dropWhile cw)).bind (aA 125)).map fun r=>(v,r):=by
 cases st1 with
 | none=>rfl
 | some l=>
  cases hm:aA 44 l with
  | some r=>simp[hm]at h2
  | none=>
   show fC g (l.length+1) v l=_;simp only[fC,hm];rfl
theorem rM{g:Lz->Option (V × Lz)}{st:Option Lz}:st.bind (oq g)=(st.bind (aA 123)).bind fun l=>match aA 125 l with | some r=>some (⟨5,0,[],[],[]⟩,r) | none=>(lO g ⟨5,0,[],[],[]⟩ (l.dropWhile cw)).bind fun p=>fC g (p.2.length+1) p.1 p.2:=by
 cases st <;> rfl
theorem Cq{g:Lz->Option (V × Lz)}{st st3:Option Lz}{t0}(h2:((st.bind (aA 123)).bind (aA 125)).isSome=false)(h3:((st.bind (aA 123)).map (List.dropWhile cw)).bind (lO g ⟨5,0,[],[],[]⟩)=st3.map (fun l=>(t0,l))):st.bind (oq g)=jp g t0 st3:=by
 rw[rM];cases hs:st.bind (aA 123) with
 | none=>
  rw[hs]at h3;cases st3 with
  | none=>rfl
  | some l=>cases h3
 | some l=>
  rw[hs]at h2 h3;simp only[Option.bind_some]at h2 ⊢;have hm:aA 125 l=none:=by cases hm:aA 125 l with
   | none=>rfl
   | some r=>simp[hm]at h2
  rw[hm];have h3':lO g ⟨5,0,[],[],[]⟩ (l.dropWhile cw)=st3.map (fun l=>(t0,l)):=h3;simp only[h3'];cases st3 <;> rfl
def GU (f:Nat) (w:LC) (b:Nat) (s:ByteArray) (T:Option (V × Lz)) (k:Nat) (wr:LC):Prop:=
 ∃ (t:V) (st1:Option Lz) (a7 a8:Option Addr) (c7 c8:Nat),k=dw st1/\jp (cH f) t st1=T/\t.l.length+k<=3000/\(st1.getD []).length < f+1/\Lc wr w.heap.size/\KY wr (w.heap.size+1) t a7 c7 a8 c8 /\
  bu wr (fun k=>w.heap.size+2<=k) (f+1) t (.agg (KV t a7 c7 a8 c8))/\aK t=true/\bf wr b s st1/\cn wr/\w.grownBy wr (some b)
theorem zU{f}{w3:LC}{b s}{T:Option (V × Lz)}{st3:Option Lz}{a7 a8 c7 c8 d0 d1 d2 d3 d4}(hb4:7<=b)(hbl:b < w.heap.size)(bxC:Lc w3 w.heap.size)(bxA:ag w3 (w.heap.size+1) d0 d1 d2 d3 d4)(hv:bu w3 (fun k=>w.heap.size+2<=k) (f+1) t (.agg (KV t a7 c7 a8 c8)))(hp:aK t=true)(hT:jp (cH f) t st3=T)(hl:(st3.getD []).length < f+1)(hc:t.l.length+dw st3<=3000)(hr:bf w3 b s st3)(hG:cn w3)(hg:w.grownBy w3 (some b)):GU f w b s T (dw st3) (LG w3 (w.heap.size+1) t a7 c7 a8 c8):=by
 have g5:=aI w3 (w.heap.size+1) (.int .i64 t.kind) (.int .i64 t.n) (.string ⟨t.s.toArray⟩) (.slice a7 t.keys.length c7) (.slice a8 t.l.length c8);exact⟨t,st3,a7,a8,c7,c8,rfl,hT,hc,hl,bxC.grown g5 (by simp),bxA.set _ _ _ _ _,hv.grown g5 (fun k hk e=>by simp at e;omega),hp,hr.of_heap (g5.block b hr.lt (by simp;omega)),
  hG.grown g5 (fun k hk=>by cases hk;omega),dv hg g5 (by intro k hk;cases hk;omega)⟩
theorem Dv(hW:vW)(f)(ih:zo f)(w:LC)(b s)(st:Option Lz)(h:bf w b s st)(hG:cn w)(hb4:7<=b)(hf0:0 < f)(LT:(st.getD []).length < f+1):Calls prog 123 #[.pointer (some ⟨b,0,none⟩)] w fun e w'=>∃ (t:V) (st':Option Lz) (a7 a8:Option Addr) (c7 c8:Nat),
 e=.returned (.agg (KV t a7 c7 a8 c8))/\bu w' (fun k=>w.heap.size<=k) (f+1) t (.agg (KV t a7 c7 a8 c8))/\st.bind (oq (cH f))=st'.map (fun l=>(t,l))/\bf w' b s st'/\w.grownBy w' (some b):=by
 have H:=aa h;have HG:=aa hG;have IH:=aa ih;have HW:=aa hW;have hbl:=h.lt;clear h hG ih hW;go_enter func123,ntmps123;go_wp2_with fail
 refine(kP _ b s st 123 123 rfl (by decide) (by exact H.o.grown (bd (World.grownBy_alloc w _ none) _) (by simp))).mono ?_;rintro e w1 ⟨rfl,h1,hg1⟩;have bx1:Ll (Lc w1 w.heap.size/\ag w1 (w.heap.size+1) (.int .i64 5) (.int .i64 0) (.string ⟨#[]⟩) (.slice none 0 0) (.slice none 0 0)):=
  ⟨ag.grown (fb w _ _) hg1 (by simp;omega),ag.grown (et w _ _) hg1 (by simp;omega)⟩
 have G1:Ll (bf w1 b s (st.bind (aA 123))/\w.grownBy w1 (some b)):=⟨h1,am (bd (bd (az _ _) _) _) hg1⟩
 clear h1 hg1;go_wp2_with fail
 refine(mD _ b s (st.bind (aA 123)) 125 125 rfl (by decide) (by exact G1.o.1)).mono ?_;rintro e w2 ⟨rfl,h2,hg2⟩;have bx2:Ll (Lc w2 w.heap.size/\ag w2 (w.heap.size+1) (.int .i64 5) (.int .i64 0) (.string ⟨#[]⟩) (.slice none 0 0) (.slice none 0 0)):=⟨bx1.o.1.grown hg2 (by simp;omega),bx1.o.2.grown hg2 (by simp;omega)⟩
 have G2:Ll (bf w2 b s (if ((st.bind (aA 123)).bind (aA 125)).isSome then (st.bind (aA 123)).bind (aA 125) else (st.bind (aA 123)).map (List.dropWhile cw))/\w.grownBy w2 (some b)):=⟨h2,am G1.o.2 hg2⟩
 have x0_:=bx2.o.1.c;obtain⟨p0,p1,p2,p3,p4,q0,q1,q2,q3,q4⟩:=bx2.o.2.c;clear h2 hg2 bx1 G1;cases hm:((st.bind (aA 123)).bind (aA 125)).isSome with
 | true=>
  have HM:=aa hm;obtain⟨z0,z1,z2,z3,z4,-⟩:=(bx2.o.1.set (.int .i64 5) (.int .i64 0) (.string ⟨#[]⟩) (.slice none 0 0) (.slice none 0 0)).c;have Z:Ll (_/\_/\_/\_/\_):=⟨z0,z1,z2,z3,z4⟩
  clear hm;go_wp2_with fail
  obtain⟨z0,z1,z2,z3,z4⟩:=Z.o;refine MM (v:=cz 5 0 []) ?_ rfl ?_
  ·simp only[ar,aR]at z0 z1 z2 z3 z4;simp[results,results123,go_sem,z0,z1,z2,z3,z4,cz,aR]
  ·refine⟨bC 5 0 [],(st.bind (aA 123)).bind (aA 125),none,none,0,0,rfl,fd _ _ f _ _ _ (by unfold dW;omega) (by unfold dW;omega) (by simp),?_,?_,?_⟩
   ·rw[rM];cases hs:st.bind (aA 123) with
    | none=>rw[hs]at HM;exact absurd HM.o (by simp)
    | some l=>
     rw[hs]at HM;cases h9:aA 125 l with
     | none=>simp[h9]at HM;exact absurd HM.o (by simp)
     | some r=>simp only[Option.bind_some,h9];rfl
   ·have:=G2.o.1;rw[if_pos HM.o]at this;exact this.of_heap ((aI w2 w.heap.size _ _ _ _ _).block b this.lt (by simp;omega))
   ·exact dv G2.o.2 (aI w2 w.heap.size _ _ _ _ _) (by intro k hk;cases hk;exact MG _)
 | false=>
  have HM:=aa hm;have G3:Ll (bf w2 b s ((st.bind (aA 123)).map (List.dropWhile cw))/\w.grownBy w2 (some b)/\cn w2):=by
   have:=G2.o.1;rw[if_neg (by rw[HM.o];simp)]at this;exact⟨this,G2.o.2,HG.o.grown G2.o.2 (by intro k hk;cases hk;exact hb4)⟩
  clear hm G2;have call5:Ll (Calls prog 155 #[.pointer (some ⟨b,0,none⟩),.agg #[.int .i64 5,.int .i64 0,.string ⟨#[]⟩,.slice none 0 0,.slice none 0 0]] w2 fun e w'=>∃ (t:V) (st':Option Lz) (a7 a8:Option Addr) (c7 c8:Nat),
   e=.returned (.agg (KV t a7 c7 a8 c8))/\bu w' (fun k=>w.heap.size+2<=k) (f+1) t (.agg (KV t a7 c7 a8 c8))/\aK t=true/\st.bind (oq (cH f))=jp (cH f) t st'/\(st'.getD []).length < f+1/\t.l.length+dw st'<=3000/\bf w' b s st'/\w2.grownBy w' (some b)):=by
   have hl2:(((st.bind (aA 123)).map (List.dropWhile cw)).getD []).length < f:=by
    cases hs:st.bind (aA 123) with
    | none=>exact hf0
    | some l=>
     cases st with
     | none=>cases hs
     | some l0=>
      have:=bU (show aA 123 l0=some l from hs);have:=dX l;simp only[Option.getD_some,Option.map_some]at LT ⊢;omega
   refine(rI HW.o f IH.o w2 b (w.heap.size+2) s _ ⟨5,0,[],[],[]⟩ none none 0 0 G3.o.1 G3.o.2.2 hb4 hf0 (by omega) (by omega) bx2.o.2.lt (fd w2 _ f 5 0 [] (by unfold dW;omega) (by unfold dW;omega) (by simp)) rfl (by simp)).mono ?_;rintro e w' ⟨t,st',a7,a8,c7,c8,rfl,hv,hp,htl,hst,hr,hg⟩;refine⟨t,st',a7,a8,c7,c8,rfl,hv,hp,Cq HM.o hst,?_,?_,hr,hg⟩
   ·cases st' with
    | none=>simp
    | some l'=>
     cases hs:(st.bind (aA 123)).map (List.dropWhile cw) with
     | none=>rw[hs]at hst;cases hst
     | some l1=>
      rw[hs]at hst hl2;have:=iM (jd f) _ l1 _ hst;simp only[Option.getD_some]at hl2 ⊢;simp only at this;omega
   ·simp only[List.length_nil]at htl;cases st' with
    | none=>simp only[dw];omega
    | some l'=>have:=hr.len;simp only[dw];omega
  go_wp2_with fail
  refine(call5.o).mono ?_;rintro e w3 ⟨t,st3,a7,a8,c7,c8,rfl,hv3,hp3,hT3,hl3,hc3,hr3,hg3⟩;have I0:Ll (GU f w b s (st.bind (oq (cH f))) (dw st3) (LG w3 (w.heap.size+1) t a7 c7 a8 c8)):=
   zU hb4 hbl (bx2.o.1.grown hg3 (by simp;omega)) (bx2.o.2.grown hg3 (by simp;omega)) hv3 hp3 hT3.symm hl3 hc3 hr3 (G3.o.2.2.grown hg3 (by intro k hk;cases hk;exact hb4)) (am G3.o.2.1 hg3)
  obtain⟨p0,p1,p2,p3,p4,q0,q1,q2,q3,q4⟩:=(bx2.o.2.grown hg3 (by simp;omega)).c;clear hv3 hp3 hT3 hl3 hc3 hr3 hg3;go_wp2_with fail
  go_loopg [] (dw st3) (fun k wr=>GU f w b s (st.bind (oq (cH f))) k wr)
  case atStart=>exact I0.o
  case round=>
   clear I0 call5 bx2 G3;obtain⟨t,st1,a7,a8,c7,c8,hk,hT,hc,hl1,bxC,bxA,hv,hp,hr,hGr,hg⟩:=hrel;have A:Ll (gk=dw st1/\jp (cH f) t st1=st.bind (oq (cH f))/\t.l.length+gk<=3000/\(st1.getD []).length < f+1/\Lc wr w.heap.size/\KY wr (w.heap.size+1) t a7 c7 a8 c8/\bu wr (fun k=>w.heap.size+2<=k) (f+1) t (.agg (KV t a7 c7 a8 c8))/\aK t=true/\bf wr b s st1/\cn wr/\w.grownBy wr (some b)):=⟨hk,hT,hc,hl1,bxC,bxA,hv,hp,hr,hGr,hg⟩
   have htl:t.l.length<=3000:=by omega
   clear hk hT hc hl1 bxC bxA hv hp hr hGr hg;go_wp2_with fail
   refine(mD _ b s st1 44 44 rfl (by decide) (by exact A.o.2.2.2.2.2.2.2.2.1)).mono ?_;rintro e w2 ⟨rfl,h2,hg2⟩;have D:Ll (bf w2 b s (if (st1.bind (aA 44)).isSome then st1.bind (aA 44) else st1.map (List.dropWhile cw))/\Lc w2 w.heap.size/\KY w2 (w.heap.size+1) t a7 c7 a8 c8/\bu w2 (fun k=>w.heap.size+2<=k) (f+1) t (.agg (KV t a7 c7 a8 c8))/\cn w2/\w.grownBy w2 (some b)):=by
    obtain⟨hk,hT,hc,hl1,bxC,bxA,hv,hp,hr,hGr,hg⟩:=A.o;exact⟨h2,bxC.grown hg2 (by simp;omega),bxA.grown hg2 (by simp;omega),hv.grown hg2 (fun k hk e=>by simp at e;omega),hGr.grown hg2 (by intro k hk;cases hk;exact hb4),am hg hg2⟩
   clear h2 hg2;obtain⟨p0,p1,p2,p3,p4,q0,q1,q2,q3,q4⟩:=D.o.2.2.1.c;cases hm:(st1.bind (aA 44)).isSome with
   | true=>
    have HM:=aa hm;have R2:Ll (bf w2 b s (st1.bind (aA 44))):=by have:=D.o.1;rw[if_pos hm]at this;exact this
    clear hm;go_wp2_with fail
    have hl2:Ll (((st1.bind (aA 44)).getD []).length < f+1):=by
     show _ < _;have hl1:=A.o.2.2.2.1;cases st1 with
     | none=>simp
     | some l0=>
      cases hs:aA 44 l0 with
      | none=>simp only[Option.bind_some,hs];simp
      | some l=>
       have:=bU hs;simp only[Option.bind_some,hs,Option.getD_some]at hl1 ⊢;omega
    refine(rI HW.o f IH.o _ b (w.heap.size+2) s _ t a7 a8 c7 c8 (by exact R2.o) (by exact D.o.2.2.2.2.1) hb4 hf0 hl2.o (by omega) (by exact D.o.2.2.1.lt) (by exact D.o.2.2.2.1) A.o.2.2.2.2.2.2.2.1 (by omega)).mono ?_;rintro e w3 ⟨t',st3,a5,a6,c5,c6,rfl,hv3,hp3,htl3,hst3,hr3,hg3⟩;have V3:Ll (GU f w b s (st.bind (oq (cH f))) (dw st3) (LG w3 (w.heap.size+1) t' a5 c5 a6 c6)/\dw st3 < gk):=by
     obtain⟨hk,hT,hc,hl1,-⟩:=A.o;obtain⟨i1,i2⟩:=yk (jd f) HM.o hst3;refine⟨zU hb4 hbl (D.o.2.1.grown hg3 (by simp;omega)) (D.o.2.2.1.grown hg3 (by simp;omega)) hv3 hp3 (by rw[<-hT,i1]) ?_ (by omega) hr3 (D.o.2.2.2.2.1.grown hg3 (by intro k hk;cases hk;exact hb4)) (am D.o.2.2.2.2.2 hg3),by rw[hk];exact i2⟩;cases st3 with
     | none=>simp
     | some l'=>
      cases hs:st1.bind (aA 44) with
      | none=>rw[hs]at hst3;cases hst3
      | some l1=>
       rw[hs]at hst3;have:=iM (jd f) _ l1 _ hst3;have h8:=hl2.o;rw[hs]at h8;simp only[Option.getD_some]at h8 ⊢;simp only at this;omega
    obtain⟨p0,p1,p2,p3,p4,q0,q1,q2,q3,q4⟩:=(D.o.2.2.1.grown hg3 (by simp;omega)).c;clear hv3 hp3 htl3 hst3 hr3 hg3;go_wp2_with fail
    go_roundg (dw st3)
    case measure=>exact V3.o.2
    case rel=>exact V3.o.1
   | false=>
    have HM:=aa hm;have R2:Ll (bf w2 b s (st1.map (List.dropWhile cw))):=by have:=D.o.1;rw[if_neg (by rw[hm];simp)]at this;exact this
    clear hm;go_wp2_with fail
    refine(kP _ b s _ 125 125 rfl (by decide) (by exact R2.o)).mono ?_;rintro e w3 ⟨rfl,h3,hg3⟩;have E:Ll (bf w3 b s ((st1.map (List.dropWhile cw)).bind (aA 125))/\w.grownBy w3 (some b)/\Lc w3 w.heap.size/\KY w3 (w.heap.size+1) t a7 c7 a8 c8/\bu w3 (fun k=>w.heap.size+2<=k) (f+1) t (.agg (KV t a7 c7 a8 c8))):=
     ⟨h3,am D.o.2.2.2.2.2 hg3,D.o.2.1.grown hg3 (by simp;omega),D.o.2.2.1.grown hg3 (by simp;omega),D.o.2.2.2.1.grown hg3 (fun k hk e=>by simp at e;omega)⟩
    clear h3 hg3;have x0_:=E.o.2.2.1.c;obtain⟨p0,p1,p2,p3,p4,-⟩:=E.o.2.2.2.1.c;obtain⟨z0,z1,z2,z3,z4,-⟩:=(LH E.o.2.2.1.set t a7 c7 a8 c8).c;have Z:Ll (_/\_/\_/\_/\_):=⟨z0,z1,z2,z3,z4⟩
    go_wp2_with fail
    obtain⟨z0,z1,z2,z3,z4⟩:=Z.o;refine MM (v:=(.agg (KV t a7 c7 a8 c8))) ?_ rfl ?_
    ·simp only[ar]at z0 z1 z2 z3 z4;simp[results,results123,go_sem,z0,z1,z2,z3,z4]
    ·obtain⟨e1,e2,e3,e4,e5⟩:=E.o;have g5:=aI w3 w.heap.size (.int .i64 t.kind) (.int .i64 t.n) (.string ⟨t.s.toArray⟩) (.slice a7 t.keys.length c7) (.slice a8 t.l.length c8);refine⟨t,(st1.map (List.dropWhile cw)).bind (aA 125),a7,a8,c7,c8,rfl,(e5.grown g5 (fun k hk e=>by simp at e;omega)).weak (fun k hk=>by omega),?_,e1.of_heap (g5.block b e1.lt (by simp;omega)),dv e2 g5 (by intro k hk;cases hk;exact MG _)⟩;rw[<-A.o.2.1,Bn HM.o]
theorem rV(w b s)(st:Option Lz)(h:bf w b s st):Calls prog 96 #[.pointer (some ⟨b,0,none⟩)] w fun e w'=>e=.returned (.tuple #[])/\bf w' b s (st.map (List.dropWhile cw))/\w.grownBy w' (some b):=by
 refine(sB w b s _ _ h).mono ?_;rintro e w' ⟨he,hr,hg⟩;refine⟨he,?_,hg⟩;cases st with
 | none=>exact hr
 | some l=>exact hr
theorem Cp(f)(st:Option Lz):st.bind (cH (f+1))=(st.map (List.dropWhile cw)).bind (gy (cH f)):=by cases st <;> rfl
theorem rT{l c m}(hm:m=(c.toNat:Int))(h:es l≠c):(((es l).toNat:Int) == m)=false:=wE hm h
theorem rA{l c m}(hm:m=(c.toNat:Int))(h:es l=c):(((es l).toNat:Int) == m)=true:=by rw[h,hm];simp
theorem jq{f:Nat}{w3:LC}{b:Nat}{s}{st st':Option Lz}{a7 a8}{c7 c8:Nat}(hbl:b < w.heap.size)(hv:bu w3 (fun k=>w.heap.size+1<=k) (f+1) t (.agg (KV t a7 c7 a8 c8)))(hst:st.bind (cH (f+1))=st'.map (fun l=>(t,l)))(hr:bf w3 b s st')(hg:w.grownBy w3 (some b))(LU:Lc w3 w.heap.size):KY (LG w3 w.heap.size t a7 c7 a8 c8) w.heap.size t a7 c7 a8 c8/\bu (LG w3 w.heap.size t a7 c7 a8 c8) (fun k=>w.heap.size<=k) (f+1) t (.agg (KV t a7 c7 a8 c8))/\bf (LG w3 w.heap.size t a7 c7 a8 c8) b s st'/\w.grownBy (LG w3 w.heap.size t a7 c7 a8 c8) (some b):=by
 have g5:=aI w3 w.heap.size (.int .i64 t.kind) (.int .i64 t.n) (.string ⟨t.s.toArray⟩) (.slice a7 t.keys.length c7) (.slice a8 t.l.length c8);exact⟨LU.set _ _ _ _ _,(hv.grown g5 (fun k hk e=>by simp at e;omega)).weak (fun k hk=>by omega),hr.of_heap (g5.block b hr.lt (by simp;omega)),dv hg g5 (by intro k hk;cases hk;exact MG _)⟩
theorem xK(hW:vW)(f)(ih:zo f):zo (f+1):=by
 intro w b s st h hG hb4 LT;have H:=aa h;have HG:=aa hG;have IH:=aa ih;have HW:=aa hW;have hbl:=h.lt;clear h hG ih hW;go_enter func95,ntmps95;go_wp2_with fail
 refine(rV _ b s st (by exact H.o.grown (World.grownBy_alloc w _ none) (by simp))).mono ?_;rintro e w1 ⟨rfl,h1,hg1⟩;have K1:Ll (bf w1 b s (st.map (List.dropWhile cw))/\w.grownBy w1 (some b)/\Lc w1 w.heap.size/\cn w1):=by
  have g:=am (bd (az w (some b)) _) hg1;exact⟨h1,g,ag.grown (MN w _) hg1 (by simp;omega),HG.o.grown g (by intro k hk;cases hk;exact hb4)⟩
 clear h1 hg1;go_wp2_with fail
 refine(kd _ b s ((st.map (List.dropWhile cw)).getD []) (st.map (List.dropWhile cw)).isNone (by exact K1.o.1)).mono ?_;rintro e w2 ⟨rfl,n2,hw2⟩;have K2:Ll (bf w2 b s (st.map (List.dropWhile cw))/\w.grownBy w2 (some b)/\Lc w2 w.heap.size/\cn w2):=by
  rw[hw2];exact⟨K1.o.1.of_heap rfl,cJ K1.o.2.1 _,K1.o.2.2.1,K1.o.2.2.2.same rfl⟩
 have hsz2:w.heap.size+1<=w2.heap.size:=K2.o.2.2.1.lt;clear hw2 K1;have N:Ll (st.bind (cH (f+1))=(st.map (List.dropWhile cw)).bind (gy (cH f))):=Cp f st;have hlen2:Ll ((((st.map (List.dropWhile cw)).getD []).length < f+1)):=by
  show _ < _;cases st with
  | none=>simp
  | some l=>have:=dX l;simp only[Option.getD_some,Option.map_some]at LT ⊢;omega
 obtain⟨st1,hst1⟩:∃ st1,st1=st.map (List.dropWhile cw):=⟨_,rfl⟩
 rw[<-hst1]at K2 N hlen2 ⊢;have HST:=aa hst1;clear hst1;by_cases q110:es (st1.getD [])=110
 ·have d:=rA (m:=110) rfl q110;have E:Ll (st1.bind (gy (cH f))=(st1.bind (iW [110,117,108,108])).map fun r=>(bC 0 0 [],r)):=by
   cases st1 with
   | none=>rfl
   | some l=>
    have q:es l=110:=q110;show gy (cH f) l=_;simp only[gy,q];rfl
  go_wp2_with fail
  refine(tW _ b s st1 ⟨#[110,117,108,108]⟩ 0 0 (by unfold dW;omega) (by unfold dW;omega) (by decide) (by decide) (by exact K2.o.1)).mono ?_;rintro e w3 ⟨t,v,st3,rfl,⟨kk,nn,rfl,rfl,hkk,hnn⟩,hst3,hr3,hg3⟩;have HSTF:Ll (st.bind (cH (f+1))=st3.map (fun l=>(bC kk nn [],l))):=by show _=_;rw[N.o,E.o];exact hst3
  have HBX:Lc w3 w.heap.size:=K2.o.2.2.1.grown hg3 (by simp;omega);have HVV:bu w3 (fun k=>w.heap.size+1<=k) (f+1) (bC kk nn []) (cz kk nn []):=fd _ _ f _ _ _ hkk hnn (by simp);have HGG:=am K2.o.2.1 hg3;have HRR:=hr3;have HST2:=HSTF.o;clear hst3 hr3 hg3;unfold cz aR;have FIN:=aa (jq (f:=f) (a7:=none) (a8:=none) (c7:=0) (c8:=0) hbl HVV HST2 HRR HGG HBX);have x0_:=HBX.c;obtain⟨z0,z1,z2,z3,z4,-⟩:=(HBX.set (.int .i64 kk) (.int .i64 nn) (.string ⟨#[]⟩) (.slice none 0 0) (.slice none 0 0)).c;clear HVV HST2 HRR HGG HBX;have Z:Ll (_/\_/\_/\_/\_):=⟨z0,z1,z2,z3,z4⟩
  go_wp2_with fail
  obtain⟨z0,z1,z2,z3,z4⟩:=Z.o;refine MM (v:=cz kk nn []) ?_ rfl ?_
  ·simp only[ar]at z0 z1 z2 z3 z4;simp[results,results95,go_sem,z0,z1,z2,z3,z4,cz,bC,aR]
  ·exact⟨bC kk nn [],st3,none,none,0,0,rfl,FIN.o.2.1,HSTF.o,FIN.o.2.2.1,FIN.o.2.2.2⟩
 have n110:=rT (m:=110) rfl q110;by_cases q102:es (st1.getD [])=102
 ·have d:=rA (m:=102) rfl q102;have E:Ll (st1.bind (gy (cH f))=(st1.bind (iW [102,97,108,115,101])).map fun r=>(bC 1 0 [],r)):=by
   cases st1 with
   | none=>rfl
   | some l=>
    have q:es l=102:=q102;show gy (cH f) l=_;simp only[gy,q];rfl
  go_wp2_with fail
  refine(tW _ b s st1 ⟨#[102,97,108,115,101]⟩ 1 0 (by unfold dW;omega) (by unfold dW;omega) (by decide) (by decide) (by exact K2.o.1)).mono ?_;rintro e w3 ⟨t,v,st3,rfl,⟨kk,nn,rfl,rfl,hkk,hnn⟩,hst3,hr3,hg3⟩;have HSTF:Ll (st.bind (cH (f+1))=st3.map (fun l=>(bC kk nn [],l))):=by show _=_;rw[N.o,E.o];exact hst3
  have HBX:Lc w3 w.heap.size:=K2.o.2.2.1.grown hg3 (by simp;omega);have HVV:bu w3 (fun k=>w.heap.size+1<=k) (f+1) (bC kk nn []) (cz kk nn []):=fd _ _ f _ _ _ hkk hnn (by simp);have HGG:=am K2.o.2.1 hg3;have HRR:=hr3;have HST2:=HSTF.o;clear hst3 hr3 hg3;unfold cz aR;have FIN:=aa (jq (f:=f) (a7:=none) (a8:=none) (c7:=0) (c8:=0) hbl HVV HST2 HRR HGG HBX);have x0_:=HBX.c;obtain⟨z0,z1,z2,z3,z4,-⟩:=(HBX.set (.int .i64 kk) (.int .i64 nn) (.string ⟨#[]⟩) (.slice none 0 0) (.slice none 0 0)).c;clear HVV HST2 HRR HGG HBX;have Z:Ll (_/\_/\_/\_/\_):=⟨z0,z1,z2,z3,z4⟩
  go_wp2_with fail
  obtain⟨z0,z1,z2,z3,z4⟩:=Z.o;refine MM (v:=cz kk nn []) ?_ rfl ?_
  ·simp only[ar]at z0 z1 z2 z3 z4;simp[results,results95,go_sem,z0,z1,z2,z3,z4,cz,bC,aR]
  ·exact⟨bC kk nn [],st3,none,none,0,0,rfl,FIN.o.2.1,HSTF.o,FIN.o.2.2.1,FIN.o.2.2.2⟩
 have n102:=rT (m:=102) rfl q102;by_cases q116:es (st1.getD [])=116
 ·have d:=rA (m:=116) rfl q116;have E:Ll (st1.bind (gy (cH f))=(st1.bind (iW [116,114,117,101])).map fun r=>(bC 1 1 [],r)):=by
   cases st1 with
   | none=>rfl
   | some l=>
    have q:es l=116:=q116;show gy (cH f) l=_;simp only[gy,q];rfl
  go_wp2_with fail
  refine(tW _ b s st1 ⟨#[116,114,117,101]⟩ 1 1 (by unfold dW;omega) (by unfold dW;omega) (by decide) (by decide) (by exact K2.o.1)).mono ?_;rintro e w3 ⟨t,v,st3,rfl,⟨kk,nn,rfl,rfl,hkk,hnn⟩,hst3,hr3,hg3⟩;have HSTF:Ll (st.bind (cH (f+1))=st3.map (fun l=>(bC kk nn [],l))):=by show _=_;rw[N.o,E.o];exact hst3
  have HBX:Lc w3 w.heap.size:=K2.o.2.2.1.grown hg3 (by simp;omega);have HVV:bu w3 (fun k=>w.heap.size+1<=k) (f+1) (bC kk nn []) (cz kk nn []):=fd _ _ f _ _ _ hkk hnn (by simp);have HGG:=am K2.o.2.1 hg3;have HRR:=hr3;have HST2:=HSTF.o;clear hst3 hr3 hg3;unfold cz aR;have FIN:=aa (jq (f:=f) (a7:=none) (a8:=none) (c7:=0) (c8:=0) hbl HVV HST2 HRR HGG HBX);have x0_:=HBX.c;obtain⟨z0,z1,z2,z3,z4,-⟩:=(HBX.set (.int .i64 kk) (.int .i64 nn) (.string ⟨#[]⟩) (.slice none 0 0) (.slice none 0 0)).c;clear HVV HST2 HRR HGG HBX;have Z:Ll (_/\_/\_/\_/\_):=⟨z0,z1,z2,z3,z4⟩
  go_wp2_with fail
  obtain⟨z0,z1,z2,z3,z4⟩:=Z.o;refine MM (v:=cz kk nn []) ?_ rfl ?_
  ·simp only[ar]at z0 z1 z2 z3 z4;simp[results,results95,go_sem,z0,z1,z2,z3,z4,cz,bC,aR]
  ·exact⟨bC kk nn [],st3,none,none,0,0,rfl,FIN.o.2.1,HSTF.o,FIN.o.2.2.1,FIN.o.2.2.2⟩
 have n116:=rT (m:=116) rfl q116;by_cases q34:es (st1.getD [])=34
 ·have d:=rA (m:=34) rfl q34;have E:Ll (st1.bind (gy (cH f))=(st1.bind iS).map fun p=>(bC 3 0 p.1,p.2)):=by
   cases st1 with
   | none=>rfl
   | some l=>
    show gy (cH f) l=_;simp only[gy,if_neg (show ¬es l=110 from q110),if_neg (show ¬es l=102 from q102),if_neg (show ¬es l=116 from q116),if_pos (show es l=34 from q34)];rfl
  go_wp2_with fail
  refine(rY _ b s st1 (by exact K2.o.1)).mono ?_;rintro e w3 ⟨t,st3,rfl,hst3,hkl,hr3,hg3⟩;have HSTF:Ll (st.bind (cH (f+1))=st3.map (fun l=>(bC 3 0 t,l))):=by
   show _=_;rw[N.o,E.o,hst3];cases st3 <;> rfl
  have HBX:Lc w3 w.heap.size:=K2.o.2.2.1.grown hg3 (by simp;omega);have HVV:bu w3 (fun k=>w.heap.size+1<=k) (f+1) (bC 3 0 t) (cz 3 0 t):=fd _ _ f _ _ _ (by unfold dW;omega) (by unfold dW;omega) (by unfold maxLen;omega);have HGG:=am K2.o.2.1 hg3;have HRR:=hr3;have HST2:=HSTF.o;clear hst3 hr3 hg3;have FIN:=aa (jq (f:=f) (a7:=none) (a8:=none) (c7:=0) (c8:=0) hbl HVV HST2 HRR HGG HBX);have x0_:=HBX.c;obtain⟨z0,z1,z2,z3,z4,-⟩:=(HBX.set (.int .i64 3) (.int .i64 0) (.string ⟨t.toArray⟩) (.slice none 0 0) (.slice none 0 0)).c;clear HVV HST2 HRR HGG HBX;have Z:Ll (_/\_/\_/\_/\_):=⟨z0,z1,z2,z3,z4⟩
  go_wp2_with fail
  obtain⟨z0,z1,z2,z3,z4⟩:=Z.o;refine MM (v:=cz 3 0 t) ?_ rfl ?_
  ·simp only[ar]at z0 z1 z2 z3 z4;simp[results,results95,go_sem,z0,z1,z2,z3,z4,cz,aR]
  ·exact⟨bC 3 0 t,st3,none,none,0,0,rfl,FIN.o.2.1,HSTF.o,FIN.o.2.2.1,FIN.o.2.2.2⟩
 have n34:=rT (m:=34) rfl q34;by_cases q91:es (st1.getD [])=91
 ·have d:=rA (m:=91) rfl q91;have E:Ll (st1.bind (gy (cH f))=st1.bind (jH (cH f))):=by
   cases st1 with
   | none=>rfl
   | some l=>
    show gy (cH f) l=_;simp only[gy,if_neg (show ¬es l=110 from q110),if_neg (show ¬es l=102 from q102),if_neg (show ¬es l=116 from q116),if_neg (show ¬es l=34 from q34),if_pos (show es l=91 from q91)];rfl
  have hf0:0 < f:=by
   have:=hlen2.o;cases hs:st1.getD [] with
   | nil=>rw[hs]at q91;simp[es]at q91
   | cons c r=>rw[hs]at this;simp only[My]at this;omega
  go_wp2_with fail
  refine(Gz f IH.o _ b s st1 (by exact K2.o.1) (by exact K2.o.2.2.2) hb4 hf0 hlen2.o).mono ?_;rintro e w3 ⟨t,st3,a7,a8,c7,c8,rfl,hv3,hst3,hr3,hg3⟩;have HSTF:Ll (st.bind (cH (f+1))=st3.map (fun l=>(t,l))):=by
   show _=_;rw[N.o,E.o,hst3]
  have HBX:Lc w3 w.heap.size:=K2.o.2.2.1.grown hg3 (by simp;omega);have HVV:bu w3 (fun k=>w.heap.size+1<=k) (f+1) t (.agg (KV t a7 c7 a8 c8)):=hv3.weak (fun k hk=>by omega);have HGG:=am K2.o.2.1 hg3;have HRR:=hr3;have HST2:=HSTF.o;clear hst3 hr3 hg3 hv3;have FIN:=aa (jq (f:=f) hbl HVV HST2 HRR HGG HBX);have x0_:=HBX.c;obtain⟨z0,z1,z2,z3,z4,-⟩:=FIN.o.1.c;clear HVV HST2 HRR HGG HBX;have Z:Ll (_/\_/\_/\_/\_):=⟨z0,z1,z2,z3,z4⟩
  go_wp2_with fail
  obtain⟨z0,z1,z2,z3,z4⟩:=Z.o;refine MM (v:=(.agg (KV t a7 c7 a8 c8))) ?_ rfl ?_
  ·simp only[ar]at z0 z1 z2 z3 z4;simp[results,results95,go_sem,z0,z1,z2,z3,z4]
  ·exact⟨t,st3,a7,a8,c7,c8,rfl,FIN.o.2.1,HSTF.o,FIN.o.2.2.1,FIN.o.2.2.2⟩
 have n91:=rT (m:=91) rfl q91;by_cases q123:es (st1.getD [])=123
 ·have d:=rA (m:=123) rfl q123;have E:Ll (st1.bind (gy (cH f))=st1.bind (oq (cH f))):=by
   cases st1 with
   | none=>rfl
   | some l=>
    show gy (cH f) l=_;simp only[gy,if_neg (show ¬es l=110 from q110),if_neg (show ¬es l=102 from q102),if_neg (show ¬es l=116 from q116),if_neg (show ¬es l=34 from q34),if_neg (show ¬es l=91 from q91),if_pos (show es l=123 from q123)];rfl
  have hf0:0 < f:=by
   have:=hlen2.o;cases hs:st1.getD [] with
   | nil=>rw[hs]at q123;simp[es]at q123
   | cons c r=>rw[hs]at this;simp only[My]at this;omega
  go_wp2_with fail
  refine(Dv HW.o f IH.o _ b s st1 (by exact K2.o.1) (by exact K2.o.2.2.2) hb4 hf0 hlen2.o).mono ?_;rintro e w3 ⟨t,st3,a7,a8,c7,c8,rfl,hv3,hst3,hr3,hg3⟩;have HSTF:Ll (st.bind (cH (f+1))=st3.map (fun l=>(t,l))):=by
   show _=_;rw[N.o,E.o,hst3]
  have HBX:Lc w3 w.heap.size:=K2.o.2.2.1.grown hg3 (by simp;omega);have HVV:bu w3 (fun k=>w.heap.size+1<=k) (f+1) t (.agg (KV t a7 c7 a8 c8)):=hv3.weak (fun k hk=>by omega);have HGG:=am K2.o.2.1 hg3;have HRR:=hr3;have HST2:=HSTF.o;clear hst3 hr3 hg3 hv3;have FIN:=aa (jq (f:=f) hbl HVV HST2 HRR HGG HBX);have x0_:=HBX.c;obtain⟨z0,z1,z2,z3,z4,-⟩:=FIN.o.1.c;clear HVV HST2 HRR HGG HBX;have Z:Ll (_/\_/\_/\_/\_):=⟨z0,z1,z2,z3,z4⟩
  go_wp2_with fail
  obtain⟨z0,z1,z2,z3,z4⟩:=Z.o;refine MM (v:=(.agg (KV t a7 c7 a8 c8))) ?_ rfl ?_
  ·simp only[ar]at z0 z1 z2 z3 z4;simp[results,results95,go_sem,z0,z1,z2,z3,z4]
  ·exact⟨t,st3,a7,a8,c7,c8,rfl,FIN.o.2.1,HSTF.o,FIN.o.2.2.1,FIN.o.2.2.2⟩
 have n123:=rT (m:=123) rfl q123;have E:Ll (st1.bind (gy (cH f))=(st1.bind pO).map fun p=>(bC 2 p.1 [],p.2)):=by
  cases st1 with
  | none=>rfl
  | some l=>
   show gy (cH f) l=_;simp only[gy,if_neg (show ¬es l=110 from q110),if_neg (show ¬es l=102 from q102),if_neg (show ¬es l=116 from q116),if_neg (show ¬es l=34 from q34),if_neg (show ¬es l=91 from q91),if_neg (show ¬es l=123 from q123)];rfl
 go_wp2_with fail
 refine(CJ _ b s st1 (by exact K2.o.1) (by exact K2.o.2.2.2) hb4).mono ?_;rintro e w3 ⟨t,v,st3,rfl,⟨kk,nn,rfl,rfl,hkk,hnn⟩,hst3,hr3,hg3⟩;have HSTF:Ll (st.bind (cH (f+1))=st3.map (fun l=>(bC kk nn [],l))):=by show _=_;rw[N.o,E.o];exact hst3
 have HBX:Lc w3 w.heap.size:=K2.o.2.2.1.grown hg3 (by simp;omega);have HVV:bu w3 (fun k=>w.heap.size+1<=k) (f+1) (bC kk nn []) (cz kk nn []):=fd _ _ f _ _ _ hkk hnn (by simp);have HGG:=am K2.o.2.1 hg3;have HRR:=hr3;have HST2:=HSTF.o;clear hst3 hr3 hg3;unfold cz aR;have FIN:=aa (jq (f:=f) (a7:=none) (a8:=none) (c7:=0) (c8:=0) hbl HVV HST2 HRR HGG HBX);have x0_:=HBX.c;obtain⟨z0,z1,z2,z3,z4,-⟩:=(HBX.set (.int .i64 kk) (.int .i64 nn) (.string ⟨#[]⟩) (.slice none 0 0) (.slice none 0 0)).c;clear HVV HST2 HRR HGG HBX;have Z:Ll (_/\_/\_/\_/\_):=⟨z0,z1,z2,z3,z4⟩
 go_wp2_with fail
 obtain⟨z0,z1,z2,z3,z4⟩:=Z.o;refine MM (v:=cz kk nn []) ?_ rfl ?_
 ·simp only[ar]at z0 z1 z2 z3 z4;simp[results,results95,go_sem,z0,z1,z2,z3,z4,cz,aR]
 ·exact⟨bC kk nn [],st3,none,none,0,0,rfl,FIN.o.2.1,HSTF.o,FIN.o.2.2.1,FIN.o.2.2.2⟩
theorem DC(hW:vW)(f):zo f:=by
 induction f with
 | zero=>intro w b s st h hG hb4 LT;omega
 | succ f ih=>exact xK hW f ih
end Go.Proofs.YtkjeiljdoljjgaaGreatDoor
