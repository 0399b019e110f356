import Derived.Test.YtbdlfclnkpofaaaGreatDoorG5
set_option maxRecDepth 100000
set_option maxHeartbeats 40000000
set_option linter.unusedSimpArgs false
set_option linter.unusedVariables false
namespace Go.Proofs.YtbdlfclnkpofaaaGreatDoor
open Go.RowKit
open _root_.Go.Proofs.Tryz
variable {i:Nat}
theorem ki:∀ (a b:Lz),Lib.compareBytes a b < 0↔Op.bytesLess a b=true
 | [],[]=>by simp[Lib.compareBytes,Op.bytesLess]
 | [],_ :: _=>by simp[Lib.compareBytes,Op.bytesLess]
 | _ :: _,[]=>by simp[Lib.compareBytes,Op.bytesLess]
 | x :: a,y :: b=>by
  have ih:=ki a b;simp only[Lib.compareBytes,Op.bytesLess,Bool.or_eq_true,MJ,decide_eq_true_eq,beq_iff_eq];by_cases h1:x < y
  ·simp[h1]
  ·by_cases h2:y < x
   ·have:x≠y:=fun e=>by subst e;exact h1 h2
    simp[h1,h2,this]
   ·have:x=y:=by
     rw[UInt8.lt_iff_toNat_lt]at h1 h2;exact UInt8.toNat_inj.1 (by omega)
    simp[h1,h2,this,ih]
theorem oO:∀ (a b:Lz),Lib.compareBytes a b=0↔a=b
 | [],[]=>by simp[Lib.compareBytes]
 | [],_ :: _=>by simp[Lib.compareBytes]
 | _ :: _,[]=>by simp[Lib.compareBytes]
 | x :: a,y :: b=>by
  have ih:=oO a b;simp only[Lib.compareBytes,List.cons.injEq];by_cases h1:x < y
  ·have:x≠y:=fun e=>by subst e;exact UInt8.lt_irrefl _ h1
   simp[h1,this]
  ·by_cases h2:y < x
   ·have:x≠y:=fun e=>by subst e;exact h1 h2
    simp[h1,h2,this]
   ·have:x=y:=by
     rw[UInt8.lt_iff_toNat_lt]at h1 h2;exact UInt8.toNat_inj.1 (by omega)
    simp[h1,h2,this,ih]
def T4 (ks:List Lz) (p:Lz) (lo hi:Nat):Prop:=(∀ t x,t < lo->ks[t]?=some x->Op.bytesLess x p=true)/\(∀ t x,hi<=t->ks[t]?=some x->Op.bytesLess x p=false)
theorem tR{ks p lo hi m}(hr:bD ks)(h:T4 ks p lo hi)(hm:m < ks.length)(hl:Op.bytesLess ks[m] p=true):T4 ks p (m+1) hi:=by
 refine⟨fun t x ht hx=>?_,h.2⟩;by_cases e:t=m
 ·subst e;rw[Mw hm]at hx;cases hx;exact hl
 ·obtain⟨ht2,rfl⟩:=Mz.1 hx;exact cP _ _ _ (List.pairwise_iff_getElem.1 hr t m ht2 hm (by omega)) hl
theorem mK{ks p lo hi m}(hr:bD ks)(h:T4 ks p lo hi)(hm:m < ks.length)(hl:Op.bytesLess ks[m] p=false):T4 ks p lo m:=by
 refine⟨h.1,fun t x ht hx=>?_⟩;by_cases e:t=m
 ·subst e;rw[Mw hm]at hx;cases hx;exact hl
 ·obtain⟨ht2,rfl⟩:=Mz.1 hx;cases h9:Op.bytesLess ks[t] p with
  | false=>rfl
  | true=>
   have:=cP _ _ _ (List.pairwise_iff_getElem.1 hr m t hm ht2 (by omega)) h9;rw[hl]at this;cases this
theorem jm:∀ (ks:List Lz) (p:Lz) (i:Nat),i<=ks.length->T4 ks p i i->ks.countP (fun x=>Op.bytesLess x p)=i
 | [],p,i,hi,_=>by simp at hi;simp[hi]
 | a :: r,p,0,_,h=>by
  rw[List.countP_eq_zero];intro x hx;obtain⟨t,ht,rfl⟩:=List.getElem_of_mem hx;rw[h.2 t _ (Nat.zero_le _) (Mw ht)];simp
 | a :: r,p,i+1,hi,h=>by
  rw[List.countP_cons_of_pos (p:=fun x=>Op.bytesLess x p) (h.1 0 a (by omega) rfl),jm r p i (by simpa using hi) ⟨fun t x ht hx=>h.1 (t+1) x (by omega) (by simpa using hx),fun t x ht hx=>h.2 (t+1) x (by omega) (by simpa using hx)⟩]
theorem pz{ks p}(h:T4 ks p i i)(hi:i < ks.length)(hr:bD ks):ks.contains p=decide (ks[i]=p):=by
 rw[Bool.eq_iff_iff,List.contains_iff_mem,decide_eq_true_eq];constructor
 ·intro hm;obtain⟨t,ht,e⟩:=List.getElem_of_mem hm;have h1:i<=t:=by
   apply Classical.byContradiction;intro h9;have:=h.1 t _ (by omega) (Mw ht);rw[e,TE]at this;cases this
  by_cases e2:t=i
  ·subst e2;exact e
  ·have h3:=List.pairwise_iff_getElem.1 hr i t hi ht (by omega);rw[e,h.2 i _ (MG _) (Mw hi)]at h3;cases h3
 ·intro e;rw[<-e];exact List.getElem_mem _
theorem mI{ks p}(h:T4 ks p i i)(hi:ks.length<=i):ks.contains p=false:=by
 rw[Bool.eq_false_iff];intro hm;rw[List.contains_iff_mem]at hm;obtain⟨t,ht,e⟩:=List.getElem_of_mem hm;have:=h.1 t _ (by omega) (Mw ht);rw[e,TE]at this;cases this
theorem yg(w:LC)(ok xs v p)(h:ao w ok xs v)(hr:bD xs)(hn:xs.length < 4611686018427387904):Calls prog 83 #[v,.string ⟨p.toArray⟩,.func (.func 48) #[] #[]] w fun e w'=>e=.returned (.tuple #[.int .i64 (xs.countP (fun x=>Op.bytesLess x p):Nat),.bool (xs.contains p)])/\La w w':=by
 obtain⟨a,c,rfl⟩:=h.form;have H:=aa h;have HR:=aa hr;clear h hr;go_enter func83,ntmps83;go_wp2
 go_loopg [9,10] xs.length (fun kx s9 s10 wr=>∃ lo hi:Nat,s9=.int .i64 lo/\s10=.int .i64 hi/\lo<=hi/\hi<=xs.length/\hi - lo<=kx/\Ll (T4 xs p lo hi)/\Ll (La w wr))
 case atStart=>exact⟨0,xs.length,rfl,rfl,Nat.zero_le _,MG _,by omega,aa ⟨fun t x ht=>absurd ht (Nat.not_lt_zero _),fun t x ht hx=>by rw[List.getElem?_eq_none ht]at hx;cases hx⟩,MK _ _⟩
 case round=>
  obtain⟨lo,hi,rfl,rfl,hlh,hin,hg,I,BL⟩:=hrel;by_cases hlt:lo < hi
  ·have hm:(lo+hi) / 2 < xs.length:=by omega
   obtain⟨b,off,rfl,j1,j2,k1⟩:=gQ H.o hm;unfold maxLen at j2;have c1:=ah BL.o k1;clear k1;have UP:Ll (Lib.compareBytes xs[(lo+hi) / 2] p < 0->T4 xs p ((lo+hi) / 2+1) hi):=fun h9=>tR HR.o I.o hm ((ki _ _).1 h9);have DN:Ll (¬Lib.compareBytes xs[(lo+hi) / 2] p < 0->T4 xs p lo ((lo+hi) / 2)):=fun h9=>mK HR.o I.o hm (by rw[Bool.eq_false_iff];exact fun h8=>h9 ((ki _ _).2 h8));have CALL:=Tryz.strCompare ⟨xs[(lo+hi) / 2].toArray⟩ ⟨p.toArray⟩ wr;simp only[List.toList_toArray]at CALL;obtain⟨r,hr⟩:∃ r,Lib.compareBytes xs[(lo+hi) / 2] p=r:=⟨_,rfl⟩
   rw[hr]at CALL UP DN;clear hr;by_cases hyx:r < 0
   ·go_wp2_with (go_at_call 48;refine CALL.mono ?_;rintro e w' ⟨rfl,hw1⟩;have hw2:=hw1.symm;subst hw2;clear hw1)
    go_roundg (hi - ((lo+hi) / 2+1))
    case measure=>omega
    case rel=>exact⟨(lo+hi) / 2+1,hi,by rw[show ((lo:Int)+(hi:Int)) / 2+1=(((lo+hi) / 2+1:Nat):Int) by omega],rfl,by omega,hin,MG _,aa (UP.o hyx),BL⟩
   ·go_wp2_with (go_at_call 48;refine CALL.mono ?_;rintro e w' ⟨rfl,hw1⟩;have hw2:=hw1.symm;subst hw2;clear hw1)
    go_roundg ((lo+hi) / 2 - lo)
    case measure=>omega
    case rel=>exact⟨lo,(lo+hi) / 2,rfl,by rw[show ((lo:Int)+(hi:Int)) / 2=(((lo+hi) / 2:Nat):Int) by omega],by omega,by omega,MG _,aa (DN.o hyx),BL⟩
  ·obtain rfl:hi=lo:=by omega
   have CN:=aa (jm xs p hi hin I.o);by_cases hn:hi < xs.length
   ·obtain⟨b,off,rfl,j1,j2,k1⟩:=gQ H.o hn;unfold maxLen at j2;have c1:=ah BL.o k1;clear k1;have HS:=aa (pz I.o hn HR.o);have E0:Ll (Lib.compareBytes xs[hi] p=0↔xs[hi]=p):=oO _ _;have CALL:=Tryz.strCompare ⟨xs[hi].toArray⟩ ⟨p.toArray⟩ wr;simp only[List.toList_toArray]at CALL;obtain⟨r,hr⟩:∃ r,Lib.compareBytes xs[hi] p=r:=⟨_,rfl⟩
    rw[hr]at CALL E0;clear hr;by_cases hyx:r=0
    ·have R:Ll (xs.contains p=true):=aa (by rw[HS.o];exact decide_eq_true (E0.o.1 hyx));subst hyx;go_wp2_with (go_at_call 48;refine CALL.mono ?_;rintro e w' ⟨rfl,hw1⟩;have hw2:=hw1.symm;subst hw2;clear hw1)
     go_ret2
     exact⟨by rw[R.o,CN.o];first | done | rfl | simp,BL.o⟩
    ·have R:Ll (xs.contains p=false):=aa (by rw[HS.o];exact decide_eq_false (fun h9=>hyx (E0.o.2 h9)));have e9:(r == 0)=false:=by rw[MO];exact hyx
     clear hyx;go_wp2_with (go_at_call 48;refine CALL.mono ?_;rintro e w' ⟨rfl,hw1⟩;have hw2:=hw1.symm;subst hw2;clear hw1)
     go_ret2
     exact⟨by rw[R.o,CN.o];first | done | rfl | simp,BL.o⟩
   ·have R:=aa (mI I.o (by omega));go_wp2
    go_ret2
    exact⟨by rw[R.o,CN.o];first | done | rfl | simp,BL.o⟩
theorem nP(w n p v):Calls prog 94 #[.agg #[.string ⟨n.toArray⟩,v],.string ⟨p.toArray⟩] w fun e w'=>e=.returned (.int .i64 (Lib.compareBytes n p))/\La w w':=by
 have CALL:Ll (∀ W,Calls prog 48 #[.string ⟨n.toArray⟩,.string ⟨p.toArray⟩] W fun e w'=>e=.returned (.int .i64 (Lib.compareBytes n p))/\w'=W):=fun W=>by
  have:=Tryz.strCompare ⟨n.toArray⟩ ⟨p.toArray⟩ W;simpa only[List.toList_toArray] using this
 obtain⟨r,hr⟩:∃ r,Lib.compareBytes n p=r:=⟨_,rfl⟩
 rw[hr]at CALL ⊢;clear hr;go_enter func94,ntmps94;go_wp2_with (go_at_call 48;refine(CALL.o _).mono ?_;rintro e w' ⟨rfl,hw1⟩;have hw2:=hw1.symm;subst hw2;clear hw1)
 go_ret;exact⟨rfl,ae _ _⟩
theorem xP(w:LC)(ok xs v p)(h:aB w ok xs v)(hr:bD (xs.map aL.name))(hn:xs.length < 4611686018427387904):Calls prog 93 #[v,.string ⟨p.toArray⟩,.func (.func 94) #[] #[]] w fun e w'=>e=.returned (.tuple #[.int .i64 (bB xs p:Nat),.bool ((xs.map aL.name).contains p)])/\La w w':=by
 obtain⟨a,c,rfl⟩:=h.form;have H:=aa h;have HR:=aa hr;have LM:(xs.map aL.name).length=xs.length:=List.length_map _;have PL:Ll (bB xs p=(xs.map aL.name).countP (fun x=>Op.bytesLess x p)):=aa (by unfold bB;rw[List.countP_map];rfl);have LMH:=aa LM;clear h hr LM;go_enter func93,ntmps93;go_wp2
 go_loopg [9,10] xs.length (fun kx s9 s10 wr=>∃ lo hi:Nat,s9=.int .i64 lo/\s10=.int .i64 hi/\lo<=hi/\hi<=xs.length/\hi - lo<=kx/\Ll (T4 (xs.map aL.name) p lo hi)/\Ll (La w wr))
 case atStart=>exact⟨0,xs.length,rfl,rfl,Nat.zero_le _,MG _,by omega,aa ⟨fun t x ht=>absurd ht (Nat.not_lt_zero _),fun t x ht hx=>by rw[List.getElem?_eq_none (by rw[LMH.o];exact ht)]at hx;cases hx⟩,MK _ _⟩
 case round=>
  obtain⟨lo,hi,rfl,rfl,hlh,hin,hg,I,BL⟩:=hrel;by_cases hlt:lo < hi
  ·have hm:(lo+hi) / 2 < xs.length:=by omega
   obtain⟨b,off,pa,pc,rfl,j1,j2,k1,k2,-,-⟩:=H.o.at hm;have c1:=ah BL.o k1;have c2:=ah BL.o k2;clear k1 k2;have UP:Ll (Lib.compareBytes xs[(lo+hi) / 2].name p < 0->T4 (xs.map aL.name) p ((lo+hi) / 2+1) hi):=fun h9=>tR HR.o I.o (by rw[LMH.o];exact hm) (by rw[List.getElem_map];exact(ki _ _).1 h9);have DN:Ll (¬Lib.compareBytes xs[(lo+hi) / 2].name p < 0->T4 (xs.map aL.name) p lo ((lo+hi) / 2)):=fun h9=>mK HR.o I.o (by rw[LMH.o];exact hm) (by rw[List.getElem_map,Bool.eq_false_iff];exact fun h8=>h9 ((ki _ _).2 h8));have CALL:Ll (∀ W,Calls prog 94 #[.agg #[.string ⟨xs[(lo+hi) / 2].name.toArray⟩,.slice pa xs[(lo+hi) / 2].paths.length pc],.string ⟨p.toArray⟩] W fun e w'=>e=.returned (.int .i64 (Lib.compareBytes xs[(lo+hi) / 2].name p))/\La W w'):=fun W=>nP W _ p _;obtain⟨r,hr⟩:∃ r,Lib.compareBytes xs[(lo+hi) / 2].name p=r:=⟨_,rfl⟩
   rw[hr]at CALL UP DN;clear hr;by_cases hyx:r < 0
   ·go_wp2_with (go_at_call 94;refine Lk (CALL.o _) fun w' hb=>?_)
    go_roundg (hi - ((lo+hi) / 2+1))
    case measure=>omega
    case rel=>exact⟨(lo+hi) / 2+1,hi,by rw[show ((lo:Int)+(hi:Int)) / 2+1=(((lo+hi) / 2+1:Nat):Int) by omega],rfl,by omega,hin,MG _,aa (UP.o hyx),aa (ab BL.o hb)⟩
   ·go_wp2_with (go_at_call 94;refine Lk (CALL.o _) fun w' hb=>?_)
    go_roundg ((lo+hi) / 2 - lo)
    case measure=>omega
    case rel=>exact⟨lo,(lo+hi) / 2,rfl,by rw[show ((lo:Int)+(hi:Int)) / 2=(((lo+hi) / 2:Nat):Int) by omega],by omega,by omega,MG _,aa (DN.o hyx),aa (ab BL.o hb)⟩
  ·obtain rfl:hi=lo:=by omega
   have CN:Ll (bB xs p=hi):=aa (by rw[PL.o];exact jm _ p hi (by rw[LMH.o];exact hin) I.o);by_cases hn:hi < xs.length
   ·obtain⟨b,off,pa,pc,rfl,j1,j2,k1,k2,-,-⟩:=H.o.at hn;have c1:=ah BL.o k1;have c2:=ah BL.o k2;clear k1 k2;have HS:Ll ((xs.map aL.name).contains p=decide (xs[hi].name=p)):=aa (by have:=pz I.o (by rw[LMH.o];exact hn) HR.o;rwa [List.getElem_map]at this);have E0:Ll (Lib.compareBytes xs[hi].name p=0↔xs[hi].name=p):=oO _ _;have CALL:Ll (∀ W,Calls prog 94 #[.agg #[.string ⟨xs[hi].name.toArray⟩,.slice pa xs[hi].paths.length pc],.string ⟨p.toArray⟩] W fun e w'=>e=.returned (.int .i64 (Lib.compareBytes xs[hi].name p))/\La W w'):=fun W=>nP W _ p _;obtain⟨r,hr⟩:∃ r,Lib.compareBytes xs[hi].name p=r:=⟨_,rfl⟩
    rw[hr]at CALL E0;clear hr;by_cases hyx:r=0
    ·have R:Ll ((xs.map aL.name).contains p=true):=aa (by rw[HS.o];exact decide_eq_true (E0.o.1 hyx));subst hyx;go_wp2_with (go_at_call 94;refine Lk (CALL.o _) fun w' hb=>?_)
     go_ret2
     exact⟨by rw[R.o,CN.o];first | done | rfl | simp,ab BL.o hb⟩
    ·have R:Ll ((xs.map aL.name).contains p=false):=aa (by rw[HS.o];exact decide_eq_false (fun h9=>hyx (E0.o.2 h9)));have e9:(r == 0)=false:=by rw[MO];exact hyx
     clear hyx;go_wp2_with (go_at_call 94;refine Lk (CALL.o _) fun w' hb=>?_)
     go_ret2
     exact⟨by rw[R.o,CN.o];first | done | rfl | simp,ab BL.o hb⟩
   ·have R:Ll ((xs.map aL.name).contains p=false):=mI I.o (by rw[LMH.o];omega);go_wp2
    go_ret2
    exact⟨by rw[R.o,CN.o];first | done | rfl | simp,BL.o⟩
theorem qo(w:LC)(ok xs v p)(h:aB w ok xs v)(hr:bD (xs.map aL.name))(hn:xs.length < 4611686018427387904):Calls prog 67 #[v,.string ⟨p.toArray⟩] w fun e w'=>e=.returned (.tuple #[.int .i64 (bB xs p:Nat),.bool ((xs.map aL.name).contains p)])/\La w w':=by
 have C:=xP w ok xs v p h hr hn;obtain⟨a,c,rfl⟩:=h.form;generalize (xs.map aL.name).contains p=o at C ⊢;clear h hr;go_enter func67,ntmps67;go_wp2_with (go_at_call 93;refine C.mono ?_;rintro e w1 ⟨rfl,hb⟩)
 go_ret2
 exact⟨rfl,hb⟩
variable {w w' W wr:World}
variable {t:V}
variable {g k:Nat}
section
theorem Jz{a:LC}{key}(_:La a W)(hk:key.length<=maxLen):ao (W.alloc (.cells #[.string ⟨key.toArray⟩] 9)) (fun _=>True) [key] (.slice (some ⟨W.heap.size,0,none⟩) 1 1):=IC W key hk
def U8 (a W:LC) (g:Nat):Prop:=ag W g (.int .i64 0) (.int .i64 0) (.string ⟨#[]⟩) (.slice none 0 0) (.slice none 0 0)/\a.heap.size<=g
theorem Jk{a}(h:La a W):U8 a (W.alloc (.cells #[.int .i64 0,.int .i64 0,.string ⟨#[]⟩,.slice none 0 0,.slice none 0 0] 25)) W.heap.size:=⟨MN _ _,h.size⟩
theorem vY{a W'}(hb:La W W')(h:U8 a W g):U8 a W' g:=⟨af hb h.1,h.2⟩
theorem JA{a:LC}(h:La a W)(hz:U8 a W g)(d0 d1 d2 d3 d4):ag (ar W g d0 d1 d2 d3 d4) g d0 d1 d2 d3 d4/\La a (ar W g d0 d1 d2 d3 d4):=
 ⟨hz.1.set _ _ _ _ _,aP h hz.2 _ _ _ _ _⟩
theorem Jw{a:LC}(h:La a W)(d0 d1 d2 d3 d4):ag (W.alloc (.cells #[d0,d1,d2,d3,d4] 25)) W.heap.size d0 d1 d2 d3 d4/\La a (W.alloc (.cells #[d0,d1,d2,d3,d4] 25)):=⟨MN _ _,ab h (ae _ _)⟩
theorem zY(w:LC)(o:Obj):(w.alloc o).drew.heap.size=w.heap.size+1:=by show (World.alloc w o).heap.size=_;simp
def AR (w:LC) (gl:Nat) (r:Option Nat) (L:List Lz) (D:Nat) (t:V) (at_:Lz) (a1 a2:Option Addr) (c1 c2 k:Nat) (wr:LC):Prop:=
 ∃ r',pH wr gl (L++dC at_ (jL D t k)) r'/\kX w wr gl r/\nA w r r'/\ag wr w.heap.size (.int .i64 t.kind) (.int .i64 t.n) (.string ⟨t.s.toArray⟩) (.slice a1 t.keys.length c1) (.slice a2 t.l.length c2)/\some w.heap.size≠r'
theorem A9{wc:LC}{gl r L D at_ a1 a2 c1 c2}(hgl:gl < w.heap.size){r'}(h2:kX w wr gl r)(h3:nA w r r')(h4:ag wr w.heap.size (.int .i64 t.kind) (.int .i64 t.n) (.string ⟨t.s.toArray⟩) (.slice a1 t.keys.length c1) (.slice a2 t.l.length c2))(h5:some w.heap.size≠r')(hb:La wr wc)(hp:Eh wc w' gl r' (L++dC at_ (jL D t (k+1)))):AR w gl r L D t at_ a1 a2 c1 c2 (k+1) w':=by
 obtain⟨r2,g1,g2,g3⟩:=hp;have L9:=h4.lt;have hsz2:=hb.size;refine⟨r2,g1,(h2.trans h3 (sy hb)).trans (h3) g2,(h3.trans (by have:=h2.size;omega) g3),?_,?_⟩
 ·have e1:wc.heap[w.heap.size]?=wr.heap[w.heap.size]?:=hb.block _ L9;have e2:=g2.block w.heap.size (by omega) (by omega) h5;exact e2.trans (e1.trans h4)
 ·rcases g3 with rfl | ⟨g,rfl,hg⟩
  ·exact h5
  ·simp;omega
attribute [local go_sem ↓] Go.wp_at_zero Go.wp_at_succ
theorem De:∀ (D:Nat) (w:LC) (ok:Nat->Prop) (t:V) (v:Value) (at_:Lz) (gl:Nat) (L:List Lz) (r:Option Nat),In w ok t v->(∀ k,ok k->k < gl)->fO D t->t.kind=5->at_.length+130 * D<=100000->L.length+bN t<=100000->pH w gl L r->(∀ W,Below gl w W->bj W) ->
 Calls prog 46 #[v,.string ⟨at_.toArray⟩,.pointer (some ⟨gl,0,none⟩)] w fun e w'=>e=.returned (.tuple #[])/\Eh w w' gl r (L++dC at_ (jK D t)):=by
 intro D;induction D with
 | zero=>intro w ok t v at_ gl L r _ _ h;exact h.elim
 | succ D ih=>
 intro w ok t v at_ gl L r h hok hg hk hat hcn hG hM;have H:=aa h;have OK:=aa hok;have GD:=aa hg;have HG:=aa hG;have HM:=aa hM;have IH:=aa ih;have AT:=aa hat;have CNT:Ll (L.length+bN t<=100000):=aa hcn;have hpair:t.keys.length=t.l.length:=by
  have:=(gu hg.1 hk).1;simp only[aK,MJ,decide_eq_true_eq]at this;exact this.2
 have PR:=aa hpair;have KEYS:=aa (qh hg.1 hk);have GLT:=aa hG.lt;obtain⟨l1,l2,l3⟩:=h.lens;obtain⟨a1,a2,c1,c2,rfl⟩:=h.form;have hrow:Ll (∀ g,r=some g->gl < g/\g < w.heap.size):=aa (fun g hg=>hG.row hg);clear h hok hg hk hat hcn hG hM ih hpair;have B0:Ll (La w (w.alloc (.cells #[.int .i64 t.kind,.int .i64 t.n,.string ⟨t.s.toArray⟩,.slice a1 t.keys.length c1,.slice a2 t.l.length c2] 25))):=aa (ae _ _);have S0:Ll (AR w gl r L D t at_ a1 a2 c1 c2 0 (w.alloc (.cells #[.int .i64 t.kind,.int .i64 t.n,.string ⟨t.s.toArray⟩,.slice a1 t.keys.length c1,.slice a2 t.l.length c2] 25))):=aa ⟨r,by rw[Dx];simpa [dC] using HG.o.bel B0.o,sy B0.o,.inl rfl,MN _ _,fun e=>by have:=(hrow.o _ e.symm).2;omega⟩;go_enter func46,ntmps46;go_wp2
 go_loopg [13] t.keys.length (fun gk i wr=>∃ k:Nat,k<=t.keys.length/\gk=t.keys.length - k/\i=.int .i64 k/\Ll (AR w gl r L D t at_ a1 a2 c1 c2 k wr))
 case atStart=>exact⟨0,Nat.zero_le _,rfl,rfl,S0⟩
 case round=>
  obtain⟨k,hk,hgk,rfl,I⟩:=hrel;have GK:=aa hgk;clear hgk;by_cases hlt:k < t.keys.length
  ·have hll:k < t.l.length:=by rw[<-PR.o];exact hlt
   obtain⟨r',i1,i2,i3,i4,i5⟩:=I.o;have LB:Ll (Below gl w wr):=aa (i2.low GLT.o (fun g hg=>(hrow.o g hg).1));have HI:Ll (In wr ok t (.agg #[.int .i64 t.kind,.int .i64 t.n,.string ⟨t.s.toArray⟩,.slice a1 t.keys.length c1,.slice a2 t.l.length c2])):=aa (H.o.belB OK.o LB.o);have I1:=aa i1;have I2:=aa i2;have I3:=aa i3;have I4:=aa i4;have I5:=aa i5;obtain⟨kb,ko,rfl,kc1,kc2,kcell,klen⟩:=HI.o.key hlt;obtain⟨lb,lo,a5,c5,a6,c6,rfl,lc1,lc2,y0,y1,y2,y3,y4,hit⟩:=HI.o.item hll;have HIT:=aa hit;obtain⟨p0,p1,p2,p3,p4,-⟩:=i4.c;have P3:=aa p3;have P4:=aa p4;have Q0:=aa y0;have Q1:=aa y1;have Q2:=aa y2;have Q3:=aa y3;have Q4:=aa y4;have KL:Ll (t.keys[k].length<=maxLen):=aa (by unfold maxLen;exact klen);have k60:=KEYS.o t.keys[k] (List.getElem_mem _);have KN:Ll (∀ x∈[t.keys[k]],x.length<=10000000):=aa (fun x hx=>by rw[List.mem_singleton]at hx;rw[hx];omega);have kjl:(aU [t.keys[k]]).length<=121:=by
    rw[kz];have:=(jh t.keys[k]).2;simp only[My,Mx,aU,List.flatMap_nil,List.length_nil];omega
   have KJ:Ll ((aU [t.keys[k]]).length<=10000000):=aa (by omega);have KJL:=aa kjl;have GM:Ll (∀ W,La wr W->bj W):=aa (fun W hW=>HM.o W (LB.o.trans (hW.mono (MH (Nat.le_of_lt GLT.o) I2.o.size))));have w2:(k:Int) < (t.keys.length:Int):=by omega
   have w3:(k:Int) < (t.l.length:Int):=by omega
   have w4:(0:Int)<=(k:Int):=by omega
   have sl:¬9223372036854775807 < at_.length+(aU [t.keys[k]]).length:=by have:=AT.o;omega
   have CAT0:ByteArray.mk at_.toArray++ByteArray.mk (aU [t.keys[k]]).toArray=ByteArray.mk (at_++aU [t.keys[k]]).toArray:=yR _ _;have CAT:Ll ((at_++aU [t.keys[k]])=(at_++aU [t.keys[k]])):=aa rfl;have US:=aa (Ck (D:=D) hlt hll);have UC:=aa (Ei D t k);have CT:=aa (zI hll);have CE:=aa (df t);clear i1 i2 i3 i4 i5 hit y0 y1 y2 y3 y4 klen k60 kjl I;have q3:=P3.o;have q4:=P4.o;go_upto_region 4 with fail
   clear q3 q4;go_cut [8,9] (fun sv pv wc=>∃ g9:Nat,pv=.pointer (some ⟨g9,0,none⟩)/\sv=.string ⟨(at_++aU [t.keys[k]]).toArray⟩/\ag wc g9 (.int .i64 t.l[k].kind) (.int .i64 t.l[k].n) (.string ⟨t.l[k].s.toArray⟩) (.slice a5 t.l[k].keys.length c5) (.slice a6 t.l[k].l.length c6)/\La wr wc)
   case first=>
    refine aD (fun wS=>La wr wS) [12] (by kernel_rfl) (aC _ 1) (fun LI=>?_);refine WT.out ?_;iterate 7
     first
      | refine OJ 0 ?_ [4,11,12] LI ?_ ?_
      | refine OJ 1 ?_ [2,3,4,11,12] LI ?_ ?_
      | refine OJ 5 ?_ [6,8,9,12] LI ?_ ?_
      | refine OJ 6 ?_ [8,9,12] LI ?_ ?_
      | refine OJ 7 ?_ [8,9,12] LI ?_ ?_
      | refine OJ 8 ?_ [9,12] LI ?_ ?_
      | refine OJ 9 ?_ [12] LI ?_ ?_
     rotate_left
     ·intro wS LN;have u3:=ah LN P3.o;have u4:=ah LN P4.o;have q0:=ah LN Q0.o;have q1:=ah LN Q1.o;have q2:=ah LN Q2.o;have q3:=ah LN Q3.o;have q4:=ah LN Q4.o;go_simp;all_goals with_reducible rfl
     simp only[av,List.set]
    repeat' (first
     | exact nl
     |(refine TD 2 (fun K hK=>?_) ?_
       go_simp;refine hK.out _ _ (ab LI (ae _ _)) (fun LJ=>?_);have SK:=aa (Jz LI KL.o);try rw[show (World.drew (World.alloc wr (.cells #[.int .i64 0,.int .i64 0,.string ⟨#[]⟩,.slice none 0 0,.slice none 0 0] 25))).heap.size=wr.heap.size+1 from zY _ _]at SK
       try replace NB:=aa (vY (ae _ (.cells #[.string ⟨t.keys[k].toArray⟩] 9)) NB.o)
       clear hK K;replace LI:=LJ;clear LJ;try simp only[Act.put,Mt,Mu,Mv])
     |(refine TD 3 (fun K hK=>?_) ?_
       go_simp;refine Lk (M4 _ (fun _=>True) [t.keys[k]] _ (by exact SK.o) KN.o KJ.o (GM.o _ LI)) fun w3q hb5=>?_;unfold aR;refine hK.out _ _ (ab LI hb5) (fun LJ=>?_);try replace NB:=aa (vY hb5 NB.o)
       clear hb5 SK;have Ma:Ll True:=aa trivial;clear hK K;replace LI:=LJ;clear LJ;try simp only[Act.put,Mt,Mu,Mv])
     |(refine TD 10 (fun K hK=>?_) ?_
       go_simp;refine hK.out _ _ (ab LI (ae _ _)) (fun LJ=>?_);have NB:=aa (Jk LI);first | (have c9:=Ma.o;clear c9;have FINA:=aa (Jw LI (.int .i64 t.l[k].kind) (.int .i64 t.l[k].n) (.string ⟨t.l[k].s.toArray⟩) (.slice a5 t.l[k].keys.length c5) (.slice a6 t.l[k].l.length c6))) | skip
       try replace SK:=aa (ao.bel SK.o (ae _ (.cells #[.int .i64 0,.int .i64 0,.string ⟨#[]⟩,.slice none 0 0,.slice none 0 0] 25)))
       clear hK K;replace LI:=LJ;clear LJ;try simp only[Act.put,Mt,Mu,Mv])
     |(refine OO 12 (fun K hK=>?_)
       try rw[show (World.drew wr).heap.size=wr.heap.size from rfl]at NB
       try rw[show (World.drew (World.alloc wr (.cells #[.string ⟨t.keys[k].toArray⟩] 9))).heap.size=wr.heap.size+1 from zY _ _]at NB
       have n0_:=NB.o.1.c;have FIN:=aa (JA LI NB.o (.int .i64 t.l[k].kind) (.int .i64 t.l[k].n) (.string ⟨t.l[k].s.toArray⟩) (.slice a5 t.l[k].keys.length c5) (.slice a6 t.l[k].l.length c6));go_simp;refine hK.out _ _ ?_;clear hK K;try simp only[Act.put,Mt,Mu,Mv])
     |(first
        | refine OJ 4 ?_ [11,12] (by exact LI) ?_ ?_
        | refine OJ 11 ?_ [12] (by exact LI) ?_ ?_
       rotate_left
       ·intro wS LN;go_simp;all_goals with_reducible rfl
       simp only[av,List.set])
     | refine OL [2,10] ?_
     | refine OL [3,10] ?_
     | refine OL [10] ?_
     | refine OL [3] ?_
     | refine OL [2] ?_
     | fail)
    all_goals
     refine dn (by kernel_rfl) ?_;go_wp2
     go_meet
     case rel=>first | exact⟨_,rfl,rfl,FINA.o⟩ | exact⟨_,rfl,rfl,FIN.o⟩
   case rest=>
    obtain⟨g9,rfl,rfl,LU,hbl⟩:=hcut;have BX:=aa LU;have BC:=aa hbl;have HITC:=aa (HIT.o.bel hbl);have GC:=aa (I1.o.bel hbl);have x0_:=LU.c;have PL:Ll ((at_++aU [t.keys[k]]).length+130 * D<=100000):=aa (by have:=KJL.o;have:=AT.o;rw[Mx];omega);have NX:Ll (∀ w',Eh wc w' gl r' (L++dC at_ (jL D t (k+1)))->AR w gl r L D t at_ (some ⟨kb,ko,none⟩) (some ⟨lb,lo,none⟩) c1 c2 (k+1) w'):=aa (fun w' hp=>A9 GLT.o I2.o I3.o I4.o I5.o BC.o hp);have LBC:Ll (Below gl w wc):=aa (LB.o.trans (BC.o.mono (MH (Nat.le_of_lt GLT.o) I2.o.size)));clear LU hbl;obtain⟨p,hp⟩:∃ p,at_++aU [t.keys[k]]=p:=⟨_,rfl⟩
    rw[hp]at PL ⊢;have HPP:=aa hp;clear hp;by_cases hkd:t.l[k].kind=5/\t.l[k].l≠[]
    ·have e1:(t.l[k].kind == 5)=true:=by simp[hkd.1]
     have e2:(0:Int) < ((t.l[k].l.length:Nat):Int):=by have:=List.length_pos_iff.2 hkd.2;omega
     have e3:decide (0 < t.l[k].l.length)=true:=decide_eq_true (List.length_pos_iff.2 hkd.2);have CALL:=aa (IH.o wc ok t.l[k] _ p gl (L++dC at_ (jL D t k)) r' HITC.o OK.o (GD.o.2 _ (List.getElem_mem _)) hkd.1 PL.o (by
      have h1:=UC.o;have h2:=CT.o;have h3:=CE.o;have h4:=CNT.o;rw[Mx,dC,List.length_map];omega) GC.o (fun W hW=>HM.o W (LBC.o.trans hW)))
     have UE:Ll (L++dC at_ (jL D t k)++dC p (jK D t.l[k])=L++dC at_ (jL D t (k+1))):=aa (by
      rw[US.o,if_pos hkd,<-HPP.o,<-vQ,List.append_assoc];simp[dC])
     clear hkd;go_wp2_with (go_at_call 46;refine CALL.o.mono ?_;rintro e w5 ⟨rfl,hgp⟩;rw[UE.o]at hgp;have GP:=aa (NX.o _ hgp);clear hgp)
     go_roundg (t.keys.length - (k+1))
     case measure=>rw[GK.o];omega
     case rel=>exact⟨k+1,hlt,rfl,by go_num,GP⟩
    ·obtain⟨sv,s1,s2,s3⟩:=GC.o;have UE:Ll (L++dC at_ (jL D t k)++[p]=L++dC at_ (jL D t (k+1))):=aa (by
      rw[US.o,if_neg hkd,<-HPP.o,List.append_assoc];simp[dC])
     obtain⟨LL,hLL⟩:∃ LL,L++dC at_ (jL D t k)=LL:=⟨_,rfl⟩
     have hn:LL.length<=1000000:=by
      have h1:=UC.o;have h2:=CT.o;have h3:=CE.o;have h4:=CNT.o;rw[<-hLL,Mx,dC,List.length_map];omega
     rw[hLL]at s2 UE;have hglc:gl < wc.heap.size:=(MF.1 s1).1;obtain⟨g7,c7,W7,hR,ho7,hg7,hf7⟩:=C7 (W:=wc.alloc (.cells #[.string ⟨p.toArray⟩] 9)) (B:=gl+1) (v:=sv) (n:=LL.length) (cs:=LL.map fun s=>Value.string ⟨s.toArray⟩) (nb:=wc.heap.size) (k:=⟨p.toArray⟩) (bM s2 fun g hg=>(ae _ _).block g (bY s2 hg).2) (MN _ _) hn (by have:=(ae wc (.cells #[.string ⟨p.toArray⟩] 9)).size;omega) 22;have GP:=aa (NX.o _ (by have h9:=Gk s1 s3 (fun g hg=>(GC.o.row hg).1) ho7 hg7 hf7 hglc;rw[UE.o]at h9;exact h9));have HR:=aa hR;have c0:wc.cell? ⟨gl,0,none⟩=some sv:=by simp[World.cell?,s1]
     have c0a:∀ o,(wc.alloc o).cell? ⟨gl,0,none⟩=some sv:=fun o=>ah (ae _ _) c0;have hb7:W7.heap[gl]?=some (.cells #[sv] 22):=by
      rw[hg7.block gl (MI hglc (ae wc _).size) (fun e=>by have:=(bY s2 e.symm).1;omega),(ae wc _).block gl hglc,s1]
     have c7a:W7.cell? ⟨gl,0,none⟩=some sv:=by simp[World.cell?,hb7]
     have c7f:W7.frozen? ⟨gl,0,none⟩=false:=by simp[World.frozen?,hb7]
     obtain⟨sa,sn,sc,hsv⟩:∃ sa sn sc,sv=.slice sa sn sc:=by
      rcases s2.2 with⟨h9,-⟩ | ⟨_,_,_,h9,-⟩
      ·exact⟨_,_,_,h9⟩
      ·exact⟨_,_,_,h9⟩
     subst hsv;by_cases hk5:t.l[k].kind=5
     ·have e1:(t.l[k].kind == 5)=true:=by simp[hk5]
      have hl0:t.l[k].l=[]:=by
       apply Classical.byContradiction;intro h9;exact hkd ⟨hk5,h9⟩
      have e2:¬(0:Int) < ((t.l[k].l.length:Nat):Int):=by rw[hl0];simp
      have e3:decide (0 < t.l[k].l.length)=false:=by rw[hl0];simp
      clear hl0 hk5 hkd hR ho7 hg7 hf7 s1 s2 s3 hb7 hLL;go_wp2_with (at_builtin;go_must (refine Lib.wpList_append_run _ rfl _ _ _ _ rfl (.slice sa sn sc) (.slice (some ⟨wc.heap.size,0,none⟩) 1 1) rfl rfl _ _ HR.o ?_);refine Ll.o ?_)
      refine aa ?_;go_wp2
      go_roundg (t.keys.length - (k+1))
      case measure=>rw[GK.o];omega
      case rel=>exact⟨k+1,hlt,rfl,by go_num,GP⟩
     ·have e1:(t.l[k].kind == 5)=false:=by rw[MO];exact hk5
      clear hk5 hkd hR ho7 hg7 hf7 s1 s2 s3 hb7 hLL;go_wp2_with (at_builtin;go_must (refine Lib.wpList_append_run _ rfl _ _ _ _ rfl (.slice sa sn sc) (.slice (some ⟨wc.heap.size,0,none⟩) 1 1) rfl rfl _ _ HR.o ?_);refine Ll.o ?_)
      refine aa ?_;go_wp2
      go_roundg (t.keys.length - (k+1))
      case measure=>rw[GK.o];omega
      case rel=>exact⟨k+1,hlt,rfl,by go_num,GP⟩
  ·have d1:¬(k:Int) < (t.keys.length:Int):=by omega
   have Mc:k=t.keys.length:=by omega
   subst Mc;obtain⟨r',i1,i2,i3,i4,i5⟩:=I.o;have R:Ll (Eh w wr gl r (L++dC at_ (jK (D+1) t))):=aa ⟨r',by rw[<-D3 PR.o];exact i1,i2,i3⟩;clear i1 i2 i3 i4 i5 I;go_wp2
   go_end0
   exact⟨rfl,R.o⟩
end
theorem sR(w:LC)(ok xs v)(h:ao w ok xs v)(hP:∀ x∈xs,x.length<=140737488351232)(hM:bj w):Calls prog 43 #[v] w fun e w'=>e=.returned (.bool (jj xs))/\La w w':=by
 obtain⟨a,c,rfl⟩:=h.form;have H:=aa h;have HP:=aa hP;have HM:=aa hM;have ll:=h.1;unfold maxLen at ll;clear h hP hM;go_enter func43,ntmps43;go_wp2
 go_loopg [7] xs.length (fun gk i wr=>∃ k:Nat,k<=xs.length/\gk=xs.length - k/\i=.int .i64 k/\Ll ((xs.take k).all oh=true/\dg (xs.take k)=true)/\Ll (La w wr))
 case atStart=>exact⟨0,Nat.zero_le _,rfl,rfl,⟨rfl,rfl⟩,MK _ _⟩
 case round=>
  obtain⟨k,hk,hgk,rfl,AL,BL⟩:=hrel;have GK:=aa hgk;clear hgk;by_cases hlt:k < xs.length
  ·obtain⟨b,off,rfl,hc1,hc2,hcell0⟩:=gQ H.o hlt;unfold maxLen at hc2;have LV:=ah BL.o hcell0;have w2:(k:Int) < (xs.length:Int):=by omega
   have CALL:Ll (∀ W:LC,La w W->Calls prog 76 #[.string ⟨xs[k].toArray⟩] W fun e w'=>e=.returned (.bool (oh xs[k]))/\La W w'):=fun W hW=>xy W xs[k] (HP.o _ (List.getElem_mem _)) (HM.o.bel hW);have PV:Ll (∀ j,k=j+1->w.cell? ⟨b,off+j,none⟩=some (.string ⟨xs[k - 1].toArray⟩)):=fun j hj=>by
    subst hj;obtain⟨b',off',e,-,-,h9⟩:=gQ H.o (k:=j) (by omega);cases e;exact h9
   clear hcell0;cases hpl:oh xs[k] with
   | false=>
    have R:=aa (EF hlt hpl);have HPL:=aa hpl;clear hpl;go_wp2_with (go_at_call 76;refine Lk (CALL.o _ BL.o) fun w' hb=>?_;rw[HPL.o];have BL2:=aa (ab BL.o hb);clear hb)
    go_ret;exact⟨by rw[R.o];rfl,BL2.o⟩
   | true=>
    have HPL:=aa hpl;have AN:=aa (vz hlt AL.o.1 hpl);clear hpl;cases k with
    | zero=>
     rw[Nat.add_zero]at LV;go_wp2_with (go_at_call 76;refine Lk (CALL.o _ BL.o) fun w' hb=>?_;rw[HPL.o];have BL2:=aa (ab BL.o hb);clear hb)
     go_roundg (xs.length - 1)
     case measure=>rw[GK.o];omega
     case rel=>exact⟨1,by omega,rfl,by go_num,⟨AN.o,rB xs⟩,BL2⟩
    | succ j=>
     have hpc:=ah BL.o (PV.o j rfl);have j0:(0:Int) < ((j+1:Nat):Int):=by omega
     have RT:=aa (pR hlt);simp only[Nat.add_sub_cancel]at hpc;have hpcA:Ll (∀ W,La w W->W.cell? ⟨b,off+j,none⟩=some (.string ⟨xs[j].toArray⟩)):=fun W hW=>by
      have:=ah hW (PV.o j rfl);simpa only[Nat.add_sub_cancel] using this
     clear hpc;cases hbl:Op.bytesLess xs[j] xs[j+1] with
     | true=>
      have HBL:=aa hbl;go_wp2_with (go_at_call 76;refine Lk (CALL.o _ BL.o) fun w' hb=>?_;rw[HPL.o];have BL2:=aa (ab BL.o hb);have hpc:=hpcA.o _ BL2.o;clear hb)
      go_roundg (xs.length - (j+1+1))
      case measure=>rw[GK.o];omega
      case rel=>exact⟨j+1+1,by omega,rfl,by go_num,⟨AN.o,by rw[RT.o,AL.o.2,HBL.o];rfl⟩,BL2⟩
     | false=>
      have R:=aa (ED hlt hbl);go_wp2_with (go_at_call 76;refine Lk (CALL.o _ BL.o) fun w' hb=>?_;rw[HPL.o];have BL2:=aa (ab BL.o hb);have hpc:=hpcA.o _ BL2.o;clear hb)
      go_ret;exact⟨by rw[R.o];rfl,BL2.o⟩
  ·have d1:¬(k:Int) < (xs.length:Int):=by omega
   have Mc:k=xs.length:=by omega
   have AE:Ll (xs.all oh=true/\dg xs=true):=aa (by have:=AL.o;rwa [Mc,List.take_length]at this);clear Mc;cases xs with
   | nil=>
    go_wp2
    go_ret;exact⟨rfl,BL.o⟩
   | cons x xs=>
    have R:Ll (jj (x :: xs)=true):=aa (by simp only[jj,AE.o.1,AE.o.2];rfl);have g1:(0:Int) < (((x :: xs).length:Nat):Int):=by simp only[My];omega
    have g2:decide (0 < (x :: xs).length)=true:=by simp
    obtain⟨L,hL⟩:∃ L,(x :: xs).length=L:=⟨_,rfl⟩
    rw[hL]at g1 g2 d1 ll ⊢;clear hL;go_wp2
    go_ret;exact⟨by rw[R.o];first | done | rfl | simp,BL.o⟩
theorem dq(w:LC)(ok t v)(h:In w ok t v):Calls prog 25 #[v] w fun e w'=>e=.returned (.bool (decide (t.kind=5)&&aE t))/\La w w':=by
 have H:=aa h;obtain⟨a1,a2,c1,c2,rfl⟩:=h.form;clear h;by_cases hk:t.kind=5
 ·have e1:(t.kind == 5)=true:=by simp[hk]
  have R:Ll ((decide (t.kind=5)&&aE t)=aE t):=aa (by simp[hk]);clear hk;go_enter func25,ntmps25;go_wp2_with (go_at_call 34;refine Lk (bG _ ok t _ (by exact H.o.bel (ae _ _))) fun w1 hb=>?_;have B:=aa (ab (ae _ _) hb);clear hb)
  go_ret;exact⟨by rw[R.o];first | done | rfl | simp,B.o⟩
 ·have e1:(t.kind == 5)=false:=by rw[MO];exact hk
  have R:Ll ((decide (t.kind=5)&&aE t)=false):=aa (by simp[hk]);clear hk;go_enter func25,ntmps25;go_wp2
  go_ret;exact⟨by rw[R.o];first | done | rfl | simp,ae _ _⟩
section
open Go.RowKit Go.Shelf Go.Sort
def ji (x:Lz):Value:=.string ⟨x.toArray⟩
theorem tQ(x y):ltOf Lib.compareBytes x y=Op.bytesLess x y:=by
 unfold ltOf;rw[Bool.eq_iff_iff,decide_eq_true_eq];exact ki x y
theorem Hj:SWO (ltOf Lib.compareBytes) where
 irrefl x:=by rw[tQ];exact TE x
 trans x y z h1 h2:=by rw[tQ]at *;exact cP _ _ _ h1 h2
 ntrans x y z h1 h2:=by
  rw[tQ]at *;exact rE (a:=z) (b:=y) (c:=x) h2 h1
theorem xr{L}{d:Array Lz}(hp:PermIn 0 L.length L.toArray d)(hs:SortedIn (ltOf Lib.compareBytes) 0 L.length d):d.toList=ix L:=by
 obtain⟨h1,-,h2⟩:=hp;have L9:d.size=L.length:=by simpa using h1
 have e1:(d.extract 0 L.length)=d:=by rw[<-L9];simp
 have e2:(L.toArray.extract 0 L.length)=L.toArray:=by
  have:L.length=L.toArray.size:=by simp
  rw[this];exact Array.extract_size
 rw[e1,e2]at h2;refine Ig (by simpa using h2) ?_;rw[List.pairwise_iff_getElem];intro i j hi hj hij;have hi':i < d.size:=by simpa using hi
 have hj':j < d.size:=by simpa using hj
 have:=hs i j (Nat.zero_le _) hij (by omega);rw[tQ,getElem!_pos d j hj',getElem!_pos d i hi']at this;simpa [xA] using this
theorem oo(W:LC)(g m)(d:Array Lz)(os:Array Obj)(k)(hk:k < W.heap.size)(hne:k≠g):(sortWorld ji W g 0 m d os).heap[k]?=W.heap[k]?:=by
 change (W.heap.modify g (onCells (putCells ji 0 d))++os)[k]?=W.heap[k]?;rw[Array.getElem?_append_left (by simpa using hk),Array.getElem?_modify,if_neg (fun e=>hne e.symm)]
theorem ox(W:LC)(g m)(d:Array Lz)(os:Array Obj):W.grownBy (sortWorld ji W g 0 m d os) (some g):=by
 refine⟨rfl,rfl,rfl,?_,fun k hk hr=>oo W g m d os k hk (fun e=>hr (by rw[e]))⟩;change W.heap.size<=(W.heap.modify g (onCells (putCells ji 0 d))++os).size;simp
theorem qn:∀ args w,(callFunc 48 args).run prog w=.ok (.enter 48 args) w:=enters_of func48 (by kernel_rfl) rfl
theorem Bh(blk off size)(w:LC):CmpReads prog 48 #[] ji Lib.compareBytes blk off size w:=fun m os dk _ x y=>by
 have:=Tryz.strCompare ⟨x.toArray⟩ ⟨y.toArray⟩ (sortWorld ji w blk off m dk os);simp only[List.toList_toArray]at this;exact this.mono fun e w' h=>⟨h.1,0,h.2⟩
theorem Fy(W:LC)(B L sv)(h:W.ownsRow B 9 1 sv L.length (L.map ji))(hl:∀ x∈L,x.length<=maxLen)(hn:L.length < 4611686018427387904):Calls prog 47 #[sv,.func (.func 48) #[] #[]] W fun e w'=>e=.returned (.tuple #[])/\ao w' (fun k=>B<=k) (ix L) sv/\W.grownBy w' sv.ownBlock:=by
 rcases h.2 with⟨rfl,h0⟩ | ⟨g,cap,cur,rfl,h1,h2,h3,h4,h5,h6⟩
 ·have hL:L=[]:=List.length_eq_zero_iff.1 h0;subst hL;have hc:=AnyF.slices_SortFunc_none (P:=prog) (ρ:=Tryz.laysSort_ren) { Tryz.laysSort with } none 0 (.func (.func 48) #[] #[]) W;change Calls prog 47 _ _ _ at hc;exact hc.mono fun e w' h=>⟨h.1,⟨by simp[ix,maxLen],.inl ⟨rfl,none,rfl⟩⟩,by rw[h.2];exact az _ _⟩
 ·have hblk:g < W.heap.size:=(MF.1 h2).1;have LV:∀ j (hj:j < L.length),cur[j]?=some (ji L[j]):=fun j hj=>by
   have e:=congrArg (fun l=>l[j]?) h6;simp only[Nat.mul_one,List.getElem?_take,List.getElem?_map,Mw hj,Option.map_some]at e;rw[if_pos hj]at e;simpa using e
  have hH:Holds ji W g 0 L.toArray:=fun j hj=>by
   have hj':j < L.length:=by simpa using hj
   rw[getElem!_pos L.toArray j hj];refine⟨?_,?_⟩
   ·simp[World.cell?,h2,LV j hj']
   ·simp[World.frozen?,h2]
  have hc:=Any.slices_SortFunc Tryz.laysSort ji (fun _=>rfl) Lib.compareBytes Hj 48 #[] g 0 cap L.toArray W qn (Bh g 0 L.toArray.size W).lays hH hblk (by simpa using hn);have L9:L.toArray.size=L.length:=by simp
  rw[L9]at hc;change Calls prog 47 _ _ _ at hc;refine hc.mono ?_;rintro e w' ⟨rfl,d,n,os,hp,hs,rfl⟩;have hd:=xr hp hs;have hdl:d.size=L.length:=by have:=hp.1;simpa using this
  have hsl:(ix L).length=L.length:=(fU L).length_eq;refine⟨rfl,⟨by rw[hsl];omega,.inr ⟨g,0,cap,by rw[hsl],by rw[hsl];exact h3,h4,fun i x hx=>?_⟩⟩,ox W g n d os⟩;obtain⟨hi,rfl⟩:=Mz.1 hx;have hi2:i < d.size:=by rw[hdl,<-hsl];exact hi
  refine⟨hl _ ((fU L).mem_iff.1 (List.getElem_mem hi)),h1,?_⟩;have hA:Holds ji (Go.Sort.ahead W n) g 0 L.toArray:=hH;have hcw:=cell?_putRow ji (Go.Sort.ahead W n) g 0 L.toArray d hA (by simpa using hdl) i hi2;unfold sortWorld;rw[cell?_grow _ _ _ (by rw[size_putRow];exact hblk),hcw,getElem!_pos d i hi2];have:d[i]=(ix L)[i]:=by
   have:=congrArg (fun l=>l[i]?) hd;simp only[Mw hi,Array.getElem?_toList]at this;exact(MF.1 this).2
  rw[this];rfl
theorem qY(D t):dC [] (jK D t)=(jK D t).map aU:=by simp[dC]
theorem Uy(w:LC)(ok t v)(h:In w ok t v)(hM:bj w):Calls prog 18 #[v] w fun e w'=>∃ (a:Option Addr) (c:Nat),e=.returned (.slice a (au t).length c)/\ao w' (fun k=>w.heap.size<=k) (au t) (.slice a (au t).length c)/\La w w':=by
 have H:=aa h.low;have HM:=aa hM;obtain⟨a1,a2,c1,c2,rfl⟩:=h.form;clear h hM;have B0:Ll (∀ o,La w (w.alloc o)):=aa (fun o=>ae _ _);by_cases hg:t.kind=5/\aE t=true
 ·have e1:(decide (t.kind=5)&&aE t)=true:=by simp[hg.1,hg.2]
  have LF:Ll (au t=ix ((jK 12 t).map aU)):=aa (if_pos hg);have GT:=aa (fh hg.2);have NC:=aa (gE (dQ hg.2));have K5:=aa hg.1;have GG:=aa hg;clear hg;go_enter func18,ntmps18;go_upto_region 3 with (go_at_call 25;refine Lk (dq _ (Lj ok w) t _ (by exact H.o.bel (B0.o _))) fun w1 hb1=>?_;rw[e1];have B1:=aa (ab (B0.o _) hb1);have PB:=aa (af hb1 (MN w _));clear hb1)
  have W2:Ll (La w (w1.alloc (.cells #[.slice none 0 0] 22))):=aa (ab B1.o (ae _ _));have GI:Ll (pH (w1.alloc (.cells #[.slice none 0 0] 22)) w1.heap.size [] none):=aa ⟨.slice none 0 0,MN _ _,World.ownsRow_nil _ _ _ _,rfl⟩;have LO:Ll (∀ k,(ok k/\k < w.heap.size)->k < w1.heap.size):=aa (fun k hk=>by have:=B1.o.size;omega);have GMA:Ll (∀ W,Below w1.heap.size (w1.alloc (.cells #[.slice none 0 0] 22)) W->bj W):=aa (fun W hW=>HM.o.bel (W2.o.trans (hW.mono B1.o.size)));have CALL:=aa (De 12 (w1.alloc (.cells #[.slice none 0 0] 22)) (Lj ok w) t _ [] w1.heap.size [] none (by exact H.o.bel W2.o) LO.o GT.o K5.o (by simp) (by have:=NC.o;simp;omega) GI.o GMA.o);obtain⟨q0,q1,q2,q3,q4,-⟩:=ag.c (af (ae w1 (.cells #[.slice none 0 0] 22)) PB.o);go_upto_region 5 with (go_at_call 46;refine CALL.o.mono ?_;rintro e w3 ⟨rfl,r3,hg3,hk3,hf3⟩;rw[List.nil_append,qY]at hg3;have G3:=aa hg3;have L3:Ll (Below w1.heap.size (w1.alloc (.cells #[.slice none 0 0] 22)) w3):=aa (hk3.low (by simp) (by intro g hg;cases hg));clear hg3 hk3 hf3 q0 q1 q2 q3 q4)
  obtain⟨sv,s1,s2,s3⟩:=G3.o;have c0:w3.cell? ⟨w1.heap.size,0,none⟩=some sv:=by simp[World.cell?,s1]
  have SC:=aa (Fy w3 (w1.heap.size+1) ((jK 12 t).map aU) sv s2 (fun x hx=>by
   obtain⟨ns,hn,rfl⟩:=List.mem_map.1 hx;have:=tj 12 t ns GT.o K5.o hn;unfold maxLen;omega) (by
   have:=mB 12 t;have h9:=df t;have:=NC.o;rw[List.length_map];omega))
  have S1:=aa s1;have S2:=aa s2;obtain⟨sa,sn,sc,hsv⟩:∃ sa sn sc,sv=.slice sa sn sc:=by
   rcases s2.2 with⟨h9,-⟩ | ⟨_,_,_,h9,-⟩
   ·exact⟨_,_,_,h9⟩
   ·exact⟨_,_,_,h9⟩
  subst hsv;clear s1 s2 s3;go_upto_region 6 with (go_at_call 47;refine SC.o.mono ?_;rintro e w4 ⟨rfl,hst,hgb⟩;have ST:=aa hst;have GB:=aa hgb;clear hst hgb)
  have c4:w4.cell? ⟨w1.heap.size,0,none⟩=some (.slice sa sn sc):=by
   have hlt:w1.heap.size < w3.heap.size:=(MF.1 S1.o).1;have:=GB.o.block w1.heap.size hlt (fun e=>by have:=(bY S2.o e.symm).1;omega);simp[World.cell?,this,S1.o]
  have BB:Ll (La w w4):=aa (by
   have h1:Below w1.heap.size w3 w4:=⟨GB.o.os,GB.o.tape,GB.o.output,GB.o.size,fun k hk=>by
    have hlt:w1.heap.size < w3.heap.size:=(MF.1 S1.o).1;exact GB.o.block k (by omega) (fun e=>by have:=(bY S2.o e.symm).1;omega)⟩
   exact(W2.o.trans (L3.o.mono B1.o.size)).trans (h1.mono B1.o.size))
  have SN:Ll (sn=(au t).length):=aa (by
   obtain⟨a9,c9,e9⟩:=ST.o.form;simp only[Value.slice.injEq]at e9;rw[LF.o];exact e9.2.1)
  have SZ:Ll (w.heap.size<=w1.heap.size):=aa B1.o.size;clear c0;go_wp2
  go_ret;refine⟨sa,sc,by rw[<-SN.o];rfl,?_,BB.o⟩;rw[<-SN.o,LF.o];exact ST.o.imp fun a x h1 h2=>⟨MH SZ.o (Nat.le_of_succ_le h1),h2⟩
 ·have e1:(decide (t.kind=5)&&aE t)=false:=by
   rw[Bool.and_eq_false_iff];by_cases h9:t.kind=5
   ·right;rw[Bool.eq_false_iff];exact fun h8=>hg ⟨h9,h8⟩
   ·left;exact decide_eq_false h9
  have LF:Ll (au t=[]):=aa (if_neg hg);clear hg;go_enter func18,ntmps18;go_wp2_with (go_at_call 25;refine Lk (dq _ (Lj ok w) t _ (by exact H.o.bel (B0.o _))) fun w1 hb1=>?_;rw[e1];have B1:=aa (ab (B0.o _) hb1);clear hb1)
  go_ret;exact⟨none,0,by rw[LF.o];rfl,by rw[LF.o];exact⟨by simp,.inl ⟨rfl,none,rfl⟩⟩,B1.o⟩
end
theorem Pb{xs}(h:6 < xs.length):TC xs=false:=by
 have:decide (xs.length<=6)=false:=decide_eq_false (by omega);simp[TC,this]
theorem yJ{xs}(hk:k < xs.length)(h:ol xs[k]=false):TC xs=false:=by
 have:xs.all ol=false:=by rw[List.all_eq_false];exact⟨xs[k],List.getElem_mem _,by simp[h]⟩
 simp[TC,this]
theorem vS{xs j}(hj:j+1 < xs.length)(h:Op.bytesLess xs[j].name xs[j+1].name=false):TC xs=false:=by
 have:dg (xs.map aL.name)=false:=sm (j:=j) (by simpa using hj) (by simpa using h);simp[TC,this]
theorem yH{xs}(h:xs.length<=6)(h1:xs.all ol=true)(h2:dg (xs.map aL.name)=true):TC xs=true:=by
 unfold TC;rw[decide_eq_true h,h1,h2];rfl
theorem yw{xs:List aL}{j:Nat}(h:j+1 < xs.length):dg ((xs.take (j+2)).map aL.name)=(dg ((xs.take (j+1)).map aL.name)&&Op.bytesLess xs[j].name xs[j+1].name):=by
 have:=pR (xs:=xs.map aL.name) (j:=j) (by simpa using h);simpa only[List.map_take,List.getElem_map] using this
theorem BT(xs:List aL):dg ((xs.take 1).map aL.name)=true:=by rw[List.map_take];exact rB _
theorem eZ(w ok xs v)(h:aB w ok xs v)(hP:∀ o∈xs,∀ x∈o.paths,x.length<=140737488351232)(hM:bj w):Calls prog 15 #[v] w fun e w'=>e=.returned (.bool (TC xs))/\La w w':=by
 obtain⟨a,c,rfl⟩:=h.form;have H:=aa h;have HP:=aa hP;have HM:=aa hM;have ll:=h.1;unfold maxLen at ll;clear h hP hM;by_cases h6:6 < xs.length
 ·have R:=aa (Pb h6);have g1:(6:Int) < (xs.length:Int):=by omega
  have g2:decide (6 < xs.length)=true:=decide_eq_true h6;go_enter func15,ntmps15;go_wp2
  go_ret;exact⟨by rw[R.o];rfl,MK _ _⟩
 have g1:¬(6:Int) < (xs.length:Int):=by omega
 have g2:decide (6 < xs.length)=false:=decide_eq_false h6;have L6:Ll (xs.length<=6):=aa (by omega);clear h6;go_enter func15,ntmps15;go_wp2
 go_loopg [10] xs.length (fun gk i wr=>∃ k:Nat,k<=xs.length/\gk=xs.length - k/\i=.int .i64 k/\Ll ((xs.take k).all ol=true/\dg ((xs.take k).map aL.name)=true)/\Ll (La w wr))
 case atStart=>exact⟨0,Nat.zero_le _,rfl,rfl,⟨rfl,rfl⟩,MK _ _⟩
 case round=>
  obtain⟨k,hk,hgk,rfl,AL,BL⟩:=hrel;have GK:=aa hgk;clear hgk;by_cases hlt:k < xs.length
  ·obtain⟨b,off,pa,pc,rfl,hc1,hc2,hn0,hp0,hst,hnl⟩:=H.o.at hlt;have hn:=ah BL.o hn0;have hp:=ah BL.o hp0;have w2:(k:Int) < (xs.length:Int):=by omega
   have ST:=aa hst;have HPK:=aa (HP.o xs[k] (List.getElem_mem _));have PV:Ll (∀ j,k=j+1->w.cell? ⟨b,off+j * 2,none⟩=some (.string ⟨xs[k - 1].name.toArray⟩)):=fun j hj=>by
    subst hj;obtain⟨b',off',_,_,e,-,-,h9,-⟩:=H.o.at (k:=j) (by omega);cases e;exact h9
   have OB:Ll (ol xs[k]=(bT xs[k].name&&jj xs[k].paths)):=aa rfl;have AT:Ll (ol xs[k]=true->(xs.take (k+1)).all ol=true):=fun h9=>vz hlt AL.o.1 h9;have BD:Ll (ol xs[k]=false->TC xs=false):=fun h9=>yJ hlt h9;have RT:Ll (∀ j (hj:k=j+1),dg ((xs.take (k+1)).map aL.name)=(dg ((xs.take k).map aL.name)&&Op.bytesLess xs[k - 1].name xs[k].name)/\(Op.bytesLess xs[k - 1].name xs[k].name=false->TC xs=false)):=fun j hj=>by
    subst hj;exact⟨yw hlt,fun h9=>vS hlt h9⟩
   clear hn0 hp0 hst;obtain⟨nm,hnm⟩:∃ nm,xs[k].name=nm:=⟨_,rfl⟩
   obtain⟨ps,hps⟩:∃ ps,xs[k].paths=ps:=⟨_,rfl⟩
   rw[hps]at hp ST HPK OB;rw[hnm]at hn hnl OB RT;obtain⟨W5,hW5⟩:∃ W,W=wr.alloc (.cells #[.string ⟨nm.toArray⟩,.slice pa ps.length pc] 47):=⟨_,rfl⟩
   have B5:Ll (La w W5):=aa (by rw[hW5];exact ab BL.o (ae _ _));have s0:∀ p:mq W5,p.W.cell? ⟨wr.heap.size,0,none⟩=some (.string ⟨nm.toArray⟩):=mY (by rw[hW5];exact(rl (MN _ _)).1);have s1:∀ p:mq W5,p.W.cell? ⟨wr.heap.size,1,none⟩=some (.slice pa ps.length pc):=mY (by rw[hW5];exact(rl (MN _ _)).2);have NM:Ll (∀ (o:Bool),bT nm=o->∀ p:mq W5,Calls prog 13 #[.string ⟨nm.toArray⟩] p.W fun e w''=>e=.returned (.bool o)/\∃ q:mq W5,w''=q.W):=fun o ho p=>Calls.belW ((lR p.W nm hnl).mono fun e w4 h9=>⟨by rw[<-ho];exact h9.1,by rw[h9.2];exact MK _ _⟩);have GP:Ll (∀ (o:Bool),jj ps=o->∀ p:mq W5,Calls prog 43 #[.slice pa ps.length pc] p.W fun e w''=>e=.returned (.bool o)/\∃ q:mq W5,w''=q.W):=fun o ho p=>Calls.belW ((sR p.W ok ps _ ((ST.o.bel B5.o).bel p.h) HPK.o (HM.o.bel (ab B5.o p.h))).mono fun e w4 h9=>⟨by rw[<-ho];exact h9.1,h9.2⟩);have hmix:prog.follows .mixedOrders=true:=by kernel_rfl
   have HW:=aa hW5;have hne:Nonempty (mq W5):=⟨⟨W5,MK _ _⟩⟩
   clear hnm hps hW5;cases hna:bT nm with
   | false=>
    have NM2:=aa (NM.o false hna);have R:=aa (BD.o (by rw[OB.o,hna];rfl));clear hna;go_wp2
    rw[<-HW.o];refine dE (by assumption) (by kernel_rfl) ?_;repeat(first | go_big_quiet_step ((go_at_call 13;exact NM2.o _)) | quiet_step ((go_at_call 13;exact NM2.o _)))
    refine wpQuiet_nil ?_;intro _ hw';obtain⟨pq,hw''⟩:=hw';subst hw'';go_wp2
    go_ret;exact⟨by rw[R.o];rfl,ab B5.o pq.h⟩
   | true=>
    have NM2:=aa (NM.o true hna);have NA:=aa hna;clear hna;cases k with
    | zero=>
     rw[Nat.zero_mul,Nat.add_zero]at hn hp;cases hg:jj ps with
     | false=>
      have GP2:=aa (GP.o false hg);have R:=aa (BD.o (by rw[OB.o,NA.o,hg];rfl));clear hg;go_wp2
      rw[<-HW.o];refine dE (by assumption) (by kernel_rfl) ?_;repeat(first | go_big_quiet_step ((first | (go_at_call 13;exact NM2.o _) | (go_at_call 43;exact GP2.o _))) | quiet_step ((first | (go_at_call 13;exact NM2.o _) | (go_at_call 43;exact GP2.o _))))
      refine wpQuiet_nil ?_;intro _ hw';obtain⟨pq,hw''⟩:=hw';subst hw'';go_wp2
      go_ret;exact⟨by rw[R.o];rfl,ab B5.o pq.h⟩
     | true=>
      have GP2:=aa (GP.o true hg);have A2:=aa (AT.o (by rw[OB.o,NA.o,hg];rfl));clear hg;go_wp2
      rw[<-HW.o];refine dE (by assumption) (by kernel_rfl) ?_;repeat(first | go_big_quiet_step ((first | (go_at_call 13;exact NM2.o _) | (go_at_call 43;exact GP2.o _))) | quiet_step ((first | (go_at_call 13;exact NM2.o _) | (go_at_call 43;exact GP2.o _))))
      refine wpQuiet_nil ?_;intro _ hw';obtain⟨pq,hw''⟩:=hw';subst hw'';go_wp2
      go_roundg (xs.length - 1)
      case measure=>rw[GK.o];omega
      case rel=>exact⟨1,by omega,rfl,by go_num,⟨A2.o,BT xs⟩,ab B5.o pq.h⟩
    | succ j=>
     have j0:(0:Int) < ((j+1:Nat):Int):=by omega
     have s2:∀ p:mq W5,p.W.cell? ⟨b,off+j * 2,none⟩=some (.string ⟨xs[j].name.toArray⟩):=mY (by have:=ah B5.o (PV.o j rfl);simpa only[Nat.add_sub_cancel] using this);obtain⟨RT1,RT2⟩:=RT.o j rfl;simp only[Nat.add_sub_cancel]at RT1 RT2;obtain⟨nj,hnj⟩:∃ nj,xs[j].name=nj:=⟨_,rfl⟩
     rw[hnj]at s2 RT1 RT2;have RTA:=aa RT1;have RTB:=aa RT2;clear hnj RT1 RT2;cases hbl:Op.bytesLess nj nm with
     | false=>
      have R:=aa (RTB.o hbl);go_wp2
      rw[<-HW.o];refine dE (by assumption) (by kernel_rfl) ?_;repeat(first | go_big_quiet_step ((go_at_call 13;exact NM2.o _)) | quiet_step ((go_at_call 13;exact NM2.o _)))
      refine wpQuiet_nil ?_;intro _ hw';obtain⟨pq,hw''⟩:=hw';subst hw'';go_wp2
      go_ret;exact⟨by rw[R.o];rfl,ab B5.o pq.h⟩
     | true=>
      cases hg:jj ps with
      | false=>
       have GP2:=aa (GP.o false hg);have R:=aa (BD.o (by rw[OB.o,NA.o,hg];rfl));clear hg;go_wp2
       rw[<-HW.o];refine dE (by assumption) (by kernel_rfl) ?_;repeat(first | go_big_quiet_step ((first | (go_at_call 13;exact NM2.o _) | (go_at_call 43;exact GP2.o _))) | quiet_step ((first | (go_at_call 13;exact NM2.o _) | (go_at_call 43;exact GP2.o _))))
       refine wpQuiet_nil ?_;intro _ hw';obtain⟨pq,hw''⟩:=hw';subst hw'';go_wp2
       go_ret;exact⟨by rw[R.o];rfl,ab B5.o pq.h⟩
      | true=>
       have GP2:=aa (GP.o true hg);have A2:=aa (AT.o (by rw[OB.o,NA.o,hg];rfl));have HBL:=aa hbl;clear hg;go_wp2
       rw[<-HW.o];refine dE (by assumption) (by kernel_rfl) ?_;repeat(first | go_big_quiet_step ((first | (go_at_call 13;exact NM2.o _) | (go_at_call 43;exact GP2.o _))) | quiet_step ((first | (go_at_call 13;exact NM2.o _) | (go_at_call 43;exact GP2.o _))))
       refine wpQuiet_nil ?_;intro _ hw';obtain⟨pq,hw''⟩:=hw';subst hw'';go_wp2
       go_roundg (xs.length - (j+1+1))
       case measure=>rw[GK.o];omega
       case rel=>exact⟨j+1+1,by omega,rfl,by go_num,⟨A2.o,by rw[RTA.o,AL.o.2,HBL.o];rfl⟩,ab B5.o pq.h⟩
  ·have d1:¬(k:Int) < (xs.length:Int):=by omega
   have Mc:k=xs.length:=by omega
   have R:Ll (TC xs=true):=aa (by have:=AL.o;rw[Mc,List.take_length]at this;exact yH L6.o this.1 this.2);clear Mc;go_wp2
   go_ret;exact⟨by rw[R.o];rfl,BL.o⟩
theorem Bg{l who}(h:bD (l.map aL.name))(hc:(l.map aL.name).contains who=true):∃ hi:bB l who < l.length,l[bB l who].name=who/\cq l who=l[bB l who].paths:=by
 rw[List.contains_iff_mem,List.mem_map]at hc;obtain⟨o,ho,rfl⟩:=hc;obtain⟨h1,h2⟩:=kl l o.name h;have hin:o∈l.drop (bB l o.name):=by
  rw[<-List.take_append_drop (bB l o.name) l,List.mem_append]at ho;rcases ho with ho | ho
  ·have:=h1 o ho;rw[TE]at this;cases this
  ·exact ho
 have hi:bB l o.name < l.length:=by
  apply Classical.byContradiction;intro h9;rw[List.drop_eq_nil_of_le (by omega)]at hin;cases hin
 have hfirst:l[bB l o.name]∈l.drop (bB l o.name):=(ME hi) ▸ List.mem_cons_self;have hname:l[bB l o.name].name=o.name:=by
  obtain⟨j,hj,e⟩:=List.getElem_of_mem hin;rw[List.getElem_drop]at e;cases j with
  | zero=>simp only[Nat.add_zero]at e;rw[e]
  | succ j=>
   have hlt:bB l o.name+(j+1) < l.length:=by rw[MB]at hj;omega
   have:=List.pairwise_iff_getElem.1 h (bB l o.name) (bB l o.name+(j+1)) (by simpa using hi) (by simpa using hlt) (by omega);rw[List.getElem_map,List.getElem_map,e,h2 _ hfirst]at this;cases this
 refine⟨hi,hname,?_⟩;have:=wK h (List.getElem_mem hi);rwa [hname]at this
theorem xD{l who}(hc:(l.map aL.name).contains who=false):cq l who=[]:=pk fun o ho e=>by
 rw[Bool.eq_false_iff]at hc;exact hc (by rw[List.contains_iff_mem];exact List.mem_map.2 ⟨o,ho,e⟩)
theorem xU(w:LC)(ok l v who)(h:aB w ok l v)(hr:bD (l.map aL.name))(hn:l.length < 4611686018427387904):Calls prog 32 #[v,.string ⟨who.toArray⟩] w fun e w'=>∃ a c,e=.returned (.slice a (cq l who).length c)/\ao w' ok (cq l who) (.slice a (cq l who).length c)/\La w w':=by
 have C:=aa (qo w ok l v who h hr hn);have H:=aa h;obtain⟨a,c,rfl⟩:=h.form;cases hc:(l.map aL.name).contains who with
 | false=>
  have R:=aa (xD hc);rw[hc]at C;clear hc h hr;go_enter func32,ntmps32;go_wp2_with (go_at_call 67;refine C.o.mono ?_;rintro e w1 ⟨rfl,hb⟩;have B1:=aa hb;clear hb)
  go_ret;exact⟨none,0,by rw[R.o];rfl,by rw[R.o];exact⟨by simp,.inl ⟨rfl,none,rfl⟩⟩,B1.o⟩
 | true=>
  obtain⟨hi,-,hp⟩:=Bg hr hc;rw[hc]at C;obtain⟨b,off,pa,pc,rfl,j1,j2,k1,k2,k3,k4⟩:=h.at hi;have ll:=h.1;unfold maxLen at ll;obtain⟨i,hie⟩:∃ i,bB l who=i:=⟨_,rfl⟩
  rw[<-hp]at k2 k3;have K2:Ll (∀ W,La w W->W.cell? ⟨b,off+i * 2+1,none⟩=some (.slice pa (cq l who).length pc)):=aa (fun W hW=>by rw[<-hie];exact ah hW k2);have K3:=aa k3;have x1:(i:Int) < (l.length:Int):=by omega
  have x2:(0:Int)<=(i:Int):=by omega
  rw[hie]at C;clear hc h hr hp k1 k2 k3 k4 hi hie;go_enter func32,ntmps32;go_wp2_with (go_at_call 67;refine C.o.mono ?_;rintro e w1 ⟨rfl,hb⟩;have B1:=aa hb;have q9:=K2.o _ hb;clear hb)
  go_ret;exact⟨pa,pc,rfl,K3.o.imp fun a x g1 g2=>⟨g1,ah B1.o g2⟩,B1.o⟩
theorem S3{key:Lz}{xs:List Lz}(h:k < xs.length)(hne:xs[k]≠key):(TN key (xs.drop k)).map (·+k)=(TN key (xs.drop (k+1))).map (·+(k+1)):=by
 rw[ME h,TN,if_neg hne];cases TN key (xs.drop (k+1)) with
 | none=>rfl
 | some i=>simp;omega
theorem GX(w:LC)(ok:Nat->Prop)(t:V)(v:Value)(key:Lz)(h:In w ok t v):Calls prog 71 #[v,aR key] w fun e w'=>∃ x,e=.returned (.tuple #[x,.bool (aS t key).isSome])/\La w w'/\In w' ok ((aS t key).getD aM) x:=by
 have H:=aa h;obtain⟨l1,l2,l3⟩:=h.lens;obtain⟨a1,a2,c1,c2,rfl⟩:=h.form;clear h;unfold aR;have B2:Ll (∀ o1 o2,La w ((w.alloc o1).alloc o2)):=fun o1 o2=>ab (ae _ _) (ae _ _);by_cases hk:t.kind=5
 ·have e0:(t.kind != 5)=false:=by rw[hk];rfl
  by_cases hl:t.keys.length=t.l.length
  ·have e1:((t.keys.length:Int) != (t.l.length:Int))=false:=by simp[hl]
   have HM:Ll (aS t key=(TN key t.keys).bind fun i=>t.l[i]?):=aa (by simp[aS,dO,aK,hk,hl]);have HL:=aa hl;clear hk hl;go_enter func71,ntmps71;go_wp2
   go_loop [23] (fun i=>∃ k:Nat,k<=t.keys.length/\i=.int .i64 k/\Ll (TN key t.keys=(TN key (t.keys.drop k)).map (·+k))) (fun i=>t.keys.length - (intOf i).toNat)
   case atStart=>exact⟨0,Nat.zero_le _,rfl,aa (by simp)⟩
   case round=>
    obtain⟨k,hk,rfl,HI⟩:=hrel;by_cases hlt:k < t.keys.length
    ·have hlt':k < t.l.length:=by have:=HL.o;omega
     obtain⟨kb,ko,rfl,j1,j2,jk,jl⟩:=H.o.key hlt;obtain⟨xb,xo,b5,d5,b6,d6,rfl,j3,j4,g0,g1,g2,g3,g4,g5⟩:=H.o.item hlt';have w1:(0:Int)<=(k:Int):=by omega
     have w2:(k:Int) < (t.keys.length:Int):=by omega
     have w3:(k:Int) < (t.l.length:Int):=by omega
     have LW:=B2.o (.cells #[.int .i64 t.kind,.int .i64 t.n,.string ⟨t.s.toArray⟩,.slice (some ⟨kb,ko,none⟩) t.keys.length c1,.slice (some ⟨xb,xo,none⟩) t.l.length c2] 25) (.cells #[.int .i64 0,.int .i64 0,.string ⟨#[]⟩,.slice none 0 0,.slice none 0 0] 25);replace jk:=ah LW jk;replace g0:=ah LW g0;replace g1:=ah LW g1;replace g2:=ah LW g2;replace g3:=ah LW g3;replace g4:=ah LW g4;have G5:=aa g5;clear g5 LW;by_cases he:t.keys[k]=key
     ·have e3:(t.keys[k] == key)=true:=by rw[beq_iff_eq];exact he
      have HX:Ll (aS t key=some t.l[k]):=aa (by
       rw[HM.o,HI.o,ME hlt,TN,if_pos he];simp[Mw hlt'])
      clear he;have BX:=aa (G5.o.bel (B2.o (.cells #[.int .i64 t.kind,.int .i64 t.n,.string ⟨t.s.toArray⟩,.slice (some ⟨kb,ko,none⟩) t.keys.length c1,.slice (some ⟨xb,xo,none⟩) t.l.length c2] 25) (.cells #[.int .i64 t.l[k].kind,.int .i64 t.l[k].n,.string ⟨t.l[k].s.toArray⟩,.slice b5 t.l[k].keys.length d5,.slice b6 t.l[k].l.length d6] 25)));go_wp2
      refine MM (v:=.tuple #[.agg #[.int .i64 t.l[k].kind,.int .i64 t.l[k].n,.string ⟨t.l[k].s.toArray⟩,.slice b5 t.l[k].keys.length d5,.slice b6 t.l[k].l.length d6],.bool true]) ?_ rfl ?_
      ·simp[results,results71,go_sem]
      ·exact⟨_,by rw[HX.o];rfl,B2.o _ _,by rw[HX.o];exact BX.o⟩
     ·have e3:(t.keys[k] == key)=false:=by rw[MO];exact he
      have HN:Ll (TN key t.keys=(TN key (t.keys.drop (k+1))).map (·+(k+1))):=aa (by rw[HI.o,S3 hlt he]);clear he;go_wp2
      go_round
      case rel=>exact⟨k+1,by omega,by go_num,HN⟩
      case measure=>simp[intOf];omega
    ·have l1:t.keys.drop k=[]:=List.drop_eq_nil_of_le (by omega);have d1:¬(k:Int) < (t.keys.length:Int):=by omega
     have HM2:Ll (aS t key=none):=aa (by rw[HM.o,HI.o,l1];rfl);clear HM l1;have HM:=HM2;go_wp2
     refine MM (v:=.tuple #[.agg #[.int .i64 0,.int .i64 0,.string ⟨#[]⟩,.slice none 0 0,.slice none 0 0],.bool false]) ?_ rfl ?_
     ·simp[results,results71,go_sem]
     ·exact⟨_,by rw[HM.o];rfl,B2.o _ _,by rw[HM.o];exact fG _ _⟩
  ·have e1:((t.keys.length:Int) != (t.l.length:Int))=true:=by rw[bne_iff_ne];omega
   have HM:Ll (aS t key=none):=aa (by simp[aS,dO,aK,hl]);clear hk hl;go_enter func71,ntmps71;go_wp2
   refine MM (v:=.tuple #[.agg #[.int .i64 0,.int .i64 0,.string ⟨#[]⟩,.slice none 0 0,.slice none 0 0],.bool false]) ?_ rfl ?_
   ·simp[results,results71,go_sem]
   ·exact⟨_,by rw[HM.o];rfl,B2.o _ _,by rw[HM.o];exact fG _ _⟩
 ·have e0:(t.kind != 5)=true:=by rw[bne_iff_ne];exact hk
  have HM:Ll (aS t key=none):=aa (by simp[aS,dO,aK,hk]);clear hk;go_enter func71,ntmps71;go_wp2
  refine MM (v:=.tuple #[.agg #[.int .i64 0,.int .i64 0,.string ⟨#[]⟩,.slice none 0 0,.slice none 0 0],.bool false]) ?_ rfl ?_
  ·simp[results,results71,go_sem]
  ·exact⟨_,by rw[HM.o];rfl,B2.o _ _,by rw[HM.o];exact fG _ _⟩
end Go.Proofs.YtbdlfclnkpofaaaGreatDoor
