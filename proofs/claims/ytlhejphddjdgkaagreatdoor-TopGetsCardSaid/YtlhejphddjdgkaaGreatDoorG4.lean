import Derived.Test.YtlhejphddjdgkaaGreatDoorG1
import Derived.Deep.DrawnRows
set_option maxRecDepth 100000
set_option maxHeartbeats 40000000
set_option linter.unusedSimpArgs false
set_option linter.unusedVariables false
namespace Go.Proofs.YtlhejphddjdgkaaGreatDoor
open Go.RowKit
open _root_.Go.Proofs.Tryz
variable {w:World}
variable {v:Value}
section
def sq (s t:dI):Bool:=decide (s.a=t.a/\s.c=t.c/\s.ph=t.ph/\s.st=t.st/\s.we=t.we/\s.si=t.si)
theorem rR{s t}:sq s t=true↔s=t:=by
 obtain⟨a,c,p,q,r,u⟩:=s;obtain⟨a',c',p',q',r',u'⟩:=t;simp[sq]
theorem JS(W a c a' c' p q r u p' q' r' u'):(binOp .eql 35 (.agg #[.string ⟨a.toArray⟩,.string ⟨c.toArray⟩,.int .i64 p,.int .i64 q,.int .i64 r,.int .i64 u]) (.agg #[.string ⟨a'.toArray⟩,.string ⟨c'.toArray⟩,.int .i64 p',.int .i64 q',.int .i64 r',.int .i64 u'])).run prog W=.ok (.bool (sq ⟨a,c,p,q,r,u⟩ ⟨a',c',p',q',r',u'⟩)) W:=by
 go_simp;simp only[sq];repeat split
 all_goals simp[*]
theorem iy(w s):Calls prog 81 #[bc s] w fun e w'=>e=.returned (.bool (dy s))/\La w w':=by
 unfold bc;by_cases h1:s.a=s.c
 ·have e1:(s.a == s.c)=true:=by simp[h1]
  have R:Ll (dy s=false):=aa (by simp[dy,h1]);clear h1;go_enter func81,ntmps81;go_wp2
  go_ret;exact⟨by rw[R.o];rfl,ae _ _⟩
 ·have e1:(s.a == s.c)=false:=by simp[h1]
  by_cases h2:0<=s.st
  ·by_cases h3:s.st<=8
   ·have R:Ll (dy s=tm s.we):=aa (by simp[dy,h1,h2,h3]);clear h1;go_enter func81,ntmps81;go_wp2_with (go_at_call 97;refine LE (iu _ _) ?_)
    go_ret;exact⟨by rw[R.o];rfl,ae _ _⟩
   ·have R:Ll (dy s=false):=aa (by simp[dy,h3]);clear h1;go_enter func81,ntmps81;go_wp2
    go_ret;exact⟨by rw[R.o];rfl,ae _ _⟩
  ·have R:Ll (dy s=false):=aa (by simp[dy,h2]);clear h1;go_enter func81,ntmps81;go_wp2
   go_ret;exact⟨by rw[R.o];rfl,ae _ _⟩
theorem dx{a}(h:w.cell? a=some v):∀ n os,(Go.Sort.grow (w.drewN n) os).cell? a=some v:=cell_grown (World.block_lt_of_cell? w _ h) h
theorem zv(w n)(os:Array Obj):La w (Go.Sort.grow (w.drewN n) os):=by
 refine⟨rfl,rfl,rfl,by simp[Go.Sort.grow,World.drewN],fun k hk=>?_⟩;show (w.heap++os)[k]?=w.heap[k]?;rw[Array.getElem?_append_left hk]
theorem vo(w:LC)(o:Obj):∃ q os,w.alloc o=Go.Sort.grow (w.drewN q) os:=⟨0,_,by rw[Go.Sort.alloc_eq_grow];rfl⟩
theorem pw(W:LC)(n:Nat)(os:Array Obj)(g:Lz):Calls prog 60 #[.string ⟨g.toArray⟩] (Go.Sort.grow (W.drewN n) os) fun e w''=>e=.returned (.agg #[.string ⟨g.toArray⟩,.string ⟨g.toArray⟩,.int .i64 1,.int .i64 0,.int .i64 100,.int .i64 0])/\∃ p:GrownBy,w''=Go.Sort.grow (W.drewN p.n) p.os:=
 Calls.grown_of ((qE _ g).mono fun e w' h=>⟨h.1,by rw[h.2];exact vo _ _⟩)
theorem pF(W:LC)(n:Nat)(os:Array Obj)(a c:Lz):Calls prog 62 #[.string ⟨a.toArray⟩,.string ⟨c.toArray⟩] (Go.Sort.grow (W.drewN n) os) fun e w''=>e=.returned (.agg #[.string ⟨a.toArray⟩,.string ⟨c.toArray⟩,.int .i64 4,.int .i64 0,.int .i64 0,.int .i64 0])/\∃ p:GrownBy,w''=Go.Sort.grow (W.drewN p.n) p.os:=
 Calls.grown_of ((qi _ a c).mono fun e w' h=>⟨h.1,by rw[h.2];exact vo _ _⟩)
attribute [local go_sem ↓] Go.wp_at_zero Go.wp_at_succ JS
theorem eV(w s):Calls prog 58 #[bc s] w fun e w'=>e=.returned (.bool (cC s))/\La w w':=by
 unfold bc;by_cases h1:s.a=[]
 ·have e1:s.a.isEmpty=true:=by simp[h1]
  have R:Ll (cC s=false):=aa (by simp[cC,h1]);clear h1;go_enter func58,ntmps58;go_wp2
  go_ret;exact⟨by rw[R.o];rfl,ae _ _⟩
 have e1:s.a.isEmpty=false:=by simp[h1]
 by_cases h2:s.c=[]
 ·have e2:s.c.isEmpty=true:=by simp[h2]
  have R:Ll (cC s=false):=aa (by simp[cC,h2]);clear h1 h2;go_enter func58,ntmps58;go_wp2
  go_ret;exact⟨by rw[R.o];rfl,ae _ _⟩
 have e2:s.c.isEmpty=false:=by simp[h2]
 by_cases p1:s.ph=1
 ·have e3:(s.ph == 1)=true:=by simp[p1]
  have R:Ll (cC s=sq s (aF s.a)):=aa (by
   rw[Bool.eq_iff_iff,rR];constructor
   ·intro h;simp[cC,h1,h2,p1]at h;obtain⟨a,c,p,q,r,u⟩:=s;simp at h p1;simp[aF, *]
   ·intro h;rw[h];exact yP h1)
  clear h1 h2 p1;go_enter func58,ntmps58;obtain⟨c0,c1,c2,c3,c4,c5,-⟩:=de.c (w:=(w.alloc (.cells (Li s) 35))) (s:=s) (MN w _);have s0:=dx c0;have s1:=dx c1;have s2:=dx c2;have s3:=dx c3;have s4:=dx c4;have s5:=dx c5;clear c0 c1 c2 c3 c4 c5;have hmix:prog.follows .mixedOrders=true:=by kernel_rfl
  go_wp2
  refine wp_region_quiet_grown (by assumption) (by kernel_rfl) ?_;repeat(first | go_big_quiet_step ((go_at_call 60;exact pw _ _ _ _)) | quiet_step ((go_at_call 60;exact pw _ _ _ _)))
  refine wpQuiet_nil ?_;intro _ hw';obtain⟨⟨nq,osq⟩,hw''⟩:=hw';subst hw'';go_wp2
  go_ret;exact⟨by rw[R.o];rfl,ab (ae _ _) (zv _ _ _)⟩
 have e3:(s.ph == 1)=false:=by simp[p1]
 by_cases p4:s.ph=4
 ·have e4:(s.ph == 4)=true:=by simp[p4]
  by_cases h3:s.a=s.c
  ·have e5:(s.a == s.c)=true:=by simp[h3]
   have R:Ll (cC s=false):=aa (by simp[cC,h1,h2,p4,h3]);clear h1 h2 p1 p4 h3;go_enter func58,ntmps58;obtain⟨c0,c1,c2,c3,c4,c5,-⟩:=de.c (w:=(w.alloc (.cells (Li s) 35))) (s:=s) (MN w _);have s0:=dx c0;have s1:=dx c1;have s2:=dx c2;have s3:=dx c3;have s4:=dx c4;have s5:=dx c5;clear c0 c1 c2 c3 c4 c5;have hmix:prog.follows .mixedOrders=true:=by kernel_rfl
   go_wp2
   refine wp_region_quiet_grown (by assumption) (by kernel_rfl) ?_;repeat(first | go_big_quiet_step ((fail)) | quiet_step ((fail)))
   refine wpQuiet_nil ?_;intro _ hw';obtain⟨⟨nq,osq⟩,hw''⟩:=hw';subst hw'';go_wp2
   go_ret;exact⟨by rw[R.o];rfl,ab (ae _ _) (zv _ _ _)⟩
  ·have e5:(s.a == s.c)=false:=by simp[h3]
   have R:Ll (cC s=sq s (bw s.a s.c)):=aa (by
    rw[Bool.eq_iff_iff,rR];constructor
    ·intro h;simp[cC,h1,h2,p4]at h;obtain⟨a,c,p,q,r,u⟩:=s;simp at h p4;simp[bw, *]
    ·intro h;rw[h];exact xR h1 h2 h3)
   clear h1 h2 p1 p4 h3;go_enter func58,ntmps58;obtain⟨c0,c1,c2,c3,c4,c5,-⟩:=de.c (w:=(w.alloc (.cells (Li s) 35))) (s:=s) (MN w _);have s0:=dx c0;have s1:=dx c1;have s2:=dx c2;have s3:=dx c3;have s4:=dx c4;have s5:=dx c5;clear c0 c1 c2 c3 c4 c5;have hmix:prog.follows .mixedOrders=true:=by kernel_rfl
   go_wp2
   refine wp_region_quiet_grown (by assumption) (by kernel_rfl) ?_;repeat(first | go_big_quiet_step ((go_at_call 62;exact pF _ _ _ _ _)) | quiet_step ((go_at_call 62;exact pF _ _ _ _ _)))
   refine wpQuiet_nil ?_;intro _ hw';obtain⟨⟨nq,osq⟩,hw''⟩:=hw';subst hw'';go_wp2
   go_ret;exact⟨by rw[R.o];rfl,ab (ae _ _) (zv _ _ _)⟩
 have e4:(s.ph == 4)=false:=by simp[p4]
 by_cases p2:s.ph=2
 ·have e5:(s.ph == 2)=true:=by simp[p2]
  have R:Ll (cC s=(dy s&&decide (s.si=0))):=aa (by simp[cC,h1,h2,p2]);clear h1 h2 p1 p4 p2;cases hu:dy s with
  | true=>
   go_enter func58,ntmps58;go_wp2_with (go_at_call 81;refine Lk (iy _ s) fun w1 hb=>?_;rw[hu];obtain⟨c0,c1,c2,c3,c4,c5,-⟩:=de.c (de.bel (s:=s) (MN w _) hb))
   go_ret;exact⟨by rw[R.o,hu];simp[Bool.beq_eq_decide_eq],ab (ae _ _) hb⟩
  | false=>
   go_enter func58,ntmps58;go_wp2_with (go_at_call 81;refine Lk (iy _ s) fun w1 hb=>?_;rw[hu])
   go_ret;exact⟨by rw[R.o,hu];rfl,ab (ae _ _) hb⟩
 have e5:(s.ph == 2)=false:=by simp[p2]
 by_cases p3:s.ph=3
 ·have e6:(s.ph == 3)=true:=by simp[p3]
  have R:Ll (cC s=(dy s&&lp s.si)):=aa (by simp[cC,h1,h2,p3]);clear h1 h2 p1 p4 p2 p3;cases hu:dy s with
  | true=>
   go_enter func58,ntmps58;go_wp2_with (first | (go_at_call 59;refine LE (cN _ _) ?_) | (go_at_call 81;refine Lk (iy _ s) fun w1 hb=>?_;rw[hu];obtain⟨c0,c1,c2,c3,c4,c5,-⟩:=de.c (de.bel (s:=s) (MN w _) hb)))
   go_ret;exact⟨by rw[R.o,hu];rfl,ab (ae _ _) hb⟩
  | false=>
   go_enter func58,ntmps58;go_wp2_with (go_at_call 81;refine Lk (iy _ s) fun w1 hb=>?_;rw[hu])
   go_ret;exact⟨by rw[R.o,hu];rfl,ab (ae _ _) hb⟩
 ·have e6:(s.ph == 3)=false:=by simp[p3]
  have R:Ll (cC s=false):=aa (by simp[cC,h1,h2,p1,p2,p3,p4]);clear h1 h2 p1 p4 p2 p3;go_enter func58,ntmps58;go_wp2
  go_ret;exact⟨by rw[R.o];rfl,ae _ _⟩
end
def bk (w:LC) (l:List dN) (v:Value):Prop:=
 l.length<=9223372036854775807/\(l=[]/\(∃ a,v=.slice a 0 0)\/∃ b off c,v=.slice (some ⟨b,off,none⟩) l.length c/\l.length<=c/\c<=9223372036854775807 /\
  ∀ i x,l[i]?=some x->w.cell? ⟨b,off+i * 2,none⟩=some (.int .i64 x.w)/\w.cell? ⟨b,off+i * 2+1,none⟩=some (.int .i64 x.p))
theorem bk.bel{w w' l v}(h:bk w l v)(hb:La w w'):bk w' l v:=by
 refine⟨h.1,?_⟩;rcases h.2 with h | ⟨b,off,c,e,h1,h2,h3⟩
 ·exact .inl h
 ·exact .inr ⟨b,off,c,e,h1,h2,fun i x hx=>⟨ah hb (h3 i x hx).1,ah hb (h3 i x hx).2⟩⟩
theorem bk.form{w l v}(h:bk w l v):∃ a c,v=.slice a l.length c:=by
 rcases h.2 with⟨rfl,a,rfl⟩ | ⟨b,off,c,rfl,_⟩
 ·exact⟨a,0,rfl⟩
 ·exact⟨_,_,rfl⟩
theorem AG{w l a n c k}(h:bk w l (.slice a n c))(hk:k < l.length):∃ b off,a=some ⟨b,off,none⟩/\l.length<=c/\c<=9223372036854775807 /\
 w.cell? ⟨b,off+k * 2,none⟩=some (.int .i64 l[k].w)/\w.cell? ⟨b,off+k * 2+1,none⟩=some (.int .i64 l[k].p):=by
 rcases h.2 with⟨e,_⟩ | ⟨b,off,c',e,h1,h2,h3⟩
 ·rw[e]at hk;simp at hk
 ·simp only[Value.slice.injEq]at e;obtain⟨rfl,-,rfl⟩:=e;obtain⟨g1,g2⟩:=h3 k l[k] (Mw hk);exact⟨b,off,rfl,h1,h2,g1,g2⟩
theorem sV(w l v)(h:bk w l v):Calls prog 98 #[v,.func (.func 79) #[] #[]] w fun e w'=>(∃ r:Int,e=.returned (.int .i64 r)/\(decide (0<=r)=!l.all eW))/\La w w':=by
 obtain⟨a,c,rfl⟩:=h.form;have H:=aa h;have ll:=h.1;clear h;go_enter func98,ntmps98;go_wp2
 go_loopg [5,8] l.length (fun gk _ i wr=>∃ k:Nat,k<=l.length/\gk=l.length - k/\i=.int .i64 k/\Ll ((l.take k).all eW=true)/\Ll (La w wr))
 case atStart=>exact⟨0,Nat.zero_le _,rfl,rfl,rfl,MK _ _⟩
 case round=>
  obtain⟨k,hk,hgk,rfl,HA,BL⟩:=hrel;have GK:=aa hgk;clear hgk;by_cases hlt:k < l.length
  ·obtain⟨b,off,rfl,j1,j2,k1,k2⟩:=AG H.o hlt;have c1:=ah BL.o k1;have c2:=ah BL.o k2;have w2:(k:Int) < (l.length:Int):=by omega
   have T1:Ll ((l.take (k+1)).all eW=eW l[k]):=aa (by rw[List.take_add_one,Mw hlt,List.all_append,HA.o];simp);clear k1 k2;have CALL:Ll (∀ W:LC,Calls prog 79 #[.agg #[.int .i64 l[k].w,.int .i64 l[k].p]] W fun e w'=>e=.returned (.bool (!eW l[k]))/\La W w'):=fun W=>yW W l[k];cases hs:eW l[k] with
   | true=>
    go_wp2_with (go_at_call 79;refine Lk (CALL.o _) fun w1 hb=>?_;rw[hs])
    go_roundg (l.length - (k+1))
    case measure=>rw[GK.o];omega
    case rel=>exact⟨k+1,hlt,rfl,by go_num,aa (by rw[T1.o,hs]),aa (ab BL.o hb)⟩
   | false=>
    go_wp2_with (go_at_call 79;refine Lk (CALL.o _) fun w1 hb=>?_;rw[hs])
    go_ret;refine⟨⟨k,rfl,?_⟩,ab BL.o hb⟩;have:l.all eW=false:=by
     rw[List.all_eq_false];exact⟨l[k],List.getElem_mem _,by rw[hs];simp⟩
    rw[this];simp
  ·have d1:¬(k:Int) < (l.length:Int):=by omega
   have Mc:k=l.length:=by omega
   have R:Ll (l.all eW=true):=aa (by have:=HA.o;rwa [Mc,MD (MG _)]at this);clear Mc;go_wp2
   go_ret;exact⟨⟨-1,rfl,by rw[R.o];rfl⟩,BL.o⟩
theorem ou(w l v)(h:bk w l v):Calls prog 78 #[v,.func (.func 79) #[] #[]] w fun e w'=>e=.returned (.bool (!l.all eW))/\La w w':=by
 obtain⟨a,c,rfl⟩:=h.form;have H:=aa h;clear h;go_enter func78,ntmps78;go_wp2_with (go_at_call 98;refine(sV _ l _ H.o).mono ?_;rintro e w1 ⟨⟨r,rfl,hr⟩,hb⟩)
 go_ret;exact⟨by rw[<-hr];rfl,hb⟩
theorem bF(w g l v)(h:bk w l v)(hg:g.length<=9223372036854775807):Calls prog 57 #[.agg #[.string ⟨g.toArray⟩,v]] w fun e w'=>e=.returned (.bool (cM g l))/\La w w':=by
 obtain⟨a,c,rfl⟩:=h.form;have H:=aa h;have ll:=h.1;clear h;by_cases h1:g=[]
 ·have e1:g.isEmpty=true:=by simp[h1]
  have R:Ll (cM g l=false):=aa (by simp[cM,h1]);clear h1;go_enter func57,ntmps57;go_wp2
  go_ret;exact⟨by rw[R.o];rfl,ae _ _⟩
 have e1:g.isEmpty=false:=by simp[h1]
 by_cases h2:g.length<=60
 ·have e2:(g.length:Int)<=60:=by omega
  by_cases h3:l.length<=8
  ·have e3:(l.length:Int)<=8:=by omega
   have R:Ll (cM g l=l.all eW):=aa (by simp[cM,h1,h2,h3]);clear h1 h2 h3;go_enter func57,ntmps57;go_wp2_with (go_at_call 78;refine Lk (ou _ l _ (H.o.bel (ae _ _))) fun w1 hb=>?_)
   go_ret;exact⟨by rw[R.o];simp,ab (ae _ _) hb⟩
  ·have e3:¬(l.length:Int)<=8:=by omega
   have R:Ll (cM g l=false):=aa (by simp[cM,h3]);clear h1 h2 h3;go_enter func57,ntmps57;go_wp2
   go_ret;exact⟨by rw[R.o];rfl,ae _ _⟩
 ·have e2:¬(g.length:Int)<=60:=by omega
  have R:Ll (cM g l=false):=aa (by simp[cM,h2]);clear h1 h2;go_enter func57,ntmps57;go_wp2
  go_ret;exact⟨by rw[R.o];rfl,ae _ _⟩
def fV (g:Lz) (l:List dN):dI × Int:=if cM g l=true then (aF g,0) else (⟨[],[],0,0,0,0⟩,1)
def fM (w:LC) (g:Nat) (i:Lz) (v:Value):Prop:=w.heap[g]?=some (.cells #[.string ⟨i.toArray⟩,v] 85)
theorem fM.c{w g i v}(h:fM w g i v):w.cell? ⟨g,0,none⟩=some (.string ⟨i.toArray⟩)/\w.cell? ⟨g,1,none⟩=some v:=by
 unfold fM at h;refine⟨?_,?_⟩ <;> simp[World.cell?,h]
theorem fM.bel{w w' g i v}(h:fM w g i v)(hb:La w w'):fM w' g i v:=(hb.block g (MF.1 h).1).trans h
def fR (w:LC) (g:Nat) (s:dI):LC:=
 (((((w.setCell ⟨g,0,none⟩ (.string ⟨s.a.toArray⟩)).setCell ⟨g,1,none⟩ (.string ⟨s.c.toArray⟩)).setCell ⟨g,2,none⟩ (.int .i64 s.ph)).setCell ⟨g,3,none⟩ (.int .i64 s.st)).setCell ⟨g,4,none⟩ (.int .i64 s.we)).setCell ⟨g,5,none⟩ (.int .i64 s.si)
theorem de.set{w g s}(h:de w g s)(t):de (fR w g t) g t:=
 ak (ak (ak (ak (ak (ak h 0 _) 1 _) 2 _) 3 _) 4 _) 5 _
theorem aQ{a w g}(h:La a w)(hg:a.heap.size<=g)(i v):La a (w.setCell ⟨g,i,none⟩ v):=by
 have k:=ap (az w (some g)) i v;exact⟨k.os.trans h.os,k.tape.trans h.tape,k.output.trans h.output,MH h.size k.size,fun j hj=>(k.block j (MI hj h.size) (fun e=>by cases e;omega)).trans (h.block j hj)⟩
theorem bX{a w g}(h:La a w)(hg:a.heap.size<=g)(s):La a (fR w g s):=
 aQ (aQ (aQ (aQ (aQ (aQ h hg _ _) hg _ _) hg _ _) hg _ _) hg _ _) hg _ _
def iA:dI:=⟨[],[],0,0,0,0⟩
theorem ja(w:LC)(g:Lz):Calls prog 60 #[.string ⟨g.toArray⟩] w fun e w'=>e=.returned (.agg #[.string ⟨g.toArray⟩,.string ⟨g.toArray⟩,.int .i64 1,.int .i64 0,.int .i64 100,.int .i64 0])/\La w w':=
 (qE w g).mono fun e w' h=>⟨h.1,by rw[h.2];exact ae _ _⟩
theorem tb(w:LC)(a c:Lz):Calls prog 61 #[.string ⟨a.toArray⟩,.string ⟨c.toArray⟩] w fun e w'=>e=.returned (.agg #[.string ⟨a.toArray⟩,.string ⟨c.toArray⟩,.int .i64 2,.int .i64 0,.int .i64 0,.int .i64 0])/\La w w':=
 (Fk w a c).mono fun e w' h=>⟨h.1,by rw[h.2];exact ae _ _⟩
theorem sw(w:LC)(a c:Lz):Calls prog 62 #[.string ⟨a.toArray⟩,.string ⟨c.toArray⟩] w fun e w'=>e=.returned (.agg #[.string ⟨a.toArray⟩,.string ⟨c.toArray⟩,.int .i64 4,.int .i64 0,.int .i64 0,.int .i64 0])/\La w w':=
 (qi w a c).mono fun e w' h=>⟨h.1,by rw[h.2];exact ae _ _⟩
theorem DZ(w g l v)(h:bk w l v)(hg:g.length<=9223372036854775807):Calls prog 67 #[.agg #[.string ⟨g.toArray⟩,v]] w fun e w'=>e=.returned (.tuple #[bc (fV g l).1,.int .i64 (fV g l).2])/\La w w':=by
 obtain⟨a,c,rfl⟩:=h.form;have H:=aa h;have G:=aa hg;clear h hg;cases hs:cM g l with
 | true=>
  rw[show fV g l=(aF g,0) by rw[fV,if_pos hs]];go_enter func67,ntmps67;go_wp2_with (first
   |(go_at_call 60;refine Lk (ja _ g) fun w2 hb2=>?_;have S2:=aa (S0.o.bel hb2);have HB2:=aa (ab HB.o hb2);have c0_:=S2.o.c;clear hb2)
   |(go_at_call 57;refine Lk (bF _ g l _ (H.o.bel (ab (ae _ _) (ae _ _))) G.o) fun w1 hb=>?_;rw[hs];obtain⟨p0,p1⟩:=fM.c (fM.bel (i:=g) (fb w _ _) hb);have S0:=aa (de.bel (s:=iA) (et w _ _) hb)
     have HB:Ll (La w w1):=ab (ab (ae _ _) (ae _ _)) hb;clear hb))
  have z0_:=(S2.o.set (aF g)).c;refine MM (v:=.tuple #[bc (aF g),.int .i64 0]) ?_ rfl ⟨rfl,bX HB2.o (by omega) (aF g)⟩;simp only[fR,aF]at z0_;simp[results,results67,go_sem,z0_,bc,aF]
 | false=>
  rw[show fV g l=(iA,1) by rw[fV,if_neg (by simp[hs])];rfl];go_enter func67,ntmps67;go_wp2_with (go_at_call 57;refine Lk (bF _ g l _ (H.o.bel (ab (ae _ _) (ae _ _))) G.o) fun w1 hb=>?_;rw[hs];have S0:=aa (de.bel (s:=iA) (et w _ _) hb);have HB:Ll (La w w1):=ab (ab (ae _ _) (ae _ _)) hb;have c0_:=S0.o.c;clear hb)
  have z0_:=(S0.o.set iA).c;refine MM (v:=.tuple #[bc iA,.int .i64 1]) ?_ rfl ⟨rfl,bX HB.o (by omega) iA⟩;simp only[fR,iA]at z0_;simp[results,results67,go_sem,z0_,bc,iA]
variable {wr:World}
variable {g k i:Nat}
theorem de.ph{s}(h:de w g s)(n):de (w.setCell ⟨g,2,none⟩ (.int .i64 n)) g ⟨s.a,s.c,n,s.st,s.we,s.si⟩:=ak h 2 _
theorem de.st{s}(h:de w g s)(n):de (w.setCell ⟨g,3,none⟩ (.int .i64 n)) g ⟨s.a,s.c,s.ph,n,s.we,s.si⟩:=ak h 3 _
theorem de.we{s}(h:de w g s)(n):de (w.setCell ⟨g,4,none⟩ (.int .i64 n)) g ⟨s.a,s.c,s.ph,s.st,n,s.si⟩:=ak h 4 _
theorem de.si{s}(h:de w g s)(n):de (w.setCell ⟨g,5,none⟩ (.int .i64 n)) g ⟨s.a,s.c,s.ph,s.st,s.we,n⟩:=ak h 5 _
theorem de.far{s}(h:de w g s)(hk:g≠k):de (w.setCell ⟨k,i,none⟩ v) g s:=
 (Below.heap_setCell w ⟨k,i,none⟩ v g hk).trans h
theorem de.lt{s}(h:de w g s):g < w.heap.size:=(MF.1 h).1
def nI (w wr:LC) (l:List dN) (now:Int) (re:Bool) (s t:dI):Prop:=
 de wr w.heap.size t/\de wr (w.heap.size+1) iA/\La w wr/\0<=t.st/\0<=t.si/\t.si<=1099511627776/\gJ now re (l.drop t.st.toNat) t=gJ now re (l.drop s.st.toNat) s
theorem jT{l:List dN}{x:dN}(h:l[k]?=some x):l.drop k=x :: l.drop (k+1):=by
 obtain⟨hk,e⟩:=Mz.1 h;rw[ME hk,e]
theorem nI.on{l now re s t x}(R:nI w wr l now re s t)(hx:l[t.st.toNat]?=some x)(hw:x.w=-1)(hp:t.ph=3)(hr:¬(re=false/\(x.p=0\/now - t.si < x.p)))(o:Obj):nI w ((((wr.alloc o).setCell ⟨w.heap.size,2,none⟩ (.int .i64 2)).setCell ⟨w.heap.size,5,none⟩ (.int .i64 0)).setCell ⟨w.heap.size,3,none⟩ (.int .i64 (t.st+1))) l now re s (rg t):=by
 obtain⟨h1,h2,h3,h4,h5,h6,h7⟩:=R;refine⟨(((h1.bel (ae _ o)).ph 2).si 0).st (t.st+1),(((h2.bel (ae _ o)).far (by omega)).far (by omega)).far (by omega),aQ (aQ (aQ (ab h3 (ae _ o)) (MG _) _ _) (MG _) _ _) (MG _) _ _,by simp[rg];omega,by simp[rg],by simp[rg],?_⟩;rw[<-h7,jT hx,gJ,if_neg (by simp[hw]),if_neg (by simp[hp]),if_neg hr];congr 2
 simp only[rg];omega
theorem nI.to{l now re s t x}(R:nI w wr l now re s t)(hx:l[t.st.toNat]?=some x)(hw:x.w≠-1)(o:Obj):nI w (((((wr.alloc o).setCell ⟨w.heap.size,4,none⟩ (.int .i64 x.w)).setCell ⟨w.heap.size,2,none⟩ (.int .i64 2)).setCell ⟨w.heap.size,5,none⟩ (.int .i64 0)).setCell ⟨w.heap.size,3,none⟩ (.int .i64 (t.st+1))) l now re s (rg (IJ t x.w)):=by
 obtain⟨h1,h2,h3,h4,h5,h6,h7⟩:=R;refine⟨((((h1.bel (ae _ o)).we x.w).ph 2).si 0).st (t.st+1),((((h2.bel (ae _ o)).far (by omega)).far (by omega)).far (by omega)).far (by omega),aQ (aQ (aQ (aQ (ab h3 (ae _ o)) (MG _) _ _) (MG _) _ _) (MG _) _ _) (MG _) _ _,by simp[rg,IJ];omega,by simp[rg,IJ],by simp[rg,IJ],?_⟩;rw[<-h7,jT hx,gJ,if_pos hw];congr 2
 simp only[rg,IJ];omega
theorem Ag(w l v s now re)(h:bk w l v)(h0:0<=s.st)(h1:0<=s.si)(h2:s.si<=1099511627776)(h3:0<=now)(h4:now<=1099511627776):Calls prog 63 #[v,bc s,.int .i64 now,.bool re] w fun e w'=>e=.returned (bc (gJ now re (l.drop s.st.toNat) s))/\La w w':=by
 obtain⟨r0,hr0⟩:∃ r,gJ now re (l.drop s.st.toNat) s=r:=⟨_,rfl⟩
 rw[hr0];have HR:=aa hr0;clear hr0;have E0:Ll (bc s=.agg (Li s)):=aa rfl;rw[E0.o];clear E0;obtain⟨a,c,rfl⟩:=h.form;have H:=aa h;have ll:=h.1;have I0:Ll (∀ wr,de wr w.heap.size s->de wr (w.heap.size+1) iA->La w wr->nI w wr l now re s s):=fun wr k1 k2 k3=>⟨k1,k2,k3,h0,h1,h2,rfl⟩;clear h h0 h1 h2;go_enter func63,ntmps63;go_wp2
 go_loopg [9,20,27,35] (l.length - s.st.toNat) (fun gk _ _ _ _ wr=>∃ t:dI,Ll (gk=l.length - t.st.toNat)/\Ll (nI w wr l now re s t))
 case atStart=>exact⟨s,aa rfl,aa (I0.o _ (fb _ _ _) (et _ _ _) (ab (ae _ _) (ae _ _)))⟩
 case round=>
  obtain⟨t,GK,R⟩:=hrel;by_cases hlt:t.st < (l.length:Int)
  ·have hn0:0<=t.st:=R.o.2.2.2.1;have hk:t.st.toNat < l.length:=by omega
   obtain⟨b,off,rfl,j1,j2,k1,k2⟩:=AG H.o hk;have m1:=ah R.o.2.2.1 k1;have m2:=ah R.o.2.2.1 k2;clear k1 k2;obtain⟨x,hx⟩:∃ x,l[t.st.toNat]=x:=⟨_,rfl⟩
   have HX:Ll (l[t.st.toNat]?=some x):=aa (by rw[Mw hk,hx]);have HK:=aa hk;rw[hx]at m1 m2;clear hx hk;have c0_:=R.o.1.c;have c0'_:=(R.o.1.bel (ae wr (.cells #[.int .i64 x.w,.int .i64 x.p] 120))).c;by_cases hw:x.w=-1
   ·have e1:(x.w == -1)=true:=by simp[hw]
    have HW:=aa hw;clear hw;by_cases hp:t.ph=3
    ·have e2:(t.ph == 3)=true:=by simp[hp]
     have HP:=aa hp;clear hp;have hsi1:0<=t.si:=R.o.2.2.2.2.1;have hsi2:t.si<=1099511627776:=R.o.2.2.2.2.2.1;have S2:Ll (de (wr.alloc (.cells #[.int .i64 x.w,.int .i64 x.p] 120)) (w.heap.size+1) iA):=R.o.2.1.bel (ae _ _);have f0_:=S2.o.c;have e4:t.st+1<=9223372036854775807:=by omega
     have HBW:Ll (La w (wr.alloc (.cells #[.int .i64 x.w,.int .i64 x.p] 120))):=ab R.o.2.2.1 (ae _ _);cases hre:re with
     | true=>
      subst hre;have HN:=aa (R.o.on HX.o HW.o HP.o (by simp) (.cells #[.int .i64 x.w,.int .i64 x.p] 120));go_wp2
      go_roundg (l.length - (t.st.toNat+1))
      case measure=>rw[GK.o];have:=HK.o;omega
      case rel=>exact⟨rg t,aa (by simp only[rg];omega),HN⟩
     | false=>
      subst hre;by_cases p0:x.p=0
      ·have e5:(x.p == 0)=true:=by simp[p0]
       have FIN:Ll (r0=t):=aa (by rw[<-HR.o,<-R.o.2.2.2.2.2.2,jT HX.o,gJ,if_neg (by simp[HW.o]),if_neg (by simp[HP.o]),if_pos ⟨rfl,.inl p0⟩]);clear p0;go_wp2
       rw[FIN.o];have z0_:=(S2.o.set t).c;refine MM (v:=bc t) ?_ rfl ⟨rfl,bX HBW.o (by omega) t⟩;simp only[fR]at z0_;simp[results,results63,go_sem,z0_,bc]
      ·have e5:(x.p == 0)=false:=by simp[p0]
       by_cases p1:now - t.si < x.p
       ·have FIN:Ll (r0=t):=aa (by rw[<-HR.o,<-R.o.2.2.2.2.2.2,jT HX.o,gJ,if_neg (by simp[HW.o]),if_neg (by simp[HP.o]),if_pos ⟨rfl,.inr p1⟩]);clear p0;go_wp2
        rw[FIN.o];have z0_:=(S2.o.set t).c;refine MM (v:=bc t) ?_ rfl ⟨rfl,bX HBW.o (by omega) t⟩;simp only[fR]at z0_;simp[results,results63,go_sem,z0_,bc]
       ·have HN:=aa (R.o.on HX.o HW.o HP.o (by simp[p0];omega) (.cells #[.int .i64 x.w,.int .i64 x.p] 120));clear p0;go_wp2
        go_roundg (l.length - (t.st.toNat+1))
        case measure=>rw[GK.o];have:=HK.o;omega
        case rel=>exact⟨rg t,aa (by simp only[rg];omega),HN⟩
    ·have e2:(t.ph == 3)=false:=by simp[hp]
     have HP:=aa hp;clear hp;have S2:Ll (de (((wr.alloc (.cells #[.int .i64 x.w,.int .i64 x.p] 120)).setCell ⟨w.heap.size,2,none⟩ (.int .i64 3)).setCell ⟨w.heap.size,5,none⟩ (.int .i64 now)) (w.heap.size+1) iA):=((R.o.2.1.bel (ae _ _)).far (by omega)).far (by omega);have S3:Ll (de (((wr.alloc (.cells #[.int .i64 x.w,.int .i64 x.p] 120)).setCell ⟨w.heap.size,2,none⟩ (.int .i64 3)).setCell ⟨w.heap.size,5,none⟩ (.int .i64 now)) w.heap.size (lY t now)):=((R.o.1.bel (ae _ _)).ph 3).si now;have f0_:=S2.o.c;have i0_:=S3.o.c;simp only[lY]at i0_;have FIN:Ll (r0=lY t now):=aa (by rw[<-HR.o,<-R.o.2.2.2.2.2.2,jT HX.o,gJ,if_neg (by simp[HW.o]),if_pos HP.o]);have HBW:Ll (La w (((wr.alloc (.cells #[.int .i64 x.w,.int .i64 x.p] 120)).setCell ⟨w.heap.size,2,none⟩ (.int .i64 3)).setCell ⟨w.heap.size,5,none⟩ (.int .i64 now))):=aQ (aQ (ab R.o.2.2.1 (ae _ _)) (MG _) _ _) (MG _) _ _;go_wp2
     rw[FIN.o];have z0_:=(S2.o.set (lY t now)).c;refine MM (v:=bc (lY t now)) ?_ rfl ⟨rfl,bX HBW.o (by omega) (lY t now)⟩;simp only[fR,lY]at z0_;simp[results,results63,go_sem,z0_,bc,lY]
   ·have e1:(x.w == -1)=false:=by simp[hw]
    have HN:=aa (R.o.to HX.o hw (.cells #[.int .i64 x.w,.int .i64 x.p] 120));have e4:t.st+1<=9223372036854775807:=by omega
    clear hw;go_wp2
    go_roundg (l.length - (t.st.toNat+1))
    case measure=>rw[GK.o];have:=HK.o;omega
    case rel=>exact⟨rg (IJ t x.w),aa (by simp only[rg,IJ];omega),HN⟩
  ·have hn0:0<=t.st:=R.o.2.2.2.1;have FIN:Ll (r0=aF t.c):=aa (by rw[<-HR.o,<-R.o.2.2.2.2.2.2,List.drop_eq_nil_of_le (by omega)];rfl);have c0_:=R.o.1.c;go_wp2_with (go_at_call 60;refine Lk (ja _ t.c) fun w2 hb2=>?_;have S2:=aa (R.o.2.1.bel hb2);have HB2:=aa (ab R.o.2.2.1 hb2);have f0_:=S2.o.c;clear hb2)
   rw[FIN.o];have z0_:=(S2.o.set (aF t.c)).c;refine MM (v:=bc (aF t.c)) ?_ rfl ⟨rfl,bX HB2.o (by omega) (aF t.c)⟩;simp only[fR,aF]at z0_;simp[results,results63,go_sem,z0_,bc,aF]
section
open Go.ChangeShapes Go.WideShapes Go.ChangeAt Go.RowKit
def lS:List (String × DataW Unit):=[("math/bits.deBruijn32tab",Rows.laid_math_bits_deBruijn32tab),("math/bits.deBruijn64tab",Rows.laid_math_bits_deBruijn64tab),("internal/strconv.uint64pow10",Rows.laid_internal_strconv_uint64pow10),("unicode/utf8.acceptRanges",Rows.laid_unicode_utf8_acceptRanges),("strconv.ErrRange",Rows.laid_strconv_ErrRange),("strconv.ErrSyntax",Rows.laid_strconv_ErrSyntax),("stairwell/patch.words",Rows.laid_stairwell_patch_words),("unicode/utf8.first",Rows.laid_unicode_utf8_first)]
def C4:DataW Unit->Array Value
 | .agg l=>(l.map fun | .lit (.string s)=>Value.string ⟨s.toArray⟩ | _=>.string ⟨#[]⟩).toArray
 | _=>#[]
noncomputable def kr (os:Os):World:=
 let w0:=World.holding Tryz.prog os ⟨#[.cells #[Aw Rows.laid_strconv_ErrRange] 279,.cells #[Aw Rows.laid_strconv_ErrSyntax] 279],#[],[]⟩
 { w0 with heap:=nF (nF (nF (nF (nF (nF (nF (nF w0.heap 2 (pu Rows.laid_math_bits_deBruijn32tab)) 3 (pu Rows.laid_math_bits_deBruijn64tab)) 1 (pu Rows.laid_internal_strconv_uint64pow10))
  8 (sE Rows.laid_unicode_utf8_acceptRanges)) 6 #[.iface 277 (.pointer (some ⟨low,0,none⟩))]) 5 #[.iface 277 (.pointer (some ⟨low+1,0,none⟩))])
  4 (C4 Rows.laid_stairwell_patch_words)) 7 (sE Rows.laid_unicode_utf8_first) }
theorem Af(os:Os)(args:Array Value):laidMet Tryz.prog lS ((kr os).forCall (fun _ _=>0) ⟨#[],args,[]⟩).memory:=
 laidMet_of_run' 8 (by kernel_rfl) (by kernel_rfl)
end
end Go.Proofs.YtlhejphddjdgkaaGreatDoor
