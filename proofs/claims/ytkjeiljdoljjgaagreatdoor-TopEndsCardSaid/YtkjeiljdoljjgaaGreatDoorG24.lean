import Derived.Test.YtkjeiljdoljjgaaGreatDoorG23
set_option maxRecDepth 100000
set_option maxHeartbeats 40000000
set_option linter.unusedSimpArgs false
set_option linter.unusedVariables false
namespace Go.Proofs.YtkjeiljdoljjgaaGreatDoor
open Go.RowKit
open _root_.Go.Proofs.Tryz
variable {k:Nat}
theorem yC(w:LC)(ok ok')(x y:aL)(a b)(c d:Nat)(hx:ao w ok x.paths (.slice a x.paths.length c))(hy:ao w ok' y.paths (.slice b y.paths.length d)):Calls prog 85 #[.agg #[.string ⟨x.name.toArray⟩,.slice a x.paths.length c],.agg #[.string ⟨y.name.toArray⟩,.slice b y.paths.length d]] w fun e w'=>e=.returned (.bool (decide (x.name=y.name/\x.paths=y.paths)))/\La w w':=by
 obtain⟨W2,hW2⟩:∃ W,W=(w.alloc (.cells #[.string ⟨x.name.toArray⟩,.slice a x.paths.length c] 68)).alloc (.cells #[.string ⟨y.name.toArray⟩,.slice b y.paths.length d] 68):=⟨_,rfl⟩
 have Y2:Ll (La w W2):=aa (by rw[hW2];exact ab (ae _ _) (ae _ _));obtain⟨x0,x1⟩:W2.cell? ⟨w.heap.size,0,none⟩=some (.string ⟨x.name.toArray⟩)/\W2.cell? ⟨w.heap.size,1,none⟩=some (.slice a x.paths.length c):=by rw[hW2];exact rl (fb _ _ _)
 obtain⟨y0,y1⟩:W2.cell? ⟨w.heap.size+1,0,none⟩=some (.string ⟨y.name.toArray⟩)/\W2.cell? ⟨w.heap.size+1,1,none⟩=some (.slice b y.paths.length d):=by rw[hW2];exact rl (et _ _ _)
 have EQ:=aa (kM W2 ok ok' x.paths y.paths _ _ (hx.bel Y2.o) (hy.bel Y2.o));have HW2:=aa hW2;clear hW2 hx hy;by_cases hn:x.name=y.name
 ·have e9:(x.name == y.name)=true:=by simp[hn]
  have R:Ll (decide (x.name=y.name/\x.paths=y.paths)=decide (x.paths=y.paths)):=aa (by simp[hn]);obtain⟨o,ho⟩:∃ o,decide (x.paths=y.paths)=o:=⟨_,rfl⟩
  rw[ho]at EQ R;clear ho hn;go_enter func85,ntmps85;go_upto_region 1 with fail
  rw[<-HW2.o];go_wp2_with (go_at_call 49;refine EQ.o.mono ?_;rintro e w3 ⟨rfl,hb⟩;have B3:=aa hb;clear hb)
  go_ret;exact⟨by rw[R.o];first | done | rfl | simp,ab Y2.o B3.o⟩
 ·have e9:(x.name == y.name)=false:=by simpa using hn
  have R:Ll (decide (x.name=y.name/\x.paths=y.paths)=false):=aa (by simp[hn]);clear hn;go_enter func85,ntmps85;go_upto_region 1 with fail
  rw[<-HW2.o];go_wp2_with fail
  go_ret;exact⟨by rw[R.o];first | done | rfl | simp,Y2.o⟩
theorem Ex{x y:aL}:(x.name=y.name/\x.paths=y.paths)↔x=y:=by
 cases x;cases y;simp
theorem Ba{α:Type}{xs ys:List α}(h:xs.length=ys.length)(ht:xs.take xs.length=ys.take xs.length):xs=ys:=by
 rw[List.take_length,h,List.take_length]at ht;exact ht
theorem yT{xs ys:List aL}(h:xs.take k=ys.take k)(hx:k < xs.length)(hy:k < ys.length)(he:xs[k]=ys[k]):xs.take (k+1)=ys.take (k+1):=by
 rw[List.take_succ_eq_append_getElem hx,List.take_succ_eq_append_getElem hy,h,he]
open Classical in
theorem Cy(w ok ok' xs ys v u)(hx:aB w ok xs v)(hy:aB w ok' ys u):Calls prog 84 #[v,u,.func (.func 85) #[] #[]] w fun e w'=>e=.returned (.bool (decide (xs=ys)))/\La w w':=by
 obtain⟨xa,xc,rfl⟩:=hx.form;obtain⟨ya,yc,rfl⟩:=hy.form;have HX:=aa hx;have HY:=aa hy;have lx:=hx.1;have ly:=hy.1;unfold maxLen at lx ly;clear hx hy;by_cases hl:xs.length=ys.length
 rotate_left
 ·have e9:((xs.length:Int) == (ys.length:Int))=false:=by rw[MO];omega
  have e8:((xs.length:Int) != (ys.length:Int))=true:=by simp[bne,e9]
  have R:Ll (decide (xs=ys)=false):=decide_eq_false (fun h=>hl (by rw[h]));clear hl;go_enter func84,ntmps84;go_wp2_with fail
  go_ret;exact⟨by rw[R.o];first | done | rfl | simp,MK _ _⟩
 have e9:((xs.length:Int) == (ys.length:Int))=true:=by simp[hl]
 have e8:((xs.length:Int) != (ys.length:Int))=false:=by simp[hl]
 have HL:=aa hl;clear hl;go_enter func84,ntmps84;go_wp2_with fail
 go_loopg [17] xs.length (fun gk i wr=>∃ k:Nat,k<=xs.length/\gk=xs.length - k/\i=.int .i64 k/\Ll (xs.take k=ys.take k)/\Ll (La w wr))
 case atStart=>exact⟨0,Nat.zero_le _,rfl,rfl,aa (by simp),MK _ _⟩
 case round=>
  obtain⟨k,hk,hgk,rfl,TK,BL⟩:=hrel;have GK:=aa hgk;clear hgk;by_cases hlt:k < xs.length
  ·have hlt2:k < ys.length:=by rw[<-HL.o];exact hlt
   obtain⟨b1,o1,pa,pc,rfl,j1,j2,k1,k2,k3,-⟩:=HX.o.at hlt;obtain⟨b2,o2,qa,qc,rfl,i1,i2,l1,l2,l3,-⟩:=HY.o.at hlt2;have c1:=ah BL.o k1;have c2:=ah BL.o k2;have d1:=ah BL.o l1;have d2:=ah BL.o l2;have P3:=aa (k3.bel BL.o);have Q3:=aa (l3.bel BL.o);clear k1 k2 k3 l1 l2 l3;have w2:(k:Int) < (xs.length:Int):=by omega
   have w3:(0:Int)<=(k:Int):=by omega
   have w4:(k:Int) < (ys.length:Int):=by omega
   have STEP:Ll (xs[k]=ys[k]->xs.take (k+1)=ys.take (k+1)):=fun h=>yT TK.o hlt hlt2 h;have STOP:Ll (xs[k]≠ys[k]->decide (xs=ys)=false):=fun h=>decide_eq_false (fun e=>h (by subst e;rfl));obtain⟨x,hxk⟩:∃ x,xs[k]=x:=⟨_,rfl⟩
   obtain⟨y,hyk⟩:∃ y,ys[k]=y:=⟨_,rfl⟩
   rw[hxk]at c1 c2 P3 STEP STOP;rw[hyk]at d1 d2 Q3 STEP STOP;clear hxk hyk;obtain⟨W5,hW5⟩:∃ W,W=wr.alloc (.cells #[.string ⟨x.name.toArray⟩,.slice pa x.paths.length pc] 68):=⟨_,rfl⟩
   have A5:Ll (La wr W5):=aa (by rw[hW5];exact ae _ _);have X5:Ll (W5.heap[wr.heap.size]?=some (.cells #[.string ⟨x.name.toArray⟩,.slice pa x.paths.length pc] 68)):=aa (by rw[hW5];exact MN _ _);have HW5:=aa hW5;clear hW5;go_upto_region 6 with fail
   rw[<-HW5.o];clear c1 c2;replace d1:=ah A5.o d1;replace d2:=ah A5.o d2;obtain⟨W6,hW6⟩:∃ W,W=W5.alloc (.cells #[.string ⟨y.name.toArray⟩,.slice qa y.paths.length qc] 68):=⟨_,rfl⟩
   have A6:Ll (La W5 W6):=aa (by rw[hW6];exact ae _ _);obtain⟨y0,y1⟩:W6.cell? ⟨W5.heap.size,0,none⟩=some (.string ⟨y.name.toArray⟩)/\W6.cell? ⟨W5.heap.size,1,none⟩=some (.slice qa y.paths.length qc):=by rw[hW6];exact rl (MN _ _)
   obtain⟨x0,x1⟩:=rl (bR A6.o X5.o);have HW6:=aa hW6;clear hW6;go_upto_region 7 with fail
   rw[<-HW6.o];clear d1 d2;have B6:=aa (ab A5.o A6.o);have SO:=yC W6 ok ok' x y pa qa pc qc (P3.o.bel B6.o) (Q3.o.bel B6.o);by_cases he:x=y
   ·rw[decide_eq_true (Ex.2 he)]at SO;have SAME:=aa SO;have TK9:=aa (STEP.o he);clear SO he;go_wp2_with (go_at_call 85;refine SAME.o.mono ?_;rintro e w7 ⟨rfl,hb⟩;have B7:=aa (ab (ab BL.o B6.o) hb);clear hb)
    go_roundg (xs.length - (k+1))
    case measure=>rw[GK.o];omega
    case rel=>exact⟨k+1,hlt,rfl,by go_num,TK9,B7⟩
   ·rw[decide_eq_false (fun h=>he (Ex.1 h))]at SO;have SAME:=aa SO;have R:=aa (STOP.o he);clear SO he;go_wp2_with (go_at_call 85;refine SAME.o.mono ?_;rintro e w7 ⟨rfl,hb⟩;have B7:=aa (ab (ab BL.o B6.o) hb);clear hb)
    go_ret;exact⟨by rw[R.o];first | done | rfl | simp,B7.o⟩
  ·have d9:¬(k:Int) < (xs.length:Int):=by omega
   have Mc:k=xs.length:=by omega
   have R:Ll (decide (xs=ys)=true):=decide_eq_true (Ba HL.o (by have:=TK.o;rw[Mc]at this;exact this));clear Mc;go_wp2_with fail
   go_ret;exact⟨by rw[R.o];first | done | rfl | simp,BL.o⟩
open Classical in
theorem rh(w ok ok' xs ys v u)(hx:aB w ok xs v)(hy:aB w ok' ys u):Calls prog 63 #[v,u] w fun e w'=>e=.returned (.bool (decide (xs=ys)))/\La w w':=by
 have C:=Cy w ok ok' xs ys v u hx hy;obtain⟨xa,xc,rfl⟩:=hx.form;obtain⟨ya,yc,rfl⟩:=hy.form;generalize decide (xs=ys)=o at C ⊢;clear hx hy;go_enter func63,ntmps63;go_wp2_with (go_at_call 84;refine C.mono ?_;rintro e w1 ⟨rfl,hb⟩)
 go_ret;exact⟨rfl,hb⟩
end Go.Proofs.YtkjeiljdoljjgaaGreatDoor
