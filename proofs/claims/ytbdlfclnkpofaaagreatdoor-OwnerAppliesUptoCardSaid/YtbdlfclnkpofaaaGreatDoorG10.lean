import Derived.Test.YtbdlfclnkpofaaaGreatDoorG7
set_option maxRecDepth 100000
set_option maxHeartbeats 40000000
set_option linter.unusedSimpArgs false
set_option linter.unusedVariables false
namespace Go.Proofs.YtbdlfclnkpofaaaGreatDoor
open Go.RowKit
open _root_.Go.Proofs.Tryz
section
attribute [local go_sem ↓] Go.wp_at_zero Go.wp_at_succ
theorem H8(d:Nat)(ih:U0 d)(w:LC)(ok:Nat->Prop)(t:V)(v:Value)(h:bu w ok (d+1) t v)(hk:t.kind=3):Calls prog 52 #[v] w fun e w'=>e=.returned (.bool (T7 t))/\La w w':=by
 have IH:=aa ih;obtain⟨a1,a2,c1,c2,rfl⟩:=h.shape;have VV:Ll (cS w ok (bu w ok d) t.l (.slice a2 t.l.length c2)/\ao w ok t.keys (.slice a1 t.keys.length c1)/\t.s.length<=9223372036854775807):=aa (by
  obtain⟨ks,ls,e,h1,h2,h3,h4,h5⟩:=h;simp only[Value.agg.injEq,Array.mk.injEq,List.cons.injEq,and_true]at e;obtain⟨-,-,-,rfl,rfl⟩:=e;exact⟨h5,h4,h3⟩)
 have ll:t.l.length<=9223372036854775807:=VV.o.1.1;have lk:t.keys.length<=9223372036854775807:=VV.o.2.1.1;have B1:=aa (ae w (.cells #[.int .i64 t.kind,.int .i64 t.n,.string ⟨t.s.toArray⟩,.slice a1 t.keys.length c1,.slice a2 t.l.length c2] 25));have HK:=aa hk;clear h ih hk;go_enter func52,ntmps52;go_upto_block 0 with fail
 go_cut [3] (fun b wc=>b=.bool (ce t)/\ag wc w.heap.size (.int .i64 t.kind) (.int .i64 t.n) (.string ⟨t.s.toArray⟩) (.slice a1 t.keys.length c1) (.slice a2 t.l.length c2)/\La w wc)
 case first=>
  have hk:=HK.o;have f0:(t.kind == 0)=false:=by simp[hk]
  have f1:(t.kind == 1)=false:=by simp[hk]
  have f2:(t.kind == 2)=false:=by simp[hk]
  have g3:(t.kind == 3)=true:=by simp[hk]
  by_cases hN:t.n=0
  ·have qN:(t.n == 0)=true:=by simp[hN]
   cases hp:eK t.s with
   | false=>
    have HP:=aa hp;have HR:Ll (ce t=false):=aa (by simp[ce,bh,hk,hN,hp]);clear hk hN hp;go_wp2_with fail
    refine Lk (m7 _ t.s VV.o.2.2) fun w4 hb4=>?_;rw[HP.o];have K4:Ll (ag w4 w.heap.size (.int .i64 t.kind) (.int .i64 t.n) (.string ⟨t.s.toArray⟩) (.slice a1 t.keys.length c1) (.slice a2 t.l.length c2)/\La w w4):=aa ⟨af hb4 (MN w _),ab B1.o hb4⟩;clear hb4;have y0_:=K4.o.1.c;go_wp2_with fail
    go_meet
    case rel=>exact⟨by rw[HR.o],K4.o⟩
   | true=>
    have HP:=aa hp;by_cases hK:t.keys.length=0
    ·have qK:((t.keys.length:Int) == 0)=true:=by simp[hK]
     by_cases hL:t.l.length=0
     ·have qL:((t.l.length:Int) == 0)=true:=by simp[hL]
      have HR:Ll (ce t=true):=aa (by simp[ce,bh,hk,hN,hp,hK,hL]);clear hk hN hp hK hL;go_wp2_with fail
      refine Lk (m7 _ t.s VV.o.2.2) fun w4 hb4=>?_;rw[HP.o];have K4:Ll (ag w4 w.heap.size (.int .i64 t.kind) (.int .i64 t.n) (.string ⟨t.s.toArray⟩) (.slice a1 t.keys.length c1) (.slice a2 t.l.length c2)/\La w w4):=aa ⟨af hb4 (MN w _),ab B1.o hb4⟩;clear hb4;have y0_:=K4.o.1.c;go_wp2_with fail
      go_meet
      case rel=>exact⟨by rw[HR.o],K4.o⟩
     ·have qL:((t.l.length:Int) == 0)=false:=by rw[MO];omega
      have HR:Ll (ce t=false):=aa (by simp[ce,bh,hk,hN,hp,hK,hL]);clear hk hN hp hK hL;go_wp2_with fail
      refine Lk (m7 _ t.s VV.o.2.2) fun w4 hb4=>?_;rw[HP.o];have K4:Ll (ag w4 w.heap.size (.int .i64 t.kind) (.int .i64 t.n) (.string ⟨t.s.toArray⟩) (.slice a1 t.keys.length c1) (.slice a2 t.l.length c2)/\La w w4):=aa ⟨af hb4 (MN w _),ab B1.o hb4⟩;clear hb4;have y0_:=K4.o.1.c;go_wp2_with fail
      go_meet
      case rel=>exact⟨by rw[HR.o],K4.o⟩
    ·have qK:((t.keys.length:Int) == 0)=false:=by rw[MO];omega
     have HR:Ll (ce t=false):=aa (by simp[ce,bh,hk,hN,hp,hK]);clear hk hN hp hK;go_wp2_with fail
     refine Lk (m7 _ t.s VV.o.2.2) fun w4 hb4=>?_;rw[HP.o];have K4:Ll (ag w4 w.heap.size (.int .i64 t.kind) (.int .i64 t.n) (.string ⟨t.s.toArray⟩) (.slice a1 t.keys.length c1) (.slice a2 t.l.length c2)/\La w w4):=aa ⟨af hb4 (MN w _),ab B1.o hb4⟩;clear hb4;have y0_:=K4.o.1.c;go_wp2_with fail
     go_meet
     case rel=>exact⟨by rw[HR.o],K4.o⟩
  ·have qN:(t.n == 0)=false:=by simp[hN]
   have HR:Ll (ce t=false):=aa (by simp[ce,bh,hk,hN]);clear hk hN;go_wp2_with fail
   go_meet
   case rel=>exact⟨by rw[HR.o],⟨MN w _,B1.o⟩⟩
 case rest=>
  obtain⟨rfl,hc⟩:=hcut;have C0:=aa hc;have HSP:=aa (im t);have y0_:=hc.1.c;obtain⟨o0,ho0⟩:∃ o,ce t=o:=⟨_,rfl⟩
  rw[ho0];have O0:=aa ho0;clear hc ho0;go_wp2_with fail
  go_loopg [3,179] t.l.length (fun gk b i wr=>∃ (k:Nat),k<=t.l.length/\gk=t.l.length - k/\i=.int .i64 k/\b=.bool (o0&&bq (t.l.take k))/\La w wr)
  case atStart=>exact⟨0,Nat.zero_le _,rfl,rfl,by simp[bq],C0.o.2⟩
  case round=>
   obtain⟨k,hk,hgk,rfl,rfl,hb⟩:=hrel;have GK:=aa hgk;have HB:=aa hb;clear hgk hb;by_cases hlt:k < t.l.length
   ·obtain⟨b,off,rfl,z1,z2,a5,c5,a6,c6,p0,p1,p2,p3,p4,p5⟩:=fz VV.o.1 hlt;unfold maxLen at z2;replace p0:=ah HB.o p0;replace p1:=ah HB.o p1;replace p2:=ah HB.o p2;replace p3:=ah HB.o p3;replace p4:=ah HB.o p4;have P5:=aa (p5.bel HB.o);have w1:(0:Int)<=(k:Int):=by omega
    have w2:(k:Int) < (t.l.length:Int):=by omega
    have e1:Ll (bq (t.l.take (k+1))=(bq (t.l.take k)&&T7 t.l[k])):=aa (by rw[b8 hlt,fe]);clear p5;cases hoo:(o0&&bq (t.l.take k)) with
    | false=>
     have HN:Ll ((o0&&bq (t.l.take (k+1)))=false):=aa (by rw[e1.o,<-Bool.and_assoc,hoo];rfl);clear hoo;go_wp2_with fail
     go_roundg (t.l.length - (k+1))
     case measure=>rw[GK.o];omega
     case rel=>exact⟨k+1,hlt,rfl,by go_num,by rw[HN.o],ab HB.o (ae _ _)⟩
    | true=>
     have HN:Ll ((o0&&bq (t.l.take (k+1)))=T7 t.l[k]):=aa (by rw[e1.o,<-Bool.and_assoc,hoo];rfl);clear hoo;go_wp2_with fail
     refine Lk (IH.o _ ok t.l[k] _ (by exact P5.o.bel (ae _ _))) fun w4 hb4=>?_;have HB4:=aa (ab HB.o (ab (ae _ _) hb4));clear hb4 p0 p1 p2 p3 p4;go_wp2_with fail
     go_roundg (t.l.length - (k+1))
     case measure=>rw[GK.o];omega
     case rel=>exact⟨k+1,hlt,rfl,by go_num,by rw[HN.o],HB4.o⟩
   ·have l1:t.l.take k=t.l:=MD (by omega);have d1:¬(k:Int) < (t.l.length:Int):=by omega
    rw[l1];have HF:Ll (T7 t=(o0&&bq t.l)):=aa (by rw[HSP.o,O0.o]);clear l1;go_wp2_with fail
    go_ret;exact⟨by rw[HF.o];rfl,HB.o⟩
theorem LD(d:Nat)(ih:U0 d)(w:LC)(ok:Nat->Prop)(t:V)(v:Value)(h:bu w ok (d+1) t v)(hk:t.kind=4):Calls prog 52 #[v] w fun e w'=>e=.returned (.bool (T7 t))/\La w w':=by
 have IH:=aa ih;obtain⟨a1,a2,c1,c2,rfl⟩:=h.shape;have VV:Ll (cS w ok (bu w ok d) t.l (.slice a2 t.l.length c2)/\ao w ok t.keys (.slice a1 t.keys.length c1)/\t.s.length<=9223372036854775807):=aa (by
  obtain⟨ks,ls,e,h1,h2,h3,h4,h5⟩:=h;simp only[Value.agg.injEq,Array.mk.injEq,List.cons.injEq,and_true]at e;obtain⟨-,-,-,rfl,rfl⟩:=e;exact⟨h5,h4,h3⟩)
 have ll:t.l.length<=9223372036854775807:=VV.o.1.1;have lk:t.keys.length<=9223372036854775807:=VV.o.2.1.1;have B1:=aa (ae w (.cells #[.int .i64 t.kind,.int .i64 t.n,.string ⟨t.s.toArray⟩,.slice a1 t.keys.length c1,.slice a2 t.l.length c2] 25));have HK:=aa hk;clear h ih hk;go_enter func52,ntmps52;go_upto_block 0 with fail
 go_cut [3] (fun b wc=>b=.bool (ce t)/\ag wc w.heap.size (.int .i64 t.kind) (.int .i64 t.n) (.string ⟨t.s.toArray⟩) (.slice a1 t.keys.length c1) (.slice a2 t.l.length c2)/\La w wc)
 case first=>
  have hk:=HK.o;have f0:(t.kind == 0)=false:=by simp[hk]
  have f1:(t.kind == 1)=false:=by simp[hk]
  have f2:(t.kind == 2)=false:=by simp[hk]
  have f3:(t.kind == 3)=false:=by simp[hk]
  have g4:(t.kind == 4)=true:=by simp[hk]
  by_cases hN:t.n=0
  ·have qN:(t.n == 0)=true:=by simp[hN]
   by_cases hS:t.s=[]
   ·have qS:(t.s == [])=true:=by simp[hS]
    by_cases hK:t.keys.length=0
    ·have qK:((t.keys.length:Int) == 0)=true:=by simp[hK]
     have HR:Ll (ce t=true):=aa (by simp[ce,bh,hk,hN,hS,hK]);clear hk hN hS hK;go_wp2_with fail
     go_meet
     case rel=>exact⟨by rw[HR.o],⟨MN w _,B1.o⟩⟩
    ·have qK:((t.keys.length:Int) == 0)=false:=by rw[MO];omega
     have HR:Ll (ce t=false):=aa (by simp[ce,bh,hk,hN,hS,hK]);clear hk hN hS hK;go_wp2_with fail
     go_meet
     case rel=>exact⟨by rw[HR.o],⟨MN w _,B1.o⟩⟩
   ·have qS:(t.s == [])=false:=by simp[hS]
    have HR:Ll (ce t=false):=aa (by simp[ce,bh,hk,hN,hS]);clear hk hN hS;go_wp2_with fail
    go_meet
    case rel=>exact⟨by rw[HR.o],⟨MN w _,B1.o⟩⟩
  ·have qN:(t.n == 0)=false:=by simp[hN]
   have HR:Ll (ce t=false):=aa (by simp[ce,bh,hk,hN]);clear hk hN;go_wp2_with fail
   go_meet
   case rel=>exact⟨by rw[HR.o],⟨MN w _,B1.o⟩⟩
 case rest=>
  obtain⟨rfl,hc⟩:=hcut;have C0:=aa hc;have HSP:=aa (im t);have y0_:=hc.1.c;obtain⟨o0,ho0⟩:∃ o,ce t=o:=⟨_,rfl⟩
  rw[ho0];have O0:=aa ho0;clear hc ho0;go_wp2_with fail
  go_loopg [3,179] t.l.length (fun gk b i wr=>∃ (k:Nat),k<=t.l.length/\gk=t.l.length - k/\i=.int .i64 k/\b=.bool (o0&&bq (t.l.take k))/\La w wr)
  case atStart=>exact⟨0,Nat.zero_le _,rfl,rfl,by simp[bq],C0.o.2⟩
  case round=>
   obtain⟨k,hk,hgk,rfl,rfl,hb⟩:=hrel;have GK:=aa hgk;have HB:=aa hb;clear hgk hb;by_cases hlt:k < t.l.length
   ·obtain⟨b,off,rfl,z1,z2,a5,c5,a6,c6,p0,p1,p2,p3,p4,p5⟩:=fz VV.o.1 hlt;unfold maxLen at z2;replace p0:=ah HB.o p0;replace p1:=ah HB.o p1;replace p2:=ah HB.o p2;replace p3:=ah HB.o p3;replace p4:=ah HB.o p4;have P5:=aa (p5.bel HB.o);have w1:(0:Int)<=(k:Int):=by omega
    have w2:(k:Int) < (t.l.length:Int):=by omega
    have e1:Ll (bq (t.l.take (k+1))=(bq (t.l.take k)&&T7 t.l[k])):=aa (by rw[b8 hlt,fe]);clear p5;cases hoo:(o0&&bq (t.l.take k)) with
    | false=>
     have HN:Ll ((o0&&bq (t.l.take (k+1)))=false):=aa (by rw[e1.o,<-Bool.and_assoc,hoo];rfl);clear hoo;go_wp2_with fail
     go_roundg (t.l.length - (k+1))
     case measure=>rw[GK.o];omega
     case rel=>exact⟨k+1,hlt,rfl,by go_num,by rw[HN.o],ab HB.o (ae _ _)⟩
    | true=>
     have HN:Ll ((o0&&bq (t.l.take (k+1)))=T7 t.l[k]):=aa (by rw[e1.o,<-Bool.and_assoc,hoo];rfl);clear hoo;go_wp2_with fail
     refine Lk (IH.o _ ok t.l[k] _ (by exact P5.o.bel (ae _ _))) fun w4 hb4=>?_;have HB4:=aa (ab HB.o (ab (ae _ _) hb4));clear hb4 p0 p1 p2 p3 p4;go_wp2_with fail
     go_roundg (t.l.length - (k+1))
     case measure=>rw[GK.o];omega
     case rel=>exact⟨k+1,hlt,rfl,by go_num,by rw[HN.o],HB4.o⟩
   ·have l1:t.l.take k=t.l:=MD (by omega);have d1:¬(k:Int) < (t.l.length:Int):=by omega
    rw[l1];have HF:Ll (T7 t=(o0&&bq t.l)):=aa (by rw[HSP.o,O0.o]);clear l1;go_wp2_with fail
    go_ret;exact⟨by rw[HF.o];rfl,HB.o⟩
theorem H3(d:Nat)(ih:U0 d)(w:LC)(ok:Nat->Prop)(t:V)(v:Value)(h:bu w ok (d+1) t v)(hk:t.kind≠0/\t.kind≠1/\t.kind≠2/\t.kind≠3/\t.kind≠4/\t.kind≠5):Calls prog 52 #[v] w fun e w'=>e=.returned (.bool (T7 t))/\La w w':=by
 have IH:=aa ih;obtain⟨a1,a2,c1,c2,rfl⟩:=h.shape;have VV:Ll (cS w ok (bu w ok d) t.l (.slice a2 t.l.length c2)/\ao w ok t.keys (.slice a1 t.keys.length c1)/\t.s.length<=9223372036854775807):=aa (by
  obtain⟨ks,ls,e,h1,h2,h3,h4,h5⟩:=h;simp only[Value.agg.injEq,Array.mk.injEq,List.cons.injEq,and_true]at e;obtain⟨-,-,-,rfl,rfl⟩:=e;exact⟨h5,h4,h3⟩)
 have ll:t.l.length<=9223372036854775807:=VV.o.1.1;have lk:t.keys.length<=9223372036854775807:=VV.o.2.1.1;have B1:=aa (ae w (.cells #[.int .i64 t.kind,.int .i64 t.n,.string ⟨t.s.toArray⟩,.slice a1 t.keys.length c1,.slice a2 t.l.length c2] 25));have HK:=aa hk;clear h ih hk;go_enter func52,ntmps52;go_upto_block 0 with fail
 go_cut [3] (fun b wc=>b=.bool (ce t)/\ag wc w.heap.size (.int .i64 t.kind) (.int .i64 t.n) (.string ⟨t.s.toArray⟩) (.slice a1 t.keys.length c1) (.slice a2 t.l.length c2)/\La w wc)
 case first=>
  have hk:=HK.o;obtain⟨n0,n1,n2,n3,n4,n5⟩:=hk;have f0:(t.kind == 0)=false:=by rw[MO];exact n0
  have f1:(t.kind == 1)=false:=by rw[MO];exact n1
  have f2:(t.kind == 2)=false:=by rw[MO];exact n2
  have f3:(t.kind == 3)=false:=by rw[MO];exact n3
  have f4:(t.kind == 4)=false:=by rw[MO];exact n4
  have f5:(t.kind == 5)=false:=by rw[MO];exact n5
  have HR:Ll (ce t=false):=aa (by simp[ce,n0,n1,n2,n3,n4,n5]);clear n0 n1 n2 n3 n4 n5;go_wp2_with fail
  go_meet
  case rel=>exact⟨by rw[HR.o],MN w _,B1.o⟩
 case rest=>
  obtain⟨rfl,hc⟩:=hcut;have C0:=aa hc;have HSP:=aa (im t);have y0_:=hc.1.c;obtain⟨o0,ho0⟩:∃ o,ce t=o:=⟨_,rfl⟩
  rw[ho0];have O0:=aa ho0;clear hc ho0;go_wp2_with fail
  go_loopg [3,179] t.l.length (fun gk b i wr=>∃ (k:Nat),k<=t.l.length/\gk=t.l.length - k/\i=.int .i64 k/\b=.bool (o0&&bq (t.l.take k))/\La w wr)
  case atStart=>exact⟨0,Nat.zero_le _,rfl,rfl,by simp[bq],C0.o.2⟩
  case round=>
   obtain⟨k,hk,hgk,rfl,rfl,hb⟩:=hrel;have GK:=aa hgk;have HB:=aa hb;clear hgk hb;by_cases hlt:k < t.l.length
   ·obtain⟨b,off,rfl,z1,z2,a5,c5,a6,c6,p0,p1,p2,p3,p4,p5⟩:=fz VV.o.1 hlt;unfold maxLen at z2;replace p0:=ah HB.o p0;replace p1:=ah HB.o p1;replace p2:=ah HB.o p2;replace p3:=ah HB.o p3;replace p4:=ah HB.o p4;have P5:=aa (p5.bel HB.o);have w1:(0:Int)<=(k:Int):=by omega
    have w2:(k:Int) < (t.l.length:Int):=by omega
    have e1:Ll (bq (t.l.take (k+1))=(bq (t.l.take k)&&T7 t.l[k])):=aa (by rw[b8 hlt,fe]);clear p5;cases hoo:(o0&&bq (t.l.take k)) with
    | false=>
     have HN:Ll ((o0&&bq (t.l.take (k+1)))=false):=aa (by rw[e1.o,<-Bool.and_assoc,hoo];rfl);clear hoo;go_wp2_with fail
     go_roundg (t.l.length - (k+1))
     case measure=>rw[GK.o];omega
     case rel=>exact⟨k+1,hlt,rfl,by go_num,by rw[HN.o],ab HB.o (ae _ _)⟩
    | true=>
     have HN:Ll ((o0&&bq (t.l.take (k+1)))=T7 t.l[k]):=aa (by rw[e1.o,<-Bool.and_assoc,hoo];rfl);clear hoo;go_wp2_with fail
     refine Lk (IH.o _ ok t.l[k] _ (by exact P5.o.bel (ae _ _))) fun w4 hb4=>?_;have HB4:=aa (ab HB.o (ab (ae _ _) hb4));clear hb4 p0 p1 p2 p3 p4;go_wp2_with fail
     go_roundg (t.l.length - (k+1))
     case measure=>rw[GK.o];omega
     case rel=>exact⟨k+1,hlt,rfl,by go_num,by rw[HN.o],HB4.o⟩
   ·have l1:t.l.take k=t.l:=MD (by omega);have d1:¬(k:Int) < (t.l.length:Int):=by omega
    rw[l1];have HF:Ll (T7 t=(o0&&bq t.l)):=aa (by rw[HSP.o,O0.o]);clear l1;go_wp2_with fail
    go_ret;exact⟨by rw[HF.o];rfl,HB.o⟩
end
section
attribute [local go_sem ↓] Go.wp_at_zero Go.wp_at_succ
theorem F3(d:Nat)(ih:U0 d)(w:LC)(ok:Nat->Prop)(t:V)(v:Value)(h:bu w ok (d+1) t v)(hk:t.kind=5):Calls prog 52 #[v] w fun e w'=>e=.returned (.bool (T7 t))/\La w w':=by
 have IH:=aa ih;obtain⟨a1,a2,c1,c2,rfl⟩:=h.shape;have VV:Ll (cS w ok (bu w ok d) t.l (.slice a2 t.l.length c2)/\ao w ok t.keys (.slice a1 t.keys.length c1)/\t.s.length<=9223372036854775807):=aa (by
  obtain⟨ks,ls,e,h1,h2,h3,h4,h5⟩:=h;simp only[Value.agg.injEq,Array.mk.injEq,List.cons.injEq,and_true]at e;obtain⟨-,-,-,rfl,rfl⟩:=e;exact⟨h5,h4,h3⟩)
 have ll:t.l.length<=9223372036854775807:=VV.o.1.1;have lk:t.keys.length<=9223372036854775807:=VV.o.2.1.1;have B1:=aa (ae w (.cells #[.int .i64 t.kind,.int .i64 t.n,.string ⟨t.s.toArray⟩,.slice a1 t.keys.length c1,.slice a2 t.l.length c2] 25));have HK:=aa hk;clear h ih hk;go_enter func52,ntmps52;go_upto_block 0 with fail
 go_cut [3] (fun b wc=>b=.bool (ce t)/\ag wc w.heap.size (.int .i64 t.kind) (.int .i64 t.n) (.string ⟨t.s.toArray⟩) (.slice a1 t.keys.length c1) (.slice a2 t.l.length c2)/\La w wc)
 case first=>
  have hk:=HK.o;have f0:(t.kind == 0)=false:=by simp[hk]
  have f1:(t.kind == 1)=false:=by simp[hk]
  have f2:(t.kind == 2)=false:=by simp[hk]
  have f3:(t.kind == 3)=false:=by simp[hk]
  have f4:(t.kind == 4)=false:=by simp[hk]
  have g5:(t.kind == 5)=true:=by simp[hk]
  obtain⟨o5,ho5⟩:∃ o,(decide (t.n=0)&&decide (t.s=[])&&decide (t.keys.length=t.l.length))=o:=⟨_,rfl⟩
  have S5:Ll (ce t=(o5&&el none t.keys)):=aa (by rw[D7 hk,ho5]);have O5:=aa ho5;clear hk ho5;go_upto_region 14 with fail
  go_cut [3] (fun b wc=>b=.bool o5/\ag wc w.heap.size (.int .i64 t.kind) (.int .i64 t.n) (.string ⟨t.s.toArray⟩) (.slice a1 t.keys.length c1) (.slice a2 t.l.length c2)/\La w wc)
  case first=>
   by_cases hN:t.n=0
   ·have qN:(t.n == 0)=true:=by simp[hN]
    by_cases hS:t.s=[]
    ·have qS:(t.s == [])=true:=by simp[hS]
     by_cases hM:t.keys.length=t.l.length
     ·have qM:((t.keys.length:Int) == (t.l.length:Int))=true:=by simp[hM]
      have HR:Ll (o5=true):=aa (by rw[<-O5.o];simp[hN,hS,hM]);clear hN hS hM;go_wp2_with fail
      go_meet
      case rel=>exact⟨by rw[HR.o],MN w _,B1.o⟩
     ·have qM:((t.keys.length:Int) == (t.l.length:Int))=false:=by rw[MO];omega
      have HR:Ll (o5=false):=aa (by rw[<-O5.o];simp[hN,hS,hM]);clear hN hS hM;go_wp2_with fail
      go_meet
      case rel=>exact⟨by rw[HR.o],MN w _,B1.o⟩
    ·have qS:(t.s == [])=false:=by simp[hS]
     have HR:Ll (o5=false):=aa (by rw[<-O5.o];simp[hN,hS]);clear hN hS;go_wp2_with fail
     go_meet
     case rel=>exact⟨by rw[HR.o],MN w _,B1.o⟩
   ·have qN:(t.n == 0)=false:=by simp[hN]
    have HR:Ll (o5=false):=aa (by rw[<-O5.o];simp[hN]);clear hN;go_wp2_with fail
    go_meet
    case rel=>exact⟨by rw[HR.o],MN w _,B1.o⟩
  case rest=>
   obtain⟨rfl,hc⟩:=hcut;have C0:=aa hc;have y0_:=hc.1.c;clear hc;go_wp2_with fail
   go_loopg [3,145] t.keys.length (fun gk b i wr=>∃ (k:Nat) (o:Bool),k<=t.keys.length/\gk=t.keys.length - k/\i=.int .i64 k/\b=.bool o/\Ll (ce t=(o&&el (bV t.keys k) (t.keys.drop k)))/\ag wr w.heap.size (.int .i64 t.kind) (.int .i64 t.n) (.string ⟨t.s.toArray⟩) (.slice a1 t.keys.length c1) (.slice a2 t.l.length c2)/\La w wr)
   case atStart=>exact⟨0,o5,Nat.zero_le _,rfl,rfl,rfl,aa S5.o,C0.o⟩
   case round=>
    obtain⟨k,o,hk,hgk,rfl,rfl,HS,hc⟩:=hrel;have GK:=aa hgk;have CC:=aa hc;have y0_:=hc.1.c;clear hgk hc;by_cases hlt:k < t.keys.length
    ·have w1:(0:Int)<=(k:Int):=by omega
     have w2:(k:Int) < (t.keys.length:Int):=by omega
     have ST:=aa (rq hlt);cases o with
     | false=>
      have HN:Ll (ce t=(false&&el (bV t.keys (k+1)) (t.keys.drop (k+1)))):=aa (by rw[HS.o];rfl);clear HS ST;go_wp2_with fail
      go_quiet (fail)
      all_goals
       go_wp2_with fail
       go_roundg (t.keys.length - (k+1))
       case measure=>rw[GK.o];omega
       case rel=>exact⟨k+1,false,hlt,rfl,by go_num,rfl,HN,by first | exact CC.o | exact⟨af (aC _ _) CC.o.1,ab CC.o.2 (aC _ _)⟩ | exact⟨af (show La wr wr.drew from (MK _ wr).drew) CC.o.1,ab CC.o.2 (show La wr wr.drew from (MK _ wr).drew)⟩⟩
     | true=>
      obtain⟨kb,ko,rfl,z1,z2,hc1⟩:=gQ VV.o.2.1 hlt;unfold maxLen at z2;have LV:=ah CC.o.2 hc1;have KLn:Ll (t.keys[k].length<=9223372036854775807):=aa (by
       rcases VV.o.2.1.2 with⟨e,_⟩ | ⟨b,off,c',e,h1,h2,Mb⟩
       ·rw[e]at hlt;simp at hlt
       ·exact(Mb k t.keys[k] (Mw hlt)).1)
      have CALL:Ll (∀ (o:Bool),eK t.keys[k]=o->∀ (n:Nat) (os:Array Obj),Calls prog 81 #[.string ⟨t.keys[k].toArray⟩] (Go.Sort.grow (wr.drewN n) os) fun e w''=>e=.returned (.bool o)/\∃ p:GrownBy,w''=Go.Sort.grow (wr.drewN p.n) p.os):=fun o ho n os=>Calls.grown_of ((Bm _ t.keys[k] KLn.o).mono fun e w4 h=>⟨by rw[<-ho];exact h.1,h.2⟩);have hmix:prog.follows .mixedOrders=true:=by kernel_rfl
      have s0:∀ n os,(Go.Sort.grow (wr.drewN n) os).cell? ⟨w.heap.size,3,none⟩=some (.slice (some ⟨kb,ko,none⟩) t.keys.length c1):=cell_grown CC.o.1.lt CC.o.1.c.2.2.2.1;have s1:∀ n os,(Go.Sort.grow (wr.drewN n) os).cell? ⟨kb,ko+k,none⟩=some (.string ⟨t.keys[k].toArray⟩):=cell_grown (World.block_lt_of_cell? wr _ LV) LV;clear hc1;cases hpl:eK t.keys[k] with
      | false=>
       have HPL:=aa hpl;have HN:Ll (ce t=(false&&el (bV t.keys (k+1)) (t.keys.drop (k+1)))):=aa (by rw[HS.o,ST.o,hpl];rfl);clear hpl HS ST;go_wp2_with fail
       refine wp_region_quiet_grown (by assumption) (by kernel_rfl) ?_;repeat(first | go_big_quiet_step ((go_at_call 81;exact CALL.o _ HPL.o _ _)) | quiet_step ((go_at_call 81;exact CALL.o _ HPL.o _ _)))
       refine wpQuiet_nil ?_;intro _ hw';obtain⟨⟨nq,osq⟩,hw''⟩:=hw';subst hw'';all_goals
        go_wp2_with fail
        go_roundg (t.keys.length - (k+1))
        case measure=>rw[GK.o];omega
        case rel=>exact⟨k+1,false,hlt,rfl,by go_num,rfl,HN,af (d8 _ _ _) CC.o.1,ab CC.o.2 (d8 _ _ _)⟩
      | true=>
       have HPL:=aa hpl;clear hpl;by_cases hk0:k=0
       ·have e9:((k:Int) == 0)=true:=by simp[hk0]
        have HN:Ll (ce t=(true&&el (bV t.keys (k+1)) (t.keys.drop (k+1)))):=aa (by rw[HS.o,ST.o,HPL.o,show bV t.keys k=none by simp[bV,hk0]];rfl);clear HS ST hk0;go_wp2_with fail
        refine wp_region_quiet_grown (by assumption) (by kernel_rfl) ?_;repeat(first | go_big_quiet_step ((go_at_call 81;exact CALL.o _ HPL.o _ _)) | quiet_step ((go_at_call 81;exact CALL.o _ HPL.o _ _)))
        refine wpQuiet_nil ?_;intro _ hw';obtain⟨⟨nq,osq⟩,hw''⟩:=hw';subst hw'';go_wp2_with fail
        go_roundg (t.keys.length - (k+1))
        case measure=>rw[GK.o];omega
        case rel=>exact⟨k+1,true,hlt,rfl,by go_num,rfl,HN,af (d8 _ _ _) CC.o.1,ab CC.o.2 (d8 _ _ _)⟩
       ·have e9:((k:Int) == 0)=false:=by rw[MO];omega
        obtain⟨j,hj9⟩:∃ j,k=j+1:=⟨k - 1,by omega⟩
        have hj:j < t.keys.length:=by omega
        obtain⟨kb',ko',Mc,-,-,hc2⟩:=gQ VV.o.2.1 hj;simp only[Option.some.injEq,Addr.mk.injEq,and_true]at Mc;obtain⟨rfl,rfl⟩:=Mc;have hcell2:=ah CC.o.2 hc2;have j1:(k:Int) - 1=(j:Int):=by omega
        have j2:(j:Int) < (t.keys.length:Int):=by omega
        have j3:(0:Int)<=(j:Int):=by omega
        have Z:Ll (bV t.keys k=some t.keys[j]):=aa (by simp[bV,hk0,show k - 1=j by omega,Mw hj]);have s2:∀ n os,(Go.Sort.grow (wr.drewN n) os).cell? ⟨kb,ko+j,none⟩=some (.string ⟨t.keys[j].toArray⟩):=cell_grown (World.block_lt_of_cell? wr _ hcell2) hcell2;clear hc2 hk0 hj9;cases hbl:Op.bytesLess t.keys[j] t.keys[k] with
        | true=>
         have HN:Ll (ce t=(true&&el (bV t.keys (k+1)) (t.keys.drop (k+1)))):=aa (by rw[HS.o,ST.o,HPL.o,Z.o];simp only[hbl];rfl);clear HS ST Z;go_wp2_with fail
         refine wp_region_quiet_grown (by assumption) (by kernel_rfl) ?_;repeat(first | go_big_quiet_step ((go_at_call 81;exact CALL.o _ HPL.o _ _)) | quiet_step ((go_at_call 81;exact CALL.o _ HPL.o _ _)))
         refine wpQuiet_nil ?_;intro _ hw';obtain⟨⟨nq,osq⟩,hw''⟩:=hw';subst hw'';go_wp2_with fail
         go_roundg (t.keys.length - (k+1))
         case measure=>rw[GK.o];omega
         case rel=>exact⟨k+1,true,hlt,rfl,by go_num,rfl,HN,af (d8 _ _ _) CC.o.1,ab CC.o.2 (d8 _ _ _)⟩
        | false=>
         have HN:Ll (ce t=(false&&el (bV t.keys (k+1)) (t.keys.drop (k+1)))):=aa (by rw[HS.o,ST.o,HPL.o,Z.o];simp only[hbl];rfl);clear HS ST Z;go_wp2_with fail
         refine wp_region_quiet_grown (by assumption) (by kernel_rfl) ?_;repeat(first | go_big_quiet_step ((go_at_call 81;exact CALL.o _ HPL.o _ _)) | quiet_step ((go_at_call 81;exact CALL.o _ HPL.o _ _)))
         refine wpQuiet_nil ?_;intro _ hw';obtain⟨⟨nq,osq⟩,hw''⟩:=hw';subst hw'';go_wp2_with fail
         go_roundg (t.keys.length - (k+1))
         case measure=>rw[GK.o];omega
         case rel=>exact⟨k+1,false,hlt,rfl,by go_num,rfl,HN,af (d8 _ _ _) CC.o.1,ab CC.o.2 (d8 _ _ _)⟩
    ·have l1:t.keys.drop k=[]:=List.drop_eq_nil_of_le (by omega);have HN:Ll (ce t=o):=aa (by rw[HS.o,l1];simp[el]);have d1:¬(k:Int) < (t.keys.length:Int):=by omega
     clear l1;go_wp2_with fail
     go_meet
     case rel=>exact⟨by rw[HN.o],CC.o⟩
 case rest=>
  obtain⟨rfl,hc⟩:=hcut;have C0:=aa hc;have HSP:=aa (im t);have y0_:=hc.1.c;obtain⟨o0,ho0⟩:∃ o,ce t=o:=⟨_,rfl⟩
  rw[ho0];have O0:=aa ho0;clear hc ho0;go_wp2_with fail
  go_loopg [3,179] t.l.length (fun gk b i wr=>∃ (k:Nat),k<=t.l.length/\gk=t.l.length - k/\i=.int .i64 k/\b=.bool (o0&&bq (t.l.take k))/\La w wr)
  case atStart=>exact⟨0,Nat.zero_le _,rfl,rfl,by simp[bq],C0.o.2⟩
  case round=>
   obtain⟨k,hk,hgk,rfl,rfl,hb⟩:=hrel;have GK:=aa hgk;have HB:=aa hb;clear hgk hb;by_cases hlt:k < t.l.length
   ·obtain⟨b,off,rfl,z1,z2,a5,c5,a6,c6,p0,p1,p2,p3,p4,p5⟩:=fz VV.o.1 hlt;unfold maxLen at z2;replace p0:=ah HB.o p0;replace p1:=ah HB.o p1;replace p2:=ah HB.o p2;replace p3:=ah HB.o p3;replace p4:=ah HB.o p4;have P5:=aa (p5.bel HB.o);have w1:(0:Int)<=(k:Int):=by omega
    have w2:(k:Int) < (t.l.length:Int):=by omega
    have e1:Ll (bq (t.l.take (k+1))=(bq (t.l.take k)&&T7 t.l[k])):=aa (by rw[b8 hlt,fe]);clear p5;cases hoo:(o0&&bq (t.l.take k)) with
    | false=>
     have HN:Ll ((o0&&bq (t.l.take (k+1)))=false):=aa (by rw[e1.o,<-Bool.and_assoc,hoo];rfl);clear hoo;go_wp2_with fail
     go_roundg (t.l.length - (k+1))
     case measure=>rw[GK.o];omega
     case rel=>exact⟨k+1,hlt,rfl,by go_num,by rw[HN.o],ab HB.o (ae _ _)⟩
    | true=>
     have HN:Ll ((o0&&bq (t.l.take (k+1)))=T7 t.l[k]):=aa (by rw[e1.o,<-Bool.and_assoc,hoo];rfl);clear hoo;go_wp2_with fail
     refine Lk (IH.o _ ok t.l[k] _ (by exact P5.o.bel (ae _ _))) fun w4 hb4=>?_;have HB4:=aa (ab HB.o (ab (ae _ _) hb4));clear hb4 p0 p1 p2 p3 p4;go_wp2_with fail
     go_roundg (t.l.length - (k+1))
     case measure=>rw[GK.o];omega
     case rel=>exact⟨k+1,hlt,rfl,by go_num,by rw[HN.o],HB4.o⟩
   ·have l1:t.l.take k=t.l:=MD (by omega);have d1:¬(k:Int) < (t.l.length:Int):=by omega
    rw[l1];have HF:Ll (T7 t=(o0&&bq t.l)):=aa (by rw[HSP.o,O0.o]);clear l1;go_wp2_with fail
    go_ret;exact⟨by rw[HF.o];rfl,HB.o⟩
end
theorem D8(d:Nat):U0 d:=by
 induction d with
 | zero=>exact fun _ _ _ _ h=>h.elim
 | succ d ih=>
  intro w ok t v h;by_cases h0:t.kind=0
  ·exact F4 d ih w ok t v h h0
  by_cases h1:t.kind=1
  ·exact L1 d ih w ok t v h h1
  by_cases h2:t.kind=2
  ·exact L8 d ih w ok t v h h2
  by_cases h3:t.kind=3
  ·exact H8 d ih w ok t v h h3
  by_cases h4:t.kind=4
  ·exact LD d ih w ok t v h h4
  by_cases h5:t.kind=5
  ·exact F3 d ih w ok t v h h5
  exact H3 d ih w ok t v h ⟨h0,h1,h2,h3,h4,h5⟩
theorem L4(w:LC)(ok:Nat->Prop)(t:V)(v:Value)(h:In w ok t v):Calls prog 52 #[v] w fun e w'=>e=.returned (.bool (T7 t))/\La w w':=by
 obtain⟨d,h⟩:=h;exact D8 d w ok t v h
theorem rC(w:LC)(ok:Nat->Prop)(t:V)(v:Value)(h:In w ok t v)(hN:bN t<=1000000000000000):Calls prog 20 #[v] w fun e w'=>e=.returned (.bool (aE t))/\La w w':=by
 have H:=aa h;have HG:=aa (Sv t);have hd:=rr t;obtain⟨a1,a2,c1,c2,rfl⟩:=h.form;clear h;have HN:=aa hN;obtain⟨x,hx⟩:∃ x,AB t=x:=⟨_,rfl⟩
 obtain⟨m,hm⟩:∃ m,bN t=m:=⟨_,rfl⟩
 rw[hm]at hd hN;rw[hx]at hd;have X:=aa hx;have M:=aa hm;clear hx hm;go_enter func20,ntmps20;go_wp2_with fail
 refine Lk (IS _ ok t _ (by exact H.o.bel (ae _ _)) HN.o) fun w1 hb1=>?_;rw[X.o,M.o];have K1:Ll (ag w1 w.heap.size (.int .i64 t.kind) (.int .i64 t.n) (.string ⟨t.s.toArray⟩) (.slice a1 t.keys.length c1) (.slice a2 t.l.length c2)/\La w w1):=aa ⟨af hb1 (MN w _),ab (ae _ _) hb1⟩;clear hb1;have y0_:=K1.o.1.c;by_cases h1:x<=12
 ·have q1:(x:Int)<=12:=by omega
  by_cases h2:m<=120
  ·have q2:(m:Int)<=120:=by omega
   have HR:Ll (aE t=T7 t):=aa (by rw[<-HG.o,X.o,M.o];simp[h1,h2]);clear h1 h2;go_wp2_with fail
   refine Lk (L4 _ ok t _ (by exact H.o.bel K1.o.2)) fun w2 hb2=>?_;have B2:=aa (ab K1.o.2 hb2);clear hb2;go_wp2_with fail
   go_ret;exact⟨by rw[HR.o];rfl,B2.o⟩
  ·have q2:¬(m:Int)<=120:=by omega
   have HR:Ll (aE t=false):=aa (by rw[<-HG.o,X.o,M.o];simp[h2]);clear h1 h2;go_wp2_with fail
   go_ret;exact⟨by rw[HR.o];rfl,K1.o.2⟩
 ·have q1:¬(x:Int)<=12:=by omega
  have HR:Ll (aE t=false):=aa (by rw[<-HG.o,X.o,M.o];simp[h1]);clear h1;go_wp2_with fail
  go_ret;exact⟨by rw[HR.o];rfl,K1.o.2⟩
end Go.Proofs.YtbdlfclnkpofaaaGreatDoor
