import Derived.Test.YtbdlfclnkpofaaaGreatDoorG5
set_option maxRecDepth 100000
set_option maxHeartbeats 40000000
set_option linter.unusedSimpArgs false
set_option linter.unusedVariables false
namespace Go.Proofs.YtbdlfclnkpofaaaGreatDoor
open Go.RowKit
open _root_.Go.Proofs.Tryz
variable {k:Nat}
def Jh (w:LC) (g:Nat) (lb:Array Value) (xs:List Lz) (p:Lz->Bool):Prop:=
 ∀ (W:LC) (x:Lz),La w W->x∈xs->Calls prog g (#[.string ⟨x.toArray⟩]++lb) W fun e w'=>e=.returned (.bool (p x))/\La W w'
theorem uA{α:Type}{p:α->Bool}{xs:List α}(hk:k < xs.length)(h:(xs.take k).any p=false)(h2:p xs[k]=false):(xs.take (k+1)).any p=false:=by
 rw[List.take_succ_eq_append_getElem hk,List.any_append,h];simp[h2]
theorem xi{α:Type}{p:α->Bool}{xs:List α}(hk:k < xs.length)(h2:p xs[k]=true):xs.any p=true:=by
 rw[List.any_eq_true];exact⟨xs[k],List.getElem_mem _,h2⟩
theorem Nr(w:LC)(ok xs v g)(lb:Array Value)(p:Lz->Bool)(h:ao w ok xs v)(eg:∀ args w,(callFunc g args).run prog w=.ok (.enter g args) w)(hp:Jh w g lb xs p):Calls prog 84 #[v,.func (.func g) #[] lb] w fun e w'=>(∃ r:Int,e=.returned (.int .i64 r)/\(decide (0<=r)=xs.any p))/\La w w':=by
 obtain⟨a,c,rfl⟩:=h.form;have H:=aa h;have HP:=aa hp;have ll:=h.1;unfold maxLen at ll;clear h hp;go_enter func84,ntmps84;go_wp2
 go_loopg [5,8] xs.length (fun gk _ i wr=>∃ k:Nat,k<=xs.length/\gk=xs.length - k/\i=.int .i64 k/\Ll ((xs.take k).any p=false)/\Ll (La w wr))
 case atStart=>exact⟨0,Nat.zero_le _,rfl,rfl,rfl,MK _ _⟩
 case round=>
  obtain⟨k,hk,hgk,rfl,HA,BL⟩:=hrel;have GK:=aa hgk;clear hgk;by_cases hlt:k < xs.length
  ·obtain⟨b,off,rfl,j1,j2,k1⟩:=gQ H.o hlt;unfold maxLen at j2;have c1:=ah BL.o k1;have w2:(k:Int) < (xs.length:Int):=by omega
   clear k1;have CALL:=HP.o wr xs[k] BL.o (List.getElem_mem _);have T0:Ll (p xs[k]=false->(xs.take (k+1)).any p=false):=fun h9=>uA hlt HA.o h9;have T1:Ll (p xs[k]=true->xs.any p=true):=fun h9=>xi hlt h9;obtain⟨o,ho⟩:∃ o,p xs[k]=o:=⟨_,rfl⟩
   rw[ho]at CALL T0 T1;clear ho;cases o with
   | false=>
    go_wp2_with (go_at_fn g;refine CALL.mono ?_;rintro e w1 ⟨rfl,hb⟩)
    go_roundg (xs.length - (k+1))
    case measure=>rw[GK.o];omega
    case rel=>exact⟨k+1,hlt,rfl,by go_num,aa (T0.o (by simp)),aa (ab BL.o hb)⟩
   | true=>
    go_wp2_with (go_at_fn g;refine CALL.mono ?_;rintro e w1 ⟨rfl,hb⟩)
    go_ret;refine⟨⟨k,rfl,?_⟩,ab BL.o hb⟩;rw[T1.o (by simp)];simp
  ·have d1:¬(k:Int) < (xs.length:Int):=by omega
   have Mc:k=xs.length:=by omega
   have R:Ll (xs.any p=false):=aa (by have:=HA.o;rwa [Mc,List.take_length]at this);clear Mc;go_wp2
   go_ret;exact⟨⟨-1,rfl,by rw[R.o];rfl⟩,BL.o⟩
theorem l9(w:LC)(ok xs v g)(lb:Array Value)(p:Lz->Bool)(h:ao w ok xs v)(eg:∀ args w,(callFunc g args).run prog w=.ok (.enter g args) w)(hp:Jh w g lb xs p):Calls prog 60 #[v,.func (.func g) #[] lb] w fun e w'=>e=.returned (.bool (xs.any p))/\La w w':=by
 obtain⟨a,c,rfl⟩:=h.form;have C:=Nr w ok xs _ g lb p h eg hp;clear h hp;go_enter func60,ntmps60;go_wp2_with (go_at_call 84;refine C.mono ?_;rintro e w1 ⟨⟨r,rfl,hr⟩,hb⟩)
 go_ret;exact⟨by rw[<-hr];rfl,hb⟩
def Tp (w:LC) (ok:Nat->Prop) (g:Nat) (lb:Array Value) (xs:List aL) (p:aL->Bool):Prop:=
 ∀ (W:LC) (x:aL) (pa:Option Addr) (pc:Nat),La w W->x∈xs->ao W ok x.paths (.slice pa x.paths.length pc)->Calls prog g (#[.agg #[.string ⟨x.name.toArray⟩,.slice pa x.paths.length pc]]++lb) W fun e w'=>e=.returned (.bool (p x))/\La W w'
theorem EG(w ok xs v g)(lb:Array Value)(p:aL->Bool)(h:aB w ok xs v)(eg:∀ args w,(callFunc g args).run prog w=.ok (.enter g args) w)(hp:Tp w ok g lb xs p):Calls prog 131 #[v,.func (.func g) #[] lb] w fun e w'=>(∃ r:Int,e=.returned (.int .i64 r)/\(decide (0<=r)=xs.any p))/\La w w':=by
 obtain⟨a,c,rfl⟩:=h.form;have H:=aa h;have HP:=aa hp;have ll:=h.1;unfold maxLen at ll;clear h hp;go_enter func131,ntmps131;go_wp2
 go_loopg [5,8] xs.length (fun gk _ i wr=>∃ k:Nat,k<=xs.length/\gk=xs.length - k/\i=.int .i64 k/\Ll ((xs.take k).any p=false)/\Ll (La w wr))
 case atStart=>exact⟨0,Nat.zero_le _,rfl,rfl,rfl,MK _ _⟩
 case round=>
  obtain⟨k,hk,hgk,rfl,HA,BL⟩:=hrel;have GK:=aa hgk;clear hgk;by_cases hlt:k < xs.length
  ·obtain⟨b,off,pa,pc,rfl,j1,j2,k1,k2,k3,k4⟩:=H.o.at hlt;have c1:=ah BL.o k1;have c2:=ah BL.o k2;have w2:(k:Int) < (xs.length:Int):=by omega
   have CALL:=HP.o wr xs[k] pa pc BL.o (List.getElem_mem _) (k3.imp fun a x h1 h2=>⟨h1,ah BL.o h2⟩);clear k1 k2 k3;have T0:Ll (p xs[k]=false->(xs.take (k+1)).any p=false):=fun h9=>uA hlt HA.o h9;have T1:Ll (p xs[k]=true->xs.any p=true):=fun h9=>xi hlt h9;obtain⟨o,ho⟩:∃ o,p xs[k]=o:=⟨_,rfl⟩
   rw[ho]at CALL T0 T1;clear ho;cases o with
   | false=>
    go_wp2_with (go_at_fn g;refine CALL.mono ?_;rintro e w1 ⟨rfl,hb⟩)
    go_roundg (xs.length - (k+1))
    case measure=>rw[GK.o];omega
    case rel=>exact⟨k+1,hlt,rfl,by go_num,aa (T0.o (by simp)),aa (ab BL.o hb)⟩
   | true=>
    go_wp2_with (go_at_fn g;refine CALL.mono ?_;rintro e w1 ⟨rfl,hb⟩)
    go_ret;refine⟨⟨k,rfl,?_⟩,ab BL.o hb⟩;rw[T1.o (by simp)];simp
  ·have d1:¬(k:Int) < (xs.length:Int):=by omega
   have Mc:k=xs.length:=by omega
   have R:Ll (xs.any p=false):=aa (by have:=HA.o;rwa [Mc,List.take_length]at this);clear Mc;go_wp2
   go_ret;exact⟨⟨-1,rfl,by rw[R.o];rfl⟩,BL.o⟩
theorem sU(w ok xs v g)(lb:Array Value)(p:aL->Bool)(h:aB w ok xs v)(eg:∀ args w,(callFunc g args).run prog w=.ok (.enter g args) w)(hp:Tp w ok g lb xs p):Calls prog 89 #[v,.func (.func g) #[] lb] w fun e w'=>e=.returned (.bool (xs.any p))/\La w w':=by
 obtain⟨a,c,rfl⟩:=h.form;have C:=EG w ok xs _ g lb p h eg hp;clear h hp;go_enter func89,ntmps89;go_wp2_with (go_at_call 131;refine C.mono ?_;rintro e w1 ⟨⟨r,rfl,hr⟩,hb⟩)
 go_ret;exact⟨by rw[<-hr];rfl,hb⟩
variable {t:V}
section
attribute [local go_sem ↓] Go.wp_at_zero Go.wp_at_succ
def U0 (d:Nat):Prop:=∀ (w:LC) (ok:Nat->Prop) (t:V) (v:Value),bu w ok d t v ->
 Calls prog 52 #[v] w fun e w'=>e=.returned (.bool (T7 t))/\La w w'
theorem D7(hk:t.kind=5):ce t=(decide (t.n=0)&&decide (t.s=[])&&decide (t.keys.length=t.l.length)&&el none t.keys):=by simp[ce,hk]
theorem F4(d:Nat)(ih:U0 d)(w:LC)(ok:Nat->Prop)(t:V)(v:Value)(h:bu w ok (d+1) t v)(hk:t.kind=0):Calls prog 52 #[v] w fun e w'=>e=.returned (.bool (T7 t))/\La w w':=by
 have IH:=aa ih;obtain⟨a1,a2,c1,c2,rfl⟩:=h.shape;have VV:Ll (cS w ok (bu w ok d) t.l (.slice a2 t.l.length c2)/\ao w ok t.keys (.slice a1 t.keys.length c1)/\t.s.length<=9223372036854775807):=aa (by
  obtain⟨ks,ls,e,h1,h2,h3,h4,h5⟩:=h;simp only[Value.agg.injEq,Array.mk.injEq,List.cons.injEq,and_true]at e;obtain⟨-,-,-,rfl,rfl⟩:=e;exact⟨h5,h4,h3⟩)
 have ll:t.l.length<=9223372036854775807:=VV.o.1.1;have lk:t.keys.length<=9223372036854775807:=VV.o.2.1.1;have B1:=aa (ae w (.cells #[.int .i64 t.kind,.int .i64 t.n,.string ⟨t.s.toArray⟩,.slice a1 t.keys.length c1,.slice a2 t.l.length c2] 25));have HK:=aa hk;clear h ih hk;go_enter func52,ntmps52;go_upto_block 0 with fail
 go_cut [3] (fun b wc=>b=.bool (ce t)/\ag wc w.heap.size (.int .i64 t.kind) (.int .i64 t.n) (.string ⟨t.s.toArray⟩) (.slice a1 t.keys.length c1) (.slice a2 t.l.length c2)/\La w wc)
 case first=>
  have hk:=HK.o;have g0:(t.kind == 0)=true:=by simp[hk]
  by_cases hN:t.n=0
  ·have qN:(t.n == 0)=true:=by simp[hN]
   by_cases hS:t.s=[]
   ·have qS:(t.s == [])=true:=by simp[hS]
    by_cases hK:t.keys.length=0
    ·have qK:((t.keys.length:Int) == 0)=true:=by simp[hK]
     by_cases hL:t.l.length=0
     ·have qL:((t.l.length:Int) == 0)=true:=by simp[hL]
      have HR:Ll (ce t=true):=aa (by simp[ce,bh,hk,hN,hS,hK,hL]);clear hk hN hS hK hL;go_wp2_with fail
      go_meet
      case rel=>exact⟨by rw[HR.o],⟨MN w _,B1.o⟩⟩
     ·have qL:((t.l.length:Int) == 0)=false:=by rw[MO];omega
      have HR:Ll (ce t=false):=aa (by simp[ce,bh,hk,hN,hS,hK,hL]);clear hk hN hS hK hL;go_wp2_with fail
      go_meet
      case rel=>exact⟨by rw[HR.o],⟨MN w _,B1.o⟩⟩
    ·have qK:((t.keys.length:Int) == 0)=false:=by rw[MO];omega
     have HR:Ll (ce t=false):=aa (by simp[ce,bh,hk,hN,hS,hK]);clear hk hN hS hK;go_wp2_with fail
     go_meet
     case rel=>exact⟨by rw[HR.o],⟨MN w _,B1.o⟩⟩
   ·have qS:(t.s == [])=false:=by simp[hS]
    have HR:Ll (ce t=false):=aa (by simp[ce,bh,hk,hN,hS]);clear hk hN hS;go_wp2_with fail
    go_meet
    case rel=>exact⟨by rw[HR.o],⟨MN w _,B1.o⟩⟩
  ·have qN:(t.n == 0)=false:=by simp[hN]
   have HR:Ll (ce t=false):=aa (by simp[ce,bh,hk,hN]);clear hk hN;go_wp2_with fail
   go_meet
   case rel=>exact⟨by rw[HR.o],⟨MN w _,B1.o⟩⟩
 case rest=>
  obtain⟨rfl,hc⟩:=hcut;have C0:=aa hc;have HSP:=aa (im t);have y0_:=hc.1.c;obtain⟨o0,ho0⟩:∃ o,ce t=o:=⟨_,rfl⟩
  rw[ho0];have O0:=aa ho0;clear hc ho0;go_wp2_with fail
  go_loopg [3,179] t.l.length (fun gk b i wr=>∃ (k:Nat),k<=t.l.length/\gk=t.l.length - k/\i=.int .i64 k/\b=.bool (o0&&bq (t.l.take k))/\La w wr)
  case atStart=>exact⟨0,Nat.zero_le _,rfl,rfl,by simp[bq],C0.o.2⟩
  case round=>
   obtain⟨k,hk,hgk,rfl,rfl,hb⟩:=hrel;have GK:=aa hgk;have HB:=aa hb;clear hgk hb;by_cases hlt:k < t.l.length
   ·obtain⟨b,off,rfl,z1,z2,a5,c5,a6,c6,p0,p1,p2,p3,p4,p5⟩:=fz VV.o.1 hlt;unfold maxLen at z2;replace p0:=ah HB.o p0;replace p1:=ah HB.o p1;replace p2:=ah HB.o p2;replace p3:=ah HB.o p3;replace p4:=ah HB.o p4;have P5:=aa (p5.bel HB.o);have w1:(0:Int)<=(k:Int):=by omega
    have w2:(k:Int) < (t.l.length:Int):=by omega
    have e1:Ll (bq (t.l.take (k+1))=(bq (t.l.take k)&&T7 t.l[k])):=aa (by rw[b8 hlt,fe]);clear p5;cases hoo:(o0&&bq (t.l.take k)) with
    | false=>
     have HN:Ll ((o0&&bq (t.l.take (k+1)))=false):=aa (by rw[e1.o,<-Bool.and_assoc,hoo];rfl);clear hoo;go_wp2_with fail
     go_roundg (t.l.length - (k+1))
     case measure=>rw[GK.o];omega
     case rel=>exact⟨k+1,hlt,rfl,by go_num,by rw[HN.o],ab HB.o (ae _ _)⟩
    | true=>
     have HN:Ll ((o0&&bq (t.l.take (k+1)))=T7 t.l[k]):=aa (by rw[e1.o,<-Bool.and_assoc,hoo];rfl);clear hoo;go_wp2_with fail
     refine Lk (IH.o _ ok t.l[k] _ (by exact P5.o.bel (ae _ _))) fun w4 hb4=>?_;have HB4:=aa (ab HB.o (ab (ae _ _) hb4));clear hb4 p0 p1 p2 p3 p4;go_wp2_with fail
     go_roundg (t.l.length - (k+1))
     case measure=>rw[GK.o];omega
     case rel=>exact⟨k+1,hlt,rfl,by go_num,by rw[HN.o],HB4.o⟩
   ·have l1:t.l.take k=t.l:=MD (by omega);have d1:¬(k:Int) < (t.l.length:Int):=by omega
    rw[l1];have HF:Ll (T7 t=(o0&&bq t.l)):=aa (by rw[HSP.o,O0.o]);clear l1;go_wp2_with fail
    go_ret;exact⟨by rw[HF.o];rfl,HB.o⟩
theorem L1(d:Nat)(ih:U0 d)(w:LC)(ok:Nat->Prop)(t:V)(v:Value)(h:bu w ok (d+1) t v)(hk:t.kind=1):Calls prog 52 #[v] w fun e w'=>e=.returned (.bool (T7 t))/\La w w':=by
 have IH:=aa ih;obtain⟨a1,a2,c1,c2,rfl⟩:=h.shape;have VV:Ll (cS w ok (bu w ok d) t.l (.slice a2 t.l.length c2)/\ao w ok t.keys (.slice a1 t.keys.length c1)/\t.s.length<=9223372036854775807):=aa (by
  obtain⟨ks,ls,e,h1,h2,h3,h4,h5⟩:=h;simp only[Value.agg.injEq,Array.mk.injEq,List.cons.injEq,and_true]at e;obtain⟨-,-,-,rfl,rfl⟩:=e;exact⟨h5,h4,h3⟩)
 have ll:t.l.length<=9223372036854775807:=VV.o.1.1;have lk:t.keys.length<=9223372036854775807:=VV.o.2.1.1;have B1:=aa (ae w (.cells #[.int .i64 t.kind,.int .i64 t.n,.string ⟨t.s.toArray⟩,.slice a1 t.keys.length c1,.slice a2 t.l.length c2] 25));have HK:=aa hk;clear h ih hk;go_enter func52,ntmps52;go_upto_block 0 with fail
 go_cut [3] (fun b wc=>b=.bool (ce t)/\ag wc w.heap.size (.int .i64 t.kind) (.int .i64 t.n) (.string ⟨t.s.toArray⟩) (.slice a1 t.keys.length c1) (.slice a2 t.l.length c2)/\La w wc)
 case first=>
  have hk:=HK.o;have f0:(t.kind == 0)=false:=by simp[hk]
  have g1:(t.kind == 1)=true:=by simp[hk]
  by_cases hN:t.n=0
  ·have qN:(t.n == 0)=true:=by simp[hN]
   by_cases hS:t.s=[]
   ·have qS:(t.s == [])=true:=by simp[hS]
    by_cases hK:t.keys.length=0
    ·have qK:((t.keys.length:Int) == 0)=true:=by simp[hK]
     by_cases hL:t.l.length=0
     ·have qL:((t.l.length:Int) == 0)=true:=by simp[hL]
      have HR:Ll (ce t=true):=aa (by simp[ce,bh,hk,hN,hS,hK,hL]);clear hk hN hS hK hL;go_wp2_with fail
      go_meet
      case rel=>exact⟨by rw[HR.o],⟨MN w _,B1.o⟩⟩
     ·have qL:((t.l.length:Int) == 0)=false:=by rw[MO];omega
      have HR:Ll (ce t=false):=aa (by simp[ce,bh,hk,hN,hS,hK,hL]);clear hk hN hS hK hL;go_wp2_with fail
      go_meet
      case rel=>exact⟨by rw[HR.o],⟨MN w _,B1.o⟩⟩
    ·have qK:((t.keys.length:Int) == 0)=false:=by rw[MO];omega
     have HR:Ll (ce t=false):=aa (by simp[ce,bh,hk,hN,hS,hK]);clear hk hN hS hK;go_wp2_with fail
     go_meet
     case rel=>exact⟨by rw[HR.o],⟨MN w _,B1.o⟩⟩
   ·have qS:(t.s == [])=false:=by simp[hS]
    have HR:Ll (ce t=false):=aa (by simp[ce,bh,hk,hN,hS]);clear hk hN hS;go_wp2_with fail
    go_meet
    case rel=>exact⟨by rw[HR.o],⟨MN w _,B1.o⟩⟩
  ·have qN:(t.n == 0)=false:=by simp[hN]
   by_cases hO:t.n=1
   ·have qO:(t.n == 1)=true:=by simp[hO]
    by_cases hS:t.s=[]
    ·have qS:(t.s == [])=true:=by simp[hS]
     by_cases hK:t.keys.length=0
     ·have qK:((t.keys.length:Int) == 0)=true:=by simp[hK]
      by_cases hL:t.l.length=0
      ·have qL:((t.l.length:Int) == 0)=true:=by simp[hL]
       have HR:Ll (ce t=true):=aa (by simp[ce,bh,hk,hN,hO,hS,hK,hL]);clear hk hN hO hS hK hL;go_wp2_with fail
       go_meet
       case rel=>exact⟨by rw[HR.o],⟨MN w _,B1.o⟩⟩
      ·have qL:((t.l.length:Int) == 0)=false:=by rw[MO];omega
       have HR:Ll (ce t=false):=aa (by simp[ce,bh,hk,hN,hO,hS,hK,hL]);clear hk hN hO hS hK hL;go_wp2_with fail
       go_meet
       case rel=>exact⟨by rw[HR.o],⟨MN w _,B1.o⟩⟩
     ·have qK:((t.keys.length:Int) == 0)=false:=by rw[MO];omega
      have HR:Ll (ce t=false):=aa (by simp[ce,bh,hk,hN,hO,hS,hK]);clear hk hN hO hS hK;go_wp2_with fail
      go_meet
      case rel=>exact⟨by rw[HR.o],⟨MN w _,B1.o⟩⟩
    ·have qS:(t.s == [])=false:=by simp[hS]
     have HR:Ll (ce t=false):=aa (by simp[ce,bh,hk,hN,hO,hS]);clear hk hN hO hS;go_wp2_with fail
     go_meet
     case rel=>exact⟨by rw[HR.o],⟨MN w _,B1.o⟩⟩
   ·have qO:(t.n == 1)=false:=by simp[hO]
    have HR:Ll (ce t=false):=aa (by simp[ce,bh,hk,hN,hO]);clear hk hN hO;go_wp2_with fail
    go_meet
    case rel=>exact⟨by rw[HR.o],⟨MN w _,B1.o⟩⟩
 case rest=>
  obtain⟨rfl,hc⟩:=hcut;have C0:=aa hc;have HSP:=aa (im t);have y0_:=hc.1.c;obtain⟨o0,ho0⟩:∃ o,ce t=o:=⟨_,rfl⟩
  rw[ho0];have O0:=aa ho0;clear hc ho0;go_wp2_with fail
  go_loopg [3,179] t.l.length (fun gk b i wr=>∃ (k:Nat),k<=t.l.length/\gk=t.l.length - k/\i=.int .i64 k/\b=.bool (o0&&bq (t.l.take k))/\La w wr)
  case atStart=>exact⟨0,Nat.zero_le _,rfl,rfl,by simp[bq],C0.o.2⟩
  case round=>
   obtain⟨k,hk,hgk,rfl,rfl,hb⟩:=hrel;have GK:=aa hgk;have HB:=aa hb;clear hgk hb;by_cases hlt:k < t.l.length
   ·obtain⟨b,off,rfl,z1,z2,a5,c5,a6,c6,p0,p1,p2,p3,p4,p5⟩:=fz VV.o.1 hlt;unfold maxLen at z2;replace p0:=ah HB.o p0;replace p1:=ah HB.o p1;replace p2:=ah HB.o p2;replace p3:=ah HB.o p3;replace p4:=ah HB.o p4;have P5:=aa (p5.bel HB.o);have w1:(0:Int)<=(k:Int):=by omega
    have w2:(k:Int) < (t.l.length:Int):=by omega
    have e1:Ll (bq (t.l.take (k+1))=(bq (t.l.take k)&&T7 t.l[k])):=aa (by rw[b8 hlt,fe]);clear p5;cases hoo:(o0&&bq (t.l.take k)) with
    | false=>
     have HN:Ll ((o0&&bq (t.l.take (k+1)))=false):=aa (by rw[e1.o,<-Bool.and_assoc,hoo];rfl);clear hoo;go_wp2_with fail
     go_roundg (t.l.length - (k+1))
     case measure=>rw[GK.o];omega
     case rel=>exact⟨k+1,hlt,rfl,by go_num,by rw[HN.o],ab HB.o (ae _ _)⟩
    | true=>
     have HN:Ll ((o0&&bq (t.l.take (k+1)))=T7 t.l[k]):=aa (by rw[e1.o,<-Bool.and_assoc,hoo];rfl);clear hoo;go_wp2_with fail
     refine Lk (IH.o _ ok t.l[k] _ (by exact P5.o.bel (ae _ _))) fun w4 hb4=>?_;have HB4:=aa (ab HB.o (ab (ae _ _) hb4));clear hb4 p0 p1 p2 p3 p4;go_wp2_with fail
     go_roundg (t.l.length - (k+1))
     case measure=>rw[GK.o];omega
     case rel=>exact⟨k+1,hlt,rfl,by go_num,by rw[HN.o],HB4.o⟩
   ·have l1:t.l.take k=t.l:=MD (by omega);have d1:¬(k:Int) < (t.l.length:Int):=by omega
    rw[l1];have HF:Ll (T7 t=(o0&&bq t.l)):=aa (by rw[HSP.o,O0.o]);clear l1;go_wp2_with fail
    go_ret;exact⟨by rw[HF.o];rfl,HB.o⟩
theorem L8(d:Nat)(ih:U0 d)(w:LC)(ok:Nat->Prop)(t:V)(v:Value)(h:bu w ok (d+1) t v)(hk:t.kind=2):Calls prog 52 #[v] w fun e w'=>e=.returned (.bool (T7 t))/\La w w':=by
 have IH:=aa ih;obtain⟨a1,a2,c1,c2,rfl⟩:=h.shape;have VV:Ll (cS w ok (bu w ok d) t.l (.slice a2 t.l.length c2)/\ao w ok t.keys (.slice a1 t.keys.length c1)/\t.s.length<=9223372036854775807):=aa (by
  obtain⟨ks,ls,e,h1,h2,h3,h4,h5⟩:=h;simp only[Value.agg.injEq,Array.mk.injEq,List.cons.injEq,and_true]at e;obtain⟨-,-,-,rfl,rfl⟩:=e;exact⟨h5,h4,h3⟩)
 have ll:t.l.length<=9223372036854775807:=VV.o.1.1;have lk:t.keys.length<=9223372036854775807:=VV.o.2.1.1;have B1:=aa (ae w (.cells #[.int .i64 t.kind,.int .i64 t.n,.string ⟨t.s.toArray⟩,.slice a1 t.keys.length c1,.slice a2 t.l.length c2] 25));have HK:=aa hk;clear h ih hk;go_enter func52,ntmps52;go_upto_block 0 with fail
 go_cut [3] (fun b wc=>b=.bool (ce t)/\ag wc w.heap.size (.int .i64 t.kind) (.int .i64 t.n) (.string ⟨t.s.toArray⟩) (.slice a1 t.keys.length c1) (.slice a2 t.l.length c2)/\La w wc)
 case first=>
  have hk:=HK.o;have f0:(t.kind == 0)=false:=by simp[hk]
  have f1:(t.kind == 1)=false:=by simp[hk]
  have g2:(t.kind == 2)=true:=by simp[hk]
  by_cases hA:-9007199254740992<=t.n
  ·have qA:-9007199254740992<=t.n:=by exact hA
   by_cases hB:t.n<=9007199254740992
   ·have qB:t.n<=9007199254740992:=by exact hB
    by_cases hS:t.s=[]
    ·have qS:(t.s == [])=true:=by simp[hS]
     by_cases hK:t.keys.length=0
     ·have qK:((t.keys.length:Int) == 0)=true:=by simp[hK]
      by_cases hL:t.l.length=0
      ·have qL:((t.l.length:Int) == 0)=true:=by simp[hL]
       have HR:Ll (ce t=true):=aa (by simp[ce,bh,hk,hA,hB,hS,hK,hL]);clear hk hA hB hS hK hL;go_wp2_with fail
       go_meet
       case rel=>exact⟨by rw[HR.o],⟨MN w _,B1.o⟩⟩
      ·have qL:((t.l.length:Int) == 0)=false:=by rw[MO];omega
       have HR:Ll (ce t=false):=aa (by simp[ce,bh,hk,hA,hB,hS,hK,hL]);clear hk hA hB hS hK hL;go_wp2_with fail
       go_meet
       case rel=>exact⟨by rw[HR.o],⟨MN w _,B1.o⟩⟩
     ·have qK:((t.keys.length:Int) == 0)=false:=by rw[MO];omega
      have HR:Ll (ce t=false):=aa (by simp[ce,bh,hk,hA,hB,hS,hK]);clear hk hA hB hS hK;go_wp2_with fail
      go_meet
      case rel=>exact⟨by rw[HR.o],⟨MN w _,B1.o⟩⟩
    ·have qS:(t.s == [])=false:=by simp[hS]
     have HR:Ll (ce t=false):=aa (by simp[ce,bh,hk,hA,hB,hS]);clear hk hA hB hS;go_wp2_with fail
     go_meet
     case rel=>exact⟨by rw[HR.o],⟨MN w _,B1.o⟩⟩
   ·have qB:¬t.n<=9007199254740992:=by exact hB
    have HR:Ll (ce t=false):=aa (by simp[ce,bh,hk,hA,hB]);clear hk hA hB;go_wp2_with fail
    go_meet
    case rel=>exact⟨by rw[HR.o],⟨MN w _,B1.o⟩⟩
  ·have qA:¬ -9007199254740992<=t.n:=by exact hA
   have HR:Ll (ce t=false):=aa (by simp[ce,bh,hk,hA]);clear hk hA;go_wp2_with fail
   go_meet
   case rel=>exact⟨by rw[HR.o],⟨MN w _,B1.o⟩⟩
 case rest=>
  obtain⟨rfl,hc⟩:=hcut;have C0:=aa hc;have HSP:=aa (im t);have y0_:=hc.1.c;obtain⟨o0,ho0⟩:∃ o,ce t=o:=⟨_,rfl⟩
  rw[ho0];have O0:=aa ho0;clear hc ho0;go_wp2_with fail
  go_loopg [3,179] t.l.length (fun gk b i wr=>∃ (k:Nat),k<=t.l.length/\gk=t.l.length - k/\i=.int .i64 k/\b=.bool (o0&&bq (t.l.take k))/\La w wr)
  case atStart=>exact⟨0,Nat.zero_le _,rfl,rfl,by simp[bq],C0.o.2⟩
  case round=>
   obtain⟨k,hk,hgk,rfl,rfl,hb⟩:=hrel;have GK:=aa hgk;have HB:=aa hb;clear hgk hb;by_cases hlt:k < t.l.length
   ·obtain⟨b,off,rfl,z1,z2,a5,c5,a6,c6,p0,p1,p2,p3,p4,p5⟩:=fz VV.o.1 hlt;unfold maxLen at z2;replace p0:=ah HB.o p0;replace p1:=ah HB.o p1;replace p2:=ah HB.o p2;replace p3:=ah HB.o p3;replace p4:=ah HB.o p4;have P5:=aa (p5.bel HB.o);have w1:(0:Int)<=(k:Int):=by omega
    have w2:(k:Int) < (t.l.length:Int):=by omega
    have e1:Ll (bq (t.l.take (k+1))=(bq (t.l.take k)&&T7 t.l[k])):=aa (by rw[b8 hlt,fe]);clear p5;cases hoo:(o0&&bq (t.l.take k)) with
    | false=>
     have HN:Ll ((o0&&bq (t.l.take (k+1)))=false):=aa (by rw[e1.o,<-Bool.and_assoc,hoo];rfl);clear hoo;go_wp2_with fail
     go_roundg (t.l.length - (k+1))
     case measure=>rw[GK.o];omega
     case rel=>exact⟨k+1,hlt,rfl,by go_num,by rw[HN.o],ab HB.o (ae _ _)⟩
    | true=>
     have HN:Ll ((o0&&bq (t.l.take (k+1)))=T7 t.l[k]):=aa (by rw[e1.o,<-Bool.and_assoc,hoo];rfl);clear hoo;go_wp2_with fail
     refine Lk (IH.o _ ok t.l[k] _ (by exact P5.o.bel (ae _ _))) fun w4 hb4=>?_;have HB4:=aa (ab HB.o (ab (ae _ _) hb4));clear hb4 p0 p1 p2 p3 p4;go_wp2_with fail
     go_roundg (t.l.length - (k+1))
     case measure=>rw[GK.o];omega
     case rel=>exact⟨k+1,hlt,rfl,by go_num,by rw[HN.o],HB4.o⟩
   ·have l1:t.l.take k=t.l:=MD (by omega);have d1:¬(k:Int) < (t.l.length:Int):=by omega
    rw[l1];have HF:Ll (T7 t=(o0&&bq t.l)):=aa (by rw[HSP.o,O0.o]);clear l1;go_wp2_with fail
    go_ret;exact⟨by rw[HF.o];rfl,HB.o⟩
end
end Go.Proofs.YtbdlfclnkpofaaaGreatDoor
