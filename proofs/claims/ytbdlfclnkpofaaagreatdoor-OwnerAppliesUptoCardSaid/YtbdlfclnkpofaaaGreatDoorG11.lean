import Derived.Test.YtbdlfclnkpofaaaGreatDoorG4
import Derived.Test.YtbdlfclnkpofaaaGreatDoorG8
set_option maxRecDepth 100000
set_option maxHeartbeats 40000000
set_option linter.unusedSimpArgs false
set_option linter.unusedVariables false
namespace Go.Proofs.YtbdlfclnkpofaaaGreatDoor
open Go.RowKit
open _root_.Go.Proofs.Tryz
variable {w w':World}
variable {ok:Nat->Prop}
variable {v:Value}
variable {g B n k:Nat}
section
attribute [local go_sem ↓] Go.wp_at_zero Go.wp_at_succ
def em (key:Lz) (keys:List Lz):Nat:=(keys.takeWhile fun a=>Op.bytesLess a key).length
theorem wW(key keys):em key keys<=keys.length:=(List.takeWhile_sublist _).length_le
theorem ym{key a keys}(h:keys[k]?=some a)(hk:k<=em key keys)(hl:Op.bytesLess a key=true):k < em key keys:=by
 induction keys generalizing k with
 | nil=>simp at h
 | cons b keys ih=>
  unfold em at hk ⊢;rw[List.takeWhile_cons]at hk ⊢;cases k with
  | zero=>simp at h;subst h;simp[hl]
  | succ k=>
   split at hk
   ·rename_i hb;rw[if_pos hb];simp only[My]at hk ⊢;have:=ih (k:=k) (by simpa using h) (by unfold em;omega);unfold em at this;omega
   ·simp at hk
theorem Bz{key a keys}(h:keys[k]?=some a)(hk:k<=em key keys)(hl:Op.bytesLess a key=false):k=em key keys:=by
 induction keys generalizing k with
 | nil=>simp at h
 | cons b keys ih=>
  unfold em at hk ⊢;rw[List.takeWhile_cons]at hk ⊢;cases k with
  | zero=>simp at h;subst h;simp[hl]
  | succ k=>
   split at hk
   ·rename_i hb;rw[if_pos hb];simp only[My]at hk ⊢;have:=ih (k:=k) (by simpa using h) (by unfold em;omega);unfold em at this;omega
   ·simp at hk
def Kf (w w2:LC) (t x:V) (key:Lz) (at_:Nat) (a2 a7 a8:Option Addr) (c2 c7 c8:Nat) (wc:LC):Prop:=
 ∃ g cap,ag wc w.heap.size (.int .i64 t.kind) (.int .i64 t.n) (.string ⟨t.s.toArray⟩) (.slice (some ⟨g,0,none⟩) (t.keys.length+1) cap) (.slice a2 t.l.length c2) /\
  ag wc (w.heap.size+1) (.int .i64 x.kind) (.int .i64 x.n) (.string ⟨x.s.toArray⟩) (.slice a7 x.keys.length c7) (.slice a8 x.l.length c8) /\
  ag wc (w.heap.size+2) (.int .i64 0) (.int .i64 0) (.string ⟨#[]⟩) (.slice none 0 0) (.slice none 0 0) /\
  wc.ownsRow w2.heap.size 9 1 (.slice (some ⟨g,0,none⟩) (t.keys.length+1) cap) (t.keys.length+1) ((t.keys.take at_).map aR++[aR key]++(t.keys.drop at_).map aR) /\
  La w wc/\w2.heap.size<=wc.heap.size
theorem fD{e:TypeId}{size xs}(h:w.ownsRow B e size v n xs)(hb:La w w'):w'.ownsRow B e size v n xs:=h.kept (aq (r:=none) hb) (by cases v.ownBlock <;> simp)
theorem ao.mem{xs}(h:ao w ok xs v)(y)(hy:y∈xs):y.length<=maxLen:=by
 rcases h.2 with⟨e,_⟩ | ⟨b,off,c,e,h1,h2,h3⟩
 ·rw[e]at hy;simp at hy
 ·obtain⟨i,hi⟩:=List.getElem?_of_mem hy;exact(h3 i y hi).1
theorem xx{c0 c1 c2 c3 c4}(h:ag w g c0 c1 c2 c3 c4)(v):ag (w.setCell ⟨g,3,none⟩ v) g c0 c1 c2 v c4:=ak h 3 v
theorem ER(w ok d t x v xv key)(h:bu w ok (d+1) t v)(hx:bu w ok d x xv)(hf:dO t key=none)(hp:aK t=true)(L9:t.l.length<=100000)(hkey:key.length<=maxLen):Calls prog 87 #[v,aR key,xv] w fun e w'=>∃ r,e=.returned r/\bu w' (bQ ok w.heap.size) (d+1) { t with keys:=t.keys.take (em key t.keys)++key :: t.keys.drop (em key t.keys),l:=t.l.take (em key t.keys)++x :: t.l.drop (em key t.keys) } r/\La w w':=by
 have H:=aa h;have HX:=aa hx;obtain⟨ks,ls,rfl,h1,h2,h3,h4,h5⟩:=h;have KK:Ll (dW t.kind/\dW t.n/\t.s.length<=maxLen/\ao w ok t.keys ks/\cS w ok (bu w ok d) t.l ls):=⟨h1,h2,h3,h4,h5⟩
 obtain⟨a1,c1,rfl⟩:=h4.form;obtain⟨a2,c2,rfl⟩:=h5.form;have l1:=h4.1;have l2:=h5.1;have F:=aa hf;have FP:=aa hp;have hkl:t.keys.length=t.l.length:=by
  simp only[aK,MJ,decide_eq_true_eq]at hp;exact hp.2
 have HKL:=aa hkl;have hkl1:t.keys.length<=t.l.length:=by omega
 have hkl2:t.l.length<=t.keys.length:=by omega
 clear hf hp hkl;obtain⟨xk,xl,hxv⟩:∃ xk xl,xv=.agg #[.int .i64 x.kind,.int .i64 x.n,aR x.s,xk,xl]:=by
  match d,hx with
  | d+1,hx=>obtain⟨ks,ls,e,_⟩:=hx;exact⟨ks,ls,e⟩
 subst hxv;obtain⟨-,-,-,⟨a7,c7,rfl⟩,⟨a8,c8,rfl⟩⟩:=hx.agg;unfold maxLen at l1 h3 l2;unfold aR;clear h4 h5 h1 h2 hx;go_enter func87,ntmps87;go_wp2_with fail
 refine Lk (ni _ ok _ t _ (by exact H.o.bel (ab (ab (ae _ _) (ae _ _)) (ae _ _)))) fun w1 hb1=>?_;rw[FP.o];have bx:Ll (ag w1 w.heap.size (.int .i64 t.kind) (.int .i64 t.n) (.string ⟨t.s.toArray⟩) (.slice a1 t.keys.length c1) (.slice a2 t.l.length c2)/\ag w1 (w.heap.size+1) (.int .i64 x.kind) (.int .i64 x.n) (.string ⟨x.s.toArray⟩) (.slice a7 x.keys.length c7) (.slice a8 x.l.length c8)/\ag w1 (w.heap.size+2) (.int .i64 0) (.int .i64 0) (.string ⟨#[]⟩) (.slice none 0 0) (.slice none 0 0)):=⟨af hb1 (lI w _ _ _),af hb1 (mE w _ _ _),af hb1 (jI w _ _ _)⟩
 obtain⟨p0,p1,p2,p3,p4,-,-,-,p9,p10⟩:=bx.o.1.c;have B1:Ll (La w w1):=ab (ab (ab (ae _ _) (ae _ _)) (ae _ _)) hb1;clear hb1;go_wp2_with fail
 refine Lk (kJ _ ok _ t _ key (by exact H.o.bel B1.o)) fun w2 hb2=>?_;rw[F.o];have bx2:Ll (ag w2 w.heap.size (.int .i64 t.kind) (.int .i64 t.n) (.string ⟨t.s.toArray⟩) (.slice a1 t.keys.length c1) (.slice a2 t.l.length c2)/\ag w2 (w.heap.size+1) (.int .i64 x.kind) (.int .i64 x.n) (.string ⟨x.s.toArray⟩) (.slice a7 x.keys.length c7) (.slice a8 x.l.length c8)/\ag w2 (w.heap.size+2) (.int .i64 0) (.int .i64 0) (.string ⟨#[]⟩) (.slice none 0 0) (.slice none 0 0)):=⟨af hb2 bx.o.1,af hb2 bx.o.2.1,af hb2 bx.o.2.2⟩
 have B2:Ll (La w w2):=ab B1.o hb2;have hsz2:w.heap.size+2 < w2.heap.size:=bx2.o.2.2.lt;clear hb2 bx B1;unfold pS;obtain⟨p0,p1,p2,p3,p4,-,-,-,p9,p10⟩:=bx2.o.1.c;obtain⟨q0,q1,q2,q3,q4,-⟩:=bx2.o.2.1.c;go_upto_block 0 with fail
 go_cut [8] (fun i wc=>i=.int .i64 (em key t.keys:Nat)/\wc=w2)
 case first=>
  go_wp2_with fail
  go_loopg [8] t.keys.length (fun g i wr=>∃ k:Nat,k<=em key t.keys/\g=t.keys.length - k/\i=.int .i64 k/\wr=w2)
  case atStart=>exact⟨0,Nat.zero_le _,rfl,rfl,rfl⟩
  case round=>
   obtain⟨k,hk,hgk,rfl,rfl⟩:=hrel;have GK:=aa hgk;have hia:=wW key t.keys;clear hgk;by_cases hlt:k < t.keys.length
   ·obtain⟨_,K4⟩:=KK.o.2.2.2.1;rcases K4 with⟨e,_⟩ | ⟨kb,ko,kc,hks,hc1,hc2,Mb⟩
    ·rw[e]at hlt;simp at hlt
    simp only[Value.slice.injEq]at hks;obtain⟨rfl,-,rfl⟩:=hks;have hc:=ah B2.o (Mb k t.keys[k] (Mw hlt)).2.2;clear Mb;unfold aR at hc;cases hless:Op.bytesLess t.keys[k] key with
    | true=>
     have hk1:k < em key t.keys:=ym (Mw hlt) hk hless;go_wp2_with fail
     go_roundg (t.keys.length - (k+1))
     case measure=>rw[GK.o];omega
     case rel=>exact⟨k+1,hk1,rfl,by go_num,rfl⟩
    | false=>
     have hk1:k=em key t.keys:=Bz (Mw hlt) hk hless;have HK1:=aa hk1;clear hk1;go_wp2_with fail
     go_meet
     case rel=>exact⟨by rw[<-HK1.o],rfl⟩
   ·have hk1:k=em key t.keys:=by omega
    have HK1:=aa hk1;clear hk1;go_wp2_with fail
    go_meet
    case rel=>exact⟨by rw[<-HK1.o],rfl⟩
 case rest=>
  obtain⟨rfl,hw⟩:=hcut;have hw':=hw.symm;clear hw;subst hw';have hia:=wW key t.keys;obtain⟨at_,hat⟩:∃ a,em key t.keys=a:=⟨_,rfl⟩
  rw[hat]at hia ⊢;have HAT:=aa hat;clear hat;have j0:(0:Int)<=(at_:Int):=by omega
  have j1:(at_:Int)<=(t.keys.length:Int):=by omega
  have j2:(at_:Int)<=(t.l.length:Int):=by omega
  have fin10:Ll (∀ w3 g cap,w3.ownsRow w2.heap.size 9 1 (.slice (some ⟨g,0,none⟩) (t.keys.length+1) cap) (t.keys.length+1) ((t.keys.take at_).map aR++[.string ⟨key.toArray⟩]++(t.keys.drop at_).map aR)->La w2 w3 ->
   Kf w w2 t x key at_ a2 a7 a8 c2 c7 c8 (w3.setCell ⟨w.heap.size,3,none⟩ (.slice (some ⟨g,0,none⟩) (t.keys.length+1) cap))):=by
   intro w3 g cap ho hb;have g1:w3.grownBy (w3.setCell ⟨w.heap.size,3,none⟩ (.slice (some ⟨g,0,none⟩) (t.keys.length+1) cap)) (some w.heap.size):=ap (az _ _) _ _;refine⟨g,cap,xx (af hb bx2.o.1) _,(af hb bx2.o.2.1).grown g1 (by simp),(af hb bx2.o.2.2).grown g1 (by simp),aW ho g1 (by omega),?_,MH hb.size g1.size⟩;exact bS (bi (aq (ab B2.o hb)) (MG _) _ _)
  go_upto_region 10 with fail
  go_cut [8] (fun i wc'=>i=.int .i64 (at_:Nat)/\Kf w w2 t x key at_ a2 a7 a8 c2 c7 c8 wc')
  case first=>
   have k3:∀ o,(w2.alloc o).cell? ⟨w.heap.size,3,none⟩=some (.slice a1 t.keys.length c1):=fun o=>(af (ae w2 o) bx2.o.1).c.2.2.2.1;obtain⟨_,K4⟩:=KK.o.2.2.2.1;rcases K4 with⟨e,e2⟩ | ⟨kb,ko,kc,hks,hc1,hc2,Mb⟩
   ·obtain⟨a0,e2⟩:=e2;simp only[Value.slice.injEq]at e2;obtain⟨-,e3,e6⟩:=e2;subst e6;have E3:Ll (t.keys.length=0/\t.keys=[]):=⟨e3,e⟩
    have j4:(t.keys.length:Int)<=0:=by omega
    have e7:at_=0:=by omega
    clear e e3;subst e7;have con:Ll (∀ W,W.heap=((w2.alloc (.cells #[.string ⟨key.toArray⟩] 9)).alloc (.cells #[.slice a1 0 0,.slice (some ⟨w2.heap.size,0,none⟩) 1 1,.slice a1 t.keys.length 0] 22)).heap->W.os=w2.os->W.tape=w2.tape->W.output=w2.output ->
     Calls prog 127 #[.slice (some ⟨w2.heap.size+1,0,none⟩) 3 3] W fun e w'=>∃ g cap,e=.returned (.slice (some ⟨g,0,none⟩) (t.keys.length+1) cap)/\w'.ownsRow w2.heap.size 9 1 (.slice (some ⟨g,0,none⟩) (t.keys.length+1) cap) (t.keys.length+1) ((t.keys.take 0).map aR++[.string ⟨key.toArray⟩]++(t.keys.drop 0).map aR)/\La w2 w'):=by
     intro W e1 e2 e4 e5;obtain⟨q1,q2⟩:=E3.o;rw[q1]at e1;rw[q2];simp only[List.take_nil,List.drop_nil,List.map_nil,List.length_nil];exact Jg ⟨key.toArray⟩ (mi w2 1 a1) (mi w2 1 a1) rfl (by simp) W e1 e2 e4 e5
    go_region_with ((go_at_call 127;refine(con.o _ (by rfl) (by rfl) (by rfl) (by rfl)).mono ?_;rintro e w3 ⟨g,cap,rfl,ho3,hb3⟩;obtain⟨p0,p1,p2,p3,p4,-,-,-,p9,p10⟩:=(af hb3 bx2.o.1).c;have O3:=aa ho3;have HB3:=aa hb3;clear ho3 hb3))
    all_goals
     go_wp2_with fail
     go_meet
     case rel=>exact⟨rfl,fin10.o _ _ _ O3.o HB3.o⟩
   ·simp only[Value.slice.injEq]at hks;obtain⟨rfl,-,rfl⟩:=hks;clear Mb;unfold maxLen at hc2;have j3:(at_:Int)<=(c1:Int):=by omega
    have j4:(t.keys.length:Int)<=(c1:Int):=by omega
    obtain⟨s1,s2⟩:=qG KK.o.2.2.2.1 at_ at_ (MG _) hia (by omega);obtain⟨a3,hifs⟩:∃ a3,(if c1=at_ then (some ⟨kb,ko,none⟩:Option Addr) else some ⟨kb,ko+at_,none⟩)=a3:=⟨_,rfl⟩
    rw[Nat.mul_one,hifs]at s2;have con:Ll (∀ W,W.heap=((w2.alloc (.cells #[.string ⟨key.toArray⟩] 9)).alloc (.cells #[.slice (some ⟨kb,ko,none⟩) at_ c1,.slice (some ⟨w2.heap.size,0,none⟩) 1 1,.slice a3 (t.keys.length - at_) (c1 - at_)] 22)).heap->W.os=w2.os->W.tape=w2.tape->W.output=w2.output ->
     Calls prog 127 #[.slice (some ⟨w2.heap.size+1,0,none⟩) 3 3] W fun e w'=>∃ g cap,e=.returned (.slice (some ⟨g,0,none⟩) (t.keys.length+1) cap)/\w'.ownsRow w2.heap.size 9 1 (.slice (some ⟨g,0,none⟩) (t.keys.length+1) cap) (t.keys.length+1) ((t.keys.take at_).map aR++[.string ⟨key.toArray⟩]++(t.keys.drop at_).map aR)/\La w2 w'):=by
     intro W e1 e2 e4 e5;exact Jg ⟨key.toArray⟩ (s1.bel B2.o) (s2.bel B2.o) (by omega) (by omega) W e1 e2 e4 e5
    clear s1 s2;go_region_with ((go_at_call 127;refine(con.o _ (by rfl) (by rfl) (by rfl) (by rfl)).mono ?_;rintro e w3 ⟨g,cap,rfl,ho3,hb3⟩;obtain⟨p0,p1,p2,p3,p4,-,-,-,p9,p10⟩:=(af hb3 bx2.o.1).c;have O3:=aa ho3;have HB3:=aa hb3;clear ho3 hb3))
    all_goals
     go_wp2_with fail
     go_meet
     case rel=>exact⟨rfl,fin10.o _ _ _ O3.o HB3.o⟩
  case rest=>
   obtain⟨rfl,gk,kcap,hm1,hm2,hm3,hm4,hm5,hm6⟩:=hcut;have M:Ll (ag wc w.heap.size (.int .i64 t.kind) (.int .i64 t.n) (.string ⟨t.s.toArray⟩) (.slice (some ⟨gk,0,none⟩) (t.keys.length+1) kcap) (.slice a2 t.l.length c2)/\ag wc (w.heap.size+1) (.int .i64 x.kind) (.int .i64 x.n) (.string ⟨x.s.toArray⟩) (.slice a7 x.keys.length c7) (.slice a8 x.l.length c8)/\ag wc (w.heap.size+2) (.int .i64 0) (.int .i64 0) (.string ⟨#[]⟩) (.slice none 0 0) (.slice none 0 0)/\wc.ownsRow w2.heap.size 9 1 (.slice (some ⟨gk,0,none⟩) (t.keys.length+1) kcap) (t.keys.length+1) ((t.keys.take at_).map aR++[aR key]++(t.keys.drop at_).map aR)/\La w wc/\w2.heap.size<=wc.heap.size):=⟨hm1,hm2,hm3,hm4,hm5,hm6⟩
   clear hm1 hm2 hm3 hm4 hm5 fin10;obtain⟨p0,p1,p2,p3,p4,-,-,-,p9,p10⟩:=M.o.1.c;obtain⟨q0,q1,q2,q3,q4,-⟩:=M.o.2.1.c;have k4:∀ o,(wc.alloc o).cell? ⟨w.heap.size,4,none⟩=some (.slice a2 t.l.length c2):=fun o=>(af (ae wc o) M.o.1).c.2.2.2.2.1;have m0:∀ o,(wc.alloc o).cell? ⟨w.heap.size+1,0,none⟩=some (.int .i64 x.kind):=fun o=>(af (ae wc o) M.o.2.1).c.1;have m1:∀ o,(wc.alloc o).cell? ⟨w.heap.size+1,1,none⟩=some (.int .i64 x.n):=fun o=>(af (ae wc o) M.o.2.1).c.2.1;have m2:∀ o,(wc.alloc o).cell? ⟨w.heap.size+1,2,none⟩=some (.string ⟨x.s.toArray⟩):=fun o=>(af (ae wc o) M.o.2.1).c.2.2.1;have m3:∀ o,(wc.alloc o).cell? ⟨w.heap.size+1,3,none⟩=some (.slice a7 x.keys.length c7):=fun o=>(af (ae wc o) M.o.2.1).c.2.2.2.1;have m4:∀ o,(wc.alloc o).cell? ⟨w.heap.size+1,4,none⟩=some (.slice a8 x.l.length c8):=fun o=>(af (ae wc o) M.o.2.1).c.2.2.2.2.1;have hrows:∃ cs1 cs2 v1 v3,cA (bu w ok d) (t.l.take at_) cs1/\cA (bu w ok d) (t.l.drop at_) cs2/\du w 5 v1 at_ cs1/\du w 5 v3 (t.l.length - at_) cs2/\(c2=0/\t.l.length=0/\v1=.slice a2 0 0/\v3=.slice a2 t.l.length 0\/∃ b off,a2=some ⟨b,off,none⟩/\t.l.length<=c2/\c2<=maxLen/\v1=.slice (some ⟨b,off,none⟩) at_ c2/\v3=.slice (if c2=at_ then some ⟨b,off,none⟩ else some ⟨b,off+at_ * 5,none⟩) (t.l.length - at_) (c2 - at_)):=by
    obtain⟨_,K5⟩:=KK.o.2.2.2.2;rcases K5 with⟨e,e2⟩ | ⟨b,off,c,hls,hc1,hc2,Mb⟩
    ·obtain⟨a0,e2⟩:=e2;simp only[Value.slice.injEq]at e2;obtain⟨-,e3,e6⟩:=e2;subst e6;have e4:at_=0:=by omega
     refine⟨[],[],_,_,?_,?_,?_,?_,.inl ⟨rfl,e3,rfl,rfl⟩⟩
     ·rw[e,List.take_nil];rfl
     ·rw[e,List.drop_nil];rfl
     ·rw[e4];exact mi w 5 a2
     ·rw[e3,e4];exact mi w 5 a2
    ·simp only[Value.slice.injEq]at hls;obtain⟨rfl,-,rfl⟩:=hls;obtain⟨cs1,cs2,r1,s1,r2,s2⟩:=km KK.o.2.2.2.2 at_ at_ (MG _) (by omega) (by omega);exact⟨cs1,cs2,_,_,r1,r2,s1,s2,.inr ⟨b,off,rfl,hc1,hc2,rfl,rfl⟩⟩
   obtain⟨cs1,cs2,v1,v3,r1,r2,s1,s3,hcase⟩:=hrows;have con:Ll (∀ W,W.heap=((wc.alloc (.cells #[.int .i64 x.kind,.int .i64 x.n,.string ⟨x.s.toArray⟩,.slice a7 x.keys.length c7,.slice a8 x.l.length c8] 25)).alloc (.cells #[v1,.slice (some ⟨wc.heap.size,0,none⟩) 1 1,v3] 23)).heap->W.os=wc.os->W.tape=wc.tape->W.output=wc.output ->
    Calls prog 126 #[.slice (some ⟨wc.heap.size+1,0,none⟩) 3 3] W fun e w'=>∃ g cap,e=.returned (.slice (some ⟨g,0,none⟩) (t.l.length+1) cap)/\w'.ownsRow wc.heap.size 25 5 (.slice (some ⟨g,0,none⟩) (t.l.length+1) cap) (t.l.length+1) (cs1++[.int .i64 x.kind,.int .i64 x.n,.string ⟨x.s.toArray⟩,.slice a7 x.keys.length c7,.slice a8 x.l.length c8]++cs2)/\La wc w'):=by
    intro W e1 e2 e4 e5;exact EJ _ _ _ _ _ _ _ _ _ (s1.bel M.o.2.2.2.2.1) (s3.bel M.o.2.2.2.2.1) (by omega) (by omega) W e1 e2 e4 e5
   have fin:Ll (∀ w3 g cap,w3.ownsRow wc.heap.size 25 5 (.slice (some ⟨g,0,none⟩) (t.l.length+1) cap) (t.l.length+1) (cs1++[.int .i64 x.kind,.int .i64 x.n,.string ⟨x.s.toArray⟩,.slice a7 x.keys.length c7,.slice a8 x.l.length c8]++cs2)->La wc w3 ->
    bu (ar (w3.setCell ⟨w.heap.size,4,none⟩ (.slice (some ⟨g,0,none⟩) (t.l.length+1) cap)) (w.heap.size+2) (.int .i64 t.kind) (.int .i64 t.n) (.string ⟨t.s.toArray⟩) (.slice (some ⟨gk,0,none⟩) (t.keys.length+1) kcap) (.slice (some ⟨g,0,none⟩) (t.l.length+1) cap)) (bQ ok w.heap.size) (d+1) { t with keys:=t.keys.take at_++key :: t.keys.drop at_,l:=t.l.take at_++x :: t.l.drop at_ } (.agg #[.int .i64 t.kind,.int .i64 t.n,.string ⟨t.s.toArray⟩,.slice (some ⟨gk,0,none⟩) (t.keys.length+1) kcap,.slice (some ⟨g,0,none⟩) (t.l.length+1) cap]) /\
    La w (ar (w3.setCell ⟨w.heap.size,4,none⟩ (.slice (some ⟨g,0,none⟩) (t.l.length+1) cap)) (w.heap.size+2) (.int .i64 t.kind) (.int .i64 t.n) (.string ⟨t.s.toArray⟩) (.slice (some ⟨gk,0,none⟩) (t.keys.length+1) kcap) (.slice (some ⟨g,0,none⟩) (t.l.length+1) cap))/\ag (ar (w3.setCell ⟨w.heap.size,4,none⟩ (.slice (some ⟨g,0,none⟩) (t.l.length+1) cap)) (w.heap.size+2) (.int .i64 t.kind) (.int .i64 t.n) (.string ⟨t.s.toArray⟩) (.slice (some ⟨gk,0,none⟩) (t.keys.length+1) kcap) (.slice (some ⟨g,0,none⟩) (t.l.length+1) cap)) (w.heap.size+2) (.int .i64 t.kind) (.int .i64 t.n) (.string ⟨t.s.toArray⟩) (.slice (some ⟨gk,0,none⟩) (t.keys.length+1) kcap) (.slice (some ⟨g,0,none⟩) (t.l.length+1) cap)):=by
    intro w3 g cap ho hb;have g1:w3.grownBy (w3.setCell ⟨w.heap.size,4,none⟩ (.slice (some ⟨g,0,none⟩) (t.l.length+1) cap)) (some w.heap.size):=ap (az _ _) _ _;have g2:=aI (w3.setCell ⟨w.heap.size,4,none⟩ (.slice (some ⟨g,0,none⟩) (t.l.length+1) cap)) (w.heap.size+2) (.int .i64 t.kind) (.int .i64 t.n) (.string ⟨t.s.toArray⟩) (.slice (some ⟨gk,0,none⟩) (t.keys.length+1) kcap) (.slice (some ⟨g,0,none⟩) (t.l.length+1) cap);have LU:=((af hb M.o.2.2.1).grown g1 (by simp)).set (.int .i64 t.kind) (.int .i64 t.n) (.string ⟨t.s.toArray⟩) (.slice (some ⟨gk,0,none⟩) (t.keys.length+1) kcap) (.slice (some ⟨g,0,none⟩) (t.l.length+1) cap);have hbw:La w w3:=ab M.o.2.2.2.2.1 hb;have hb9:La w (ar (w3.setCell ⟨w.heap.size,4,none⟩ (.slice (some ⟨g,0,none⟩) (t.l.length+1) cap)) (w.heap.size+2) (.int .i64 t.kind) (.int .i64 t.n) (.string ⟨t.s.toArray⟩) (.slice (some ⟨gk,0,none⟩) (t.keys.length+1) kcap) (.slice (some ⟨g,0,none⟩) (t.l.length+1) cap)):=bS (eD (bi (aq hbw) (MG _) _ _) (by omega) _ _ _ _ _);have hsz3:w.heap.size+2 < w2.heap.size:=hsz2;refine⟨⟨_,_,rfl,KK.o.1,KK.o.2.1,KK.o.2.2.1,?_,?_⟩,hb9,LU⟩
    ·have hk3:=aW (aW (fD M.o.2.2.2.1 hb) g1 (by omega)) g2 (by omega);have LT:t.keys.length+1=(t.keys.take at_++key :: t.keys.drop at_).length:=by simp;omega
     refine kf (B:=w2.heap.size) LT ?_ ?_ (fun k hk=>.inr (by omega)) (by rw[<-LT];unfold maxLen;omega)
     ·have e9:(t.keys.take at_++key :: t.keys.drop at_).map aR=(t.keys.take at_).map aR++[aR key]++(t.keys.drop at_).map aR:=by simp
      rw[e9];exact hk3
     ·intro y hy;simp only[List.mem_append,List.mem_cons]at hy;rcases hy with hy | rfl | hy
      ·exact KK.o.2.2.2.1.mem y (List.mem_of_mem_take hy)
      ·exact hkey
      ·exact KK.o.2.2.2.1.mem y (List.mem_of_mem_drop hy)
    ·have ho9:=aW (aW ho g1 (by omega)) g2 (by omega);have LT:t.l.length+1=(t.l.take at_++x :: t.l.drop at_).length:=by simp;omega
     refine fJ LT ho9 ?_ (fun k hk=>.inr (by omega)) (by rw[<-LT];unfold maxLen;omega);have rx:cA (bu _ (bQ ok w.heap.size) d) [x] [.int .i64 x.kind,.int .i64 x.n,.string ⟨x.s.toArray⟩,.slice a7 x.keys.length c7,.slice a8 x.l.length c8]:=⟨_,_,_,_,_,[],rfl,(HX.o.bel hb9).toN,rfl⟩
     have:=((r2.bel (B:=w.heap.size) hb9).append rx).append (r1.bel (B:=w.heap.size) hb9);rw[List.append_assoc];exact this
   clear r1 r2 s1 s3;have hfinish:Ll True:=trivial;rcases hcase with⟨rfl,e3,rfl,rfl⟩ | ⟨b,off,rfl,hc1,hc2,rfl,hv3⟩
   ·have j6:(t.l.length:Int)<=0:=by omega
    have E3:=aa e3;have e7:at_=0:=by omega
    clear e3;subst e7;go_upto_region 11 with fail
    go_region_with ((go_at_call 126;refine(con.o _ (by rfl) (by rfl) (by rfl) (by rfl)).mono ?_;rintro e w3 ⟨g,cap,rfl,ho3,hb3⟩;obtain⟨p0,p1,p2,p3,p4,-,-,-,p9,p10⟩:=(af hb3 M.o.1).c;have x0_:=(af hb3 M.o.2.2.1).c;have O3:=aa ho3;have HB3:=aa hb3;clear ho3 hb3))
    all_goals
     go_wp2_with fail
     obtain⟨f1,f2,f3⟩:=fin.o _ g cap O3.o HB3.o;have z0_:=f3.c;refine MM (v:=.agg #[.int .i64 t.kind,.int .i64 t.n,.string ⟨t.s.toArray⟩,.slice (some ⟨gk,0,none⟩) (t.keys.length+1) kcap,.slice (some ⟨g,0,none⟩) (t.l.length+1) cap]) ?_ rfl ?_
     ·simp only[ar]at z0_;simp[results,results87,go_sem,z0_]
     ·rw[HAT.o];exact⟨_,rfl,f1,f2⟩
   ·obtain⟨a3,hifs⟩:∃ a3,(if c2=at_ then (some ⟨b,off,none⟩:Option Addr) else some ⟨b,off+at_ * 5,none⟩)=a3:=⟨_,rfl⟩
    rw[hifs]at hv3;subst hv3;unfold maxLen at hc2;have j5:(at_:Int)<=(c2:Int):=by omega
    have j6:(t.l.length:Int)<=(c2:Int):=by omega
    go_upto_region 11 with fail
    go_region_with ((go_at_call 126;refine(con.o _ (by rfl) (by rfl) (by rfl) (by rfl)).mono ?_;rintro e w3 ⟨g,cap,rfl,ho3,hb3⟩;obtain⟨p0,p1,p2,p3,p4,-,-,-,p9,p10⟩:=(af hb3 M.o.1).c;have x0_:=(af hb3 M.o.2.2.1).c;have O3:=aa ho3;have HB3:=aa hb3;clear ho3 hb3))
    all_goals
     go_wp2_with fail
     obtain⟨f1,f2,f3⟩:=fin.o _ g cap O3.o HB3.o;have z0_:=f3.c;refine MM (v:=.agg #[.int .i64 t.kind,.int .i64 t.n,.string ⟨t.s.toArray⟩,.slice (some ⟨gk,0,none⟩) (t.keys.length+1) kcap,.slice (some ⟨g,0,none⟩) (t.l.length+1) cap]) ?_ rfl ?_
     ·simp only[ar]at z0_;simp[results,results87,go_sem,z0_]
     ·have hat:=HAT.o;subst hat;exact⟨_,rfl,f1,f2⟩
end
theorem ut:vW:=by
 intro w ok d t x v xv key h hx hp L9 hkey;have hk:dO t key=TN key t.keys:=by simp[dO,hp]
 cases hf:dO t key with
 | some i=>
  have e:aG t key x={ t with l:=t.l.take i++x :: t.l.drop (i+1) }:=by
   unfold aG;rw[if_pos hp,<-hk,hf]
  rw[e];exact yX w ok d t x v xv key i h hx hf L9
 | none=>
  have e:aG t key x={ t with keys:=t.keys.take (em key t.keys)++key :: t.keys.drop (em key t.keys),l:=t.l.take (em key t.keys)++x :: t.l.drop (em key t.keys) }:=by
   unfold aG;rw[if_pos hp,<-hk,hf];rfl
  rw[e];exact ER w ok d t x v xv key h hx hf hp L9 hkey
section
attribute [local go_sem ↓] Go.wp_at_zero Go.wp_at_succ
theorem pK{w2 v1 v3 n1 n3 N cs1 cs3}(s1:du w2 1 v1 n1 cs1)(s3:du w2 1 v3 n3 cs3)(hN:n1+n3=N)(hn:N<=1000000)(W)(e1:W.heap=(w2.alloc (.cells #[v1,v3] 22)).heap)(e2:W.os=w2.os)(e3:W.tape=w2.tape)(e4:W.output=w2.output):Calls prog 127 #[.slice (some ⟨w2.heap.size,0,none⟩) 2 2] W fun e w'=>∃ a cap,e=.returned (.slice a N cap)/\w'.ownsRow w2.heap.size 9 1 (.slice a N cap) N (cs1++cs3)/\La w2 w':=by
 have LY:La w2 W:=by
  have:=ae w2 (.cells #[v1,v3] 22);exact⟨e2,e3,e4,by rw[e1];exact this.size,fun k hk=>by rw[e1];exact this.block k hk⟩
 have hb:=MN w2 (.cells #[v1,v3] 22);rw[<-e1]at hb;refine(At W w2.heap.size 0 2 [⟨v1,n1,cs1⟩,⟨v3,n3,cs3⟩] ?_ (by simp[dl];omega) (by simp) (by simp)).mono ?_
 ·intro i p hp;match i,hp with
  | 0,hp=>simp at hp;subst hp;exact⟨by simp[World.cell?,hb],s1.bel LY⟩
  | 1,hp=>simp at hp;subst hp;exact⟨by simp[World.cell?,hb],s3.bel LY⟩
 rintro e w' ⟨v,rfl,ho,hb9⟩;have q1:dl [⟨v1,n1,cs1⟩,⟨v3,n3,cs3⟩]=N:=by simp[dl];omega
 have q2:fQ [⟨v1,n1,cs1⟩,⟨v3,n3,cs3⟩]=cs1++cs3:=by simp[fQ]
 rw[q1,q2]at ho;have ho':=TP ho LY.size;rcases ho'.2 with⟨e,h0⟩ | ⟨g,cap,cur,e,rest⟩
 ·subst e;subst h0;exact⟨none,0,rfl,ho',ab LY hb9⟩
 ·subst e;exact⟨_,cap,rfl,ho',ab LY hb9⟩
theorem nB{w2 v1 v3 n1 n3 N cs1 cs3}(s1:du w2 5 v1 n1 cs1)(s3:du w2 5 v3 n3 cs3)(hN:n1+n3=N)(hn:N<=1000000)(W)(e1:W.heap=(w2.alloc (.cells #[v1,v3] 23)).heap)(e2:W.os=w2.os)(e3:W.tape=w2.tape)(e4:W.output=w2.output):Calls prog 126 #[.slice (some ⟨w2.heap.size,0,none⟩) 2 2] W fun e w'=>∃ a cap,e=.returned (.slice a N cap)/\w'.ownsRow w2.heap.size 25 5 (.slice a N cap) N (cs1++cs3)/\La w2 w':=by
 have LY:La w2 W:=by
  have:=ae w2 (.cells #[v1,v3] 23);exact⟨e2,e3,e4,by rw[e1];exact this.size,fun k hk=>by rw[e1];exact this.block k hk⟩
 have hb:=MN w2 (.cells #[v1,v3] 23);rw[<-e1]at hb;refine(Av W w2.heap.size 0 2 [⟨v1,n1,cs1⟩,⟨v3,n3,cs3⟩] ?_ (by simp[dl];omega) (by simp) (by simp)).mono ?_
 ·intro i p hp;match i,hp with
  | 0,hp=>simp at hp;subst hp;exact⟨by simp[World.cell?,hb],s1.bel LY⟩
  | 1,hp=>simp at hp;subst hp;exact⟨by simp[World.cell?,hb],s3.bel LY⟩
 rintro e w' ⟨v,rfl,ho,hb9⟩;have q1:dl [⟨v1,n1,cs1⟩,⟨v3,n3,cs3⟩]=N:=by simp[dl];omega
 have q2:fQ [⟨v1,n1,cs1⟩,⟨v3,n3,cs3⟩]=cs1++cs3:=by simp[fQ]
 rw[q1,q2]at ho;have ho':=TP ho LY.size;rcases ho'.2 with⟨e,h0⟩ | ⟨g,cap,cur,e,rest⟩
 ·subst e;subst h0;exact⟨none,0,rfl,ho',ab LY hb9⟩
 ·subst e;exact⟨_,cap,rfl,ho',ab LY hb9⟩
def Ty (w w2:LC) (t:V) (i:Nat) (a2:Option Addr) (c2:Nat) (wc:LC):Prop:=
 ∃ a9 c9,ag wc w.heap.size (.int .i64 t.kind) (.int .i64 t.n) (.string ⟨t.s.toArray⟩) (.slice a9 (t.keys.length - 1) c9) (.slice a2 t.l.length c2) /\
  ag wc (w.heap.size+1) (.int .i64 0) (.int .i64 0) (.string ⟨#[]⟩) (.slice none 0 0) (.slice none 0 0) /\
  wc.ownsRow w2.heap.size 9 1 (.slice a9 (t.keys.length - 1) c9) (t.keys.length - 1) ((t.keys.take i).map aR++(t.keys.drop (i+1)).map aR) /\
  La w wc/\w2.heap.size<=wc.heap.size
theorem tY(w ok d t v key)(h:bu w ok (d+1) t v)(hf:dO t key=none):Calls prog 92 #[v,aR key] w fun e w'=>∃ r,e=.returned r/\bu w' (bQ ok w.heap.size) (d+1) t r/\La w w':=by
 have H:=aa h;obtain⟨ks,ls,rfl,h1,h2,h3,h4,h5⟩:=h;obtain⟨a1,c1,rfl⟩:=h4.form;obtain⟨a2,c2,rfl⟩:=h5.form;have l1:=h4.1;have l2:=h5.1;have F:=aa hf;clear hf;unfold maxLen at l1 h3 l2;unfold aR;clear h4 h5 h1 h2;go_enter func92,ntmps92;go_wp2_with fail
 refine Lk (kJ _ ok _ t _ key (by exact H.o.bel (ab (ae _ _) (ae _ _)))) fun w2 hb2=>?_;rw[F.o];have bx2:Ll (ag w2 w.heap.size (.int .i64 t.kind) (.int .i64 t.n) (.string ⟨t.s.toArray⟩) (.slice a1 t.keys.length c1) (.slice a2 t.l.length c2)/\ag w2 (w.heap.size+1) (.int .i64 0) (.int .i64 0) (.string ⟨#[]⟩) (.slice none 0 0) (.slice none 0 0)):=⟨af hb2 (fb w _ _),af hb2 (et w _ _)⟩
 have B2:Ll (La w w2):=ab (ab (ae _ _) (ae _ _)) hb2;clear hb2;unfold pS;have p0_:=bx2.o.1.c;have x0_:=bx2.o.2.c;obtain⟨z0,z1,z2,z3,z4,-⟩:=(bx2.o.2.set (.int .i64 t.kind) (.int .i64 t.n) (.string ⟨t.s.toArray⟩) (.slice a1 t.keys.length c1) (.slice a2 t.l.length c2)).c;have Z:Ll (_/\_/\_/\_/\_):=⟨z0,z1,z2,z3,z4⟩
 go_wp2_with fail
 obtain⟨z0,z1,z2,z3,z4⟩:=Z.o;refine MM (v:=.agg #[.int .i64 t.kind,.int .i64 t.n,.string ⟨t.s.toArray⟩,.slice a1 t.keys.length c1,.slice a2 t.l.length c2]) ?_ rfl ?_
 ·simp only[ar]at z0 z1 z2 z3 z4;simp[results,results92,go_sem,z0,z1,z2,z3,z4]
 ·have hb9:=bS (eD (aq (r:=none) B2.o) (Nat.le_succ w.heap.size) (.int .i64 t.kind) (.int .i64 t.n) (.string ⟨t.s.toArray⟩) (.slice a1 t.keys.length c1) (.slice a2 t.l.length c2));exact⟨_,rfl,(H.o.bel hb9).toN,hb9⟩
theorem rk(w ok d t v key i)(h:bu w ok (d+1) t v)(hf:dO t key=some i)(L9:t.l.length<=100000):Calls prog 92 #[v,aR key] w fun e w'=>∃ r,e=.returned r/\bu w' (bQ ok w.heap.size) (d+1) { t with keys:=t.keys.take i++t.keys.drop (i+1),l:=t.l.take i++t.l.drop (i+1) } r/\La w w':=by
 have H:=aa h;obtain⟨ks,ls,rfl,h1,h2,h3,h4,h5⟩:=h;have KK:Ll (dW t.kind/\dW t.n/\t.s.length<=maxLen/\ao w ok t.keys ks/\cS w ok (bu w ok d) t.l ls):=⟨h1,h2,h3,h4,h5⟩
 obtain⟨f1,f2,f3,f4⟩:=fW hf;have hkl:t.keys.length=t.l.length:=by
  simp only[aK,MJ,decide_eq_true_eq]at f1;exact f1.2
 have F:=aa hf;have hkl1:t.keys.length<=t.l.length:=by omega
 have hkl2:t.l.length<=t.keys.length:=by omega
 clear hf f1 f2 f4 hkl;obtain⟨_,K4⟩:=h4;rcases K4 with⟨e,_⟩ | ⟨kb,ko,c1,hks,kc1,kc2,-⟩
 ·have:t.keys.length=0:=by rw[e];rfl
  omega
 subst hks;obtain⟨_,K5⟩:=h5;rcases K5 with⟨e,_⟩ | ⟨b,off,c2,hls,hc1,hc2,-⟩
 ·rw[e]at f3;simp at f3
 subst hls;unfold maxLen at h3 hc2 kc2;unfold aR;clear h1 h2;have hsz2:t.keys.length<=100000:=by omega
 have hik:i < t.keys.length:=by omega
 go_enter func92,ntmps92;go_wp2_with fail
 refine Lk (kJ _ ok _ t _ key (by exact H.o.bel (ab (ae _ _) (ae _ _)))) fun w2 hb2=>?_;rw[F.o];have bx2:Ll (ag w2 w.heap.size (.int .i64 t.kind) (.int .i64 t.n) (.string ⟨t.s.toArray⟩) (.slice (some ⟨kb,ko,none⟩) t.keys.length c1) (.slice (some ⟨b,off,none⟩) t.l.length c2)/\ag w2 (w.heap.size+1) (.int .i64 0) (.int .i64 0) (.string ⟨#[]⟩) (.slice none 0 0) (.slice none 0 0)):=⟨af hb2 (fb w _ _),af hb2 (et w _ _)⟩
 have B2:Ll (La w w2):=ab (ab (ae _ _) (ae _ _)) hb2;have hsz3:w.heap.size+1 < w2.heap.size:=bx2.o.2.lt;clear hb2;unfold pS;obtain⟨p0,p1,p2,p3,p4,-,-,-,p9,p10⟩:=bx2.o.1.c;have i0:0<=(i:Int):=by omega
 have i1:(i:Int)<=(c1:Int):=by omega
 have i2:(i:Int)+1<=(t.keys.length:Int):=by omega
 have i3:(t.keys.length:Int)<=(c1:Int):=by omega
 have hw1:IntKind.i64.wrap ((i:Int)+1)=(i:Int)+1:=by rw[IntKind.wrap_i64];omega
 have i4:(0:Int)<=(i:Int)+1:=by omega
 have j1:(i:Int)<=(c2:Int):=by omega
 have j2:(i:Int)+1<=(t.l.length:Int):=by omega
 have j3:(t.l.length:Int)<=(c2:Int):=by omega
 have fin10:Ll (∀ w3 a9 cap,w3.ownsRow w2.heap.size 9 1 (.slice a9 (t.keys.length - 1) cap) (t.keys.length - 1) ((t.keys.take i).map aR++(t.keys.drop (i+1)).map aR)->La w2 w3 ->
  Ty w w2 t i (some ⟨b,off,none⟩) c2 (w3.setCell ⟨w.heap.size,3,none⟩ (.slice a9 (t.keys.length - 1) cap))):=by
  intro w3 a9 cap ho hb;have g1:w3.grownBy (w3.setCell ⟨w.heap.size,3,none⟩ (.slice a9 (t.keys.length - 1) cap)) (some w.heap.size):=ap (az _ _) _ _;refine⟨a9,cap,xx (af hb bx2.o.1) _,(af hb bx2.o.2).grown g1 (by simp),aW ho g1 (by omega),?_,MH hb.size g1.size⟩;exact bS (bi (aq (ab B2.o hb)) (MG _) _ _)
 go_upto_region 4 with fail
 go_cut [5] (fun j wc'=>j=.int .i64 (i:Nat)/\Ty w w2 t i (some ⟨b,off,none⟩) c2 wc')
 case first=>
  have k3:∀ o,(w2.alloc o).cell? ⟨w.heap.size,3,none⟩=some (.slice (some ⟨kb,ko,none⟩) t.keys.length c1):=fun o=>(af (ae w2 o) bx2.o.1).c.2.2.2.1;obtain⟨s1,s2⟩:=qG KK.o.2.2.2.1 i (i+1) (by omega) hik (by omega);obtain⟨a3,hifs⟩:∃ a3,(if c1=i+1 then (some ⟨kb,ko,none⟩:Option Addr) else some ⟨kb,ko+(i+1),none⟩)=a3:=⟨_,rfl⟩
  rw[Nat.mul_one,hifs]at s2;have con:Ll (∀ W,W.heap=(w2.alloc (.cells #[.slice (some ⟨kb,ko,none⟩) i c1,.slice a3 (t.keys.length - (i+1)) (c1 - (i+1))] 22)).heap->W.os=w2.os->W.tape=w2.tape->W.output=w2.output ->
   Calls prog 127 #[.slice (some ⟨w2.heap.size,0,none⟩) 2 2] W fun e w'=>∃ a9 cap,e=.returned (.slice a9 (t.keys.length - 1) cap)/\w'.ownsRow w2.heap.size 9 1 (.slice a9 (t.keys.length - 1) cap) (t.keys.length - 1) ((t.keys.take i).map aR++(t.keys.drop (i+1)).map aR)/\La w2 w'):=by
   intro W e1 e2 e4 e5;exact pK (s1.bel B2.o) (s2.bel B2.o) (by omega) (by omega) W e1 e2 e4 e5
  clear s1 s2;go_region_with ((go_at_call 127;refine(con.o _ (by rfl) (by rfl) (by rfl) (by rfl)).mono ?_;rintro e w3 ⟨a9,cap,rfl,ho3,hb3⟩;obtain⟨p0,p1,p2,p3,p4,-,-,-,p9,p10⟩:=(af hb3 bx2.o.1).c;have O3:=aa ho3;have HB3:=aa hb3;clear ho3 hb3))
  all_goals
   go_wp2_with fail
   go_meet
   case rel=>exact⟨rfl,fin10.o _ _ _ O3.o HB3.o⟩
 case rest=>
  obtain⟨rfl,a9,kcap,hm1,hm2,hm3,hm4,hm5⟩:=hcut;have M:Ll (ag wc w.heap.size (.int .i64 t.kind) (.int .i64 t.n) (.string ⟨t.s.toArray⟩) (.slice a9 (t.keys.length - 1) kcap) (.slice (some ⟨b,off,none⟩) t.l.length c2)/\ag wc (w.heap.size+1) (.int .i64 0) (.int .i64 0) (.string ⟨#[]⟩) (.slice none 0 0) (.slice none 0 0)/\wc.ownsRow w2.heap.size 9 1 (.slice a9 (t.keys.length - 1) kcap) (t.keys.length - 1) ((t.keys.take i).map aR++(t.keys.drop (i+1)).map aR)/\La w wc/\w2.heap.size<=wc.heap.size):=⟨hm1,hm2,hm3,hm4,hm5⟩
  clear hm1 hm2 hm3 hm4 fin10;obtain⟨p0,p1,p2,p3,p4,-,-,-,p9,p10⟩:=M.o.1.c;have k4:∀ o,(wc.alloc o).cell? ⟨w.heap.size,4,none⟩=some (.slice (some ⟨b,off,none⟩) t.l.length c2):=fun o=>(af (ae wc o) M.o.1).c.2.2.2.2.1;obtain⟨cs1,cs2,r1,s1,r2,s2⟩:=km KK.o.2.2.2.2 i (i+1) (by omega) f3 (by omega);obtain⟨a3,hifs⟩:∃ a3,(if c2=i+1 then (some ⟨b,off,none⟩:Option Addr) else some ⟨b,off+(i+1) * 5,none⟩)=a3:=⟨_,rfl⟩
  rw[hifs]at s2;have con:Ll (∀ W,W.heap=(wc.alloc (.cells #[.slice (some ⟨b,off,none⟩) i c2,.slice a3 (t.l.length - (i+1)) (c2 - (i+1))] 23)).heap->W.os=wc.os->W.tape=wc.tape->W.output=wc.output ->
   Calls prog 126 #[.slice (some ⟨wc.heap.size,0,none⟩) 2 2] W fun e w'=>∃ a8 cap,e=.returned (.slice a8 (t.l.length - 1) cap)/\w'.ownsRow wc.heap.size 25 5 (.slice a8 (t.l.length - 1) cap) (t.l.length - 1) (cs1++cs2)/\La wc w'):=by
   intro W e1 e2 e4 e5;exact nB (s1.bel M.o.2.2.2.1) (s2.bel M.o.2.2.2.1) (by omega) (by omega) W e1 e2 e4 e5
  have fin:Ll (∀ w3 a8 cap,w3.ownsRow wc.heap.size 25 5 (.slice a8 (t.l.length - 1) cap) (t.l.length - 1) (cs1++cs2)->La wc w3 ->
   bu (ar (w3.setCell ⟨w.heap.size,4,none⟩ (.slice a8 (t.l.length - 1) cap)) (w.heap.size+1) (.int .i64 t.kind) (.int .i64 t.n) (.string ⟨t.s.toArray⟩) (.slice a9 (t.keys.length - 1) kcap) (.slice a8 (t.l.length - 1) cap)) (bQ ok w.heap.size) (d+1) { t with keys:=t.keys.take i++t.keys.drop (i+1),l:=t.l.take i++t.l.drop (i+1) } (.agg #[.int .i64 t.kind,.int .i64 t.n,.string ⟨t.s.toArray⟩,.slice a9 (t.keys.length - 1) kcap,.slice a8 (t.l.length - 1) cap]) /\
   La w (ar (w3.setCell ⟨w.heap.size,4,none⟩ (.slice a8 (t.l.length - 1) cap)) (w.heap.size+1) (.int .i64 t.kind) (.int .i64 t.n) (.string ⟨t.s.toArray⟩) (.slice a9 (t.keys.length - 1) kcap) (.slice a8 (t.l.length - 1) cap))/\ag (ar (w3.setCell ⟨w.heap.size,4,none⟩ (.slice a8 (t.l.length - 1) cap)) (w.heap.size+1) (.int .i64 t.kind) (.int .i64 t.n) (.string ⟨t.s.toArray⟩) (.slice a9 (t.keys.length - 1) kcap) (.slice a8 (t.l.length - 1) cap)) (w.heap.size+1) (.int .i64 t.kind) (.int .i64 t.n) (.string ⟨t.s.toArray⟩) (.slice a9 (t.keys.length - 1) kcap) (.slice a8 (t.l.length - 1) cap)):=by
   intro w3 a8 cap ho hb;have g1:w3.grownBy (w3.setCell ⟨w.heap.size,4,none⟩ (.slice a8 (t.l.length - 1) cap)) (some w.heap.size):=ap (az _ _) _ _;have g2:=aI (w3.setCell ⟨w.heap.size,4,none⟩ (.slice a8 (t.l.length - 1) cap)) (w.heap.size+1) (.int .i64 t.kind) (.int .i64 t.n) (.string ⟨t.s.toArray⟩) (.slice a9 (t.keys.length - 1) kcap) (.slice a8 (t.l.length - 1) cap);have LU:=((af hb M.o.2.1).grown g1 (by simp)).set (.int .i64 t.kind) (.int .i64 t.n) (.string ⟨t.s.toArray⟩) (.slice a9 (t.keys.length - 1) kcap) (.slice a8 (t.l.length - 1) cap);have hbw:La w w3:=ab M.o.2.2.2.1 hb;have hb9:La w (ar (w3.setCell ⟨w.heap.size,4,none⟩ (.slice a8 (t.l.length - 1) cap)) (w.heap.size+1) (.int .i64 t.kind) (.int .i64 t.n) (.string ⟨t.s.toArray⟩) (.slice a9 (t.keys.length - 1) kcap) (.slice a8 (t.l.length - 1) cap)):=bS (eD (bi (aq hbw) (MG _) _ _) (by omega) _ _ _ _ _);refine⟨⟨_,_,by simp only[Mx,MC,MB];congr 5 <;> omega,KK.o.1,KK.o.2.1,KK.o.2.2.1,?_,?_⟩,hb9,LU⟩
   ·have hk3:=aW (aW (fD M.o.2.2.1 hb) g1 (by omega)) g2 (by omega);have LT:t.keys.length - 1=(t.keys.take i++t.keys.drop (i+1)).length:=by simp;omega
    refine kf (B:=w2.heap.size) LT ?_ ?_ (fun k hk=>.inr (by omega)) (by rw[<-LT];unfold maxLen;omega)
    ·rw[List.map_append];exact hk3
    ·intro y hy;simp only[List.mem_append]at hy;rcases hy with hy | hy
     ·exact KK.o.2.2.2.1.mem y (List.mem_of_mem_take hy)
     ·exact KK.o.2.2.2.1.mem y (List.mem_of_mem_drop hy)
   ·have ho9:=aW (aW ho g1 (by omega)) g2 (by omega);have LT:t.l.length - 1=(t.l.take i++t.l.drop (i+1)).length:=by simp;omega
    refine fJ LT ho9 ?_ (fun k hk=>.inr (by omega)) (by rw[<-LT];unfold maxLen;omega);exact(r2.bel (B:=w.heap.size) hb9).append (r1.bel (B:=w.heap.size) hb9)
  clear r1 r2 s1 s2;go_upto_region 5 with fail
  go_region_with ((go_at_call 126;refine(con.o _ (by rfl) (by rfl) (by rfl) (by rfl)).mono ?_;rintro e w3 ⟨a8,cap,rfl,ho3,hb3⟩;obtain⟨p0,p1,p2,p3,p4,-,-,-,p9,p10⟩:=(af hb3 M.o.1).c;have x0_:=(af hb3 M.o.2.1).c;have O3:=aa ho3;have HB3:=aa hb3;clear ho3 hb3))
  all_goals
   go_wp2_with fail
   obtain⟨f1,f2,f3⟩:=fin.o _ a8 cap O3.o HB3.o;have z0_:=f3.c;refine MM (v:=.agg #[.int .i64 t.kind,.int .i64 t.n,.string ⟨t.s.toArray⟩,.slice a9 (t.keys.length - 1) kcap,.slice a8 (t.l.length - 1) cap]) ?_ rfl ?_
   ·simp only[ar]at z0_;simp[results,results92,go_sem,z0_]
   ·exact⟨_,rfl,f1,f2⟩
theorem ui(w ok d t v key)(h:bu w ok (d+1) t v)(L9:t.l.length<=100000):Calls prog 92 #[v,aR key] w fun e w'=>∃ r,e=.returned r/\bu w' (bQ ok w.heap.size) (d+1) (bH t key) r/\La w w':=by
 unfold bH;cases hf:dO t key with
 | none=>exact tY w ok d t v key h hf
 | some i=>exact rk w ok d t v key i h hf L9
end
theorem gf(w ok t x v xv key)(h:In w ok t v)(hx:In w ok x xv)(hp:aK t=true)(hl:t.l.length<=100000)(hk:key.length<=9223372036854775807):Calls prog 87 #[v,aR key,xv] w fun e w'=>∃ r,e=.returned r/\In w' (bQ ok w.heap.size) (aG t key x) r/\La w w':=by
 obtain⟨d,h1,h2⟩:=h.two hx;refine(ut w ok d t x v xv key h1 h2 hp hl hk).mono ?_;rintro e w' ⟨r,rfl,hr,hb⟩;exact⟨r,rfl,hr.is,hb⟩
theorem jD(w ok t v key)(h:In w ok t v)(hl:t.l.length<=100000):Calls prog 92 #[v,aR key] w fun e w'=>∃ r,e=.returned r/\In w' (bQ ok w.heap.size) (bH t key) r/\La w w':=by
 obtain⟨d,h⟩:=h.at;refine(ui w ok d t v key h hl).mono ?_;rintro e w' ⟨r,rfl,hr,hb⟩;exact⟨r,rfl,hr.is,hb⟩
theorem kM(w:LC)(ok ok' xs ys v1 v2)(h1:ao w ok xs v1)(h2:ao w ok' ys v2):Calls prog 106 #[v1,v2] w fun e w'=>e=.returned (.bool (decide (xs=ys)))/\La w w':=by
 have hm:=h2.1;unfold maxLen at hm;have hm1:=h1.1;unfold maxLen at hm1;obtain⟨a2,c2,e2⟩:=h2.form;rcases h1.2 with⟨rfl,a,rfl⟩ | ⟨b,off,c,rfl,g1,g2,g3⟩
 ·rw[e2];refine LE (Tryz.slices_Equal_string_empty a a2 0 ys.length c2 w hm) ?_;refine⟨?_,MK _ _⟩;congr 2
  cases ys <;> simp
 ·by_cases hl:xs.length=ys.length
  ·rcases h2.2 with⟨rfl,a,e⟩ | ⟨b2,off2,c3,e,f1,f2,f3⟩
   ·have hx:xs=[]:=List.eq_nil_of_length_eq_zero (by simpa using hl);subst hx;rw[e2];refine LE (Tryz.slices_Equal_string_empty _ a2 c 0 c2 w (by omega)) ?_;exact⟨by simp,MK _ _⟩
   ·subst e;refine(Tryz.slices_Equal_string b off xs.length c b2 off2 ys.length c3 (xs.map fun l=>(⟨l.toArray⟩:ByteArray)) (ys.map fun l=>(⟨l.toArray⟩:ByteArray)) w (by simp) (by simp) hm1 hm ?_ ?_).mono ?_
    ·intro j hj;have hj':j < xs.length:=by simpa using hj
     rw[(g3 j xs[j] (Mw hj')).2.2];simp[aR,hj']
    ·intro j hj;have hj':j < ys.length:=by simpa using hj
     rw[(f3 j ys[j] (Mw hj')).2.2];simp[aR,hj']
    ·rintro e w' ⟨rfl,q,rfl⟩;refine⟨?_,⟨rfl,rfl,rfl,MG _,fun _ _=>rfl⟩⟩;congr 2
     rw[MD (by simp),MD (by simp)];have inj:∀ (a b:List Lz),(a.map fun l=>(⟨l.toArray⟩:ByteArray))=(b.map fun l=>(⟨l.toArray⟩:ByteArray))↔a=b:=by
      intro a;induction a with
      | nil=>intro b;cases b <;> simp
      | cons x a ih=>
       intro b;cases b with
       | nil=>simp
       | cons y b=>simp[ih b]
     exact decide_eq_decide.2 (inj xs ys)
  ·rw[e2];refine LE (Tryz.slices_Equal_string_lens _ a2 xs.length c ys.length c2 w hl) ?_;refine⟨?_,MK _ _⟩;congr 2
   have:¬xs=ys:=fun e=>hl (by rw[e]);simp[this]
def eB (a b:V):Bool:=decide (a.kind=b.kind)&&decide (a.n=b.n)&&decide (a.s=b.s)&&decide (a.keys=b.keys)&&decide (a.l.length=b.l.length)
theorem ET(w:LC)(ok ok' a b va vb)(ha:In w ok a va)(hb:In w ok' b vb):Calls prog 75 #[va,vb] w fun e w'=>e=.returned (.bool (eB a b))/\La w w':=by
 obtain⟨l1,l2,l3⟩:=ha.lens;obtain⟨m1,m2,m3⟩:=hb.lens;obtain⟨d1,ha⟩:=ha.at;obtain⟨d2,hb⟩:=hb.at;obtain⟨ks,ls,rfl,-,-,-,h4,h5⟩:=ha;obtain⟨ks',ls',rfl,-,-,-,g4,g5⟩:=hb;have H4:=aa h4;have G4:=aa g4;obtain⟨a1,c1,rfl⟩:=h4.form;obtain⟨a2,c2,rfl⟩:=h5.form;obtain⟨a3,c3,rfl⟩:=g4.form;obtain⟨a4,c4,rfl⟩:=g5.form;clear h4 h5 g4 g5;unfold aR;have B2:Ll (∀ o1 o2,La w ((w.alloc o1).alloc o2)):=fun o1 o2=>ab (ae _ _) (ae _ _);by_cases e1:a.kind=b.kind
 ·have q1:(a.kind == b.kind)=true:=by rw[beq_iff_eq];exact e1
  by_cases e2:a.n=b.n
  ·have q2:(a.n == b.n)=true:=by rw[beq_iff_eq];exact e2
   by_cases e3:a.s=b.s
   ·have q3:(a.s == b.s)=true:=by rw[beq_iff_eq];exact e3
    have HE:Ll (eB a b=(decide (a.keys=b.keys)&&decide (a.l.length=b.l.length))):=aa (by simp[eB,e1,e2,e3]);clear e1 e2 e3;cases hk:decide (a.keys=b.keys) with
    | true=>
     by_cases hl:a.l.length=b.l.length
     ·have q4:((a.l.length:Int) == (b.l.length:Int))=true:=by rw[hl];simp
      have HR:Ll (eB a b=true):=aa (by rw[HE.o,hk];simp[hl]);have HK:=aa hk;clear hk hl;go_enter func75,ntmps75;go_wp2_with fail
      refine Lk (kM _ _ _ a.keys b.keys _ _ (by exact H4.o.bel (B2.o _ _)) (by exact G4.o.bel (B2.o _ _))) fun w1 hb1=>?_;rw[HK.o];have p4:=(af hb1 (fb w _ _)).c.2.2.2.2.1;have r4:=(af hb1 (et w _ _)).c.2.2.2.2.1;have HB:=aa (ab (B2.o _ _) hb1);clear hb1;go_wp2_with fail
      go_ret;exact⟨by rw[HR.o];rfl,HB.o⟩
     ·have q4:((a.l.length:Int) == (b.l.length:Int))=false:=by rw[MO];omega
      have HR:Ll (eB a b=false):=aa (by rw[HE.o,hk];simp[hl]);have HK:=aa hk;clear hk hl;go_enter func75,ntmps75;go_wp2_with fail
      refine Lk (kM _ _ _ a.keys b.keys _ _ (by exact H4.o.bel (B2.o _ _)) (by exact G4.o.bel (B2.o _ _))) fun w1 hb1=>?_;rw[HK.o];have p4:=(af hb1 (fb w _ _)).c.2.2.2.2.1;have r4:=(af hb1 (et w _ _)).c.2.2.2.2.1;have HB:=aa (ab (B2.o _ _) hb1);clear hb1;go_wp2_with fail
      go_ret;exact⟨by rw[HR.o];rfl,HB.o⟩
    | false=>
     have HR:Ll (eB a b=false):=aa (by rw[HE.o,hk];rfl);have HK:=aa hk;clear hk;go_enter func75,ntmps75;go_wp2_with fail
     refine Lk (kM _ _ _ a.keys b.keys _ _ (by exact H4.o.bel (B2.o _ _)) (by exact G4.o.bel (B2.o _ _))) fun w1 hb1=>?_;rw[HK.o];have HB:=aa (ab (B2.o _ _) hb1);clear hb1;go_wp2_with fail
     go_ret;exact⟨by rw[HR.o];rfl,HB.o⟩
   ·have q3:(a.s == b.s)=false:=by rw[MO];exact e3
    have HR:Ll (eB a b=false):=aa (by simp[eB,e3]);clear e1 e2 e3;go_enter func75,ntmps75;go_wp2_with fail
    go_ret;exact⟨by rw[HR.o];rfl,B2.o _ _⟩
  ·have q2:(a.n == b.n)=false:=by rw[MO];exact e2
   have HR:Ll (eB a b=false):=aa (by simp[eB,e2]);clear e1 e2;go_enter func75,ntmps75;go_wp2_with fail
   go_ret;exact⟨by rw[HR.o];rfl,B2.o _ _⟩
 ·have q1:(a.kind == b.kind)=false:=by rw[MO];exact e1
  have HR:Ll (eB a b=false):=aa (by simp[eB,e1]);clear e1;go_enter func75,ntmps75;go_wp2_with fail
  go_ret;exact⟨by rw[HR.o];rfl,B2.o _ _⟩
variable {t y:V}
variable {c:Nat}
theorem gN(a b):cnts (a++b)=cnts a+cnts b:=by simp[cnts]
theorem ii(l i):cnts l=cnts (l.take i)+cnts (l.drop i):=by rw[<-gN,List.take_append_drop]
theorem su{k}:bN (aG t k y)+(match aS t k with | some z=>bN z | none=>0)<=bN t+bN y:=by
 rw[df,df t];unfold aG;split
 ·rename_i hp;unfold aS;split
  ·rename_i i hf;rw[show dO t k=some i by simp[dO,hp,hf],Option.bind_some];simp only;rw[gN,er];cases hz:t.l[i]? with
   | none=>
    have h1:=ii t.l i;have h2:t.l.drop (i+1)=[]:=List.drop_eq_nil_of_le (by have:=List.getElem?_eq_none_iff.1 hz;omega);simp only[h2,qf];omega
   | some z=>
    obtain⟨hi,rfl⟩:=Mz.1 hz;have h1:=ii t.l i;rw[iV hi]at h1;simp only;omega
  ·rename_i hf;rw[show dO t k=none by simp[dO,hp,hf]];simp only[Option.bind_none];rw[gN,er];have h1:=ii t.l (qW k t.keys);omega
 ·rename_i hp;have:aS t k=none:=by simp[aS,dO,hp]
  rw[this];have:=df y;simp only;omega
theorem lN(t k):bN (bH t k)<=bN t:=by
 rw[df,df t];unfold bH;split
 ·rename_i i hf;simp only;rw[gN];have h1:=ii t.l i;have h2:=ii (t.l.drop i) 1;rw[List.drop_drop]at h2;omega
 ·omega
theorem rO(t):bN (cD t)<=bN t:=by
 unfold cD;split
 ·exact MG _
 ·have:=df t;have h2:bN jM=1:=by rw[df];simp[jM,cnts]
  omega
theorem uY:∀ (ns:List Lz) (v x:V),bN (TF ns v x)<=bN v+ns.length+bN x
 | [],v,x=>by unfold TF;split <;> simp <;> omega
 | n :: ns,v,x=>by
  unfold TF;have h1:=su (t:=cD v) (k:=n) (y:=TF ns ((aS v n).getD aM) x);have h2:=uY ns ((aS v n).getD aM) x;have h3:=rO v;rw[kC]at h1;have hz:bN aM=1:=by rw[df];simp[aM,cnts]
  cases hm:aS v n with
  | none=>rw[hm]at h1 h2;simp only[Option.getD_none]at h1 h2 ⊢;rw[hz]at h2;simp only[My];omega
  | some z=>rw[hm]at h1 h2;simp only[Option.getD_some]at h1 h2 ⊢;simp only[My];omega
theorem He{v z n}(h:aS v n=some z):bN z < bN v:=by
 have h1:=pC (lG h);have h2:=df v;omega
theorem Ab(v n):bN ((aS v n).getD aM)<=bN v:=by
 cases h:aS v n with
 | none=>
  have hz:bN aM=1:=by rw[df];simp[aM,cnts]
  have:=df v;rw[Option.getD_none];omega
 | some z=>have:=He h;rw[Option.getD_some];omega
theorem zP:∀ (ns:List Lz) (v:V),(∃ y,dr ns v=some y)->bN (gI ns v)<=bN v
 | [],v,_=>MG _
 | [n],v,_=>lN v n
 | n :: m :: ns,v,⟨y,hy⟩=>by
  obtain⟨-,z,hm,hz⟩:=gB hy;unfold gI;rw[hm,Option.getD_some];have h2:=zP (m :: ns) z ⟨y,hz⟩;split
  ·exact lN v n
  ·have h1:=su (t:=v) (k:=n) (y:=gI (m :: ns) z);rw[hm]at h1;simp only at h1;omega
theorem zT(t):t.l.length < bN t:=by
 have h1:=uF t.l;have h2:=df t;omega
theorem cY{w1:LC}{C v0 v1 v2 v3 v4}(h:In w1 (bg ok w.heap.size C) t (.agg #[v0,v1,v2,v3,v4]))(hb:La w w1)(hg:w.heap.size<=g)(hC:g < C):La w (ar w1 g v0 v1 v2 v3 v4)/\In (ar w1 g v0 v1 v2 v3 v4) (bQ ok w.heap.size) t (.agg #[v0,v1,v2,v3,v4]):=
 ⟨aP hb hg _ _ _ _ _,(h.box hg hC _ _ _ _ _).weak (ik (by omega))⟩
theorem gt{s ns b off}(h:ao w ok (s :: ns) (.slice (some ⟨b,off,none⟩) n c)):ao w ok ns (.slice (some ⟨b,off+1,none⟩) ns.length (c - 1)):=by
 have hl:=h.1;simp only[My]at hl;refine⟨by omega,.inr ⟨b,off+1,c - 1,rfl,?_⟩⟩;rcases h.2 with⟨e,_⟩ | ⟨b',off',c',e,h1,h2,Mb⟩
 ·cases e
 ·simp only[Value.slice.injEq,Option.some.injEq,Addr.mk.injEq,My,and_true]at e h1;obtain⟨⟨rfl,rfl⟩,-,rfl⟩:=e;refine⟨by omega,by omega,fun i x hx=>?_⟩;obtain⟨g1,g2,g3⟩:=Mb (i+1) x (by simpa using hx);exact⟨g1,g2,by rw[show off+1+i=off+(i+1) by omega];exact g3⟩
theorem qm{s ns}(h:ao w ok (s :: ns) v):∃ b off c,v=.slice (some ⟨b,off,none⟩) (s :: ns).length c/\(s :: ns).length<=c/\c<=9223372036854775807/\w.cell? ⟨b,off,none⟩=some (.string ⟨s.toArray⟩)/\s.length<=9223372036854775807:=by
 rcases h.2 with⟨e,_⟩ | ⟨b,off,c,e,h1,h2,Mb⟩
 ·cases e
 ·obtain⟨g1,g2,g3⟩:=Mb 0 s rfl;exact⟨b,off,c,e,h1,h2,g3,g1⟩
variable {W wr:World}
variable {d:Nat}
theorem Sb{cs:List Value}{nb:Nat}{k m:Int}{ss:ByteArray}{a7 a8:Option Addr}{l7 c7 l8 c8:Nat}(ho:W.ownsRow B 25 5 v n cs)(hnb:W.heap[nb]?=some (.cells #[.int .i64 k,.int .i64 m,.string ss,.slice a7 l7 c7,.slice a8 l8 c8] 25))(hn:n<=1000000)(hB:B<=W.heap.size)(ty:TypeId):∃ g cap W',(Builtin.append_ #[23,23] ty #[v,.slice (some ⟨nb,0,none⟩) 1 1]).run prog W=.ok (.slice (some ⟨g,0,none⟩) (n+1) cap) W'/\W'.ownsRow B 25 5 (.slice (some ⟨g,0,none⟩) (n+1) cap) (n+1) (cs++[.int .i64 k,.int .i64 m,.string ss,.slice a7 l7 c7,.slice a8 l8 c8])/\W.grownBy W' v.ownBlock/\(v.ownBlock=some g\/W.heap.size=g):=by
 obtain⟨i0,hi,hz0,hz1,hz2⟩:=info_parts ye;obtain⟨g,cap,W',hr,h1,h2,h3,-⟩:=run_append_lies (P:=prog) W 23 ty B 25 i0 _ 5 80 underlying23 hi hz0 hz1 hz2 rfl (by decide) v n cs ho ⟨nb,0,none⟩ 1 1 [.int .i64 k,.int .i64 m,.string ss,.slice a7 l7 c7,.slice a8 l8 c8] rfl
  (World.news_of_block (cs:=#[.int .i64 k,.int .i64 m,.string ss,.slice a7 l7 c7,.slice a8 l8 c8]) hnb) (Ji _ _ _ _ _ _ _ _ _) (by decide) (by unfold maxLen;omega) (by omega) hB W.heap.size rfl
 exact⟨g,cap,W',hr,h1,h2,h3.imp id Eq.symm⟩
theorem m8{ops:Array Oper}{o:Oper}{a:Act}{K:Act->LC->Prop}{Q:Exit->Act->LC->Prop}{E:Prop}(hgd:o.guard=none)(s x:Operand)(t:TypeId)(ho:o.op=.call { callee:=.builtin .append,args:=#[s,x],argTypes:=#[t,t] })(v u:Value)(hs:a.eval s=v)(hx:a.eval x=u)(R:Value->LC->Prop)(hr:∀ ty,∃ v' w',(Builtin.append_ #[t,t] ty #[v,u]).run prog w=.ok v' w'/\R v' w')(hK:∀ v' w',R v' w'->K (a.put o.dst v') w'):if Region.wanted o (yielded ops a.tmps)=true then Oper.wp prog o a w K Q else E:=by
 have hw:Region.wanted o (yielded ops a.tmps)=true:=by simp[Region.wanted,hgd]
 rw[if_pos hw];obtain⟨v',w',h1,h2⟩:=hr o.type;unfold Oper.wp execOp;simp only[ho,resolve,invoke,builtin,Sem.run_bind,Sem.run_pure,Result.andThen_ok,List.map_toArray,List.map_cons,List.map_nil,hs,hx,h1];exact hK v' w' h2
def OE (w:LC) (ok:Nat->Prop) (B d:Nat) (ks:List Lz) (l:List V) (kv lv:Value) (wr:LC):Prop:=
 ∃ cs,wr.ownsRow B 9 1 kv ks.length (ks.map aR)/\wr.ownsRow B 25 5 lv l.length cs/\cA (bu wr (Lj ok w) d) l cs/\(∀ g,kv.ownBlock=some g->lv.ownBlock≠some g)/\La w wr/\w.heap.size<=B
theorem OE.bel{wr':LC}{ks:List Lz}{l:List V}{kv lv:Value}(h:OE w ok B d ks l kv lv wr)(hb:La wr wr'):OE w ok B d ks l kv lv wr':=by
 obtain⟨cs,h1,h2,h3,h4,h5,h6⟩:=h;exact⟨cs,fD h1 hb,fD h2 hb,h3.imp fun _ _ h=>h.bel hb,h4,ab h5 hb,h6⟩
theorem OE.key{ks:List Lz}{l:List V}{kv lv:Value}(h:OE w ok B d ks l kv lv W){nb:Nat}{k:Lz}(hnb:W.heap[nb]?=some (.cells #[.string ⟨k.toArray⟩] 9))(hn:ks.length<=1000000)(hB:B<=W.heap.size)(ty:TypeId):∃ v' W',(Builtin.append_ #[22,22] ty #[kv,.slice (some ⟨nb,0,none⟩) 1 1]).run prog W=.ok v' W'/\OE w ok B d (ks++[k]) l v' lv W'/\W.grownBy W' kv.ownBlock/\∃ g cap,v'=.slice (some ⟨g,0,none⟩) (ks.length+1) cap:=by
 obtain⟨cs,h1,h2,h3,h4,h5,h6⟩:=h;obtain⟨g,cap,W',hr,ho,hg,hor⟩:=C7 h1 hnb hn hB ty;have low:∀ g',kv.ownBlock=some g'->w.heap.size<=g':=fun g' e=>MH h6 (h1.lt g' e).1;refine⟨_,W',hr,⟨cs,by simpa [aR] using ho,h2.kept hg ?_,h3.imp fun _ _ h=>h.grown hg (fun j hj e=>by have:=low j e.symm;have:=hj.2;omega),?_,Jv h5 hg low,h6⟩,hg,g,cap,rfl⟩
 ·cases hl:lv.ownBlock with
  | none=>exact .inl rfl
  | some g'=>exact .inr fun e=>h4 g' e.symm hl
 ·intro g' e hl;simp only[Value.ownBlock,Option.some.injEq]at e;subst e;rcases hor with h0 | h0
  ·exact h4 _ h0 hl
  ·have:=(h2.lt _ hl).2;omega
theorem OE.item{ks:List Lz}{l:List V}{kv lv:Value}(h:OE w ok B d ks l kv lv W){nb:Nat}{a7 a8:Option Addr}{c7 c8:Nat}(hnb:W.heap[nb]?=some (.cells #[.int .i64 y.kind,.int .i64 y.n,.string ⟨y.s.toArray⟩,.slice a7 y.keys.length c7,.slice a8 y.l.length c8] 25))(hy:bu W (Lj ok w) d y (.agg #[.int .i64 y.kind,.int .i64 y.n,.string ⟨y.s.toArray⟩,.slice a7 y.keys.length c7,.slice a8 y.l.length c8]))(hn:l.length<=1000000)(hB:B<=W.heap.size)(ty:TypeId):∃ v' W',(Builtin.append_ #[23,23] ty #[lv,.slice (some ⟨nb,0,none⟩) 1 1]).run prog W=.ok v' W'/\OE w ok B d ks (l++[y]) kv v' W'/\W.grownBy W' lv.ownBlock/\∃ g cap,v'=.slice (some ⟨g,0,none⟩) (l.length+1) cap:=by
 obtain⟨cs,h1,h2,h3,h4,h5,h6⟩:=h;obtain⟨g,cap,W',hr,ho,hg,hor⟩:=Sb h2 hnb hn hB ty;have low:∀ g',lv.ownBlock=some g'->w.heap.size<=g':=fun g' e=>MH h6 (h2.lt g' e).1;have conv:∀ x v,bu W (Lj ok w) d x v->bu W' (Lj ok w) d x v:=fun x v h=>h.grown hg (fun j hj e=>by have:=low j e.symm;have:=hj.2;omega)
 have rx:cA (bu W' (Lj ok w) d) [y] [.int .i64 y.kind,.int .i64 y.n,.string ⟨y.s.toArray⟩,.slice a7 y.keys.length c7,.slice a8 y.l.length c8]:=⟨_,_,_,_,_,[],rfl,conv _ _ hy,rfl⟩
 refine⟨_,W',hr,⟨_,h1.kept hg ?_,by simpa using ho,rx.append (h3.imp conv),?_,Jv h5 hg low,h6⟩,hg,g,cap,rfl⟩
 ·cases hl:kv.ownBlock with
  | none=>exact .inl rfl
  | some g'=>exact .inr fun e=>h4 g' hl e.symm
 ·intro g' e hl;simp only[Value.ownBlock,Option.some.injEq]at hl;subst hl;rcases hor with h0 | h0
  ·exact h4 _ e h0
  ·have:=(h1.lt _ e).2;omega
def SP (w:LC) (p:Lz) (k:Nat) (now:Lz) (l:List Lz) (lv:Value) (wr:LC):Prop:=
 wr.ownsRow w.heap.size 9 1 lv l.length (l.map aR)/\La w wr/\now.length<=2 * k/\l.length<=k/\(∀ x∈l,x.length<=2 * k)/\mb (p.drop k) now l=mb (p.drop 1) [] []
theorem SP.form{p now:Lz}{l:List Lz}{lv:Value}(h:SP w p k now l lv wr):∃ a c,lv=.slice a l.length c:=by
 rcases h.1.2 with⟨h1,h2⟩ | ⟨g,cap,cur,h1,-⟩
 ·exact⟨none,0,by rw[h1,h2]⟩
 ·exact⟨_,_,h1⟩
theorem SP.next{p now now':Lz}{j:Nat}{l:List Lz}{lv:Value}(h:SP w p k now l lv wr)(hj:k<=j)(hn:now'.length<=2 * j)(hs:mb (p.drop j) now' l=mb (p.drop k) now l):SP w p j now' l lv wr:=
 ⟨h.1,h.2.1,hn,by have:=h.2.2.2.1;omega,fun x hx=>by have:=h.2.2.2.2.1 x hx;omega,hs.trans h.2.2.2.2.2⟩
theorem SP.push{W':LC}{p now:Lz}{cap:Nat}{l:List Lz}{lv:Value}(h:SP w p k now l lv wr)(ho:W'.ownsRow w.heap.size 9 1 (.slice (some ⟨g,0,none⟩) (l.length+1) cap) (l.length+1) (l.map aR++[.string ⟨now.toArray⟩]))(hg:(wr.alloc (.cells #[.string ⟨now.toArray⟩] 9)).grownBy W' lv.ownBlock):W'.ownsRow w.heap.size 9 1 (.slice (some ⟨g,0,none⟩) (l++[now]).length cap) (l++[now]).length ((l++[now]).map aR)/\La w W':=by
 refine⟨by simpa [aR] using ho,?_⟩;refine Jv (ab h.2.1 (ae _ _)) hg fun g' e=>?_;have:=h.1.lt g' e;omega
theorem se(a:Lz)(c:UInt8):ByteArray.mk a.toArray++ByteArray.mk #[c]=ByteArray.mk (a++[c]).toArray:=by
 have h:(ByteArray.mk a.toArray++ByteArray.mk #[c]).data.toList=a++[c]:=by simp[ByteArray.data_append]
 have e:(ByteArray.mk a.toArray++ByteArray.mk #[c]).data=(a++[c]).toArray:=by rw[<-Array.toList_inj,h]
 cases hx:ByteArray.mk a.toArray++ByteArray.mk #[c] with
 | mk d=>rw[hx]at e;simp only at e;rw[e]
theorem EM(p:Lz)(k:Nat)(h:k < p.length):(ByteArray.mk p.toArray).extract k (k+1)=ByteArray.mk #[p[k]]:=by
 have e:((ByteArray.mk p.toArray).extract k (k+1)).data=#[p[k]]:=by
  rw[ByteArray.data_extract];rw[<-Array.toList_inj];simp only[Array.toList_extract,List.extract_eq_take_drop,Nat.add_sub_cancel_left];rw[ME h];rfl
 cases hx:(ByteArray.mk p.toArray).extract k (k+1) with
 | mk d=>rw[hx]at e;simp only at e;rw[e]
theorem Rd(w:LC)(c:UInt8)(r:Lz)(hc:c=47)(hp:(c :: r).length<=2000):Calls prog 44 #[aR (c :: r)] w fun e w'=>∃ v,e=.returned (.tuple #[v,.int .i64 (ax (c :: r)).2])/\La w w'/\ao w' (fun k=>w.heap.size<=k) (ax (c :: r)).1 v:=by
 have HSP:Ll (ax (c :: r)=match mb r [] [] with | none=>([],1) | some l=>(l,0)):=aa (by
  rw[Sg];unfold ax;simp only;rw[hc,dZ 47 r (by decide)];cases hw:br r with
  | true=>rw[if_neg (by simp only[My]at hp ⊢;simp;omega)];simp
  | false=>rw[if_pos (by simp)];simp)
 obtain⟨p,hpd⟩:∃ p,c :: r=p:=⟨_,rfl⟩
 have HR1:Ll (p.drop 1=r):=aa (by rw[<-hpd];rfl);have hne:p.isEmpty=false:=by rw[<-hpd];rfl
 have hlen0:0 < p.length:=by rw[<-hpd];simp
 have hz:p[0]=47:=by simp only[<-hpd];exact hc
 rw[hpd]at hp HSP ⊢;have HP:=aa hpd;clear hpd hc;unfold aR;have L9:0 < (ByteArray.mk p.toArray).size:=by rw[eS];exact hlen0
 have hget:(ByteArray.mk p.toArray)[0]=p[0]:=rfl;have n1:((p[0].toNat:Int) != 47)=false:=by rw[hz];rfl
 have q1:((p[0].toNat:Int) == 47)=true:=by rw[hz];rfl
 have hbyte:(p[0].toNat:Int) < 256:=by have:=p[0].toNat_lt;omega
 have e0:¬(2000 < (p.length:Int)):=by omega
 clear hz;go_enter func44,ntmps44;go_wp2
 clear n1 q1 hget hbyte e0;go_loopg [4,5,6] (p.length - 1) (fun gk lv nv iv wr=>∃ (k:Nat) (now:Lz) (l:List Lz) (a:Option Addr) (c:Nat),1<=k/\k<=p.length/\gk=p.length - k/\lv=.slice a l.length c/\nv=.string ⟨now.toArray⟩/\iv=.int .i64 k/\SP w p k now l (.slice a l.length c) wr)
 case atStart=>exact⟨1,[],[],none,0,MG _,hlen0,rfl,rfl,rfl,rfl,World.ownsRow_nil _ _ _ _,MK _ _,by simp,by simp,by simp,rfl⟩
 case round=>
  obtain⟨k,now,l,a,c',h1k,hk,hgk,rfl,rfl,rfl,hI⟩:=hrel;have GK:=aa hgk;have I:=aa hI;have hnow:now.length<=4000:=by have:=hI.2.2.1;omega
  have hll:l.length<=2000:=by have:=hI.2.2.2.1;omega
  clear hgk hI;by_cases hlt:k < p.length
  ·have hb:(p[k].toNat:Int) < 256:=by have:=p[k].toNat_lt;omega
   have hszk:k < (ByteArray.mk p.toArray).size:=by rw[eS];exact hlt
   have hgetk:(ByteArray.mk p.toArray)[k]=p[k]:=rfl;have HDR:Ll (p.drop k=p[k] :: p.drop (k+1)):=ME hlt;have w1:(0:Int)<=(k:Int):=by omega
   have w2:(k:Int) < (p.length:Int):=by omega
   by_cases h47:p[k]=47
   ·have m1:((p[k].toNat:Int) != 47)=false:=by rw[h47];rfl
    have m2:((p[k].toNat:Int) == 47)=true:=by rw[h47];rfl
    obtain⟨g,cap,W',hR,ho,hg,-⟩:=C7 (W:=wr.alloc (.cells #[.string ⟨now.toArray⟩] 9)) (B:=w.heap.size) (v:=.slice a l.length c') (n:=l.length) (cs:=l.map aR) (nb:=wr.heap.size) (k:=⟨now.toArray⟩) (fD I.o.1 (ae _ _)) (MN _ _) (by omega) (MH I.o.2.1.size (ae wr _).size) 22;have HR:=aa hR;obtain⟨o1,o2⟩:=I.o.push ho hg;have FIN:Ll (SP w p (k+1) [] (l++[now]) (.slice (some ⟨g,0,none⟩) (l++[now]).length cap) W'):=aa ⟨o1,o2,by simp,by simp;have:=I.o.2.2.2.1;omega,by
     intro x hx;rcases List.mem_append.1 hx with h | h
     ·have:=I.o.2.2.2.2.1 x h;omega
     ·rw[List.mem_singleton]at h;have:=I.o.2.2.1;rw[h];omega,by rw[<-I.o.2.2.2.2.2,HDR.o,h47,tC]⟩
    clear h47 hR ho hg o1 o2;go_wp2_with (at_builtin;go_must (refine Lib.wpList_append_run _ rfl _ _ _ _ rfl (.slice a l.length c') (.slice (some ⟨wr.heap.size,0,none⟩) 1 1) rfl rfl _ _ HR.o ?_);refine Ll.o ?_)
    refine aa ?_;go_wp2
    go_roundg (p.length - (k+1))
    case measure=>rw[GK.o];omega
    case rel=>exact⟨k+1,[],l++[now],_,_,by omega,by omega,rfl,by simp,rfl,by go_num,FIN.o⟩
   ·have m0:p[k].toNat≠47:=fun e=>h47 (UInt8.toNat_inj.1 e);have m1:((p[k].toNat:Int) != 47)=true:=by simp only[bne_iff_ne,ne_eq];omega
    have m2:((p[k].toNat:Int) == 47)=false:=by rw[MO];omega
    clear m0;by_cases h126:p[k]=126
    ·have n1:((p[k].toNat:Int) != 126)=false:=by rw[h126];rfl
     have n2:((p[k].toNat:Int) == 126)=true:=by rw[h126];rfl
     by_cases hl2:k+1 < p.length
     ·have w3:(k:Int)+1 < (p.length:Int):=by omega
      have hszj:k+1 < (ByteArray.mk p.toArray).size:=by rw[eS];exact hl2
      have hgetj:(ByteArray.mk p.toArray)[k+1]=p[k+1]:=rfl;have HDR2:Ll (p.drop (k+1)=p[k+1] :: p.drop (k+1+1)):=ME hl2;have hbj:(p[k+1].toNat:Int) < 256:=by have:=p[k+1].toNat_lt;omega
      by_cases h48:p[k+1]=48
      ·have x1:((p[k+1].toNat:Int) != 48)=false:=by rw[h48];rfl
       have x2:((p[k+1].toNat:Int) == 48)=true:=by rw[h48];rfl
       have CAT:Ll (ByteArray.mk now.toArray++ByteArray.mk #[126]=ByteArray.mk (now++[126]).toArray):=se now 126;have FIN:Ll (SP w p (k+2) (now++[126]) l (.slice a l.length c') wr):=I.o.next (by omega) (by simp;have:=I.o.2.2.1;omega) (by rw[HDR.o,HDR2.o,h126,h48,Si]);clear h47 h126 h48;go_wp2
       go_roundg (p.length - (k+2))
       case measure=>rw[GK.o];omega
       case rel=>exact⟨k+2,now++[126],l,a,c',by omega,by omega,rfl,rfl,by rw[<-CAT.o],by go_num,FIN.o⟩
      ·have x0:p[k+1].toNat≠48:=fun e=>h48 (UInt8.toNat_inj.1 e);have x1:((p[k+1].toNat:Int) != 48)=true:=by simp only[bne_iff_ne,ne_eq];omega
       have x2:((p[k+1].toNat:Int) == 48)=false:=by rw[MO];omega
       clear x0;by_cases h49:p[k+1]=49
       ·have y1:((p[k+1].toNat:Int) != 49)=false:=by rw[h49];rfl
        have y2:((p[k+1].toNat:Int) == 49)=true:=by rw[h49];rfl
        have CAT:Ll (ByteArray.mk now.toArray++ByteArray.mk #[47]=ByteArray.mk (now++[47]).toArray):=se now 47;have FIN:Ll (SP w p (k+2) (now++[47]) l (.slice a l.length c') wr):=I.o.next (by omega) (by simp;have:=I.o.2.2.1;omega) (by rw[HDR.o,HDR2.o,h126,h49,Sq]);clear h47 h126 h48 h49;go_wp2
        go_roundg (p.length - (k+2))
        case measure=>rw[GK.o];omega
        case rel=>exact⟨k+2,now++[47],l,a,c',by omega,by omega,rfl,rfl,by rw[<-CAT.o],by go_num,FIN.o⟩
       ·have y0:p[k+1].toNat≠49:=fun e=>h49 (UInt8.toNat_inj.1 e);have y1:((p[k+1].toNat:Int) != 49)=true:=by simp only[bne_iff_ne,ne_eq];omega
        have y2:((p[k+1].toNat:Int) == 49)=false:=by rw[MO];omega
        clear y0;have BAD:Ll (ax p=([],1)):=aa (by rw[HSP.o,<-HR1.o,<-I.o.2.2.2.2.2,HDR.o,HDR2.o,h126,SQ h48 h49]);clear h47 h126 h48 h49;go_wp2
        refine MM (v:=.tuple #[.slice none 0 0,.int .i64 1]) (by simp[results,results44,go_sem] <;> rfl) rfl ?_;exact⟨_,by rw[BAD.o],I.o.2.1,by rw[BAD.o];exact⟨by simp[maxLen],.inl ⟨rfl,none,rfl⟩⟩⟩
     ·have Mc:k+1=p.length:=by omega
      have w3:¬(k:Int)+1 < (p.length:Int):=by omega
      have BAD:Ll (ax p=([],1)):=aa (by rw[HSP.o,<-HR1.o,<-I.o.2.2.2.2.2,HDR.o,h126,List.drop_eq_nil_of_le (by omega),Sj]);clear h47 h126 Mc;go_wp2
      refine MM (v:=.tuple #[.slice none 0 0,.int .i64 1]) (by simp[results,results44,go_sem] <;> rfl) rfl ?_;exact⟨_,by rw[BAD.o],I.o.2.1,by rw[BAD.o];exact⟨by simp[maxLen],.inl ⟨rfl,none,rfl⟩⟩⟩
    ·have n0:p[k].toNat≠126:=fun e=>h126 (UInt8.toNat_inj.1 e);have n1:((p[k].toNat:Int) != 126)=true:=by simp only[bne_iff_ne,ne_eq];omega
     have n2:((p[k].toNat:Int) == 126)=false:=by rw[MO];omega
     clear n0;have CAT:Ll (ByteArray.mk now.toArray++(ByteArray.mk p.toArray).extract k (k+1)=ByteArray.mk (now++[p[k]]).toArray):=aa (by rw[EM p k hlt,se]);have FIN:Ll (SP w p (k+1) (now++[p[k]]) l (.slice a l.length c') wr):=I.o.next (by omega) (by simp;have:=I.o.2.2.1;omega) (by rw[HDR.o,UK h47 h126]);have w4:(k:Int)<=(k:Int)+1:=by omega
     have w5:(k:Int)+1<=(p.length:Int):=by omega
     have w6:(k:Int)+1<=((ByteArray.mk p.toArray).size:Int):=by rw[eS];omega
     clear h47 h126;go_wp2
     go_roundg (p.length - (k+1))
     case measure=>rw[GK.o];omega
     case rel=>exact⟨k+1,now++[p[k]],l,a,c',by omega,by omega,rfl,rfl,by rw[<-CAT.o],by go_num,FIN.o⟩
  ·have Mc:k=p.length:=by omega
   have d1:¬(k:Int) < (p.length:Int):=by omega
   obtain⟨g,cap,W',hR,ho,hg,-⟩:=C7 (W:=wr.alloc (.cells #[.string ⟨now.toArray⟩] 9)) (B:=w.heap.size) (v:=.slice a l.length c') (n:=l.length) (cs:=l.map aR) (nb:=wr.heap.size) (k:=⟨now.toArray⟩) (fD I.o.1 (ae _ _)) (MN _ _) (by omega) (MH I.o.2.1.size (ae wr _).size) 22;have HR:=aa hR;obtain⟨o1,o2⟩:=I.o.push ho hg;have OK:Ll (ax p=(l++[now],0)):=aa (by rw[HSP.o,<-HR1.o,<-I.o.2.2.2.2.2,Mc,List.drop_length,ze]);have FIN:Ll (ao W' (fun k=>w.heap.size<=k) (l++[now]) (.slice (some ⟨g,0,none⟩) (l.length+1) cap)/\La w W'):=aa ⟨kf (n:=(l++[now]).length) rfl (by simpa using o1) (by
    intro x hx;unfold maxLen;rcases List.mem_append.1 hx with h | h
    ·have:=I.o.2.2.2.2.1 x h;omega
    ·rw[List.mem_singleton]at h;rw[h];omega) (fun _ h=>h) (by simp;unfold maxLen;omega),o2⟩
   clear Mc hR ho hg o1 o2;go_wp2_with (at_builtin;go_must (refine Lib.wpList_append_run _ rfl _ _ _ _ rfl (.slice a l.length c') (.slice (some ⟨wr.heap.size,0,none⟩) 1 1) rfl rfl _ _ HR.o ?_);refine Ll.o ?_)
   refine aa ?_;go_wp2
   refine MM (v:=.tuple #[.slice (some ⟨g,0,none⟩) (l.length+1) cap,.int .i64 0]) (by simp[results,results44,go_sem] <;> rfl) rfl ?_;exact⟨_,by rw[OK.o],FIN.o.2,by rw[OK.o];exact FIN.o.1⟩
theorem L2(w:LC)(c:UInt8)(r:Lz)(hl:r.length+1<=140737488351232)(hb:c≠47\/2000 < (c :: r).length):Calls prog 44 #[aR (c :: r)] w fun e w'=>e=.returned (.tuple #[.slice none 0 0,.int .i64 1])/\La w w':=by
 unfold aR;have hne:(ByteArray.mk (c :: r).toArray == ByteArray.mk #[])=false:=Aq (by simp);have L9:0 < (ByteArray.mk (c :: r).toArray).size:=by rw[eS];simp
 have hget:(ByteArray.mk (c :: r).toArray)[0]=c:=rfl;have hbyte:(c.toNat:Int) < 256:=by have:=c.toNat_lt;omega
 by_cases hc:c=47
 ·have n1:((c.toNat:Int) != 47)=false:=by rw[hc];rfl
  have q1:((c.toNat:Int) == 47)=true:=by rw[hc];rfl
  have e0:2000 < (r.length:Int)+1:=by
   rcases hb with h | h
   ·exact absurd hc h
   ·simp only[My]at h;omega
  clear hc hb;go_enter func44,ntmps44;go_wp2
  refine MM (v:=.tuple #[.slice none 0 0,.int .i64 1]) (by simp[results,results44,go_sem] <;> rfl) rfl ?_;exact⟨rfl,MK _ _⟩
 ·have n1:((c.toNat:Int) != 47)=true:=by
   have:c.toNat≠47:=fun e=>hc (UInt8.toNat_inj.1 e);simp only[bne_iff_ne,ne_eq];omega
  have q1:((c.toNat:Int) == 47)=false:=by
   have:c.toNat≠47:=fun e=>hc (UInt8.toNat_inj.1 e);rw[MO];omega
  clear hc hb;go_enter func44,ntmps44;go_wp2
  refine MM (v:=.tuple #[.slice none 0 0,.int .i64 1]) (by simp[results,results44,go_sem] <;> rfl) rfl ?_;exact⟨rfl,MK _ _⟩
theorem H5(w:LC):Calls prog 44 #[aR []] w fun e w'=>e=.returned (.tuple #[.slice none 0 0,.int .i64 0])/\La w w':=by
 unfold aR;go_enter func44,ntmps44;go_wp2
 refine MM (v:=.tuple #[.slice none 0 0,.int .i64 0]) (by simp[results,results44,go_sem] <;> rfl) rfl ?_;exact⟨rfl,MK _ _⟩
theorem we(w:LC)(p:Lz)(hp:p.length<=140737488351232):Calls prog 44 #[aR p] w fun e w'=>∃ v,e=.returned (.tuple #[v,.int .i64 (ax p).2])/\La w w'/\ao w' (fun k=>w.heap.size<=k) (ax p).1 v:=by
 cases p with
 | nil=>
  refine Lk (H5 w) fun w' hb=>?_;exact⟨_,rfl,hb,⟨by simp[maxLen,ax],.inl ⟨rfl,none,rfl⟩⟩⟩
 | cons c r=>
  by_cases h:c=47/\(c :: r).length<=2000
  ·exact Rd w c r h.1 h.2
  ·have hb:c≠47\/2000 < (c :: r).length:=by
    by_cases h1:c=47
    ·exact .inr (Nat.lt_of_not_le fun h2=>h ⟨h1,h2⟩)
    ·exact .inl h1
   have e:ax (c :: r)=([],1):=by
    unfold ax;simp only;rw[if_pos (by rcases hb with h | h;exact(by simp[h]);simp;exact .inr (.inl (by simpa using h)))]
   refine(L2 w c r (by simpa using hp) hb).mono ?_;rintro e' w' ⟨rfl,hb'⟩;exact⟨_,by rw[e],hb',by rw[e];exact⟨by simp[maxLen],.inl ⟨rfl,none,rfl⟩⟩⟩
theorem xe(w:LC)(s:Lz)(hs:s.length<=9223372036854775807):Calls prog 14 #[aR s] w fun e w'=>e=.returned (.bool (bT s))/\La w w':=by
 unfold aR;obtain⟨cap,W2,hcv,h1,h2,h3,h4⟩:=D0 w s hs;have HC:=aa h3;have HB:Ll (La w W2):=aa (by obtain⟨os,rfl⟩:=h4;exact d8 w 1 os);clear h3 h4;go_enter func14,ntmps14;go_wp2_with fail
 clear hcv;go_loop [8] (fun i=>∃ k:Nat,k<=s.length/\i=.int .i64 k/\Ll ((s.take k).all rp=true)) (fun i=>s.length - (intOf i).toNat)
 case atStart=>exact⟨0,Nat.zero_le _,rfl,aa rfl⟩
 case round=>
  obtain⟨k,hk,rfl,HA⟩:=hrel;by_cases hlt:k < s.length
  ·have c0:=HC.o k hlt;have w1:(0:Int)<=(k:Int):=by omega
   have w2:(k:Int) < (s.length:Int):=by omega
   have NF:Ll (rp s[k]=false->bT s=false):=aa (fun h=>by
    unfold bT;have:s.all rp=false:=by rw[List.all_eq_false];exact⟨s[k],List.getElem_mem hlt,by rw[h];simp⟩
    rw[this,Bool.and_false])
   have NT:Ll (rp s[k]=true->(s.take (k+1)).all rp=true):=aa (fun h=>by
    rw[List.take_succ_eq_append_getElem hlt,List.all_append,HA.o];simp[h])
   have LB:Ll (rp s[k]=(decide (97<=s[k].toNat)&&decide (s[k].toNat<=122))):=aa rfl;by_cases hc:s[k].toNat < 97
   ·have c1:(s[k].toNat:Int) < (97:Int):=by omega
    have HF:Ll (bT s=false):=aa (NF.o (by rw[LB.o];simp;omega));clear hc;go_wp2_with fail
    go_ret;exact⟨by rw[HF.o];rfl,HB.o⟩
   ·have c1:¬(s[k].toNat:Int) < (97:Int):=by omega
    by_cases hd:122 < s[k].toNat
    ·have c2:(122:Int) < (s[k].toNat:Int):=by omega
     have HF:Ll (bT s=false):=aa (NF.o (by rw[LB.o];simp;omega));clear hc hd;go_wp2_with fail
     go_ret;exact⟨by rw[HF.o];rfl,HB.o⟩
    ·have c2:¬(122:Int) < (s[k].toNat:Int):=by omega
     have HN:=aa (NT.o (by rw[LB.o];simp;omega));clear hc hd;go_wp2_with fail
     go_round
     case rel=>exact⟨k+1,by omega,by go_num,HN⟩
     case measure=>simp[intOf];omega
  ·have l1:s.take k=s:=MD (by omega);rw[l1]at HA;have d1:¬(k:Int) < (s.length:Int):=by omega
   have HF:Ll (bT s=(!s.isEmpty&&decide (s.length<=12))):=aa (by unfold bT;rw[HA.o,Bool.and_true]);cases hse:s.isEmpty with
   | true=>
    have HR:Ll (bT s=false):=aa (by rw[HF.o,hse];rfl);have hs0:(s == [])=true:=by cases s with | nil=>rfl | cons a r=>cases hse
    clear l1;go_wp2_with fail
    go_ret;exact⟨by rw[HR.o];rfl,HB.o⟩
   | false=>
    have hs0:(s == [])=false:=by cases s with | nil=>cases hse | cons a r=>rfl
    by_cases h12:s.length<=12
    ·have h61:(s.length:Int)<=12:=by omega
     have HR:Ll (bT s=true):=aa (by rw[HF.o,hse];simp[h12]);clear l1 h12;go_wp2_with fail
     go_ret;exact⟨by rw[HR.o];rfl,HB.o⟩
    ·have h61:¬(s.length:Int)<=12:=by omega
     have HR:Ll (bT s=false):=aa (by rw[HF.o,hse];simp[h12]);clear l1 h12;go_wp2_with fail
     go_ret;exact⟨by rw[HR.o];rfl,HB.o⟩
theorem oL(w:LC)(p:Lz)(hp:p.length<=140737488351232):Calls prog 38 #[aR p] w fun e w'=>∃ (a:Option Addr) (c:Nat),e=.returned (.slice a (aw p).length c)/\ao w' (fun k=>w.heap.size<=k) (aw p) (.slice a (aw p).length c)/\La w w':=by
 obtain⟨ns,hn⟩:∃ ns,aw p=ns:=⟨_,rfl⟩
 rw[hn];have hn2:(ax p).1=ns:=hn;go_enter func38,ntmps38;go_wp2_with fail
 refine(we w p hp).mono ?_;rintro e w1 ⟨v,rfl,hb1,hns⟩;rw[hn2]at hns;obtain⟨na,nc,rfl⟩:=hns.form;have K:=aa hns;have B:=aa hb1;clear hns hb1 hn hn2;go_wp2_with fail
 go_ret;exact⟨na,nc,rfl,K.o,B.o⟩
theorem f7(a b:Lz)(B:Array UInt8)(h:B.toList=b):ByteArray.mk a.toArray++ByteArray.mk B=ByteArray.mk (a++b).toArray:=by
 subst h;have h:(ByteArray.mk a.toArray++ByteArray.mk B).data.toList=a++B.toList:=by simp[ByteArray.data_append]
 have e:(ByteArray.mk a.toArray++ByteArray.mk B).data=(a++B.toList).toArray:=by rw[<-Array.toList_inj,h]
 cases hx:ByteArray.mk a.toArray++ByteArray.mk B with
 | mk d=>rw[hx]at e;simp only at e;rw[e]
theorem N6{l:List Lz}(h:k < l.length):aU (l.take (k+1))=aU (l.take k)++47 :: l[k].flatMap iq:=by
 unfold aU;rw[List.take_add_one,Mw h,List.flatMap_append];simp[iR]
theorem S9{x:Lz}{m:Nat}(h:m < x.length):(x.take (m+1)).flatMap iq=(x.take m).flatMap iq++iq x[m]:=by
 rw[List.take_add_one,Mw h,List.flatMap_append];simp
theorem Sy(l:List Lz)(k:Nat):(aU (l.take k)).length<=(aU l).length:=by
 have:aU l=aU (l.take k)++aU (l.drop k):=by
  unfold aU;rw[<-List.flatMap_append,List.take_append_drop]
 rw[this,Mx];omega
theorem Td(x:Lz)(m:Nat):((x.take m).flatMap iq).length<=(x.flatMap iq).length:=by
 have:x.flatMap iq=(x.take m).flatMap iq++(x.drop m).flatMap iq:=by rw[<-List.flatMap_append,List.take_append_drop]
 rw[this,Mx];omega
theorem BO(w:LC)(ok:Nat->Prop)(l:List Lz)(v:Value)(hl:ao w ok l v)(hj:(aU l).length<=10000000):Calls prog 45 #[v] w fun e w'=>e=.returned (aR (aU l))/\La w w':=by
 obtain⟨a1,c1,rfl⟩:=hl.form;have HL:=aa hl;have hl1:=hl.1;unfold maxLen at hl1;clear hl;unfold aR;go_enter func45,ntmps45;go_wp2
 go_loopg [3,9] l.length (fun gk s i wr=>∃ k:Nat,k<=l.length/\gk=l.length - k/\i=.int .i64 k/\s=.string ⟨(aU (l.take k)).toArray⟩/\La w wr)
 case atStart=>exact⟨0,Nat.zero_le _,rfl,rfl,rfl,MK _ _⟩
 case round=>
  obtain⟨k,hk,hgk,rfl,rfl,hbl⟩:=hrel;have GK:=aa hgk;have BL:=aa hbl;clear hgk hbl;by_cases hlt:k < l.length
  ·obtain⟨kb,ko,rfl,hc1,hc2,hc⟩:=gQ HL.o hlt;have c9:=ah BL.o hc;unfold maxLen at hc2;have w1:(0:Int)<=(k:Int):=by omega
   have w2:(k:Int) < (l.length:Int):=by omega
   obtain⟨x,hx⟩:∃ x,l[k]=x:=⟨_,rfl⟩
   have HX:=aa hx;have JS:Ll (aU (l.take (k+1))=aU (l.take k)++47 :: x.flatMap iq):=aa (by rw[N6 hlt,hx]);have JL:Ll ((aU (l.take k)).length+1+(x.flatMap iq).length<=10000000):=aa (by
    have h1:=Sy l (k+1);rw[JS.o]at h1;simp only[Mx,My]at h1;omega)
   rw[hx]at c9;obtain⟨s,hs⟩:∃ s,aU (l.take k)=s:=⟨_,rfl⟩
   rw[hs];rw[hs]at JS JL;have CAT:Ll (ByteArray.mk s.toArray++ByteArray.mk #[47]=ByteArray.mk (s++[47]).toArray):=f7 s [47] _ rfl;have xl:x.length<=9223372036854775807:=by
    have h:=HL.o.mem l[k] (List.getElem_mem hlt);unfold maxLen at h;rw[hx]at h;omega
   have hsl:s.length<=10000000:=by have:=JL.o;omega
   clear hx hs hc;go_wp2
   go_loopg [3,17] x.length (fun gk sv j wr'=>∃ m:Nat,m<=x.length/\gk=x.length - m/\j=.int .i64 m/\sv=.string ⟨(s++47 :: (x.take m).flatMap iq).toArray⟩/\La w wr')
   case atStart=>exact⟨0,Nat.zero_le _,rfl,rfl,by rw[CAT.o];simp,BL.o⟩
   case round=>
    obtain⟨m,hm,hgm,rfl,rfl,hbm⟩:=hrel;have GM:=aa hgm;have BM:=aa hbm;clear hgm hbm;by_cases hmt:m < x.length
    ·have hb:(x[m].toNat:Int) < 256:=by have:=x[m].toNat_lt;omega
     have hszm:m < (ByteArray.mk x.toArray).size:=by rw[eS];exact hmt
     have hgetm:(ByteArray.mk x.toArray)[m]=x[m]:=rfl;have v1:(0:Int)<=(m:Int):=by omega
     have v2:(m:Int) < (x.length:Int):=by omega
     have ES:=aa (S9 hmt);have EL:Ll ((s++47 :: (x.take m).flatMap iq).length<=10000000):=aa (by
      have h1:=Td x m;have h2:=JL.o;simp only[Mx,My];omega)
     obtain⟨u,hu⟩:∃ u,s++47 :: (x.take m).flatMap iq=u:=⟨_,rfl⟩
     rw[hu]at EL ⊢;have HU:Ll (∀ y,iq x[m]=y->s++47 :: (x.take (m+1)).flatMap iq=u++y):=aa (by intro y hy;rw[ES.o,hy,<-hu];simp);have hul:u.length<=10000000:=EL.o;clear hu;by_cases h126:x[m]=126
     ·have n1:((x[m].toNat:Int) != 126)=false:=by rw[h126];rfl
      have n2:((x[m].toNat:Int) == 126)=true:=by rw[h126];rfl
      have FIN:Ll (ByteArray.mk u.toArray++ByteArray.mk #[126,48]=ByteArray.mk (s++47 :: (x.take (m+1)).flatMap iq).toArray):=aa (by rw[HU.o [126,48] (by rw[h126];rfl)];exact f7 u [126,48] _ rfl);clear h126;go_wp2
      go_roundg (x.length - (m+1))
      case measure=>rw[GM.o];omega
      case rel=>exact⟨m+1,by omega,rfl,by go_num,by rw[FIN.o],BM.o⟩
     ·have n0:x[m].toNat≠126:=fun e=>h126 (UInt8.toNat_inj.1 e);have n1:((x[m].toNat:Int) != 126)=true:=by simp only[bne_iff_ne,ne_eq];omega
      have n2:((x[m].toNat:Int) == 126)=false:=by rw[MO];omega
      clear n0;by_cases h47:x[m]=47
      ·have q1:((x[m].toNat:Int) != 47)=false:=by rw[h47];rfl
       have q2:((x[m].toNat:Int) == 47)=true:=by rw[h47];rfl
       have FIN:Ll (ByteArray.mk u.toArray++ByteArray.mk #[126,49]=ByteArray.mk (s++47 :: (x.take (m+1)).flatMap iq).toArray):=aa (by rw[HU.o [126,49] (by rw[h47];rfl)];exact f7 u [126,49] _ rfl);clear h126 h47;go_wp2
       go_roundg (x.length - (m+1))
       case measure=>rw[GM.o];omega
       case rel=>exact⟨m+1,by omega,rfl,by go_num,by rw[FIN.o],BM.o⟩
      ·have q0:x[m].toNat≠47:=fun e=>h47 (UInt8.toNat_inj.1 e);have q1:((x[m].toNat:Int) != 47)=true:=by simp only[bne_iff_ne,ne_eq];omega
       have q2:((x[m].toNat:Int) == 47)=false:=by rw[MO];omega
       clear q0;have FIN:Ll (ByteArray.mk u.toArray++(ByteArray.mk x.toArray).extract m (m+1)=ByteArray.mk (s++47 :: (x.take (m+1)).flatMap iq).toArray):=aa (by rw[HU.o [x[m]] (by simp[iq,h126,h47]),EM x m hmt];exact f7 u [x[m]] _ rfl);have w4:(m:Int)<=(m:Int)+1:=by omega
       have w5:(m:Int)+1<=(x.length:Int):=by omega
       have w6:(m:Int)+1<=((ByteArray.mk x.toArray).size:Int):=by rw[eS];omega
       clear h126 h47;go_wp2
       go_roundg (x.length - (m+1))
       case measure=>rw[GM.o];omega
       case rel=>exact⟨m+1,by omega,rfl,by go_num,by rw[FIN.o],BM.o⟩
    ·have hme:m=x.length:=by omega
     have d1:¬(m:Int) < (x.length:Int):=by omega
     have FIN:Ll (s++47 :: (x.take m).flatMap iq=aU (l.take (k+1))):=aa (by rw[JS.o,hme,MD (MG _)]);rw[FIN.o];clear hme;go_wp2
     go_roundg (l.length - (k+1))
     case measure=>rw[GK.o];omega
     case rel=>exact⟨k+1,by omega,rfl,by go_num,rfl,BM.o⟩
  ·have Mc:k=l.length:=by omega
   have d1:¬(k:Int) < (l.length:Int):=by omega
   have FIN:Ll (aU (l.take k)=aU l):=aa (by rw[Mc,MD (MG _)]);rw[FIN.o];clear Mc;go_wp2
   go_ret;exact⟨rfl,BL.o⟩
end Go.Proofs.YtbdlfclnkpofaaaGreatDoor
