import Derived.Test.YtgolnaencepejaaGreatDoorG3
import Derived.Test.YtgolnaencepejaaGreatDoorG4
set_option maxRecDepth 100000
set_option maxHeartbeats 40000000
set_option linter.unusedSimpArgs false
set_option linter.unusedVariables false
namespace Go.Proofs.YtgolnaencepejaaGreatDoor
open Go.RowKit
open _root_.Go.Proofs.Tryz
variable {w w':World}
variable {ok:Nat->Prop}
variable {v:Value}
variable {g B n k:Nat}
section
attribute [local go_sem ↓] Go.wp_at_zero Go.wp_at_succ
def em (key:Lz) (keys:List Lz):Nat:=(keys.takeWhile fun a=>Op.bytesLess a key).length
theorem wW(key keys):em key keys<=keys.length:=(List.takeWhile_sublist _).length_le
theorem ym{key a keys}(h:keys[k]?=some a)(hk:k<=em key keys)(hl:Op.bytesLess a key=true):k < em key keys:=by
 induction keys generalizing k with
 | nil=>simp at h
 | cons b keys ih=>
  unfold em at hk ⊢;rw[List.takeWhile_cons]at hk ⊢;cases k with
  | zero=>simp at h;subst h;simp[hl]
  | succ k=>
   split at hk
   ·rename_i hb;rw[if_pos hb];simp only[My]at hk ⊢;have:=ih (k:=k) (by simpa using h) (by unfold em;omega);unfold em at this;omega
   ·simp at hk
theorem Bz{key a keys}(h:keys[k]?=some a)(hk:k<=em key keys)(hl:Op.bytesLess a key=false):k=em key keys:=by
 induction keys generalizing k with
 | nil=>simp at h
 | cons b keys ih=>
  unfold em at hk ⊢;rw[List.takeWhile_cons]at hk ⊢;cases k with
  | zero=>simp at h;subst h;simp[hl]
  | succ k=>
   split at hk
   ·rename_i hb;rw[if_pos hb];simp only[My]at hk ⊢;have:=ih (k:=k) (by simpa using h) (by unfold em;omega);unfold em at this;omega
   ·simp at hk
def Kf (w w2:LC) (t x:V) (key:Lz) (at_:Nat) (a2 a7 a8:Option Addr) (c2 c7 c8:Nat) (wc:LC):Prop:=
 ∃ g cap,ag wc w.heap.size (.int .i64 t.kind) (.int .i64 t.n) (.string ⟨t.s.toArray⟩) (.slice (some ⟨g,0,none⟩) (t.keys.length+1) cap) (.slice a2 t.l.length c2) /\
  KY wc (w.heap.size+1) x a7 c7 a8 c8 /\
  Lc wc (w.heap.size+2) /\
  wc.ownsRow w2.heap.size 9 1 (.slice (some ⟨g,0,none⟩) (t.keys.length+1) cap) (t.keys.length+1) ((t.keys.take at_).map aR++[aR key]++(t.keys.drop at_).map aR) /\
  La w wc/\w2.heap.size<=wc.heap.size
theorem fD{e:TypeId}{size xs}(h:w.ownsRow B e size v n xs)(hb:La w w'):w'.ownsRow B e size v n xs:=h.kept (aq (r:=none) hb) (by cases v.ownBlock <;> simp)
theorem ao.mem{xs}(h:ao w ok xs v)(y)(hy:y∈xs):y.length<=maxLen:=by
 rcases h.2 with⟨e,_⟩ | ⟨b,off,c,e,h1,h2,h3⟩
 ·rw[e]at hy;simp at hy
 ·obtain⟨i,hi⟩:=List.getElem?_of_mem hy;exact(h3 i y hi).1
theorem xx{c0 c1 c2 c3 c4}(h:ag w g c0 c1 c2 c3 c4)(v):ag (w.setCell ⟨g,3,none⟩ v) g c0 c1 c2 v c4:=ak h 3 v
theorem ER(w ok d t x v xv key)(h:bu w ok (d+1) t v)(hx:bu w ok d x xv)(hf:dO t key=none)(hp:aK t=true)(L9:t.l.length<=100000)(hkey:key.length<=maxLen):Calls prog 158 #[v,aR key,xv] w fun e w'=>∃ r,e=.returned r/\bu w' (bQ ok w.heap.size) (d+1) { t with keys:=t.keys.take (em key t.keys)++key :: t.keys.drop (em key t.keys),l:=t.l.take (em key t.keys)++x :: t.l.drop (em key t.keys) } r/\La w w':=by
 have H:=aa h;have HX:=aa hx;obtain⟨ks,ls,rfl,h1,h2,h3,h4,h5⟩:=h;have KK:Ll (dW t.kind/\dW t.n/\t.s.length<=maxLen/\ao w ok t.keys ks/\cS w ok (bu w ok d) t.l ls):=⟨h1,h2,h3,h4,h5⟩
 obtain⟨a1,c1,rfl⟩:=h4.form;obtain⟨a2,c2,rfl⟩:=h5.form;have l1:=h4.1;have l2:=h5.1;have F:=aa hf;have FP:=aa hp;have hkl:t.keys.length=t.l.length:=by
  simp only[aK,MJ,decide_eq_true_eq]at hp;exact hp.2
 have HKL:=aa hkl;have hkl1:t.keys.length<=t.l.length:=by omega
 have hkl2:t.l.length<=t.keys.length:=by omega
 clear hf hp hkl;obtain⟨xk,xl,hxv⟩:∃ xk xl,xv=.agg #[.int .i64 x.kind,.int .i64 x.n,aR x.s,xk,xl]:=by
  match d,hx with
  | d+1,hx=>obtain⟨ks,ls,e,_⟩:=hx;exact⟨ks,ls,e⟩
 subst hxv;obtain⟨-,-,-,⟨a7,c7,rfl⟩,⟨a8,c8,rfl⟩⟩:=hx.agg;unfold maxLen at l1 h3 l2;unfold aR;clear h4 h5 h1 h2 hx;go_enter func158,ntmps158;go_wp2_with fail
 refine Lk (ni _ ok _ t _ (by exact H.o.bel (ab (ab (ae _ _) (ae _ _)) (ae _ _)))) fun w1 hb1=>?_;rw[FP.o];have bx:Ll (KY w1 w.heap.size t a1 c1 a2 c2/\KY w1 (w.heap.size+1) x a7 c7 a8 c8/\Lc w1 (w.heap.size+2)):=⟨af hb1 (lI w _ _ _),af hb1 (mE w _ _ _),af hb1 (jI w _ _ _)⟩
 obtain⟨p0,p1,p2,p3,p4,-,-,-,p9,p10⟩:=bx.o.1.c;have B1:Ll (La w w1):=ab (ab (ab (ae _ _) (ae _ _)) (ae _ _)) hb1;clear hb1;go_wp2_with fail
 refine Lk (kJ _ ok _ t _ key (by exact H.o.bel B1.o)) fun w2 hb2=>?_;rw[F.o];have bx2:Ll (KY w2 w.heap.size t a1 c1 a2 c2/\KY w2 (w.heap.size+1) x a7 c7 a8 c8/\Lc w2 (w.heap.size+2)):=⟨af hb2 bx.o.1,af hb2 bx.o.2.1,af hb2 bx.o.2.2⟩
 have B2:Ll (La w w2):=ab B1.o hb2;have hsz2:w.heap.size+2 < w2.heap.size:=bx2.o.2.2.lt;clear hb2 bx B1;unfold pS;obtain⟨p0,p1,p2,p3,p4,-,-,-,p9,p10⟩:=bx2.o.1.c;obtain⟨q0,q1,q2,q3,q4,-⟩:=bx2.o.2.1.c;go_upto_block 0 with fail
 go_cut [8] (fun i wc=>i=.int .i64 (em key t.keys:Nat)/\wc=w2)
 case first=>
  go_wp2_with fail
  go_loopg [8] t.keys.length (fun g i wr=>∃ k:Nat,k<=em key t.keys/\g=t.keys.length - k/\i=.int .i64 k/\wr=w2)
  case atStart=>exact⟨0,Nat.zero_le _,rfl,rfl,rfl⟩
  case round=>
   obtain⟨k,hk,hgk,rfl,rfl⟩:=hrel;have GK:=aa hgk;have hia:=wW key t.keys;clear hgk;by_cases hlt:k < t.keys.length
   ·obtain⟨_,K4⟩:=KK.o.2.2.2.1;rcases K4 with⟨e,_⟩ | ⟨kb,ko,kc,hks,hc1,hc2,Mb⟩
    ·rw[e]at hlt;simp at hlt
    simp only[Value.slice.injEq]at hks;obtain⟨rfl,-,rfl⟩:=hks;have hc:=ah B2.o (Mb k t.keys[k] (Mw hlt)).2.2;clear Mb;unfold aR at hc;cases hless:Op.bytesLess t.keys[k] key with
    | true=>
     have hk1:k < em key t.keys:=ym (Mw hlt) hk hless;go_wp2_with fail
     go_roundg (t.keys.length - (k+1))
     case measure=>rw[GK.o];omega
     case rel=>exact⟨k+1,hk1,rfl,by go_num,rfl⟩
    | false=>
     have hk1:k=em key t.keys:=Bz (Mw hlt) hk hless;have HK1:=aa hk1;clear hk1;go_wp2_with fail
     go_meet
     case rel=>exact⟨by rw[<-HK1.o],rfl⟩
   ·have hk1:k=em key t.keys:=by omega
    have HK1:=aa hk1;clear hk1;go_wp2_with fail
    go_meet
    case rel=>exact⟨by rw[<-HK1.o],rfl⟩
 case rest=>
  obtain⟨rfl,hw⟩:=hcut;have hw':=hw.symm;clear hw;subst hw';have hia:=wW key t.keys;obtain⟨at_,hat⟩:∃ a,em key t.keys=a:=⟨_,rfl⟩
  rw[hat]at hia ⊢;have HAT:=aa hat;clear hat;have j0:(0:Int)<=(at_:Int):=by omega
  have j1:(at_:Int)<=(t.keys.length:Int):=by omega
  have j2:(at_:Int)<=(t.l.length:Int):=by omega
  have fin10:Ll (∀ w3 g cap,w3.ownsRow w2.heap.size 9 1 (.slice (some ⟨g,0,none⟩) (t.keys.length+1) cap) (t.keys.length+1) ((t.keys.take at_).map aR++[.string ⟨key.toArray⟩]++(t.keys.drop at_).map aR)->La w2 w3 ->
   Kf w w2 t x key at_ a2 a7 a8 c2 c7 c8 (w3.setCell ⟨w.heap.size,3,none⟩ (.slice (some ⟨g,0,none⟩) (t.keys.length+1) cap))):=by
   intro w3 g cap ho hb;have g1:w3.grownBy (w3.setCell ⟨w.heap.size,3,none⟩ (.slice (some ⟨g,0,none⟩) (t.keys.length+1) cap)) (some w.heap.size):=ap (az _ _) _ _;refine⟨g,cap,xx (af hb bx2.o.1) _,(af hb bx2.o.2.1).grown g1 (by simp),(af hb bx2.o.2.2).grown g1 (by simp),aW ho g1 (by omega),?_,MH hb.size g1.size⟩;exact bS (bi (aq (ab B2.o hb)) (MG _) _ _)
  go_upto_region 10 with fail
  go_cut [8] (fun i wc'=>i=.int .i64 (at_:Nat)/\Kf w w2 t x key at_ a2 a7 a8 c2 c7 c8 wc')
  case first=>
   have k3:∀ o,(w2.alloc o).cell? ⟨w.heap.size,3,none⟩=some (.slice a1 t.keys.length c1):=fun o=>(af (ae w2 o) bx2.o.1).c.2.2.2.1;obtain⟨_,K4⟩:=KK.o.2.2.2.1;rcases K4 with⟨e,e2⟩ | ⟨kb,ko,kc,hks,hc1,hc2,Mb⟩
   ·obtain⟨a0,e2⟩:=e2;simp only[Value.slice.injEq]at e2;obtain⟨-,e3,e6⟩:=e2;subst e6;have E3:Ll (t.keys.length=0/\t.keys=[]):=⟨e3,e⟩
    have j4:(t.keys.length:Int)<=0:=by omega
    have e7:at_=0:=by omega
    clear e e3;subst e7;have con:Ll (∀ W,W.heap=((w2.alloc (.cells #[.string ⟨key.toArray⟩] 9)).alloc (.cells #[.slice a1 0 0,.slice (some ⟨w2.heap.size,0,none⟩) 1 1,.slice a1 t.keys.length 0] 36)).heap->W.os=w2.os->W.tape=w2.tape->W.output=w2.output ->
     Calls prog 192 #[.slice (some ⟨w2.heap.size+1,0,none⟩) 3 3] W fun e w'=>∃ g cap,e=.returned (.slice (some ⟨g,0,none⟩) (t.keys.length+1) cap)/\w'.ownsRow w2.heap.size 9 1 (.slice (some ⟨g,0,none⟩) (t.keys.length+1) cap) (t.keys.length+1) ((t.keys.take 0).map aR++[.string ⟨key.toArray⟩]++(t.keys.drop 0).map aR)/\La w2 w'):=by
     intro W e1 e2 e4 e5;obtain⟨q1,q2⟩:=E3.o;rw[q1]at e1;rw[q2];simp only[List.take_nil,List.drop_nil,List.map_nil,List.length_nil];exact Jg ⟨key.toArray⟩ (mi w2 1 a1) (mi w2 1 a1) rfl (by simp) W e1 e2 e4 e5
    go_region_with ((go_at_call 192;refine(con.o _ (by rfl) (by rfl) (by rfl) (by rfl)).mono ?_;rintro e w3 ⟨g,cap,rfl,ho3,hb3⟩;obtain⟨p0,p1,p2,p3,p4,-,-,-,p9,p10⟩:=(af hb3 bx2.o.1).c;have O3:=aa ho3;have HB3:=aa hb3;clear ho3 hb3))
    all_goals
     go_wp2_with fail
     go_meet
     case rel=>exact⟨rfl,fin10.o _ _ _ O3.o HB3.o⟩
   ·simp only[Value.slice.injEq]at hks;obtain⟨rfl,-,rfl⟩:=hks;clear Mb;unfold maxLen at hc2;have j3:(at_:Int)<=(c1:Int):=by omega
    have j4:(t.keys.length:Int)<=(c1:Int):=by omega
    obtain⟨s1,s2⟩:=qG KK.o.2.2.2.1 at_ at_ (MG _) hia (by omega);obtain⟨a3,hifs⟩:∃ a3,(if c1=at_ then (some ⟨kb,ko,none⟩:Option Addr) else some ⟨kb,ko+at_,none⟩)=a3:=⟨_,rfl⟩
    rw[Nat.mul_one,hifs]at s2;have con:Ll (∀ W,W.heap=((w2.alloc (.cells #[.string ⟨key.toArray⟩] 9)).alloc (.cells #[.slice (some ⟨kb,ko,none⟩) at_ c1,.slice (some ⟨w2.heap.size,0,none⟩) 1 1,.slice a3 (t.keys.length - at_) (c1 - at_)] 36)).heap->W.os=w2.os->W.tape=w2.tape->W.output=w2.output ->
     Calls prog 192 #[.slice (some ⟨w2.heap.size+1,0,none⟩) 3 3] W fun e w'=>∃ g cap,e=.returned (.slice (some ⟨g,0,none⟩) (t.keys.length+1) cap)/\w'.ownsRow w2.heap.size 9 1 (.slice (some ⟨g,0,none⟩) (t.keys.length+1) cap) (t.keys.length+1) ((t.keys.take at_).map aR++[.string ⟨key.toArray⟩]++(t.keys.drop at_).map aR)/\La w2 w'):=by
     intro W e1 e2 e4 e5;exact Jg ⟨key.toArray⟩ (s1.bel B2.o) (s2.bel B2.o) (by omega) (by omega) W e1 e2 e4 e5
    clear s1 s2;go_region_with ((go_at_call 192;refine(con.o _ (by rfl) (by rfl) (by rfl) (by rfl)).mono ?_;rintro e w3 ⟨g,cap,rfl,ho3,hb3⟩;obtain⟨p0,p1,p2,p3,p4,-,-,-,p9,p10⟩:=(af hb3 bx2.o.1).c;have O3:=aa ho3;have HB3:=aa hb3;clear ho3 hb3))
    all_goals
     go_wp2_with fail
     go_meet
     case rel=>exact⟨rfl,fin10.o _ _ _ O3.o HB3.o⟩
  case rest=>
   obtain⟨rfl,gk,kcap,hm1,hm2,hm3,hm4,hm5,hm6⟩:=hcut;have M:Ll (ag wc w.heap.size (.int .i64 t.kind) (.int .i64 t.n) (.string ⟨t.s.toArray⟩) (.slice (some ⟨gk,0,none⟩) (t.keys.length+1) kcap) (.slice a2 t.l.length c2)/\KY wc (w.heap.size+1) x a7 c7 a8 c8/\Lc wc (w.heap.size+2)/\wc.ownsRow w2.heap.size 9 1 (.slice (some ⟨gk,0,none⟩) (t.keys.length+1) kcap) (t.keys.length+1) ((t.keys.take at_).map aR++[aR key]++(t.keys.drop at_).map aR)/\La w wc/\w2.heap.size<=wc.heap.size):=⟨hm1,hm2,hm3,hm4,hm5,hm6⟩
   clear hm1 hm2 hm3 hm4 hm5 fin10;obtain⟨p0,p1,p2,p3,p4,-,-,-,p9,p10⟩:=M.o.1.c;obtain⟨q0,q1,q2,q3,q4,-⟩:=M.o.2.1.c;have k4:∀ o,(wc.alloc o).cell? ⟨w.heap.size,4,none⟩=some (.slice a2 t.l.length c2):=fun o=>(af (ae wc o) M.o.1).c.2.2.2.2.1;have m0:∀ o,(wc.alloc o).cell? ⟨w.heap.size+1,0,none⟩=some (.int .i64 x.kind):=fun o=>(af (ae wc o) M.o.2.1).c.1;have m1:∀ o,(wc.alloc o).cell? ⟨w.heap.size+1,1,none⟩=some (.int .i64 x.n):=fun o=>(af (ae wc o) M.o.2.1).c.2.1;have m2:∀ o,(wc.alloc o).cell? ⟨w.heap.size+1,2,none⟩=some (.string ⟨x.s.toArray⟩):=fun o=>(af (ae wc o) M.o.2.1).c.2.2.1;have m3:∀ o,(wc.alloc o).cell? ⟨w.heap.size+1,3,none⟩=some (.slice a7 x.keys.length c7):=fun o=>(af (ae wc o) M.o.2.1).c.2.2.2.1;have m4:∀ o,(wc.alloc o).cell? ⟨w.heap.size+1,4,none⟩=some (.slice a8 x.l.length c8):=fun o=>(af (ae wc o) M.o.2.1).c.2.2.2.2.1;have hrows:∃ cs1 cs2 v1 v3,cA (bu w ok d) (t.l.take at_) cs1/\cA (bu w ok d) (t.l.drop at_) cs2/\du w 5 v1 at_ cs1/\du w 5 v3 (t.l.length - at_) cs2/\(c2=0/\t.l.length=0/\v1=.slice a2 0 0/\v3=.slice a2 t.l.length 0\/∃ b off,a2=some ⟨b,off,none⟩/\t.l.length<=c2/\c2<=maxLen/\v1=.slice (some ⟨b,off,none⟩) at_ c2/\v3=.slice (if c2=at_ then some ⟨b,off,none⟩ else some ⟨b,off+at_ * 5,none⟩) (t.l.length - at_) (c2 - at_)):=by
    obtain⟨_,K5⟩:=KK.o.2.2.2.2;rcases K5 with⟨e,e2⟩ | ⟨b,off,c,hls,hc1,hc2,Mb⟩
    ·obtain⟨a0,e2⟩:=e2;simp only[Value.slice.injEq]at e2;obtain⟨-,e3,e6⟩:=e2;subst e6;have e4:at_=0:=by omega
     refine⟨[],[],_,_,?_,?_,?_,?_,.inl ⟨rfl,e3,rfl,rfl⟩⟩
     ·rw[e,List.take_nil];rfl
     ·rw[e,List.drop_nil];rfl
     ·rw[e4];exact mi w 5 a2
     ·rw[e3,e4];exact mi w 5 a2
    ·simp only[Value.slice.injEq]at hls;obtain⟨rfl,-,rfl⟩:=hls;obtain⟨cs1,cs2,r1,s1,r2,s2⟩:=km KK.o.2.2.2.2 at_ at_ (MG _) (by omega) (by omega);exact⟨cs1,cs2,_,_,r1,r2,s1,s2,.inr ⟨b,off,rfl,hc1,hc2,rfl,rfl⟩⟩
   obtain⟨cs1,cs2,v1,v3,r1,r2,s1,s3,hcase⟩:=hrows;have con:Ll (∀ W,W.heap=((wc.alloc (.cells (KV x a7 c7 a8 c8) 39)).alloc (.cells #[v1,.slice (some ⟨wc.heap.size,0,none⟩) 1 1,v3] 37)).heap->W.os=wc.os->W.tape=wc.tape->W.output=wc.output ->
    Calls prog 191 #[.slice (some ⟨wc.heap.size+1,0,none⟩) 3 3] W fun e w'=>∃ g cap,e=.returned (.slice (some ⟨g,0,none⟩) (t.l.length+1) cap)/\w'.ownsRow wc.heap.size 39 5 (.slice (some ⟨g,0,none⟩) (t.l.length+1) cap) (t.l.length+1) (cs1++[.int .i64 x.kind,.int .i64 x.n,.string ⟨x.s.toArray⟩,.slice a7 x.keys.length c7,.slice a8 x.l.length c8]++cs2)/\La wc w'):=by
    intro W e1 e2 e4 e5;exact EJ _ _ _ _ _ _ _ _ _ (s1.bel M.o.2.2.2.2.1) (s3.bel M.o.2.2.2.2.1) (by omega) (by omega) W e1 e2 e4 e5
   have fin:Ll (∀ w3 g cap,w3.ownsRow wc.heap.size 39 5 (.slice (some ⟨g,0,none⟩) (t.l.length+1) cap) (t.l.length+1) (cs1++[.int .i64 x.kind,.int .i64 x.n,.string ⟨x.s.toArray⟩,.slice a7 x.keys.length c7,.slice a8 x.l.length c8]++cs2)->La wc w3 ->
    bu (ar (w3.setCell ⟨w.heap.size,4,none⟩ (.slice (some ⟨g,0,none⟩) (t.l.length+1) cap)) (w.heap.size+2) (.int .i64 t.kind) (.int .i64 t.n) (.string ⟨t.s.toArray⟩) (.slice (some ⟨gk,0,none⟩) (t.keys.length+1) kcap) (.slice (some ⟨g,0,none⟩) (t.l.length+1) cap)) (bQ ok w.heap.size) (d+1) { t with keys:=t.keys.take at_++key :: t.keys.drop at_,l:=t.l.take at_++x :: t.l.drop at_ } (.agg #[.int .i64 t.kind,.int .i64 t.n,.string ⟨t.s.toArray⟩,.slice (some ⟨gk,0,none⟩) (t.keys.length+1) kcap,.slice (some ⟨g,0,none⟩) (t.l.length+1) cap]) /\
    La w (ar (w3.setCell ⟨w.heap.size,4,none⟩ (.slice (some ⟨g,0,none⟩) (t.l.length+1) cap)) (w.heap.size+2) (.int .i64 t.kind) (.int .i64 t.n) (.string ⟨t.s.toArray⟩) (.slice (some ⟨gk,0,none⟩) (t.keys.length+1) kcap) (.slice (some ⟨g,0,none⟩) (t.l.length+1) cap))/\ag (ar (w3.setCell ⟨w.heap.size,4,none⟩ (.slice (some ⟨g,0,none⟩) (t.l.length+1) cap)) (w.heap.size+2) (.int .i64 t.kind) (.int .i64 t.n) (.string ⟨t.s.toArray⟩) (.slice (some ⟨gk,0,none⟩) (t.keys.length+1) kcap) (.slice (some ⟨g,0,none⟩) (t.l.length+1) cap)) (w.heap.size+2) (.int .i64 t.kind) (.int .i64 t.n) (.string ⟨t.s.toArray⟩) (.slice (some ⟨gk,0,none⟩) (t.keys.length+1) kcap) (.slice (some ⟨g,0,none⟩) (t.l.length+1) cap)):=by
    intro w3 g cap ho hb;have g1:w3.grownBy (w3.setCell ⟨w.heap.size,4,none⟩ (.slice (some ⟨g,0,none⟩) (t.l.length+1) cap)) (some w.heap.size):=ap (az _ _) _ _;have g2:=aI (w3.setCell ⟨w.heap.size,4,none⟩ (.slice (some ⟨g,0,none⟩) (t.l.length+1) cap)) (w.heap.size+2) (.int .i64 t.kind) (.int .i64 t.n) (.string ⟨t.s.toArray⟩) (.slice (some ⟨gk,0,none⟩) (t.keys.length+1) kcap) (.slice (some ⟨g,0,none⟩) (t.l.length+1) cap);have LU:=((af hb M.o.2.2.1).grown g1 (by simp)).set (.int .i64 t.kind) (.int .i64 t.n) (.string ⟨t.s.toArray⟩) (.slice (some ⟨gk,0,none⟩) (t.keys.length+1) kcap) (.slice (some ⟨g,0,none⟩) (t.l.length+1) cap);have hbw:La w w3:=ab M.o.2.2.2.2.1 hb;have hb9:La w (ar (w3.setCell ⟨w.heap.size,4,none⟩ (.slice (some ⟨g,0,none⟩) (t.l.length+1) cap)) (w.heap.size+2) (.int .i64 t.kind) (.int .i64 t.n) (.string ⟨t.s.toArray⟩) (.slice (some ⟨gk,0,none⟩) (t.keys.length+1) kcap) (.slice (some ⟨g,0,none⟩) (t.l.length+1) cap)):=bS (eD (bi (aq hbw) (MG _) _ _) (by omega) _ _ _ _ _);have hsz3:w.heap.size+2 < w2.heap.size:=hsz2;refine⟨⟨_,_,rfl,KK.o.1,KK.o.2.1,KK.o.2.2.1,?_,?_⟩,hb9,LU⟩
    ·have hk3:=aW (aW (fD M.o.2.2.2.1 hb) g1 (by omega)) g2 (by omega);have LT:t.keys.length+1=(t.keys.take at_++key :: t.keys.drop at_).length:=by simp;omega
     refine kf (B:=w2.heap.size) LT ?_ ?_ (fun k hk=>.inr (by omega)) (by rw[<-LT];unfold maxLen;omega)
     ·have e9:(t.keys.take at_++key :: t.keys.drop at_).map aR=(t.keys.take at_).map aR++[aR key]++(t.keys.drop at_).map aR:=by simp
      rw[e9];exact hk3
     ·intro y hy;simp only[List.mem_append,List.mem_cons]at hy;rcases hy with hy | rfl | hy
      ·exact KK.o.2.2.2.1.mem y (List.mem_of_mem_take hy)
      ·exact hkey
      ·exact KK.o.2.2.2.1.mem y (List.mem_of_mem_drop hy)
    ·have ho9:=aW (aW ho g1 (by omega)) g2 (by omega);have LT:t.l.length+1=(t.l.take at_++x :: t.l.drop at_).length:=by simp;omega
     refine fJ LT ho9 ?_ (fun k hk=>.inr (by omega)) (by rw[<-LT];unfold maxLen;omega);have rx:cA (bu _ (bQ ok w.heap.size) d) [x] [.int .i64 x.kind,.int .i64 x.n,.string ⟨x.s.toArray⟩,.slice a7 x.keys.length c7,.slice a8 x.l.length c8]:=⟨_,_,_,_,_,[],rfl,(HX.o.bel hb9).toN,rfl⟩
     have:=((r2.bel (B:=w.heap.size) hb9).append rx).append (r1.bel (B:=w.heap.size) hb9);rw[List.append_assoc];exact this
   clear r1 r2 s1 s3;have hfinish:Ll True:=trivial;rcases hcase with⟨rfl,e3,rfl,rfl⟩ | ⟨b,off,rfl,hc1,hc2,rfl,hv3⟩
   ·have j6:(t.l.length:Int)<=0:=by omega
    have E3:=aa e3;have e7:at_=0:=by omega
    clear e3;subst e7;go_upto_region 11 with fail
    go_region_with ((go_at_call 191;refine(con.o _ (by rfl) (by rfl) (by rfl) (by rfl)).mono ?_;rintro e w3 ⟨g,cap,rfl,ho3,hb3⟩;obtain⟨p0,p1,p2,p3,p4,-,-,-,p9,p10⟩:=(af hb3 M.o.1).c;have x0_:=(af hb3 M.o.2.2.1).c;have O3:=aa ho3;have HB3:=aa hb3;clear ho3 hb3))
    all_goals
     go_wp2_with fail
     obtain⟨f1,f2,f3⟩:=fin.o _ g cap O3.o HB3.o;have z0_:=f3.c;refine MM (v:=.agg #[.int .i64 t.kind,.int .i64 t.n,.string ⟨t.s.toArray⟩,.slice (some ⟨gk,0,none⟩) (t.keys.length+1) kcap,.slice (some ⟨g,0,none⟩) (t.l.length+1) cap]) ?_ rfl ?_
     ·simp only[ar]at z0_;simp[results,results158,go_sem,z0_]
     ·rw[HAT.o];exact⟨_,rfl,f1,f2⟩
   ·obtain⟨a3,hifs⟩:∃ a3,(if c2=at_ then (some ⟨b,off,none⟩:Option Addr) else some ⟨b,off+at_ * 5,none⟩)=a3:=⟨_,rfl⟩
    rw[hifs]at hv3;subst hv3;unfold maxLen at hc2;have j5:(at_:Int)<=(c2:Int):=by omega
    have j6:(t.l.length:Int)<=(c2:Int):=by omega
    go_upto_region 11 with fail
    go_region_with ((go_at_call 191;refine(con.o _ (by rfl) (by rfl) (by rfl) (by rfl)).mono ?_;rintro e w3 ⟨g,cap,rfl,ho3,hb3⟩;obtain⟨p0,p1,p2,p3,p4,-,-,-,p9,p10⟩:=(af hb3 M.o.1).c;have x0_:=(af hb3 M.o.2.2.1).c;have O3:=aa ho3;have HB3:=aa hb3;clear ho3 hb3))
    all_goals
     go_wp2_with fail
     obtain⟨f1,f2,f3⟩:=fin.o _ g cap O3.o HB3.o;have z0_:=f3.c;refine MM (v:=.agg #[.int .i64 t.kind,.int .i64 t.n,.string ⟨t.s.toArray⟩,.slice (some ⟨gk,0,none⟩) (t.keys.length+1) kcap,.slice (some ⟨g,0,none⟩) (t.l.length+1) cap]) ?_ rfl ?_
     ·simp only[ar]at z0_;simp[results,results158,go_sem,z0_]
     ·have hat:=HAT.o;subst hat;exact⟨_,rfl,f1,f2⟩
end
theorem ut:vW:=by
 intro w ok d t x v xv key h hx hp L9 hkey;have hk:dO t key=dd key t.keys:=by simp[dO,hp]
 cases hf:dO t key with
 | some i=>
  have e:aG t key x={ t with l:=t.l.take i++x :: t.l.drop (i+1) }:=by
   unfold aG;rw[if_pos hp,<-hk,hf]
  rw[e];exact yX w ok d t x v xv key i h hx hf L9
 | none=>
  have e:aG t key x={ t with keys:=t.keys.take (em key t.keys)++key :: t.keys.drop (em key t.keys),l:=t.l.take (em key t.keys)++x :: t.l.drop (em key t.keys) }:=by
   unfold aG;rw[if_pos hp,<-hk,hf];rfl
  rw[e];exact ER w ok d t x v xv key h hx hf hp L9 hkey
section
attribute [local go_sem ↓] Go.wp_at_zero Go.wp_at_succ
theorem pK{w2 v1 v3 n1 n3 N cs1 cs3}(s1:du w2 1 v1 n1 cs1)(s3:du w2 1 v3 n3 cs3)(hN:n1+n3=N)(hn:N<=1000000)(W)(e1:W.heap=(w2.alloc (.cells #[v1,v3] 36)).heap)(e2:W.os=w2.os)(e3:W.tape=w2.tape)(e4:W.output=w2.output):Calls prog 192 #[.slice (some ⟨w2.heap.size,0,none⟩) 2 2] W fun e w'=>∃ a cap,e=.returned (.slice a N cap)/\w'.ownsRow w2.heap.size 9 1 (.slice a N cap) N (cs1++cs3)/\La w2 w':=by
 have LY:La w2 W:=by
  have:=ae w2 (.cells #[v1,v3] 36);exact⟨e2,e3,e4,by rw[e1];exact this.size,fun k hk=>by rw[e1];exact this.block k hk⟩
 have hb:=MN w2 (.cells #[v1,v3] 36);rw[<-e1]at hb;refine(At W w2.heap.size 0 2 [⟨v1,n1,cs1⟩,⟨v3,n3,cs3⟩] ?_ (by simp[dl];omega) (by simp) (by simp)).mono ?_
 ·intro i p hp;match i,hp with
  | 0,hp=>simp at hp;subst hp;exact⟨by simp[World.cell?,hb],s1.bel LY⟩
  | 1,hp=>simp at hp;subst hp;exact⟨by simp[World.cell?,hb],s3.bel LY⟩
 rintro e w' ⟨v,rfl,ho,hb9⟩;have q1:dl [⟨v1,n1,cs1⟩,⟨v3,n3,cs3⟩]=N:=by simp[dl];omega
 have q2:fQ [⟨v1,n1,cs1⟩,⟨v3,n3,cs3⟩]=cs1++cs3:=by simp[fQ]
 rw[q1,q2]at ho;have ho':=cV ho LY.size;rcases ho'.2 with⟨e,h0⟩ | ⟨g,cap,cur,e,rest⟩
 ·subst e;subst h0;exact⟨none,0,rfl,ho',ab LY hb9⟩
 ·subst e;exact⟨_,cap,rfl,ho',ab LY hb9⟩
theorem nB{w2 v1 v3 n1 n3 N cs1 cs3}(s1:du w2 5 v1 n1 cs1)(s3:du w2 5 v3 n3 cs3)(hN:n1+n3=N)(hn:N<=1000000)(W)(e1:W.heap=(w2.alloc (.cells #[v1,v3] 37)).heap)(e2:W.os=w2.os)(e3:W.tape=w2.tape)(e4:W.output=w2.output):Calls prog 191 #[.slice (some ⟨w2.heap.size,0,none⟩) 2 2] W fun e w'=>∃ a cap,e=.returned (.slice a N cap)/\w'.ownsRow w2.heap.size 39 5 (.slice a N cap) N (cs1++cs3)/\La w2 w':=by
 have LY:La w2 W:=by
  have:=ae w2 (.cells #[v1,v3] 37);exact⟨e2,e3,e4,by rw[e1];exact this.size,fun k hk=>by rw[e1];exact this.block k hk⟩
 have hb:=MN w2 (.cells #[v1,v3] 37);rw[<-e1]at hb;refine(Av W w2.heap.size 0 2 [⟨v1,n1,cs1⟩,⟨v3,n3,cs3⟩] ?_ (by simp[dl];omega) (by simp) (by simp)).mono ?_
 ·intro i p hp;match i,hp with
  | 0,hp=>simp at hp;subst hp;exact⟨by simp[World.cell?,hb],s1.bel LY⟩
  | 1,hp=>simp at hp;subst hp;exact⟨by simp[World.cell?,hb],s3.bel LY⟩
 rintro e w' ⟨v,rfl,ho,hb9⟩;have q1:dl [⟨v1,n1,cs1⟩,⟨v3,n3,cs3⟩]=N:=by simp[dl];omega
 have q2:fQ [⟨v1,n1,cs1⟩,⟨v3,n3,cs3⟩]=cs1++cs3:=by simp[fQ]
 rw[q1,q2]at ho;have ho':=cV ho LY.size;rcases ho'.2 with⟨e,h0⟩ | ⟨g,cap,cur,e,rest⟩
 ·subst e;subst h0;exact⟨none,0,rfl,ho',ab LY hb9⟩
 ·subst e;exact⟨_,cap,rfl,ho',ab LY hb9⟩
def J2 (w w2:LC) (t:V) (i:Nat) (a2:Option Addr) (c2:Nat) (wc:LC):Prop:=
 ∃ a9 c9,ag wc w.heap.size (.int .i64 t.kind) (.int .i64 t.n) (.string ⟨t.s.toArray⟩) (.slice a9 (t.keys.length - 1) c9) (.slice a2 t.l.length c2) /\
  Lc wc (w.heap.size+1) /\
  wc.ownsRow w2.heap.size 9 1 (.slice a9 (t.keys.length - 1) c9) (t.keys.length - 1) ((t.keys.take i).map aR++(t.keys.drop (i+1)).map aR) /\
  La w wc/\w2.heap.size<=wc.heap.size
theorem tY(w ok d t v key)(h:bu w ok (d+1) t v)(hf:dO t key=none):Calls prog 163 #[v,aR key] w fun e w'=>∃ r,e=.returned r/\bu w' (bQ ok w.heap.size) (d+1) t r/\La w w':=by
 have H:=aa h;obtain⟨ks,ls,rfl,h1,h2,h3,h4,h5⟩:=h;obtain⟨a1,c1,rfl⟩:=h4.form;obtain⟨a2,c2,rfl⟩:=h5.form;have l1:=h4.1;have l2:=h5.1;have F:=aa hf;clear hf;unfold maxLen at l1 h3 l2;unfold aR;clear h4 h5 h1 h2;go_enter func163,ntmps163;go_wp2_with fail
 refine Lk (kJ _ ok _ t _ key (by exact H.o.bel (ab (ae _ _) (ae _ _)))) fun w2 hb2=>?_;rw[F.o];have bx2:Ll (KY w2 w.heap.size t a1 c1 a2 c2/\Lc w2 (w.heap.size+1)):=⟨af hb2 (fb w _ _),af hb2 (et w _ _)⟩
 have B2:Ll (La w w2):=ab (ab (ae _ _) (ae _ _)) hb2;clear hb2;unfold pS;have p0_:=bx2.o.1.c;have x0_:=bx2.o.2.c;obtain⟨z0,z1,z2,z3,z4,-⟩:=(LH bx2.o.2.set t a1 c1 a2 c2).c;have Z:Ll (_/\_/\_/\_/\_):=⟨z0,z1,z2,z3,z4⟩
 go_wp2_with fail
 obtain⟨z0,z1,z2,z3,z4⟩:=Z.o;refine MM (v:=.agg (KV t a1 c1 a2 c2)) ?_ rfl ?_
 ·simp only[ar]at z0 z1 z2 z3 z4;simp[results,results163,go_sem,z0,z1,z2,z3,z4]
 ·have hb9:=bS (eD (aq (r:=none) B2.o) (Nat.le_succ w.heap.size) (.int .i64 t.kind) (.int .i64 t.n) (.string ⟨t.s.toArray⟩) (.slice a1 t.keys.length c1) (.slice a2 t.l.length c2));exact⟨_,rfl,(H.o.bel hb9).toN,hb9⟩
theorem rk(w ok d t v key i)(h:bu w ok (d+1) t v)(hf:dO t key=some i)(L9:t.l.length<=100000):Calls prog 163 #[v,aR key] w fun e w'=>∃ r,e=.returned r/\bu w' (bQ ok w.heap.size) (d+1) { t with keys:=t.keys.take i++t.keys.drop (i+1),l:=t.l.take i++t.l.drop (i+1) } r/\La w w':=by
 have H:=aa h;obtain⟨ks,ls,rfl,h1,h2,h3,h4,h5⟩:=h;have KK:Ll (dW t.kind/\dW t.n/\t.s.length<=maxLen/\ao w ok t.keys ks/\cS w ok (bu w ok d) t.l ls):=⟨h1,h2,h3,h4,h5⟩
 obtain⟨f1,f2,f3,f4⟩:=fW hf;have hkl:t.keys.length=t.l.length:=by
  simp only[aK,MJ,decide_eq_true_eq]at f1;exact f1.2
 have F:=aa hf;have hkl1:t.keys.length<=t.l.length:=by omega
 have hkl2:t.l.length<=t.keys.length:=by omega
 clear hf f1 f2 f4 hkl;obtain⟨_,K4⟩:=h4;rcases K4 with⟨e,_⟩ | ⟨kb,ko,c1,hks,kc1,kc2,-⟩
 ·have:t.keys.length=0:=by rw[e];rfl
  omega
 subst hks;obtain⟨_,K5⟩:=h5;rcases K5 with⟨e,_⟩ | ⟨b,off,c2,hls,hc1,hc2,-⟩
 ·rw[e]at f3;simp at f3
 subst hls;unfold maxLen at h3 hc2 kc2;unfold aR;clear h1 h2;have hsz2:t.keys.length<=100000:=by omega
 have hik:i < t.keys.length:=by omega
 go_enter func163,ntmps163;go_wp2_with fail
 refine Lk (kJ _ ok _ t _ key (by exact H.o.bel (ab (ae _ _) (ae _ _)))) fun w2 hb2=>?_;rw[F.o];have bx2:Ll (ag w2 w.heap.size (.int .i64 t.kind) (.int .i64 t.n) (.string ⟨t.s.toArray⟩) (.slice (some ⟨kb,ko,none⟩) t.keys.length c1) (.slice (some ⟨b,off,none⟩) t.l.length c2)/\Lc w2 (w.heap.size+1)):=⟨af hb2 (fb w _ _),af hb2 (et w _ _)⟩
 have B2:Ll (La w w2):=ab (ab (ae _ _) (ae _ _)) hb2;have hsz3:w.heap.size+1 < w2.heap.size:=bx2.o.2.lt;clear hb2;unfold pS;obtain⟨p0,p1,p2,p3,p4,-,-,-,p9,p10⟩:=bx2.o.1.c;have i0:0<=(i:Int):=by omega
 have i1:(i:Int)<=(c1:Int):=by omega
 have i2:(i:Int)+1<=(t.keys.length:Int):=by omega
 have i3:(t.keys.length:Int)<=(c1:Int):=by omega
 have hw1:IntKind.i64.wrap ((i:Int)+1)=(i:Int)+1:=by rw[IntKind.wrap_i64];omega
 have i4:(0:Int)<=(i:Int)+1:=by omega
 have j1:(i:Int)<=(c2:Int):=by omega
 have j2:(i:Int)+1<=(t.l.length:Int):=by omega
 have j3:(t.l.length:Int)<=(c2:Int):=by omega
 have fin10:Ll (∀ w3 a9 cap,w3.ownsRow w2.heap.size 9 1 (.slice a9 (t.keys.length - 1) cap) (t.keys.length - 1) ((t.keys.take i).map aR++(t.keys.drop (i+1)).map aR)->La w2 w3 ->
  J2 w w2 t i (some ⟨b,off,none⟩) c2 (w3.setCell ⟨w.heap.size,3,none⟩ (.slice a9 (t.keys.length - 1) cap))):=by
  intro w3 a9 cap ho hb;have g1:w3.grownBy (w3.setCell ⟨w.heap.size,3,none⟩ (.slice a9 (t.keys.length - 1) cap)) (some w.heap.size):=ap (az _ _) _ _;refine⟨a9,cap,xx (af hb bx2.o.1) _,(af hb bx2.o.2).grown g1 (by simp),aW ho g1 (by omega),?_,MH hb.size g1.size⟩;exact bS (bi (aq (ab B2.o hb)) (MG _) _ _)
 go_upto_region 4 with fail
 go_cut [5] (fun j wc'=>j=.int .i64 (i:Nat)/\J2 w w2 t i (some ⟨b,off,none⟩) c2 wc')
 case first=>
  have k3:∀ o,(w2.alloc o).cell? ⟨w.heap.size,3,none⟩=some (.slice (some ⟨kb,ko,none⟩) t.keys.length c1):=fun o=>(af (ae w2 o) bx2.o.1).c.2.2.2.1;obtain⟨s1,s2⟩:=qG KK.o.2.2.2.1 i (i+1) (by omega) hik (by omega);obtain⟨a3,hifs⟩:∃ a3,(if c1=i+1 then (some ⟨kb,ko,none⟩:Option Addr) else some ⟨kb,ko+(i+1),none⟩)=a3:=⟨_,rfl⟩
  rw[Nat.mul_one,hifs]at s2;have con:Ll (∀ W,W.heap=(w2.alloc (.cells #[.slice (some ⟨kb,ko,none⟩) i c1,.slice a3 (t.keys.length - (i+1)) (c1 - (i+1))] 36)).heap->W.os=w2.os->W.tape=w2.tape->W.output=w2.output ->
   Calls prog 192 #[.slice (some ⟨w2.heap.size,0,none⟩) 2 2] W fun e w'=>∃ a9 cap,e=.returned (.slice a9 (t.keys.length - 1) cap)/\w'.ownsRow w2.heap.size 9 1 (.slice a9 (t.keys.length - 1) cap) (t.keys.length - 1) ((t.keys.take i).map aR++(t.keys.drop (i+1)).map aR)/\La w2 w'):=by
   intro W e1 e2 e4 e5;exact pK (s1.bel B2.o) (s2.bel B2.o) (by omega) (by omega) W e1 e2 e4 e5
  clear s1 s2;go_region_with ((go_at_call 192;refine(con.o _ (by rfl) (by rfl) (by rfl) (by rfl)).mono ?_;rintro e w3 ⟨a9,cap,rfl,ho3,hb3⟩;obtain⟨p0,p1,p2,p3,p4,-,-,-,p9,p10⟩:=(af hb3 bx2.o.1).c;have O3:=aa ho3;have HB3:=aa hb3;clear ho3 hb3))
  all_goals
   go_wp2_with fail
   go_meet
   case rel=>exact⟨rfl,fin10.o _ _ _ O3.o HB3.o⟩
 case rest=>
  obtain⟨rfl,a9,kcap,hm1,hm2,hm3,hm4,hm5⟩:=hcut;have M:Ll (ag wc w.heap.size (.int .i64 t.kind) (.int .i64 t.n) (.string ⟨t.s.toArray⟩) (.slice a9 (t.keys.length - 1) kcap) (.slice (some ⟨b,off,none⟩) t.l.length c2)/\Lc wc (w.heap.size+1)/\wc.ownsRow w2.heap.size 9 1 (.slice a9 (t.keys.length - 1) kcap) (t.keys.length - 1) ((t.keys.take i).map aR++(t.keys.drop (i+1)).map aR)/\La w wc/\w2.heap.size<=wc.heap.size):=⟨hm1,hm2,hm3,hm4,hm5⟩
  clear hm1 hm2 hm3 hm4 fin10;obtain⟨p0,p1,p2,p3,p4,-,-,-,p9,p10⟩:=M.o.1.c;have k4:∀ o,(wc.alloc o).cell? ⟨w.heap.size,4,none⟩=some (.slice (some ⟨b,off,none⟩) t.l.length c2):=fun o=>(af (ae wc o) M.o.1).c.2.2.2.2.1;obtain⟨cs1,cs2,r1,s1,r2,s2⟩:=km KK.o.2.2.2.2 i (i+1) (by omega) f3 (by omega);obtain⟨a3,hifs⟩:∃ a3,(if c2=i+1 then (some ⟨b,off,none⟩:Option Addr) else some ⟨b,off+(i+1) * 5,none⟩)=a3:=⟨_,rfl⟩
  rw[hifs]at s2;have con:Ll (∀ W,W.heap=(wc.alloc (.cells #[.slice (some ⟨b,off,none⟩) i c2,.slice a3 (t.l.length - (i+1)) (c2 - (i+1))] 37)).heap->W.os=wc.os->W.tape=wc.tape->W.output=wc.output ->
   Calls prog 191 #[.slice (some ⟨wc.heap.size,0,none⟩) 2 2] W fun e w'=>∃ a8 cap,e=.returned (.slice a8 (t.l.length - 1) cap)/\w'.ownsRow wc.heap.size 39 5 (.slice a8 (t.l.length - 1) cap) (t.l.length - 1) (cs1++cs2)/\La wc w'):=by
   intro W e1 e2 e4 e5;exact nB (s1.bel M.o.2.2.2.1) (s2.bel M.o.2.2.2.1) (by omega) (by omega) W e1 e2 e4 e5
  have fin:Ll (∀ w3 a8 cap,w3.ownsRow wc.heap.size 39 5 (.slice a8 (t.l.length - 1) cap) (t.l.length - 1) (cs1++cs2)->La wc w3 ->
   bu (ar (w3.setCell ⟨w.heap.size,4,none⟩ (.slice a8 (t.l.length - 1) cap)) (w.heap.size+1) (.int .i64 t.kind) (.int .i64 t.n) (.string ⟨t.s.toArray⟩) (.slice a9 (t.keys.length - 1) kcap) (.slice a8 (t.l.length - 1) cap)) (bQ ok w.heap.size) (d+1) { t with keys:=t.keys.take i++t.keys.drop (i+1),l:=t.l.take i++t.l.drop (i+1) } (.agg #[.int .i64 t.kind,.int .i64 t.n,.string ⟨t.s.toArray⟩,.slice a9 (t.keys.length - 1) kcap,.slice a8 (t.l.length - 1) cap]) /\
   La w (ar (w3.setCell ⟨w.heap.size,4,none⟩ (.slice a8 (t.l.length - 1) cap)) (w.heap.size+1) (.int .i64 t.kind) (.int .i64 t.n) (.string ⟨t.s.toArray⟩) (.slice a9 (t.keys.length - 1) kcap) (.slice a8 (t.l.length - 1) cap))/\ag (ar (w3.setCell ⟨w.heap.size,4,none⟩ (.slice a8 (t.l.length - 1) cap)) (w.heap.size+1) (.int .i64 t.kind) (.int .i64 t.n) (.string ⟨t.s.toArray⟩) (.slice a9 (t.keys.length - 1) kcap) (.slice a8 (t.l.length - 1) cap)) (w.heap.size+1) (.int .i64 t.kind) (.int .i64 t.n) (.string ⟨t.s.toArray⟩) (.slice a9 (t.keys.length - 1) kcap) (.slice a8 (t.l.length - 1) cap)):=by
   intro w3 a8 cap ho hb;have g1:w3.grownBy (w3.setCell ⟨w.heap.size,4,none⟩ (.slice a8 (t.l.length - 1) cap)) (some w.heap.size):=ap (az _ _) _ _;have g2:=aI (w3.setCell ⟨w.heap.size,4,none⟩ (.slice a8 (t.l.length - 1) cap)) (w.heap.size+1) (.int .i64 t.kind) (.int .i64 t.n) (.string ⟨t.s.toArray⟩) (.slice a9 (t.keys.length - 1) kcap) (.slice a8 (t.l.length - 1) cap);have LU:=((af hb M.o.2.1).grown g1 (by simp)).set (.int .i64 t.kind) (.int .i64 t.n) (.string ⟨t.s.toArray⟩) (.slice a9 (t.keys.length - 1) kcap) (.slice a8 (t.l.length - 1) cap);have hbw:La w w3:=ab M.o.2.2.2.1 hb;have hb9:La w (ar (w3.setCell ⟨w.heap.size,4,none⟩ (.slice a8 (t.l.length - 1) cap)) (w.heap.size+1) (.int .i64 t.kind) (.int .i64 t.n) (.string ⟨t.s.toArray⟩) (.slice a9 (t.keys.length - 1) kcap) (.slice a8 (t.l.length - 1) cap)):=bS (eD (bi (aq hbw) (MG _) _ _) (by omega) _ _ _ _ _);refine⟨⟨_,_,by simp only[Mx,MC,MB];congr 5 <;> omega,KK.o.1,KK.o.2.1,KK.o.2.2.1,?_,?_⟩,hb9,LU⟩
   ·have hk3:=aW (aW (fD M.o.2.2.1 hb) g1 (by omega)) g2 (by omega);have LT:t.keys.length - 1=(t.keys.take i++t.keys.drop (i+1)).length:=by simp;omega
    refine kf (B:=w2.heap.size) LT ?_ ?_ (fun k hk=>.inr (by omega)) (by rw[<-LT];unfold maxLen;omega)
    ·rw[List.map_append];exact hk3
    ·intro y hy;simp only[List.mem_append]at hy;rcases hy with hy | hy
     ·exact KK.o.2.2.2.1.mem y (List.mem_of_mem_take hy)
     ·exact KK.o.2.2.2.1.mem y (List.mem_of_mem_drop hy)
   ·have ho9:=aW (aW ho g1 (by omega)) g2 (by omega);have LT:t.l.length - 1=(t.l.take i++t.l.drop (i+1)).length:=by simp;omega
    refine fJ LT ho9 ?_ (fun k hk=>.inr (by omega)) (by rw[<-LT];unfold maxLen;omega);exact(r2.bel (B:=w.heap.size) hb9).append (r1.bel (B:=w.heap.size) hb9)
  clear r1 r2 s1 s2;go_upto_region 5 with fail
  go_region_with ((go_at_call 191;refine(con.o _ (by rfl) (by rfl) (by rfl) (by rfl)).mono ?_;rintro e w3 ⟨a8,cap,rfl,ho3,hb3⟩;obtain⟨p0,p1,p2,p3,p4,-,-,-,p9,p10⟩:=(af hb3 M.o.1).c;have x0_:=(af hb3 M.o.2.1).c;have O3:=aa ho3;have HB3:=aa hb3;clear ho3 hb3))
  all_goals
   go_wp2_with fail
   obtain⟨f1,f2,f3⟩:=fin.o _ a8 cap O3.o HB3.o;have z0_:=f3.c;refine MM (v:=.agg #[.int .i64 t.kind,.int .i64 t.n,.string ⟨t.s.toArray⟩,.slice a9 (t.keys.length - 1) kcap,.slice a8 (t.l.length - 1) cap]) ?_ rfl ?_
   ·simp only[ar]at z0_;simp[results,results163,go_sem,z0_]
   ·exact⟨_,rfl,f1,f2⟩
theorem ui(w ok d t v key)(h:bu w ok (d+1) t v)(L9:t.l.length<=100000):Calls prog 163 #[v,aR key] w fun e w'=>∃ r,e=.returned r/\bu w' (bQ ok w.heap.size) (d+1) (bH t key) r/\La w w':=by
 unfold bH;cases hf:dO t key with
 | none=>exact tY w ok d t v key h hf
 | some i=>exact rk w ok d t v key i h hf L9
end
theorem gf(w ok t x v xv key)(h:In w ok t v)(hx:In w ok x xv)(hp:aK t=true)(hl:t.l.length<=100000)(hk:key.length<=9223372036854775807):Calls prog 158 #[v,aR key,xv] w fun e w'=>∃ r,e=.returned r/\In w' (bQ ok w.heap.size) (aG t key x) r/\La w w':=by
 obtain⟨d,h1,h2⟩:=h.two hx;refine(ut w ok d t x v xv key h1 h2 hp hl hk).mono ?_;rintro e w' ⟨r,rfl,hr,hb⟩;exact⟨r,rfl,hr.is,hb⟩
theorem jD(w ok t v key)(h:In w ok t v)(hl:t.l.length<=100000):Calls prog 163 #[v,aR key] w fun e w'=>∃ r,e=.returned r/\In w' (bQ ok w.heap.size) (bH t key) r/\La w w':=by
 obtain⟨d,h⟩:=h.at;refine(ui w ok d t v key h hl).mono ?_;rintro e w' ⟨r,rfl,hr,hb⟩;exact⟨r,rfl,hr.is,hb⟩
variable {c d:Nat}
theorem tg{l a}(h:cS w ok (bu w ok d) l (.slice a n c))(i j)(hij:i<=j)(hj:j<=l.length)(hl:l.length<=1000000):∃ cs1 cs2 v1 v3,cA (bu w ok d) (l.take i) cs1/\cA (bu w ok d) (l.drop j) cs2/\du w 5 v1 i cs1/\du w 5 v3 (l.length - j) cs2/\(c=0/\l.length=0/\v1=.slice a 0 0/\v3=.slice a l.length 0\/∃ b off,a=some ⟨b,off,none⟩/\l.length<=c/\c<=9223372036854775807/\v1=.slice (some ⟨b,off,none⟩) i c/\v3=.slice (if c=j then some ⟨b,off,none⟩ else some ⟨b,off+j * 5,none⟩) (l.length - j) (c - j)):=by
 have h':=h;obtain⟨_,K5⟩:=h;rcases K5 with⟨e,e2⟩ | ⟨b,off,c,hls,hc1,hc2,Mb⟩
 ·obtain⟨a0,e2⟩:=e2;simp only[Value.slice.injEq]at e2;obtain⟨-,e3,e6⟩:=e2;subst e6;have e4:l.length=0:=by rw[e];rfl
  have e5:j=0:=by omega
  have e7:i=0:=by omega
  refine⟨[],[],_,_,?_,?_,?_,?_,.inl ⟨rfl,e4,rfl,rfl⟩⟩
  ·rw[e,List.take_nil];rfl
  ·rw[e,List.drop_nil];rfl
  ·rw[e7];exact mi w 5 a
  ·rw[e4,e5];exact mi w 5 a
 ·simp only[Value.slice.injEq]at hls;obtain⟨rfl,rfl,rfl⟩:=hls;obtain⟨cs1,cs2,r1,s1,r2,s2⟩:=km h' i j hij hj hl;exact⟨cs1,cs2,_,_,r1,r2,s1,s2,.inr ⟨b,off,rfl,hc1,hc2,rfl,rfl⟩⟩
theorem eI(w ok t v s)(h:In w ok t v)(hs:s.length<=9223372036854775807):Calls prog 235 #[v,aR s] w fun e w'=>∃ x b,e=.returned (.tuple #[x,.bool b])/\La w w'/\cZ w' ok (cg t s) x b:=by
 have H:=aa h.low;have HO:=aa h;obtain⟨l1,l2,l3⟩:=h.lens;obtain⟨a1,a2,c1,c2,rfl⟩:=h.form;clear h;by_cases hk:t.kind=4
 ·have q1:(t.kind == 4)=true:=by rw[hk];rfl
  have q2:(t.kind != 4)=false:=by rw[hk];rfl
  by_cases hm:∃ i,cX t.l.length s=some i/\i < t.l.length
  ·obtain⟨i,hp,hi⟩:=hm;have HM:Ll (cg t s=some t.l[i]):=aa (by unfold cg;rw[if_pos hk,hp,Option.bind_some,Mw hi]);have HP:=aa hp;have e1:((i:Int) == (t.l.length:Int))=false:=by rw[MO];omega
   clear hp hk;obtain⟨b,off,a5,c5,a6,c6,rfl,hc1,hc2,g0,g1,g2,g3,g4,g5⟩:=HO.o.item hi;have G:Ll (_/\_/\_/\_/\_):=⟨g0,g1,g2,g3,g4⟩
   have G5:=aa g5.low;clear g0 g1 g2 g3 g4 g5;go_enter func235,ntmps235;go_wp2_with fail
   refine(jb _ _ t.l.length c2 s l2 hs).mono ?_;rintro e w1 ⟨rfl,hw⟩;rw[HP.o];unfold ow;have hb1:La w w1:=by rw[hw];exact ab (ae _ _) (ae _ _)
   have LU:Lc w1 (w.heap.size+1):=by rw[hw];exact et w _ _
   have hbv:ag w1 w.heap.size (.int .i64 t.kind) (.int .i64 t.n) (.string ⟨t.s.toArray⟩) (.slice a1 t.keys.length c1) (.slice (some ⟨b,off,none⟩) t.l.length c2):=by rw[hw];exact fb w _ _
   obtain⟨-,-,-,-,p4,-⟩:=hbv.c;have x0_:=LU.c;have Z:Ll (La w w1/\ag (ar w1 (w.heap.size+1) (.int .i64 t.l[i].kind) (.int .i64 t.l[i].n) (.string ⟨t.l[i].s.toArray⟩) (.slice a5 t.l[i].keys.length c5) (.slice a6 t.l[i].l.length c6)) (w.heap.size+1) (.int .i64 t.l[i].kind) (.int .i64 t.l[i].n) (.string ⟨t.l[i].s.toArray⟩) (.slice a5 t.l[i].keys.length c5) (.slice a6 t.l[i].l.length c6)):=⟨hb1,LU.set _ _ _ _ _⟩
   obtain⟨g0,g1,g2,g3,g4⟩:=G.o;have m0:=ah hb1 g0;have m1:=ah hb1 g1;have m2:=ah hb1 g2;have m3:=ah hb1 g3;have m4:=ah hb1 g4;clear hw hb1 LU hbv g0 g1 g2 g3 g4 G;simp only[Option.getD_some,Option.isSome_some];go_wp2_with fail
   have z0_:=Z.o.2.c;refine MM (v:=.tuple #[.agg #[.int .i64 t.l[i].kind,.int .i64 t.l[i].n,.string ⟨t.l[i].s.toArray⟩,.slice a5 t.l[i].keys.length c5,.slice a6 t.l[i].l.length c6],.bool true]) ?_ rfl ?_
   ·simp only[ar]at z0_;simp[results,results235,go_sem,z0_]
   ·refine⟨_,_,rfl,aP Z.o.1 (Nat.le_succ _) _ _ _ _ _,?_⟩;rw[HM.o];exact cZ.some (((G5.o.bel Z.o.1).grown (aI w1 _ _ _ _ _ _) (fun k hk=>by omega)).weak fun k hk=>hk.1)
  ·have HM:Ll (cg t s=none):=aa (by
    unfold cg;rw[if_pos hk];cases hp:cX t.l.length s with
    | none=>rfl
    | some i=>rw[Option.bind_some,List.getElem?_eq_none];exact Nat.le_of_not_lt fun h=>hm ⟨i,hp,h⟩)
   have hq:((cX t.l.length s).isSome=false/\cX t.l.length s=none)\/cX t.l.length s=some t.l.length:=by
    cases hp:cX t.l.length s with
    | none=>exact .inl ⟨rfl,rfl⟩
    | some i=>
     have h1:=pV hp;have h2:¬i < t.l.length:=fun h=>hm ⟨i,hp,h⟩;exact .inr (by rw[show i=t.l.length by omega])
   have e1:((t.l.length:Int) == (t.l.length:Int))=true:=by simp
   clear hm hk;rcases hq with⟨-,hp⟩ | hp
   all_goals
    have HP:=aa hp;clear hp;go_enter func235,ntmps235;go_wp2_with fail
    refine(jb _ _ t.l.length c2 s l2 hs).mono ?_;rintro e w1 ⟨rfl,hw⟩;rw[HP.o];unfold ow;have hb1:La w w1:=by rw[hw];exact ab (ae _ _) (ae _ _)
    have LU:Lc w1 (w.heap.size+1):=by rw[hw];exact et w _ _
    have hbv:KY w1 w.heap.size t a1 c1 a2 c2:=by rw[hw];exact fb w _ _
    obtain⟨-,-,-,-,p4,-⟩:=hbv.c;have x0_:=LU.c;have Z:Ll (La w w1/\Lc (ar w1 (w.heap.size+1) (.int .i64 0) (.int .i64 0) (.string ⟨#[]⟩) (.slice none 0 0) (.slice none 0 0)) (w.heap.size+1)):=⟨hb1,LU.set _ _ _ _ _⟩
    clear hw hb1 LU hbv;simp only[Option.getD_some,Option.isSome_some,Option.getD_none,Option.isSome_none];go_wp2_with fail
    have z0_:=Z.o.2.c;refine MM (v:=.tuple #[.agg Lb,.bool false]) ?_ rfl ?_
    ·simp only[ar]at z0_;simp[results,results235,go_sem,z0_]
    ·refine⟨_,_,rfl,aP Z.o.1 (Nat.le_succ _) _ _ _ _ _,?_⟩;rw[HM.o];exact cZ.none (fG _ _)
 ·have q1:(t.kind == 4)=false:=by rw[MO];exact hk
  have q2:(t.kind != 4)=true:=by rw[bne_iff_ne];exact hk
  have HM:Ll (cg t s=aS t s):=aa (by unfold cg;rw[if_neg hk]);clear hk;go_enter func235,ntmps235;go_wp2_with fail
  refine(co _ (Lj ok w) t _ s (by exact H.o.bel (ab (ae _ _) (ae _ _)))).mono ?_;rintro e w1 ⟨x,b,rfl,hb1,hb2,y,hy,hyz⟩;obtain⟨a5,a6,c5,c6,rfl⟩:=hy.form;have R:Ll (La w w1/\b=(cg t s).isSome/\In w1 (Lj ok w) y (.agg (KV y a5 c5 a6 c6))/\∀ z,cg t s=some z->y=z):=
   ⟨ab (ab (ae _ _) (ae _ _)) hb1,by rw[HM.o];exact hb2,hy,by rw[HM.o];exact hyz⟩
  have LU:Lc w1 (w.heap.size+1):=af hb1 (et w _ _);have x0_:=LU.c;have Z:Ll (KY (LG w1 (w.heap.size+1) y a5 c5 a6 c6) (w.heap.size+1) y a5 c5 a6 c6):=LU.set _ _ _ _ _;clear hb1 hb2 hy hyz LU;go_wp2_with fail
  have z0_:=Z.o.c;refine MM (v:=.tuple #[.agg (KV y a5 c5 a6 c6),.bool b]) ?_ rfl ?_
  ·simp only[ar]at z0_;simp[results,results235,go_sem,z0_]
  ·obtain⟨r1,r2,r3,r4⟩:=R.o;refine⟨_,_,rfl,aP r1 (Nat.le_succ _) _ _ _ _ _,r2,y,?_,r4⟩;exact(r3.grown (aI w1 _ _ _ _ _ _) (fun k hk=>by omega)).weak fun k hk=>hk.1
variable {x:V}
variable {i:Nat}
theorem sY{xs}(h:ao w ok xs v)(hl:xs.length<=1000000):du w 1 v xs.length (xs.map aR):=by
 have h':=h;rcases h.2 with⟨rfl,a,rfl⟩ | ⟨b,off,c,rfl,h1,h2,h3⟩
 ·exact mi w 1 a
 ·have:=(qG h' xs.length xs.length (MG _) (MG _) hl).1;rwa [List.take_length]at this
theorem AF{xs}(h:cS w ok (bu w ok d) xs v)(hl:xs.length<=1000000):∃ cs,cA (bu w ok d) xs cs/\du w 5 v xs.length cs:=by
 have h':=h;rcases h.2 with⟨rfl,a,rfl⟩ | ⟨b,off,c,rfl,h1,h2,h3⟩
 ·exact⟨[],rfl,mi w 5 a⟩
 ·obtain⟨c1,c2,r1,s1,-,-⟩:=km h' xs.length xs.length (MG _) (MG _) hl;rw[List.take_length]at r1;exact⟨c1,r1,s1⟩
theorem ej{e:TypeId}{size xs}(h:w.ownsRow B e size v n xs):∃ a c,v=.slice a n c/\(n=0\/∃ g,a=some ⟨g,0,none⟩)/\n<=c/\c<=9223372036854775807/\∀ g,a=some ⟨g,0,none⟩->B<=g/\g < w.heap.size:=by
 have hlt:=h.lt;rcases h.2 with⟨rfl,h0⟩ | ⟨g,cap,cur,rfl,h1,h2,h3,h4,-⟩
 ·exact⟨none,0,by rw[h0],.inl h0,by omega,by omega,fun g e=>by cases e⟩
 ·exact⟨_,cap,rfl,.inr ⟨g,rfl⟩,h3,h4,fun g' e=>by cases e;exact hlt g rfl⟩
theorem ry{e:TypeId}{size a xs}(h:w.ownsRow B e size (.slice a n c) n xs):a=none\/∃ g,a=some ⟨g,0,none⟩:=by
 rcases h.2 with⟨e,-⟩ | ⟨g,cap,cur,e,-⟩
 ·simp only[Value.slice.injEq]at e;exact .inl e.1
 ·simp only[Value.slice.injEq]at e;exact .inr ⟨g,e.1⟩
theorem mQ:∀ {xs:List V} {cs:List Value},cA (In w ok) xs cs->∃ D,cA (bu w ok D) xs cs
 | [],cs,h=>⟨0,h⟩
 | x :: xs,cs,h=>by
  obtain⟨v0,v1,v2,v3,v4,rest,e,⟨d,hd⟩,hr⟩:=h;obtain⟨D,hD⟩:=mQ hr;exact⟨d+D,v0,v1,v2,v3,v4,rest,e,bu.le (by omega) hd,hD.imp fun _ _ h=>bu.le (by omega) h⟩
theorem nG(h:ce x=true)(hl:x.l.length<=120):x.keys.length<=120:=by
 unfold ce cp at h;repeat' split at h
 all_goals first | (simp only[MJ,decide_eq_true_eq]at h;omega) | cases h
def vr (w:LC) (g i:Nat) (d0 d1 d2 d3 d4:Value):LC:=
 ((((w.setCell ⟨g,i,none⟩ d0).setCell ⟨g,i+1,none⟩ d1).setCell ⟨g,i+2,none⟩ d2).setCell ⟨g,i+3,none⟩ d3).setCell ⟨g,i+4,none⟩ d4
theorem us(w:LC)(g i d0 d1 d2 d3 d4):w.grownBy (vr w g i d0 d1 d2 d3 d4) (some g):=
 ap (ap (ap (ap (ap (az _ _) _ _) _ _) _ _) _ _) _ _
theorem Ad{e:TypeId}{cap xs zs d0 d1 d2 d3 d4 v0 v1 v2 v3 v4}(h:w.ownsRow B e 5 (.slice (some ⟨g,0,none⟩) n cap) n (xs++v0 :: v1 :: v2 :: v3 :: v4 :: zs)):(vr w g xs.length d0 d1 d2 d3 d4).ownsRow B e 5 (.slice (some ⟨g,0,none⟩) n cap) n (xs++d0 :: d1 :: d2 :: d3 :: d4 :: zs):=by
 obtain⟨hl,h⟩:=h;refine⟨by simpa using hl,?_⟩;rcases h with⟨e,_⟩ | ⟨g',cap',cur,e1,h1,h2,h3,h4,h5,h6⟩
 ·cases e
 ·simp only[Value.slice.injEq,Option.some.injEq,Addr.mk.injEq,true_and,and_true]at e1;obtain⟨rfl,rfl⟩:=e1;have e9:=ak (ak (ak (ak (ak h2 xs.length d0) (xs.length+1) d1) (xs.length+2) d2) (xs.length+3) d3) (xs.length+4) d4;refine .inr ⟨g,cap,_,rfl,h1,e9,h3,h4,by simp[h5],?_⟩;obtain⟨tl,hcur⟩:∃ tl,cur.toList=(xs++v0 :: v1 :: v2 :: v3 :: v4 :: zs)++tl:=⟨cur.toList.drop (n * 5),by rw[<-h6,List.take_append_drop]⟩
  have key:∀ (r:List Value),(((((xs++v0 :: v1 :: v2 :: v3 :: v4 :: r).set xs.length d0).set (xs.length+1) d1).set (xs.length+2) d2).set (xs.length+3) d3).set (xs.length+4) d4=xs++d0 :: d1 :: d2 :: d3 :: d4 :: r:=by
   intro r;simp[List.set_append]
  have hcur2:cur.toList=xs++v0 :: v1 :: v2 :: v3 :: v4 :: (zs++tl):=by rw[hcur];simp
  simp only[Array.toList_setIfInBounds];rw[hcur2,key];have hn:n * 5=(xs++d0 :: d1 :: d2 :: d3 :: d4 :: zs).length:=by rw[<-hl];simp
  have e10:xs++d0 :: d1 :: d2 :: d3 :: d4 :: (zs++tl)=(xs++d0 :: d1 :: d2 :: d3 :: d4 :: zs)++tl:=by simp
  rw[e10,List.take_append_of_le_length (by omega),MD (by omega)]
theorem Jc{cs:List Value}{v0 v1 v2 v3 v4}(g0:cs[i * 5]?=some v0)(g1:cs[i * 5+1]?=some v1)(g2:cs[i * 5+2]?=some v2)(g3:cs[i * 5+3]?=some v3)(g4:cs[i * 5+4]?=some v4):cs.drop (i * 5)=v0 :: v1 :: v2 :: v3 :: v4 :: cs.drop ((i+1) * 5):=by
 obtain⟨h0,e0⟩:=Mz.1 g0;obtain⟨h1,e1⟩:=Mz.1 g1;obtain⟨h2,e2⟩:=Mz.1 g2;obtain⟨h3,e3⟩:=Mz.1 g3;obtain⟨h4,e4⟩:=Mz.1 g4;rw[ME h0,ME h1,ME h2,ME h3,ME h4,e0,e1,e2,e3,e4,show i * 5+4+1=(i+1) * 5 by omega]
def Jn (w:LC) (g i:Nat):Prop:=(∃ u,w.cell? ⟨g,i,none⟩=some u)/\(∃ u,w.cell? ⟨g,i+1,none⟩=some u)/\(∃ u,w.cell? ⟨g,i+2,none⟩=some u)/\(∃ u,w.cell? ⟨g,i+3,none⟩=some u)/\(∃ u,w.cell? ⟨g,i+4,none⟩=some u) /\
 w.frozen? ⟨g,i,none⟩=false/\w.frozen? ⟨g,i+1,none⟩=false/\w.frozen? ⟨g,i+2,none⟩=false/\w.frozen? ⟨g,i+3,none⟩=false/\w.frozen? ⟨g,i+4,none⟩=false
theorem lE{e:TypeId}{cap xs zs v0 v1 v2 v3 v4}(h:w.ownsRow B e 5 (.slice (some ⟨g,0,none⟩) n cap) n (xs++v0 :: v1 :: v2 :: v3 :: v4 :: zs))(hi:xs.length=i):w.cell? ⟨g,i,none⟩=some v0/\w.cell? ⟨g,i+1,none⟩=some v1/\w.cell? ⟨g,i+2,none⟩=some v2/\w.cell? ⟨g,i+3,none⟩=some v3/\w.cell? ⟨g,i+4,none⟩=some v4:=by
 subst hi;have c:∀ j u,(xs++v0 :: v1 :: v2 :: v3 :: v4 :: zs)[j]?=some u->w.cell? ⟨g,j,none⟩=some u:=fun j u hj=>by
  have:=h.cells (g:=g) rfl j u hj;rw[eh,Nat.zero_add]at this;exact this
 exact⟨c _ _ (by simp),c _ _ (by simp),c _ _ (by simp),c _ _ (by simp),c _ _ (by simp)⟩
theorem AC{e:TypeId}{cap xs zs v0 v1 v2 v3 v4}(h:w.ownsRow B e 5 (.slice (some ⟨g,0,none⟩) n cap) n (xs++v0 :: v1 :: v2 :: v3 :: v4 :: zs))(hi:xs.length=i):Jn w g i:=by
 obtain⟨c0,c1,c2,c3,c4⟩:=lE h hi;have fz:∀ j,w.frozen? ⟨g,j,none⟩=false:=by
  intro j;rcases h.2 with⟨e,_⟩ | ⟨g',cap',cur,e1,-,h2,-⟩
  ·cases e
  ·simp only[Value.slice.injEq,Option.some.injEq,Addr.mk.injEq,and_true]at e1;obtain⟨rfl,-,-⟩:=e1;simp[World.frozen?,h2]
 exact⟨⟨_,c0⟩,⟨_,c1⟩,⟨_,c2⟩,⟨_,c3⟩,⟨_,c4⟩,fz _,fz _,fz _,fz _,fz _⟩
theorem sK{w1}(h:La w w1)(hg:w.heap.size<=g)(i d0 d1 d2 d3 d4):La w (vr w1 g i d0 d1 d2 d3 d4):=
 bS (bi (bi (bi (bi (bi (aq h) hg _ _) hg _ _) hg _ _) hg _ _) hg _ _)
theorem kM(w:LC)(ok ok' xs ys v1 v2)(h1:ao w ok xs v1)(h2:ao w ok' ys v2):Calls prog 60 #[v1,v2] w fun e w'=>e=.returned (.bool (decide (xs=ys)))/\La w w':=by
 have hm:=h2.1;unfold maxLen at hm;have hm1:=h1.1;unfold maxLen at hm1;obtain⟨a2,c2,e2⟩:=h2.form;rcases h1.2 with⟨rfl,a,rfl⟩ | ⟨b,off,c,rfl,g1,g2,g3⟩
 ·rw[e2];refine LE (Tryz.slices_Equal_string_empty a a2 0 ys.length c2 w hm) ?_;refine⟨?_,MK _ _⟩;congr 2
  cases ys <;> simp
 ·by_cases hl:xs.length=ys.length
  ·rcases h2.2 with⟨rfl,a,e⟩ | ⟨b2,off2,c3,e,f1,f2,f3⟩
   ·have hx:xs=[]:=List.eq_nil_of_length_eq_zero (by simpa using hl);subst hx;rw[e2];refine LE (Tryz.slices_Equal_string_empty _ a2 c 0 c2 w (by omega)) ?_;exact⟨by simp,MK _ _⟩
   ·subst e;refine(Tryz.slices_Equal_string b off xs.length c b2 off2 ys.length c3 (xs.map fun l=>(⟨l.toArray⟩:ByteArray)) (ys.map fun l=>(⟨l.toArray⟩:ByteArray)) w (by simp) (by simp) hm1 hm ?_ ?_).mono ?_
    ·intro j hj;have hj':j < xs.length:=by simpa using hj
     rw[(g3 j xs[j] (Mw hj')).2.2];simp[aR,hj']
    ·intro j hj;have hj':j < ys.length:=by simpa using hj
     rw[(f3 j ys[j] (Mw hj')).2.2];simp[aR,hj']
    ·rintro e w' ⟨rfl,q,rfl⟩;refine⟨?_,⟨rfl,rfl,rfl,MG _,fun _ _=>rfl⟩⟩;congr 2
     rw[MD (by simp),MD (by simp)];have inj:∀ (a b:List Lz),(a.map fun l=>(⟨l.toArray⟩:ByteArray))=(b.map fun l=>(⟨l.toArray⟩:ByteArray))↔a=b:=by
      intro a;induction a with
      | nil=>intro b;cases b <;> simp
      | cons x a ih=>
       intro b;cases b with
       | nil=>simp
       | cons y b=>simp[ih b]
     exact decide_eq_decide.2 (inj xs ys)
  ·rw[e2];refine LE (Tryz.slices_Equal_string_lens _ a2 xs.length c ys.length c2 w hl) ?_;refine⟨?_,MK _ _⟩;congr 2
   have:¬xs=ys:=fun e=>hl (by rw[e]);simp[this]
def eB (a b:V):Bool:=decide (a.kind=b.kind)&&decide (a.n=b.n)&&decide (a.s=b.s)&&decide (a.keys=b.keys)&&decide (a.l.length=b.l.length)
theorem ET(w:LC)(ok ok' a b va vb)(ha:In w ok a va)(hb:In w ok' b vb):Calls prog 40 #[va,vb] w fun e w'=>e=.returned (.bool (eB a b))/\La w w':=by
 obtain⟨l1,l2,l3⟩:=ha.lens;obtain⟨m1,m2,m3⟩:=hb.lens;obtain⟨d1,ha⟩:=ha.at;obtain⟨d2,hb⟩:=hb.at;obtain⟨ks,ls,rfl,-,-,-,h4,h5⟩:=ha;obtain⟨ks',ls',rfl,-,-,-,g4,g5⟩:=hb;have H4:=aa h4;have G4:=aa g4;obtain⟨a1,c1,rfl⟩:=h4.form;obtain⟨a2,c2,rfl⟩:=h5.form;obtain⟨a3,c3,rfl⟩:=g4.form;obtain⟨a4,c4,rfl⟩:=g5.form;clear h4 h5 g4 g5;unfold aR;have B2:Ll (∀ o1 o2,La w ((w.alloc o1).alloc o2)):=fun o1 o2=>ab (ae _ _) (ae _ _);by_cases e1:a.kind=b.kind
 ·have q1:(a.kind == b.kind)=true:=by rw[beq_iff_eq];exact e1
  by_cases e2:a.n=b.n
  ·have q2:(a.n == b.n)=true:=by rw[beq_iff_eq];exact e2
   by_cases e3:a.s=b.s
   ·have q3:(a.s == b.s)=true:=by rw[beq_iff_eq];exact e3
    have HE:Ll (eB a b=(decide (a.keys=b.keys)&&decide (a.l.length=b.l.length))):=aa (by simp[eB,e1,e2,e3]);clear e1 e2 e3;cases hk:decide (a.keys=b.keys) with
    | true=>
     by_cases hl:a.l.length=b.l.length
     ·have q4:((a.l.length:Int) == (b.l.length:Int))=true:=by rw[hl];simp
      have HR:Ll (eB a b=true):=aa (by rw[HE.o,hk];simp[hl]);have HK:=aa hk;clear hk hl;go_enter func40,ntmps40;go_wp2_with fail
      refine Lk (kM _ _ _ a.keys b.keys _ _ (by exact H4.o.bel (B2.o _ _)) (by exact G4.o.bel (B2.o _ _))) fun w1 hb1=>?_;rw[HK.o];have p4:=(af hb1 (fb w _ _)).c.2.2.2.2.1;have r4:=(af hb1 (et w _ _)).c.2.2.2.2.1;have HB:=aa (ab (B2.o _ _) hb1);clear hb1;go_wp2_with fail
      go_ret;exact⟨by rw[HR.o];rfl,HB.o⟩
     ·have q4:((a.l.length:Int) == (b.l.length:Int))=false:=by rw[MO];omega
      have HR:Ll (eB a b=false):=aa (by rw[HE.o,hk];simp[hl]);have HK:=aa hk;clear hk hl;go_enter func40,ntmps40;go_wp2_with fail
      refine Lk (kM _ _ _ a.keys b.keys _ _ (by exact H4.o.bel (B2.o _ _)) (by exact G4.o.bel (B2.o _ _))) fun w1 hb1=>?_;rw[HK.o];have p4:=(af hb1 (fb w _ _)).c.2.2.2.2.1;have r4:=(af hb1 (et w _ _)).c.2.2.2.2.1;have HB:=aa (ab (B2.o _ _) hb1);clear hb1;go_wp2_with fail
      go_ret;exact⟨by rw[HR.o];rfl,HB.o⟩
    | false=>
     have HR:Ll (eB a b=false):=aa (by rw[HE.o,hk];rfl);have HK:=aa hk;clear hk;go_enter func40,ntmps40;go_wp2_with fail
     refine Lk (kM _ _ _ a.keys b.keys _ _ (by exact H4.o.bel (B2.o _ _)) (by exact G4.o.bel (B2.o _ _))) fun w1 hb1=>?_;rw[HK.o];have HB:=aa (ab (B2.o _ _) hb1);clear hb1;go_wp2_with fail
     go_ret;exact⟨by rw[HR.o];rfl,HB.o⟩
   ·have q3:(a.s == b.s)=false:=by rw[MO];exact e3
    have HR:Ll (eB a b=false):=aa (by simp[eB,e3]);clear e1 e2 e3;go_enter func40,ntmps40;go_wp2_with fail
    go_ret;exact⟨by rw[HR.o];rfl,B2.o _ _⟩
  ·have q2:(a.n == b.n)=false:=by rw[MO];exact e2
   have HR:Ll (eB a b=false):=aa (by simp[eB,e2]);clear e1 e2;go_enter func40,ntmps40;go_wp2_with fail
   go_ret;exact⟨by rw[HR.o];rfl,B2.o _ _⟩
 ·have q1:(a.kind == b.kind)=false:=by rw[MO];exact e1
  have HR:Ll (eB a b=false):=aa (by simp[eB,e1]);clear e1;go_enter func40,ntmps40;go_wp2_with fail
  go_ret;exact⟨by rw[HR.o];rfl,B2.o _ _⟩
variable {W:World}
variable {t:V}
theorem my{w1:LC}{C v0 v1 v2 v3 v4}(h:In w1 (bg ok w.heap.size C) t (.agg #[v0,v1,v2,v3,v4]))(hb:La w w1)(hg:w.heap.size<=g)(hC:g < C):La w (ar w1 g v0 v1 v2 v3 v4)/\In (ar w1 g v0 v1 v2 v3 v4) (bQ ok w.heap.size) t (.agg #[v0,v1,v2,v3,v4]):=
 ⟨aP hb hg _ _ _ _ _,(h.box hg hC _ _ _ _ _).weak (ik (by omega))⟩
theorem KH(e1:W.heap=w.heap)(e2:W.os=w.os)(e3:W.tape=w.tape)(e4:W.output=w.output):La w W:=⟨e2,e3,e4,by rw[e1];exact MG _,fun k _=>by rw[e1]⟩
theorem oK{C H}(h:C<=H):∀ k,bQ (bg ok B C) H k->bg ok B C k:=by
 intro k hk;rcases hk with hk | hk
 ·exact hk
 ·exact .inr (by omega)
theorem vN{f:V->V->V}:∀ (ps:List (Lz × V)) (v:V),(ps.foldl (fu f) v).l.length<=v.l.length+ps.length
 | [],v=>by simp
 | p :: ps,v=>by
  have h1:=vN (f:=f) ps (fu f v p);have h2:(fu f v p).l.length<=v.l.length+1:=by
   unfold fu;split
   ·have:=rt v p.1;omega
   ·exact xS _ _ _
  rw[List.foldl_cons,My];omega
theorem Df{v}(h:dz v):(cD v).l.length<=120:=by
 unfold cD;split
 ·exact hU h
 ·simp[jM]
theorem Tj{a:List Lz}{b:List V}(h:k < a.length)(h':k < b.length):(a.zip b)[k]'(by rw[List.length_zip];omega)=(a[k],b[k]):=by simp
theorem EL{β:Type}{g:β->Lz × V->β}{a:List Lz}{b:List V}{v:β}(h:k < a.length)(h':k < b.length):((a.zip b).take (k+1)).foldl g v=g (((a.zip b).take k).foldl g v) (a[k],b[k]):=by
 rw[List.take_succ_eq_append_getElem (by rw[List.length_zip];omega),List.foldl_append,Tj h h'];rfl
theorem Bo{a:List Lz}{b:List V}(hd:a.Nodup)(h:k < a.length):∀ p∈(a.zip b).take k,p.1≠a[k]:=by
 intro p hp e;have ez:(a.zip b).take k=(a.take k).zip (b.take k):=by simp[List.zip,List.take_zipWith]
 rw[ez]at hp;have h1:=(List.of_mem_zip hp).1;rw[e]at h1;obtain⟨i,hi⟩:=List.getElem?_of_mem h1;rw[List.getElem?_take]at hi;split at hi
 ·rename_i hik;have h2:=(Mz.1 hi)
  exact List.pairwise_iff_getElem.1 hd i k h2.1 h hik h2.2
 ·cases hi
theorem Fz{E v p}(hv:dz v)(op:Ob p)(hk:k < p.keys.length):Ob (((p.keys.zip p.l).take k).foldl (fu (dH E)) (cD v))/\aS (((p.keys.zip p.l).take k).foldl (fu (dH E)) (cD v)) p.keys[k]=aS (cD v) p.keys[k]:=by
 have o0:=ul (zO hv);exact⟨Ao (wP _) _ _ o0,wV (wP _) (C5 _) _ _ o0 (Bo (nT op.2.2.2.2) hk)⟩
theorem BG{E v p}(hv:dz v)(hp:dz p):(((p.keys.zip p.l).take k).foldl (fu (dH E)) (cD v)).l.length<=240:=by
 have h1:=vN (f:=dH E) ((p.keys.zip p.l).take k) (cD v);have h2:=Df hv;have h3:=hU hp;have h4:((p.keys.zip p.l).take k).length<=p.l.length:=by rw[MC,List.length_zip];omega
 omega
section
attribute [local go_sem ↓] Go.wp_at_zero Go.wp_at_succ
def Kv (E:Nat):Prop:=∀ (w:LC) (ok:Nat->Prop) (v p:V) (vv pv:Value),In w ok v vv->In w ok p pv->dz v->dz p->Jd E p ->
 Calls prog 135 #[vv,pv] w fun e w'=>∃ r,e=.returned r/\La w w'/\In w' (bQ ok w.heap.size) (dH E v p) r
def Kr (w:LC) (ok:Nat->Prop) (E:Nat) (v p:V) (a3 a4:Option Addr) (c3 c4 k:Nat) (wr:LC):Prop:=
 ∃ (y:V) (a5 a6:Option Addr) (c5 c6:Nat),y=((p.keys.zip p.l).take k).foldl (fu (dH E)) (cD v)/\KY wr w.heap.size y a5 c5 a6 c6/\KY wr (w.heap.size+1) p a3 c3 a4 c4/\Lc wr (w.heap.size+2)/\La w wr/\In wr (bg ok w.heap.size (w.heap.size+3)) y (.agg (KV y a5 c5 a6 c6))
theorem vA(E)(ih:Kv E):Kv (E+1):=by
 intro w ok v p vv pv h hp nv np hd;have H:=aa h.low;have HP:=aa hp.low;have NV:=aa nv;have NP:=aa np;have HD:=aa hd;have IH:=aa ih;obtain⟨l1,l2,l3⟩:=h.lens;obtain⟨l4,l5,l6⟩:=hp.lens;obtain⟨a1,a2,c1,c2,rfl⟩:=h.form;obtain⟨a3,a4,c3,c4,rfl⟩:=hp.form;clear h hp ih nv np hd;have B3:Ll (∀ o1 o2 o3,La w (((w.alloc o1).alloc o2).alloc o3)):=fun o1 o2 o3=>ab (ab (ae _ _) (ae _ _)) (ae _ _);by_cases hk:p.kind=5
 ·have e0:(p.kind != 5)=false:=by rw[hk];rfl
  have OP:Ll (Ob p):=zO NP.o hk;have HM:Ll (dH (E+1) v p=(p.keys.zip p.l).foldl (fu (dH E)) (cD v)):=aa (by rw[dH,if_pos hk]);have HKL:Ll (p.keys.length=p.l.length):=aa OP.o.2.2.2.1;have HK:=aa hk;clear hk;go_enter func135,ntmps135;go_upto_if 15 with fail
  go_cut [] (fun wc=>Kr w ok E v p a3 a4 c3 c4 0 wc)
  case first=>
   by_cases hv5:v.kind=5
   ·have e1:(v.kind != 5)=false:=by rw[hv5];rfl
    have HV:Ll (cD v=v):=aa (by unfold cD;rw[if_pos hv5]);clear hv5;go_wp2_with fail
    go_meet
    case rel=>exact⟨v,a1,a2,c1,c2,HV.o.symm,lI w _ _ _,mE w _ _ _,jI w _ _ _,B3.o _ _ _,(H.o.bel (B3.o _ _ _)).weak aO⟩
   ·have e1:(v.kind != 5)=true:=by rw[bne_iff_ne];exact hv5
    have HV:Ll (cD v=jM):=aa (by unfold cD;rw[if_neg hv5]);clear hv5;go_wp2_with fail
    go_meet
    case rel=>exact⟨jM,none,none,0,0,HV.o.symm,lI w _ _ _,mE w _ _ _,jI w _ _ _,B3.o _ _ _,Ac _ _ 5 0 (by unfold dW;omega) (by unfold dW;omega)⟩
  case rest=>
   have I0:=aa hcut;obtain⟨y,a5,a6,c5,c6,-,-,i2,-⟩:=hcut;obtain⟨p0,p1,p2,p3,p4,-⟩:=i2.c;clear i2;go_wp2_with fail
   go_loopg [20] p.keys.length (fun gk i wr=>∃ k:Nat,k<=p.keys.length/\gk=p.keys.length - k/\i=.int .i64 k/\Kr w ok E v p a3 a4 c3 c4 k wr)
   case atStart=>exact⟨0,Nat.zero_le _,rfl,rfl,I0.o⟩
   case round=>
    obtain⟨k,hk,hgk,rfl,y,a5,a6,c5,c6,i0,i1,i2,i3,i4,i5⟩:=hrel;have GK:=aa hgk;have I:Ll (y=((p.keys.zip p.l).take k).foldl (fu (dH E)) (cD v)/\KY wr w.heap.size y a5 c5 a6 c6/\KY wr (w.heap.size+1) p a3 c3 a4 c4/\Lc wr (w.heap.size+2)/\La w wr/\In wr (bg ok w.heap.size (w.heap.size+3)) y (.agg (KV y a5 c5 a6 c6))):=aa ⟨i0,i1,i2,i3,i4,i5⟩;have hwsz:=i3.lt;obtain⟨p0,p1,p2,p3,p4,-⟩:=i2.c;obtain⟨y0,y1,y2,y3,y4,x0,x1,x2,x3,x4⟩:=i1.c;clear hgk i0 i1 i2 i3 i4 i5;by_cases hlt:k < p.keys.length
    ·have hlt':k < p.l.length:=by have:=HKL.o;omega
     obtain⟨kb,ko,rfl,j1,j2,jk,jl⟩:=HP.o.key hlt;obtain⟨xb,xo,b5,d5,b6,d6,rfl,j3,j4,g0,g1,g2,g3,g4,g5⟩:=HP.o.item hlt';replace jk:=ah I.o.2.2.2.2.1 jk;replace g0:=ah I.o.2.2.2.2.1 g0;replace g1:=ah I.o.2.2.2.2.1 g1;replace g2:=ah I.o.2.2.2.2.1 g2;replace g3:=ah I.o.2.2.2.2.1 g3;replace g4:=ah I.o.2.2.2.2.1 g4;have G5:=aa (g5.bel I.o.2.2.2.2.1);have MA:Ll (Ob y/\aS y p.keys[k]=aS (cD v) p.keys[k]):=aa (by rw[I.o.1];exact Fz NV.o OP.o hlt);have ML:Ll (y.l.length<=240):=aa (by rw[I.o.1];exact BG NV.o NP.o);have ST:Ll (∀ u,u=fu (dH E) y (p.keys[k],p.l[k])->u=((p.keys.zip p.l).take (k+1)).foldl (fu (dH E)) (cD v)):=aa (by rintro u rfl;rw[EL hlt hlt',<-I.o.1]);have w1:(0:Int)<=(k:Int):=by omega
     have w2:(k:Int) < (p.l.length:Int):=by omega
     have w3:(k:Int) < (p.keys.length:Int):=by omega
     clear g5;by_cases hn:p.l[k].kind=0
     ·have e1:(p.l[k].kind == 0)=true:=by rw[hn];rfl
      have HN:=aa hn;clear hn;go_wp2_with fail
      refine(jD _ (bg ok w.heap.size (w.heap.size+3)) y _ p.keys[k] (by exact I.o.2.2.2.2.2) (by have:=ML.o;omega)).mono ?_;rintro e w4 ⟨r,rfl,hr,hb4⟩;obtain⟨u,hu⟩:∃ u,bH y p.keys[k]=u:=⟨_,rfl⟩
      rw[hu]at hr;obtain⟨e5,e6,f5,f6,rfl⟩:=hr.form;have K:Ll (KY w4 w.heap.size y a5 c5 a6 c6/\ag w4 (w.heap.size+1) (.int .i64 p.kind) (.int .i64 p.n) (.string ⟨p.s.toArray⟩) (.slice (some ⟨kb,ko,none⟩) p.keys.length c3) (.slice (some ⟨xb,xo,none⟩) p.l.length c4)/\Lc w4 (w.heap.size+2)/\La w w4/\In w4 (bg ok w.heap.size (w.heap.size+3)) u (.agg (KV u e5 f5 e6 f6))):=aa ⟨af hb4 I.o.2.1,af hb4 I.o.2.2.1,af hb4 I.o.2.2.2.1,ab I.o.2.2.2.2.1 hb4,hr.weak (oK hwsz)⟩;have FIN:Ll (Kr w ok E v p (some ⟨kb,ko,none⟩) (some ⟨xb,xo,none⟩) c3 c4 (k+1) (LG w4 w.heap.size u e5 f5 e6 f6)):=by
       have gs:=aI w4 w.heap.size (.int .i64 u.kind) (.int .i64 u.n) (.string ⟨u.s.toArray⟩) (.slice e5 u.keys.length f5) (.slice e6 u.l.length f6);refine aa ⟨u,e5,e6,f5,f6,ST.o u (by rw[<-hu,fu,if_pos HN.o]),K.o.1.set _ _ _ _ _,K.o.2.1.grown gs (by simp),K.o.2.2.1.grown gs (by simp),aP K.o.2.2.2.1 (MG _) _ _ _ _ _,K.o.2.2.2.2.box (MG _) (by omega) _ _ _ _ _⟩
      clear hu hr hb4;obtain⟨y0,y1,y2,y3,y4,x0,x1,x2,x3,x4⟩:=K.o.1.c;go_wp2_with fail
      go_roundg (p.keys.length - (k+1))
      case measure=>rw[GK.o];omega
      case rel=>exact⟨k+1,hlt,rfl,by go_num,FIN.o⟩
     ·have e1:(p.l[k].kind == 0)=false:=by rw[MO];exact hn
      have HN:=aa hn;clear hn;go_wp2_with fail
      refine(ig _ (bg ok w.heap.size (w.heap.size+3)) y _ p.keys[k] (by exact I.o.2.2.2.2.2)).mono ?_;rintro e w4 ⟨r,rfl,hb4,hr⟩;obtain⟨q,hq⟩:∃ q,(aS y p.keys[k]).getD aM=q:=⟨_,rfl⟩
      rw[hq]at hr;have NQ:Ll (dz q):=aa (by rw[<-hq,MA.o.2];exact F8 NV.o _);have HQ:=aa hq;obtain⟨mb,hmb⟩:∃ mb,(aS y p.keys[k]).isSome=mb:=⟨_,rfl⟩
      rw[hmb];obtain⟨a7,a8,c7,c8,rfl⟩:=hr.form;have LW:=ab hb4 (ae w4 (.cells (KV q a7 c7 a8 c8) 39));have K:Ll (KY (w4.alloc (.cells (KV q a7 c7 a8 c8) 39)) w.heap.size y a5 c5 a6 c6/\ag (w4.alloc (.cells (KV q a7 c7 a8 c8) 39)) (w.heap.size+1) (.int .i64 p.kind) (.int .i64 p.n) (.string ⟨p.s.toArray⟩) (.slice (some ⟨kb,ko,none⟩) p.keys.length c3) (.slice (some ⟨xb,xo,none⟩) p.l.length c4)/\Lc (w4.alloc (.cells (KV q a7 c7 a8 c8) 39)) (w.heap.size+2)/\KY (w4.alloc (.cells (KV q a7 c7 a8 c8) 39)) w4.heap.size q a7 c7 a8 c8/\La w (w4.alloc (.cells (KV q a7 c7 a8 c8) 39))/\In (w4.alloc (.cells (KV q a7 c7 a8 c8) 39)) (bg ok w.heap.size (w.heap.size+3)) y (.agg (KV y a5 c5 a6 c6))/\In (w4.alloc (.cells (KV q a7 c7 a8 c8) 39)) (bg ok w.heap.size (w.heap.size+3)) q (.agg (KV q a7 c7 a8 c8))/\w.heap.size+3<=(w4.alloc (.cells (KV q a7 c7 a8 c8) 39)).heap.size):=aa ⟨af LW I.o.2.1,af LW I.o.2.2.1,af LW I.o.2.2.2.1,MN w4 _,ab I.o.2.2.2.2.1 LW,I.o.2.2.2.2.2.bel LW,hr.bel (ae _ _),MH hwsz LW.size⟩;replace g0:=ah LW g0;replace g1:=ah LW g1;replace g2:=ah LW g2;replace g3:=ah LW g3;replace g4:=ah LW g4;have X4:Ll (In (w4.alloc (.cells (KV q a7 c7 a8 c8) 39)) (bg ok w.heap.size (w.heap.size+3)) p.l[k] (.agg #[.int .i64 p.l[k].kind,.int .i64 p.l[k].n,.string ⟨p.l[k].s.toArray⟩,.slice b5 p.l[k].keys.length d5,.slice b6 p.l[k].l.length d6])):=(G5.o.bel LW).weak aO;have conM:Ll (∀ W,W.heap=(w4.alloc (.cells (KV q a7 c7 a8 c8) 39)).heap->W.os=w4.os->W.tape=w4.tape->W.output=w4.output->Calls prog 135 #[.agg (KV q a7 c7 a8 c8),.agg #[.int .i64 p.l[k].kind,.int .i64 p.l[k].n,.string ⟨p.l[k].s.toArray⟩,.slice b5 p.l[k].keys.length d5,.slice b6 p.l[k].l.length d6]] W fun e w5=>∃ (z:V) (b7 b8:Option Addr) (d7 d8:Nat),e=.returned (.agg (KV z b7 d7 b8 d8))/\z=dH E q p.l[k]/\La (w4.alloc (.cells (KV q a7 c7 a8 c8) 39)) w5/\In w5 (bg ok w.heap.size (w.heap.size+3)) z (.agg (KV z b7 d7 b8 d8))):=by
       intro W e1 e2 e3 e4;have LY:La (w4.alloc (.cells (KV q a7 c7 a8 c8) 39)) W:=KH e1 e2 e3 e4;refine(IH.o W (bg ok w.heap.size (w.heap.size+3)) q p.l[k] _ _ (K.o.2.2.2.2.2.2.1.bel LY) (X4.o.bel LY) NQ.o (gC NP.o (List.getElem_mem hlt')) (HD.o _ (List.getElem_mem hlt'))).mono ?_;rintro e w5 ⟨r,rfl,hb,hr⟩;obtain⟨b7,b8,d7,d8,rfl⟩:=hr.form;exact⟨_,b7,b8,d7,d8,rfl,rfl,ab LY hb,hr.weak (oK (MH K.o.2.2.2.2.2.2.2 LY.size))⟩
      have conW:Ll (∀ (w5:LC) (z:V) (b7 b8:Option Addr) (d7 d8:Nat),La (w4.alloc (.cells (KV q a7 c7 a8 c8) 39)) w5->In w5 (bg ok w.heap.size (w.heap.size+3)) z (.agg (KV z b7 d7 b8 d8))->∀ W,W.heap=w5.heap->W.os=w5.os->W.tape=w5.tape->W.output=w5.output->Calls prog 158 #[.agg (KV y a5 c5 a6 c6),.string ⟨p.keys[k].toArray⟩,.agg (KV z b7 d7 b8 d8)] W fun e w6=>∃ (u:V) (e5 e6:Option Addr) (f5 f6:Nat),e=.returned (.agg (KV u e5 f5 e6 f6))/\u=aG y p.keys[k] z/\La w5 w6/\In w6 (bg ok w.heap.size (w.heap.size+3)) u (.agg (KV u e5 f5 e6 f6))):=by
       intro w5 z b7 b8 d7 d8 hb5 hz W e1 e2 e3 e4;have LY:La w5 W:=KH e1 e2 e3 e4;refine(gf W (bg ok w.heap.size (w.heap.size+3)) y z _ _ p.keys[k] ((K.o.2.2.2.2.2.1.bel hb5).bel LY) (hz.bel LY) MA.o.1.paired (by have:=ML.o;omega) jl).mono ?_;rintro e w6 ⟨r,rfl,hr,hb⟩;obtain⟨e5,e6,f5,f6,rfl⟩:=hr.form;exact⟨_,e5,e6,f5,f6,rfl,rfl,ab LY hb,hr.weak (oK (MH K.o.2.2.2.2.2.2.2 (MH hb5.size LY.size)))⟩
      have FIN:Ll (∀ (w5 w6:LC) (z u:V) (e5 e6:Option Addr) (f5 f6:Nat),La (w4.alloc (.cells (KV q a7 c7 a8 c8) 39)) w5->z=dH E q p.l[k]->La w5 w6->u=aG y p.keys[k] z->In w6 (bg ok w.heap.size (w.heap.size+3)) u (.agg (KV u e5 f5 e6 f6))->Kr w ok E v p (some ⟨kb,ko,none⟩) (some ⟨xb,xo,none⟩) c3 c4 (k+1) (LG w6 w.heap.size u e5 f5 e6 f6)):=by
       intro w5 w6 z u e5 e6 f5 f6 hb5 hz hb6 hu hr;have LW:=ab hb5 hb6;have gs:=aI w6 w.heap.size (.int .i64 u.kind) (.int .i64 u.n) (.string ⟨u.s.toArray⟩) (.slice e5 u.keys.length f5) (.slice e6 u.l.length f6);refine⟨u,e5,e6,f5,f6,ST.o u (by rw[hu,hz,<-HQ.o,fu,if_neg HN.o]),(af LW K.o.1).set _ _ _ _ _,(af LW K.o.2.1).grown gs (by simp),(af LW K.o.2.2.1).grown gs (by simp),aP (ab K.o.2.2.2.2.1 LW) (MG _) _ _ _ _ _,hr.box (MG _) (by omega) _ _ _ _ _⟩
      clear hq hmb hr hb4 LW jk;obtain⟨y0,y1,y2,y3,y4,-⟩:=K.o.1.c;have p4:=K.o.2.1.c.2.2.2.2.1;have q0_:=K.o.2.2.2.1.c;go_wp2_with fail
      go_region_with (first
       |(go_at_call 135;refine(conM.o _ (by rfl) (by rfl) (by rfl) (by rfl)).mono ?_;rintro e w5 ⟨z,b7,b8,d7,d8,rfl,hz1,hz2,hz3⟩;have Z1:=aa hz1;have Z2:=aa hz2;have Z3:=aa hz3;have s0_:=(af hz2 K.o.1).c;clear hz1 hz2 hz3)
       |(go_at_call 158;refine(conW.o _ _ _ _ _ _ Z2.o Z3.o _ (by rfl) (by rfl) (by rfl) (by rfl)).mono ?_;rintro e w6 ⟨u,e5,e6,f5,f6,rfl,hu1,hu2,hu3⟩;have U1:=aa hu1;have U2:=aa hu2;have U3:=aa hu3;have t0_:=(af (ab Z2.o hu2) K.o.1).c;clear hu1 hu2 hu3))
      all_goals
       go_wp2_with fail
       go_roundg (p.keys.length - (k+1))
       case measure=>rw[GK.o];omega
       case rel=>exact⟨k+1,hlt,rfl,by go_num,FIN.o _ _ _ _ _ _ _ _ Z2.o Z1.o U2.o U1.o U3.o⟩
    ·have Mc:k=p.keys.length:=by omega
     have HY:Ll (dH (E+1) v p=y):=aa (by rw[HM.o,I.o.1,MD (by rw[List.length_zip];have:=HKL.o;omega)]);have d1:¬(k:Int) < (p.keys.length:Int):=by omega
     have z0_:=I.o.2.2.2.1.c;have Z:Ll (_/\_):=my (g:=w.heap.size+2) I.o.2.2.2.2.2 I.o.2.2.2.2.1 (by omega) (by omega);have ZB:Ll _:=aa (LH I.o.2.2.2.1.set y a5 c5 a6 c6);clear Mc;go_wp2_with fail
     have q0_:=ZB.o.c;refine MM (v:=.agg (KV y a5 c5 a6 c6)) ?_ rfl ?_
     ·simp only[ar]at q0_;simp[results,results135,go_sem,q0_]
     ·exact⟨_,rfl,Z.o.1,by rw[HY.o];exact Z.o.2⟩
 ·have e0:(p.kind != 5)=true:=by rw[bne_iff_ne];exact hk
  have HM:Ll (dH (E+1) v p=p):=aa (by rw[dH,if_neg hk]);clear hk;have K:=aa ((HP.o.bel (B3.o (.cells (KV v a1 c1 a2 c2) 39) (.cells (KV p a3 c3 a4 c4) 39) (.cells (KV p a3 c3 a4 c4) 39))).weak oH);go_enter func135,ntmps135;go_wp2_with fail
  refine MM (v:=.agg (KV p a3 c3 a4 c4)) ?_ rfl ?_
  ·simp[results,results135,go_sem]
  ·exact⟨_,rfl,B3.o _ _ _,by rw[HM.o];exact K.o⟩
theorem Br(E):Kv E:=by
 induction E with
 | zero=>intro w ok v p vv pv _ _ _ _ h;exact h.elim
 | succ E ih=>exact vA E ih
end
theorem pB(w v n cells)(h:du w 1 v n cells):Calls prog 30 #[v] w fun e w'=>∃ v',e=.returned v'/\w'.ownsRow w.heap.size 9 1 v' n cells/\La w w':=by
 obtain⟨i0,hi,hz0,hz1,hz2⟩:=info_parts wG;obtain⟨g1,g2,g3,g4⟩:=h;rcases g4 with⟨rfl,rfl⟩ | ⟨ad,cc,rfl,Mb⟩
 ·have hc0:cells=[]:=List.eq_nil_of_length_eq_zero (by rw[g1]);subst hc0;have hnil:∀ W:LC,(binOp .eql 36 (.slice none 0 0) (.slice none 0 0)).run prog W=.ok (.bool true) W:=fun W=>Lib.run_eql_slice_nil W _ _ _ _ _ _ _ underlying36;go_enter func30,ntmps30;go_wp2
  go_ret;exact⟨_,rfl,World.ownsRow_nil _ _ _ _,MK _ _⟩
 ·have O:Ll ((w.alloc (.cells #[] 9)).ownsRow w.heap.size 9 1 (.slice (some ⟨w.heap.size,0,none⟩) 0 0) 0 []):=World.ownsRow_made w #[] 0 (MG _) (by simp) (by simp);have C:Ll (cells.length=n * 1/\(∀ u∈cells,u.oneCell'=true)/\∀ j u,cells[j]?=some u->(w.alloc (.cells #[] 9)).cell? (ad.add j)=some u):=⟨g1,g3,fun j u hj=>ah (ae _ _) (Mb j u hj)⟩
  have hnil:∀ W:LC,(binOp .eql 36 (.slice (some ad) n cc) (.slice none 0 0)).run prog W=.ok (.bool false) W:=fun W=>Lib.run_eql_slice_nil W _ _ _ _ _ _ _ underlying36;clear g1 g3 Mb;go_enter func30,ntmps30;go_wp2_with (at_builtin;go_must (refine wpList_append_own _ rfl _ _ 36 rfl w.heap.size 9 i0 _ 1 16 underlying36 hi hz0 hz1 hz2 rfl (by decide) (.slice (some ⟨w.heap.size,0,none⟩) 0 0) 0 [] rfl O.o ad n cc cells rfl C.o.1 C.o.2.2 C.o.2.1 (by unfold maxLen;omega) (by omega) (by simp) ?_);intro v2 w2 ho2 hg2 _;refine Ll.o ?_)
  refine aa ?_;have D:Ll (w2.ownsRow w.heap.size 9 1 v2 n cells/\La w w2):=by
   rw[Nat.zero_add,List.nil_append]at ho2;exact⟨ho2,(ae w _).grown hg2 (by simp) (fun k hk=>(O.o.lt k hk).1)⟩
  clear ho2 hg2;go_wp2
  go_ret;exact⟨v2,rfl,D.o.1,D.o.2⟩
theorem tD(w v n cells)(h:du w 5 v n cells):Calls prog 42 #[v] w fun e w'=>∃ v',e=.returned v'/\w'.ownsRow w.heap.size 39 5 v' n cells/\La w w':=by
 obtain⟨i0,hi,hz0,hz1,hz2⟩:=info_parts Sp;obtain⟨g1,g2,g3,g4⟩:=h;rcases g4 with⟨rfl,rfl⟩ | ⟨ad,cc,rfl,Mb⟩
 ·have hc0:cells=[]:=List.eq_nil_of_length_eq_zero (by rw[g1]);subst hc0;have hnil:∀ W:LC,(binOp .eql 37 (.slice none 0 0) (.slice none 0 0)).run prog W=.ok (.bool true) W:=fun W=>Lib.run_eql_slice_nil W _ _ _ _ _ _ _ underlying37;go_enter func42,ntmps42;go_wp2
  go_ret;exact⟨_,rfl,World.ownsRow_nil _ _ _ _,MK _ _⟩
 ·have O:Ll ((w.alloc (.cells #[] 39)).ownsRow w.heap.size 39 5 (.slice (some ⟨w.heap.size,0,none⟩) 0 0) 0 []):=World.ownsRow_made w #[] 0 (MG _) (by simp) (by simp);have C:Ll (cells.length=n * 5/\(∀ u∈cells,u.oneCell'=true)/\∀ j u,cells[j]?=some u->(w.alloc (.cells #[] 39)).cell? (ad.add j)=some u):=⟨g1,g3,fun j u hj=>ah (ae _ _) (Mb j u hj)⟩
  have hnil:∀ W:LC,(binOp .eql 37 (.slice (some ad) n cc) (.slice none 0 0)).run prog W=.ok (.bool false) W:=fun W=>Lib.run_eql_slice_nil W _ _ _ _ _ _ _ underlying37;clear g1 g3 Mb;go_enter func42,ntmps42;go_wp2_with (at_builtin;go_must (refine wpList_append_own _ rfl _ _ 37 rfl w.heap.size 39 i0 _ 5 80 underlying37 hi hz0 hz1 hz2 rfl (by decide) (.slice (some ⟨w.heap.size,0,none⟩) 0 0) 0 [] rfl O.o ad n cc cells rfl C.o.1 C.o.2.2 C.o.2.1 (by unfold maxLen;omega) (by omega) (by simp) ?_);intro v2 w2 ho2 hg2 _;refine Ll.o ?_)
  refine aa ?_;have D:Ll (w2.ownsRow w.heap.size 39 5 v2 n cells/\La w w2):=by
   rw[Nat.zero_add,List.nil_append]at ho2;exact⟨ho2,(ae w _).grown hg2 (by simp) (fun k hk=>(O.o.lt k hk).1)⟩
  clear ho2 hg2;go_wp2
  go_ret;exact⟨v2,rfl,D.o.1,D.o.2⟩
def KE (b:Option Addr) (c:Nat):Prop:=c=0\/∃ g o,b=some ⟨g,o,none⟩/\c<=9223372036854775807
theorem KE.vals{b}(h:KE b c)(w ok)(R:V->Value->Prop):cS w ok R [] (.slice b 0 c):=by
 rcases h with rfl | ⟨g,o,rfl,hc⟩
 ·exact⟨by simp,.inl ⟨rfl,b,rfl⟩⟩
 ·exact⟨by simp,.inr ⟨g,o,c,rfl,Nat.zero_le _,hc,fun i x hx=>by simp at hx⟩⟩
section
attribute [local go_sem ↓] Go.wp_at_zero Go.wp_at_succ
theorem sQ(w ok t v s i)(h:In w ok t v)(hk:t.kind=4)(hp:cX t.l.length s=some i)(hi:i < t.l.length)(L9:t.l.length<=100000)(hs:s.length<=9223372036854775807):Calls prog 201 #[v,aR s] w fun e w'=>∃ r,e=.returned (.tuple #[r,.bool true])/\La w w'/\In w' (bQ ok w.heap.size) { t with l:=t.l.take i++t.l.drop (i+1) } r:=by
 obtain⟨l1,l2,l3⟩:=h.lens;obtain⟨d,h⟩:=h.low.at;obtain⟨ks,ls,rfl,h1,h2,h3,h4,h5⟩:=h;have KK:Ll (dW t.kind/\dW t.n/\t.s.length<=maxLen/\ao w _ t.keys ks/\cS w _ (bu w _ d) t.l ls):=⟨h1,h2,h3,h4,h5⟩
 obtain⟨a1,c1,rfl⟩:=h4.form;obtain⟨a2,c2,rfl⟩:=h5.form;obtain⟨cs1,cs2,v1,v3,r1,r2,s1,s3,hcase⟩:=tg h5 i (i+1) (by omega) hi (by omega);have R:Ll (cA (bu w _ d) (t.l.take i) cs1/\cA (bu w _ d) (t.l.drop (i+1)) cs2/\du w 5 v1 i cs1/\du w 5 v3 (t.l.length - (i+1)) cs2):=⟨r1,r2,s1,s3⟩
 have HC:=aa hcase;have HP:=aa hp;have q1:(t.kind == 5)=false:=by rw[hk];rfl
 have q2:(t.kind == 4)=true:=by rw[hk];rfl
 clear h1 h2 h4 h5 r1 r2 s1 s3 hcase hp hk;unfold maxLen at h3;unfold aR;have HM:Ll (cg t s=some t.l[i]):=aa (by unfold cg;rw[if_pos (by simpa using q2),HP.o,Option.bind_some,Mw hi]);have HV:Ll (In w (Lj ok w) t (.agg (KV t a1 c1 a2 c2))):=⟨d+1,_,_,rfl,KK.o.1,KK.o.2.1,KK.o.2.2.1,KK.o.2.2.2.1,KK.o.2.2.2.2⟩
 go_enter func201,ntmps201;go_wp2_with fail
 refine(eI _ (Lj ok w) t _ s (by exact HV.o.bel (ab (ae _ _) (ae _ _))) hs).mono ?_;rintro e w0 ⟨x9,b9,rfl,hb0,hb9,y9,hy9,-⟩;rw[HM.o]at hb9;simp only[Option.isSome_some]at hb9;subst hb9;obtain⟨a5,a6,c5,c6,rfl⟩:=hy9.form;have M0:Ll (KY w0 w.heap.size t a1 c1 a2 c2/\Lc w0 (w.heap.size+1)/\La w w0):=
  ⟨af hb0 (fb w _ _),af hb0 (et w _ _),ab (ab (ae _ _) (ae _ _)) hb0⟩
 have M1:Ll (KY (w0.alloc (.cells (KV y9 a5 c5 a6 c6) 39)) w.heap.size t a1 c1 a2 c2/\Lc (w0.alloc (.cells (KV y9 a5 c5 a6 c6) 39)) (w.heap.size+1)/\La w (w0.alloc (.cells (KV y9 a5 c5 a6 c6) 39))):=by
  have LW:=ae w0 (.cells (KV y9 a5 c5 a6 c6) 39);exact⟨af LW M0.o.1,af LW M0.o.2.1,ab M0.o.2.2 LW⟩
 obtain⟨n0,-,-,-,n4,-⟩:=M1.o.1.c;clear hb0 hy9;go_wp2_with fail
 refine(jb _ _ t.l.length c2 s l2 hs).mono ?_;rintro e w1 ⟨rfl,hw⟩;rw[HP.o];unfold ow;have M:Ll (KY w1 w.heap.size t a1 c1 a2 c2/\Lc w1 (w.heap.size+1)/\La w w1):=by
  rw[hw];exact M1.o
 clear hw M1;have hsz1:w.heap.size+1 < w1.heap.size:=M.o.2.1.lt;simp only[Option.getD_some,Option.isSome_some];obtain⟨p0,p1,p2,p3,p4,-,-,-,p9,p10⟩:=M.o.1.c;have k4:∀ o,(w1.alloc o).cell? ⟨w.heap.size,4,none⟩=some (.slice a2 t.l.length c2):=fun o=>(af (ae w1 o) M.o.1).c.2.2.2.2.1;have con:Ll (∀ W,W.heap=(w1.alloc (.cells #[v1,v3] 37)).heap->W.os=w1.os->W.tape=w1.tape->W.output=w1.output ->
  Calls prog 191 #[.slice (some ⟨w1.heap.size,0,none⟩) 2 2] W fun e w'=>∃ a8 cap,e=.returned (.slice a8 (t.l.length - 1) cap)/\w'.ownsRow w1.heap.size 39 5 (.slice a8 (t.l.length - 1) cap) (t.l.length - 1) (cs1++cs2)/\La w1 w'):=by
  intro W e1 e2 e4 e5;exact nB (R.o.2.2.1.bel M.o.2.2) (R.o.2.2.2.bel M.o.2.2) (by omega) (by omega) W e1 e2 e4 e5
 have fin:Ll (∀ w3 a8 cap,w3.ownsRow w1.heap.size 39 5 (.slice a8 (t.l.length - 1) cap) (t.l.length - 1) (cs1++cs2)->La w1 w3 ->
  In (ar (w3.setCell ⟨w.heap.size,4,none⟩ (.slice a8 (t.l.length - 1) cap)) (w.heap.size+1) (.int .i64 t.kind) (.int .i64 t.n) (.string ⟨t.s.toArray⟩) (.slice a1 t.keys.length c1) (.slice a8 (t.l.length - 1) cap)) (bQ ok w.heap.size) { t with l:=t.l.take i++t.l.drop (i+1) } (.agg #[.int .i64 t.kind,.int .i64 t.n,.string ⟨t.s.toArray⟩,.slice a1 t.keys.length c1,.slice a8 (t.l.length - 1) cap]) /\
  La w (ar (w3.setCell ⟨w.heap.size,4,none⟩ (.slice a8 (t.l.length - 1) cap)) (w.heap.size+1) (.int .i64 t.kind) (.int .i64 t.n) (.string ⟨t.s.toArray⟩) (.slice a1 t.keys.length c1) (.slice a8 (t.l.length - 1) cap))/\ag (ar (w3.setCell ⟨w.heap.size,4,none⟩ (.slice a8 (t.l.length - 1) cap)) (w.heap.size+1) (.int .i64 t.kind) (.int .i64 t.n) (.string ⟨t.s.toArray⟩) (.slice a1 t.keys.length c1) (.slice a8 (t.l.length - 1) cap)) (w.heap.size+1) (.int .i64 t.kind) (.int .i64 t.n) (.string ⟨t.s.toArray⟩) (.slice a1 t.keys.length c1) (.slice a8 (t.l.length - 1) cap)):=by
  intro w3 a8 cap ho hb;have g1:w3.grownBy (w3.setCell ⟨w.heap.size,4,none⟩ (.slice a8 (t.l.length - 1) cap)) (some w.heap.size):=ap (az _ _) _ _;have g2:=aI (w3.setCell ⟨w.heap.size,4,none⟩ (.slice a8 (t.l.length - 1) cap)) (w.heap.size+1) (.int .i64 t.kind) (.int .i64 t.n) (.string ⟨t.s.toArray⟩) (.slice a1 t.keys.length c1) (.slice a8 (t.l.length - 1) cap);have LU:=((af hb M.o.2.1).grown g1 (by simp)).set (.int .i64 t.kind) (.int .i64 t.n) (.string ⟨t.s.toArray⟩) (.slice a1 t.keys.length c1) (.slice a8 (t.l.length - 1) cap);have hbw:La w w3:=ab M.o.2.2 hb;have hb9:La w (ar (w3.setCell ⟨w.heap.size,4,none⟩ (.slice a8 (t.l.length - 1) cap)) (w.heap.size+1) (.int .i64 t.kind) (.int .i64 t.n) (.string ⟨t.s.toArray⟩) (.slice a1 t.keys.length c1) (.slice a8 (t.l.length - 1) cap)):=bS (eD (bi (aq hbw) (MG _) _ _) (by omega) _ _ _ _ _);have LT:t.l.length - 1=(t.l.take i++t.l.drop (i+1)).length:=by simp;omega
  refine⟨⟨d+1,_,_,by simp only[<-LT];rfl,KK.o.1,KK.o.2.1,KK.o.2.2.1,?_,?_⟩,hb9,LU⟩
  ·exact(KK.o.2.2.2.1.bel hb9).imp fun a x hx hc=>⟨.inl hx.1,hc⟩
  ·have ho9:=aW (aW ho g1 (by omega)) g2 (by omega);refine fJ LT ho9 ?_ (fun k hk=>.inr (by omega)) (by rw[<-LT];unfold maxLen;omega);have:=(R.o.2.1.bel (B:=w.heap.size) hb9).append (R.o.1.bel (B:=w.heap.size) hb9);exact this.imp fun _ _ h=>h.weak fun k hk=>by rcases hk with hk | hk;exact .inl hk.1;exact .inr hk
 have j0:(0:Int)<=(i:Int):=by omega
 have j1:(i:Int)+1<=(t.l.length:Int):=by omega
 have j2:(0:Int)<=(i:Int)+1:=by omega
 have hw1:IntKind.i64.wrap ((i:Int)+1)=(i:Int)+1:=by rw[IntKind.wrap_i64];omega
 rcases HC.o with⟨-,e3,-⟩ | ⟨b,off,rfl,hc1,hc2,rfl,hv3⟩
 ·omega
 ·obtain⟨a3,hifs⟩:∃ a3,(if c2=i+1 then (some ⟨b,off,none⟩:Option Addr) else some ⟨b,off+(i+1) * 5,none⟩)=a3:=⟨_,rfl⟩
  rw[hifs]at hv3;subst hv3;clear HC;have j5:(i:Int)<=(c2:Int):=by omega
  have j6:(t.l.length:Int)<=(c2:Int):=by omega
  go_upto_region 7 with fail
  go_region_with ((go_at_call 191;refine(con.o _ (by rfl) (by rfl) (by rfl) (by rfl)).mono ?_;rintro e w3 ⟨a8,cap,rfl,ho3,hb3⟩;obtain⟨p0,p1,p2,p3,p4,-,-,-,p9,p10⟩:=(af hb3 M.o.1).c;have x0_:=(af hb3 M.o.2.1).c;have O3:=aa ho3;have HB3:=aa hb3;clear ho3 hb3))
  all_goals
   go_wp2_with fail
   obtain⟨f1,f2,f3⟩:=fin.o _ a8 cap O3.o HB3.o;have z0_:=f3.c;refine MM (v:=.tuple #[.agg #[.int .i64 t.kind,.int .i64 t.n,.string ⟨t.s.toArray⟩,.slice a1 t.keys.length c1,.slice a8 (t.l.length - 1) cap],.bool true]) ?_ rfl ?_
   ·simp only[ar]at z0_;simp[results,results201,go_sem,z0_]
   ·exact⟨_,rfl,f2,f1⟩
end
variable {ok':Nat->Prop}
structure jf where
 kind:Int
 path:Lz
 frm:Lz
 value:V
abbrev Lg (t:jf) (a:Option Addr) (c:Nat) (b:Option Addr) (d:Nat):Array Value:=#[.int .i64 t.kind,.string ⟨t.path.toArray⟩,.string ⟨t.frm.toArray⟩,.int .i64 t.value.kind,.int .i64 t.value.n,.string ⟨t.value.s.toArray⟩,.slice a t.value.keys.length c,.slice b t.value.l.length d]
def wf (v:V) (frm dst:Lz):V × Int:=
 if (fP (ax frm) v).2≠0 then (v,(fP (ax frm) v).2)
 else if Lib.hasPrefix dst (frm++[47])=true then (v,1)
 else if dst=frm then (v,0)
 else if (aX ch (ax frm) v).2≠0 then (v,(aX ch (ax frm) v).2)
 else if (ep bL dst (ax dst) (aX ch (ax frm) v).1 (fP (ax frm) v).1).2≠0 then (v,(ep bL dst (ax dst) (aX ch (ax frm) v).1 (fP (ax frm) v).1).2)
 else ((ep bL dst (ax dst) (aX ch (ax frm) v).1 (fP (ax frm) v).1).1,0)
def gS (v:V) (frm dst:Lz):V × Int:=
 if (fP (ax frm) v).2≠0 then (v,(fP (ax frm) v).2) else ep bL dst (ax dst) v (fP (ax frm) v).1
def od (w:LC) (ok:Nat->Prop) (o:jf) (v:Value):Prop:=
 dW o.kind/\o.path.length<=140737488351232/\o.frm.length<=140737488351232/\∃ (a7 a8:Option Addr) (c7 c8:Nat),
  v=.agg (Lg o a7 c7 a8 c8) /\
  In w ok o.value (.agg (KV o.value a7 c7 a8 c8))
theorem od.bel{o:jf}(h:od w ok o v)(hb:La w w'):od w' ok o v:=by
 obtain⟨h1,h2,h3,a7,a8,c7,c8,e,hi⟩:=h;exact⟨h1,h2,h3,a7,a8,c7,c8,e,hi.bel hb⟩
theorem od.weak{o:jf}(h:od w ok o v)(hk:∀ k,ok k->ok' k):od w ok' o v:=by
 obtain⟨h1,h2,h3,a7,a8,c7,c8,e,hi⟩:=h;exact⟨h1,h2,h3,a7,a8,c7,c8,e,hi.weak hk⟩
theorem od.low{o:jf}(h:od w ok o v):od w (Lj ok w) o v:=by
 obtain⟨h1,h2,h3,a7,a8,c7,c8,e,hi⟩:=h;exact⟨h1,h2,h3,a7,a8,c7,c8,e,hi.low⟩
def eX (w:LC) (ok:Nat->Prop) (os:List jf) (v:Value):Prop:=
 os.length<=9223372036854775807/\(os=[]/\(∃ a,v=.slice a 0 0)\/∃ b off c,v=.slice (some ⟨b,off,none⟩) os.length c/\os.length<=c/\c<=9223372036854775807 /\
  ∀ i o,os[i]?=some o->∃ v0 v1 v2 v3 v4 v5 v6 v7,ok b/\w.cell? ⟨b,off+i * 8,none⟩=some v0/\w.cell? ⟨b,off+i * 8+1,none⟩=some v1/\w.cell? ⟨b,off+i * 8+2,none⟩=some v2/\w.cell? ⟨b,off+i * 8+3,none⟩=some v3 /\
   w.cell? ⟨b,off+i * 8+4,none⟩=some v4/\w.cell? ⟨b,off+i * 8+5,none⟩=some v5/\w.cell? ⟨b,off+i * 8+6,none⟩=some v6/\w.cell? ⟨b,off+i * 8+7,none⟩=some v7/\od w ok o (.agg #[v0,v1,v2,v3,v4,v5,v6,v7]))
theorem eX.form{os:List jf}(h:eX w ok os v):∃ a c,v=.slice a os.length c:=by
 rcases h.2 with⟨rfl,a,e⟩ | ⟨b,off,c,e,_⟩
 ·exact⟨a,0,e⟩
 ·exact⟨_,c,e⟩
theorem eX.bel{os:List jf}(h:eX w ok os v)(hb:La w w'):eX w' ok os v:=by
 refine⟨h.1,?_⟩;rcases h.2 with h | ⟨b,off,c,e,h1,h2,h3⟩
 ·exact .inl h
 ·refine .inr ⟨b,off,c,e,h1,h2,fun i o ho=>?_⟩;obtain⟨v0,v1,v2,v3,v4,v5,v6,v7,hk,g0,g1,g2,g3,g4,g5,g6,g7,g8⟩:=h3 i o ho;exact⟨v0,v1,v2,v3,v4,v5,v6,v7,hk,ah hb g0,ah hb g1,ah hb g2,ah hb g3,ah hb g4,ah hb g5,ah hb g6,ah hb g7,g8.bel hb⟩
def Jm (w:LC) (ok:Nat->Prop) (t:V) (ns:List Lz) (na:Option Addr) (nc k:Nat) (wr:LC):Prop:=
 ∃ (y:V) (a5 a6:Option Addr) (c5 c6:Nat),mh ns t=mh (ns.drop k) y/\KY wr w.heap.size y a5 c5 a6 c6/\Lc wr (w.heap.size+1)/\La w wr /\
  In wr (Lj ok w) y (.agg (KV y a5 c5 a6 c6))/\ao wr (fun k=>w.heap.size+2<=k) ns (.slice na ns.length nc)
theorem zD(w:LC)(ok t v p)(h:In w ok t v)(hp:p.length<=140737488351232)(hM:bj w):Calls prog 203 #[v,aR p] w fun e w'=>∃ r,e=.returned (.tuple #[r,.int .i64 (fP (ax p) t).2])/\La w w'/\In w' ok (fP (ax p) t).1 r:=by
 have H:=aa h.low;have HMM:=aa hM;obtain⟨l1,l2,l3⟩:=h.lens;obtain⟨a1,a2,c1,c2,rfl⟩:=h.form;clear h hM;go_enter func203,ntmps203;go_wp2_with fail
 refine(iO _ p hp (by exact HMM.o.bel (ab (ae _ _) (ae _ _)))).mono ?_;rintro e w1 ⟨ns,ee,na,nc,rfl,hsp,hns,hb1⟩;have SP:=aa hsp;have nlen:=hns.1;unfold maxLen at nlen;have K1:Ll (KY w1 w.heap.size t a1 c1 a2 c2/\Lc w1 (w.heap.size+1)/\La w w1/\ao w1 (fun k=>w.heap.size+2<=k) ns (.slice na ns.length nc)):=⟨af hb1 (fb w _ _),af hb1 (et w _ _),ab (ab (ae _ _) (ae _ _)) hb1,hns.imp fun a x hx hc=>⟨by simpa using hx,hc⟩⟩
 clear hb1 hns hsp;by_cases he:ee=0
 ·subst he;obtain⟨p0,p1,p2,p3,p4,-⟩:=K1.o.1.c;go_wp2_with fail
  refine Lk (bG _ (Lj ok w) t _ (by exact H.o.bel K1.o.2.2.1)) fun w2 hb2=>?_;have K2:Ll (KY w2 w.heap.size t a1 c1 a2 c2/\Lc w2 (w.heap.size+1)/\La w w2/\ao w2 (fun k=>w.heap.size+2<=k) ns (.slice na ns.length nc)):=⟨af hb2 K1.o.1,af hb2 K1.o.2.1,ab K1.o.2.2.1 hb2,K1.o.2.2.2.bel hb2⟩
  clear hb2 K1;cases hg:aE t with
  | false=>
   have x0_:=(K2.o.2.1).c;have Z:=aa (aP K2.o.2.2.1 (Nat.le_succ w.heap.size) (.int .i64 0) (.int .i64 0) (.string ⟨#[]⟩) (.slice none 0 0) (.slice none 0 0));have ZB:=aa ((K2.o.2.1).set (.int .i64 0) (.int .i64 0) (.string ⟨#[]⟩) (.slice none 0 0) (.slice none 0 0));have HA:Ll (fP (ax p) t=(aM,1)):=aa (by rw[SP.o];unfold fP;rw[if_neg (by simp),if_pos hg]);clear hg;go_wp2_with fail
   have z0_:=ZB.o.c;refine MM (v:=.tuple #[.agg Lb,.int .i64 1]) ?_ rfl ?_
   ·simp only[ar]at z0_;simp[results,results203,go_sem,z0_]
   ·refine⟨_,by rw[HA.o],Z.o,?_⟩;rw[HA.o];exact fG _ _
  | true=>
   have HG:=aa hg;clear hg;have S0:Ll (Jm w ok t ns na nc 0 w2):=⟨t,a1,a2,c1,c2,rfl,K2.o.1,K2.o.2.1,K2.o.2.2.1,H.o.bel K2.o.2.2.1,K2.o.2.2.2⟩
   clear K2;go_wp2_with fail
   go_loopg [27] ns.length (fun gk i wr=>∃ k:Nat,k<=ns.length/\gk=ns.length - k/\i=.int .i64 k/\Jm w ok t ns na nc k wr)
   case atStart=>exact⟨0,Nat.zero_le _,rfl,rfl,S0.o⟩
   case round=>
    obtain⟨k,hk,hgk,rfl,y,a5,a6,c5,c6,i1,i2,i3,i4,i5,i6⟩:=hrel;have GK:=aa hgk;have I:Ll (mh ns t=mh (ns.drop k) y/\KY wr w.heap.size y a5 c5 a6 c6/\Lc wr (w.heap.size+1)/\La w wr/\In wr (Lj ok w) y (.agg (KV y a5 c5 a6 c6))/\ao wr (fun k=>w.heap.size+2<=k) ns (.slice na ns.length nc)):=⟨i1,i2,i3,i4,i5,i6⟩
    obtain⟨p0,p1,p2,p3,p4,p5,p6,p7,p8,p9⟩:=i2.c;clear hgk i1 i2 i3 i4 i5 i6;by_cases hlt:k < ns.length
    ·obtain⟨nb,no,rfl,hc1,hc2,hc⟩:=lm I.o.2.2.2.2.2 hlt;unfold maxLen at hc2;have hsl:ns[k].length<=9223372036854775807:=I.o.2.2.2.2.2.mem _ (List.getElem_mem _);go_wp2_with fail
     refine(eI _ (Lj ok w) y _ ns[k] (by exact I.o.2.2.2.2.1) hsl).mono ?_;rintro e w3 ⟨r,b,rfl,hb3,hb,u,hu,huz⟩;obtain⟨b5,b6,d5,d6,rfl⟩:=hu.form;have LW:=ab hb3 (ae w3 (.cells (KV u b5 d5 b6 d6) 39));have K3:Ll (KY (w3.alloc (.cells (KV u b5 d5 b6 d6) 39)) w.heap.size y a5 c5 a6 c6/\Lc (w3.alloc (.cells (KV u b5 d5 b6 d6) 39)) (w.heap.size+1)/\La w (w3.alloc (.cells (KV u b5 d5 b6 d6) 39))/\KY (w3.alloc (.cells (KV u b5 d5 b6 d6) 39)) w3.heap.size u b5 d5 b6 d6/\In (w3.alloc (.cells (KV u b5 d5 b6 d6) 39)) (Lj ok w) u (.agg (KV u b5 d5 b6 d6))/\ao (w3.alloc (.cells (KV u b5 d5 b6 d6) 39)) (fun k=>w.heap.size+2<=k) ns (.slice (some ⟨nb,no,none⟩) ns.length nc)):=⟨af LW I.o.2.1,af LW I.o.2.2.1,ab I.o.2.2.2.1 LW,MN w3 _,hu.bel (ae _ _),I.o.2.2.2.2.2.bel LW⟩
     have GS:Ll (mh (ns.drop k) y=(cg y ns[k]).bind (mh (ns.drop (k+1)))):=aa (by rw[ME hlt,mh]);clear hb3 LW hu hc;have o0_:=K3.o.1.c;have q0_:=K3.o.2.2.2.1.c;cases hm:cg y ns[k] with
     | none=>
      rw[hm]at hb;simp only[Option.isSome_none]at hb;subst hb;have x0_:=(K3.o.2.1).c;have Z:=aa (aP K3.o.2.2.1 (Nat.le_succ w.heap.size) (.int .i64 0) (.int .i64 0) (.string ⟨#[]⟩) (.slice none 0 0) (.slice none 0 0));have ZB:=aa ((K3.o.2.1).set (.int .i64 0) (.int .i64 0) (.string ⟨#[]⟩) (.slice none 0 0) (.slice none 0 0));have HA:Ll (fP (ax p) t=(aM,3)):=aa (by rw[SP.o];unfold fP;rw[if_neg (by simp),if_neg (by simp[HG.o]),I.o.1,GS.o,hm];rfl);clear hm huz;go_wp2_with fail
      have z0_:=ZB.o.c;refine MM (v:=.tuple #[.agg Lb,.int .i64 3]) ?_ rfl ?_
      ·simp only[ar]at z0_;simp[results,results203,go_sem,z0_]
      ·refine⟨_,by rw[HA.o],Z.o,?_⟩;rw[HA.o];exact fG _ _
     | some z9=>
      rw[hm]at hb;simp only[Option.isSome_some]at hb;subst hb;obtain rfl:=huz z9 hm;have HM:=aa hm;have FIN:Ll (Jm w ok t ns (some ⟨nb,no,none⟩) nc (k+1) (LG (w3.alloc (.cells (KV u b5 d5 b6 d6) 39)) w.heap.size u b5 d5 b6 d6)):=by
       have g1:=aI (w3.alloc (.cells (KV u b5 d5 b6 d6) 39)) w.heap.size (.int .i64 u.kind) (.int .i64 u.n) (.string ⟨u.s.toArray⟩) (.slice b5 u.keys.length d5) (.slice b6 u.l.length d6);refine⟨u,b5,b6,d5,d6,?_,K3.o.1.set _ _ _ _ _,K3.o.2.1.grown g1 (by simp),aP K3.o.2.2.1 (MG _) _ _ _ _ _,K3.o.2.2.2.2.1.grown g1 (fun k hk=>by omega),K3.o.2.2.2.2.2.imp (eJ g1 (fun k hk e=>by cases e;omega))⟩;rw[I.o.1,GS.o,HM.o];rfl
      clear hm huz K3;go_wp2_with fail
      go_roundg (ns.length - (k+1))
      case measure=>rw[GK.o];omega
      case rel=>exact⟨k+1,hlt,rfl,by go_num,FIN.o⟩
    ·have Mc:k=ns.length:=by omega
     subst Mc;have x0_:=I.o.2.2.1.c;have Z:=aa (LH (aP I.o.2.2.2.1 (Nat.le_succ w.heap.size)) y a5 c5 a6 c6);have ZI:=aa ((I.o.2.2.2.2.1.grown (LH (aI wr (w.heap.size+1)) y a5 c5 a6 c6) (fun k hk=>by omega)).weak fun k hk=>hk.1);have ZB:=aa (LH I.o.2.2.1.set y a5 c5 a6 c6);have HA:Ll (fP (ax p) t=(y,0)):=aa (by rw[SP.o];refine Jp rfl HG.o ?_;rw[I.o.1,List.drop_length];rfl);go_wp2_with fail
     have z0_:=ZB.o.c;refine MM (v:=.tuple #[.agg (KV y a5 c5 a6 c6),.int .i64 0]) ?_ rfl ?_
     ·simp only[ar]at z0_;simp[results,results203,go_sem,z0_]
     ·refine⟨_,by rw[HA.o],Z.o,?_⟩;rw[HA.o];exact ZI.o
 ·have e1:(ee != 0)=true:=by rw[bne_iff_ne];exact he
  have e2:(ee == 0)=false:=by rw[MO];exact he
  have HE:=aa he;clear he;have x0_:=(K1.o.2.1).c;have Z:=aa (aP K1.o.2.2.1 (Nat.le_succ w.heap.size) (.int .i64 0) (.int .i64 0) (.string ⟨#[]⟩) (.slice none 0 0) (.slice none 0 0));have ZB:=aa ((K1.o.2.1).set (.int .i64 0) (.int .i64 0) (.string ⟨#[]⟩) (.slice none 0 0) (.slice none 0 0));have HA:Ll (fP (ax p) t=(aM,ee)):=aa (by rw[SP.o];unfold fP;rw[if_pos HE.o]);clear K1;go_wp2_with fail
  have z0_:=ZB.o.c;refine MM (v:=.tuple #[.agg Lb,.int .i64 ee]) ?_ rfl ?_
  ·simp only[ar]at z0_;simp[results,results203,go_sem,z0_]
  ·refine⟨_,by rw[HA.o],Z.o,?_⟩;rw[HA.o];exact fG _ _
def nL:Lz:=[111,112]
def ea:Lz:=[112,97,116,104]
def Ec:Lz:=[102,114,111,109]
def yy:Lz:=[118,97,108,117,101]
def ew:List Lz:=[[97,100,100],[114,101,109,111,118,101],[114,101,112,108,97,99,101],[109,111,118,101],[99,111,112,121],[116,101,115,116]]
def ck (s:Lz):Int:=match dd s ew with | some i=>(i:Int)+1 | none=>0
def bt (t:V) (key:Lz):Option Lz:=match aS t key with | some x=>if x.kind=3 then some x.s else none | none=>none
def oF (t:V):Option jf:=
 match bt t nL,bt t ea with
 | some w,some p=>
  if ck w=0 then none
  else if ck w=1\/ck w=3\/ck w=6 then (aS t yy).map fun y=>⟨ck w,p,[],y⟩
  else if ck w=4\/ck w=5 then (bt t Ec).map fun f=>⟨ck w,p,f,aM⟩
  else some ⟨ck w,p,[],aM⟩
 | _,_=>none
theorem pm(s):ck s=0\/ck s=1\/ck s=2\/ck s=3\/ck s=4\/ck s=5\/ck s=6:=by
 unfold ck;cases h:dd s ew with
 | none=>exact .inl rfl
 | some i=>
  have hi:i < 6:=(iw h).1;simp only;omega
def di (w:LC):Prop:=∃ t f,w.heap[2]?=some (.cells #[.string ⟨#[97,100,100]⟩,.string ⟨#[114,101,109,111,118,101]⟩,.string ⟨#[114,101,112,108,97,99,101]⟩,.string ⟨#[109,111,118,101]⟩,.string ⟨#[99,111,112,121]⟩,.string ⟨#[116,101,115,116]⟩] t f)
theorem di.bel(h:di w)(hb:La w w'):di w':=by
 obtain⟨t,f,h⟩:=h;exact⟨t,f,(hb.block _ (MF.1 h).1).trans h⟩
theorem iT{key:Lz}{xs:List Lz}(h:k < xs.length)(hne:xs[k]≠key):(dd key (xs.drop k)).map (·+k)=(dd key (xs.drop (k+1))).map (·+(k+1)):=by
 rw[ME h,dd,if_neg hne];cases dd key (xs.drop (k+1)) with
 | none=>rfl
 | some i=>simp;omega
theorem jc{key:Lz}{xs:List Lz}(h:k < xs.length)(he:xs[k]=key):(dd key (xs.drop k)).map (·+k)=some k:=by
 rw[ME h,dd,if_pos he];simp
theorem gW(w:LC)(s)(hG:di w):Calls prog 169 #[aR s] w fun e w'=>e=.returned (.int .i64 (ck s))/\La w w':=by
 obtain⟨tt,ff,hG⟩:=hG;have c0:w.cell? ⟨2,0,none⟩=some (.string ⟨#[97,100,100]⟩):=by simp[World.cell?,hG]
 have c1:w.cell? ⟨2,1,none⟩=some (.string ⟨#[114,101,109,111,118,101]⟩):=by simp[World.cell?,hG]
 have c2:w.cell? ⟨2,2,none⟩=some (.string ⟨#[114,101,112,108,97,99,101]⟩):=by simp[World.cell?,hG]
 have c3:w.cell? ⟨2,3,none⟩=some (.string ⟨#[109,111,118,101]⟩):=by simp[World.cell?,hG]
 have c4:w.cell? ⟨2,4,none⟩=some (.string ⟨#[99,111,112,121]⟩):=by simp[World.cell?,hG]
 have c5:w.cell? ⟨2,5,none⟩=some (.string ⟨#[116,101,115,116]⟩):=by simp[World.cell?,hG]
 clear hG;unfold aR;go_enter func169,ntmps169;go_wp2
 clear c0 c1 c2 c3 c4 c5;have i0:∀ w,(Instr.index 225 (.agg #[.string ⟨#[97,100,100]⟩,.string ⟨#[114,101,109,111,118,101]⟩,.string ⟨#[114,101,112,108,97,99,101]⟩,.string ⟨#[109,111,118,101]⟩,.string ⟨#[99,111,112,121]⟩,.string ⟨#[116,101,115,116]⟩]) (.int .i64 0)).run prog w=.ok (.string ⟨#[97,100,100]⟩) w:=fun _=>by kernel_rfl
 have i1:∀ w,(Instr.index 225 (.agg #[.string ⟨#[97,100,100]⟩,.string ⟨#[114,101,109,111,118,101]⟩,.string ⟨#[114,101,112,108,97,99,101]⟩,.string ⟨#[109,111,118,101]⟩,.string ⟨#[99,111,112,121]⟩,.string ⟨#[116,101,115,116]⟩]) (.int .i64 1)).run prog w=.ok (.string ⟨#[114,101,109,111,118,101]⟩) w:=fun _=>by kernel_rfl
 have i2:∀ w,(Instr.index 225 (.agg #[.string ⟨#[97,100,100]⟩,.string ⟨#[114,101,109,111,118,101]⟩,.string ⟨#[114,101,112,108,97,99,101]⟩,.string ⟨#[109,111,118,101]⟩,.string ⟨#[99,111,112,121]⟩,.string ⟨#[116,101,115,116]⟩]) (.int .i64 2)).run prog w=.ok (.string ⟨#[114,101,112,108,97,99,101]⟩) w:=fun _=>by kernel_rfl
 have i3:∀ w,(Instr.index 225 (.agg #[.string ⟨#[97,100,100]⟩,.string ⟨#[114,101,109,111,118,101]⟩,.string ⟨#[114,101,112,108,97,99,101]⟩,.string ⟨#[109,111,118,101]⟩,.string ⟨#[99,111,112,121]⟩,.string ⟨#[116,101,115,116]⟩]) (.int .i64 3)).run prog w=.ok (.string ⟨#[109,111,118,101]⟩) w:=fun _=>by kernel_rfl
 have i4:∀ w,(Instr.index 225 (.agg #[.string ⟨#[97,100,100]⟩,.string ⟨#[114,101,109,111,118,101]⟩,.string ⟨#[114,101,112,108,97,99,101]⟩,.string ⟨#[109,111,118,101]⟩,.string ⟨#[99,111,112,121]⟩,.string ⟨#[116,101,115,116]⟩]) (.int .i64 4)).run prog w=.ok (.string ⟨#[99,111,112,121]⟩) w:=fun _=>by kernel_rfl
 have i5:∀ w,(Instr.index 225 (.agg #[.string ⟨#[97,100,100]⟩,.string ⟨#[114,101,109,111,118,101]⟩,.string ⟨#[114,101,112,108,97,99,101]⟩,.string ⟨#[109,111,118,101]⟩,.string ⟨#[99,111,112,121]⟩,.string ⟨#[116,101,115,116]⟩]) (.int .i64 5)).run prog w=.ok (.string ⟨#[116,101,115,116]⟩) w:=fun _=>by kernel_rfl
 go_loop [3,4,6] (fun _ _ i=>∃ k:Nat,k<=6/\i=.int .i64 k/\Ll (dd s ew=(dd s (ew.drop k)).map (·+k))) (fun _ _ i=>6 - (intOf i).toNat)
 case atStart=>exact⟨0,Nat.zero_le _,rfl,aa (by simp)⟩
 case round=>
  obtain⟨k,hk,rfl,HI⟩:=hrel;by_cases hlt:k < 6
  ·have hc:k=0\/k=1\/k=2\/k=3\/k=4\/k=5:=by omega
   clear hk hlt;rcases hc with rfl | rfl | rfl | rfl | rfl | rfl
   ·by_cases he:([97,100,100]:Lz)=s
    ·have e3:(([97,100,100]:Lz) == s)=true:=by rw[beq_iff_eq];exact he
     have HX:Ll (ck s=1):=aa (by unfold ck;rw[HI.o,jc (k:=0) (by decide) he];rfl);clear he HI;go_wp2
     go_ret;exact⟨by rw[HX.o];rfl,MK _ _⟩
    ·have e3:(([97,100,100]:Lz) == s)=false:=by rw[MO];exact he
     have HX:Ll (dd s ew=(dd s (ew.drop 1)).map (·+1)):=aa (by rw[HI.o];exact iT (k:=0) (by decide) he);clear he HI;go_wp2
     go_round
     case rel=>exact⟨1,by omega,by go_num,HX⟩
     case measure=>simp[intOf]
   ·by_cases he:([114,101,109,111,118,101]:Lz)=s
    ·have e3:(([114,101,109,111,118,101]:Lz) == s)=true:=by rw[beq_iff_eq];exact he
     have HX:Ll (ck s=2):=aa (by unfold ck;rw[HI.o,jc (k:=1) (by decide) he];rfl);clear he HI;go_wp2
     go_ret;exact⟨by rw[HX.o];rfl,MK _ _⟩
    ·have e3:(([114,101,109,111,118,101]:Lz) == s)=false:=by rw[MO];exact he
     have HX:Ll (dd s ew=(dd s (ew.drop 2)).map (·+2)):=aa (by rw[HI.o];exact iT (k:=1) (by decide) he);clear he HI;go_wp2
     go_round
     case rel=>exact⟨2,by omega,by go_num,HX⟩
     case measure=>simp[intOf]
   ·by_cases he:([114,101,112,108,97,99,101]:Lz)=s
    ·have e3:(([114,101,112,108,97,99,101]:Lz) == s)=true:=by rw[beq_iff_eq];exact he
     have HX:Ll (ck s=3):=aa (by unfold ck;rw[HI.o,jc (k:=2) (by decide) he];rfl);clear he HI;go_wp2
     go_ret;exact⟨by rw[HX.o];rfl,MK _ _⟩
    ·have e3:(([114,101,112,108,97,99,101]:Lz) == s)=false:=by rw[MO];exact he
     have HX:Ll (dd s ew=(dd s (ew.drop 3)).map (·+3)):=aa (by rw[HI.o];exact iT (k:=2) (by decide) he);clear he HI;go_wp2
     go_round
     case rel=>exact⟨3,by omega,by go_num,HX⟩
     case measure=>simp[intOf]
   ·by_cases he:([109,111,118,101]:Lz)=s
    ·have e3:(([109,111,118,101]:Lz) == s)=true:=by rw[beq_iff_eq];exact he
     have HX:Ll (ck s=4):=aa (by unfold ck;rw[HI.o,jc (k:=3) (by decide) he];rfl);clear he HI;go_wp2
     go_ret;exact⟨by rw[HX.o];rfl,MK _ _⟩
    ·have e3:(([109,111,118,101]:Lz) == s)=false:=by rw[MO];exact he
     have HX:Ll (dd s ew=(dd s (ew.drop 4)).map (·+4)):=aa (by rw[HI.o];exact iT (k:=3) (by decide) he);clear he HI;go_wp2
     go_round
     case rel=>exact⟨4,by omega,by go_num,HX⟩
     case measure=>simp[intOf]
   ·by_cases he:([99,111,112,121]:Lz)=s
    ·have e3:(([99,111,112,121]:Lz) == s)=true:=by rw[beq_iff_eq];exact he
     have HX:Ll (ck s=5):=aa (by unfold ck;rw[HI.o,jc (k:=4) (by decide) he];rfl);clear he HI;go_wp2
     go_ret;exact⟨by rw[HX.o];rfl,MK _ _⟩
    ·have e3:(([99,111,112,121]:Lz) == s)=false:=by rw[MO];exact he
     have HX:Ll (dd s ew=(dd s (ew.drop 5)).map (·+5)):=aa (by rw[HI.o];exact iT (k:=4) (by decide) he);clear he HI;go_wp2
     go_round
     case rel=>exact⟨5,by omega,by go_num,HX⟩
     case measure=>simp[intOf]
   ·by_cases he:([116,101,115,116]:Lz)=s
    ·have e3:(([116,101,115,116]:Lz) == s)=true:=by rw[beq_iff_eq];exact he
     have HX:Ll (ck s=6):=aa (by unfold ck;rw[HI.o,jc (k:=5) (by decide) he];rfl);clear he HI;go_wp2
     go_ret;exact⟨by rw[HX.o];rfl,MK _ _⟩
    ·have e3:(([116,101,115,116]:Lz) == s)=false:=by rw[MO];exact he
     have HX:Ll (dd s ew=(dd s (ew.drop 6)).map (·+6)):=aa (by rw[HI.o];exact iT (k:=5) (by decide) he);clear he HI;go_wp2
     go_round
     case rel=>exact⟨6,by omega,by go_num,HX⟩
     case measure=>simp[intOf]
  ·have hk6:k=6:=by omega
   subst hk6;have HX:Ll (ck s=0):=aa (by unfold ck;rw[HI.o];rfl);clear HI hk hlt;go_wp2
   go_ret;exact⟨by rw[HX.o];rfl,MK _ _⟩
theorem Bt(w:LC)(ok t v key)(h:In w ok t v)(hm:aS t key=none):Calls prog 168 #[v,aR key] w fun e w'=>e=.returned (.tuple #[aR ((bt t key).getD []),.bool (bt t key).isSome])/\La w w':=by
 have H:=aa h;obtain⟨a1,b1,c1,d1,rfl⟩:=h.form;have HM:=aa hm;have HA:Ll (bt t key=none):=aa (by simp[bt,hm]);clear hm;clear h;unfold aR;have B0:=aa (ae w (.cells (KV t a1 c1 b1 d1) 39));go_enter func168,ntmps168;go_wp2_with (go_at_call 44;refine(co _ ok t _ key (by exact H.o.bel B0.o)).mono ?_;rintro e w2 ⟨xm,bm,rfl,hb,hb2,m,hy,hyz⟩;obtain⟨a5,b5,c5,d5,rfl⟩:=hy.form;rw[HM.o]at hb2 hyz;simp only[Option.isSome]at hb2;subst hb2;have Bm:=aa (show KY (w2.alloc (.cells (KV m a5 c5 b5 d5) 39)) w2.heap.size m a5 c5 b5 d5 from MN w2 _);have HB:=aa (ab B0.o (ab hb (ae w2 (.cells (KV m a5 c5 b5 d5) 39))));have m0_:=Bm.o.c;clear hb hy hyz)
 refine MM (v:=.tuple #[.string ⟨#[]⟩,.bool false]) (by simp[results,results168,go_sem]) rfl ⟨by rw[HA.o];rfl,HB.o⟩
theorem xO(w:LC)(ok t v key)(h:In w ok t v)(mm)(hm:aS t key=some mm)(hk:mm.kind≠3):Calls prog 168 #[v,aR key] w fun e w'=>e=.returned (.tuple #[aR ((bt t key).getD []),.bool (bt t key).isSome])/\La w w':=by
 have H:=aa h;obtain⟨a1,b1,c1,d1,rfl⟩:=h.form;have HM:=aa hm;have HA:Ll (bt t key=none):=aa (by simp[bt,hm,hk]);have e1:(mm.kind == 3)=false:=by simp[hk]
 have e1n:(mm.kind != 3)=true:=by simp[hk]
 clear hm hk;clear h;unfold aR;have B0:=aa (ae w (.cells (KV t a1 c1 b1 d1) 39));go_enter func168,ntmps168;go_wp2_with (go_at_call 44;refine(co _ ok t _ key (by exact H.o.bel B0.o)).mono ?_;rintro e w2 ⟨xm,bm,rfl,hb,hb2,m,hy,hyz⟩;obtain⟨a5,b5,c5,d5,rfl⟩:=hy.form;rw[HM.o]at hb2 hyz;simp only[Option.isSome]at hb2;subst hb2;obtain rfl:=hyz _ rfl;have Bm:=aa (show KY (w2.alloc (.cells (KV m a5 c5 b5 d5) 39)) w2.heap.size m a5 c5 b5 d5 from MN w2 _);have HB:=aa (ab B0.o (ab hb (ae w2 (.cells (KV m a5 c5 b5 d5) 39))));have m0_:=Bm.o.c;clear hb hy hyz)
 refine MM (v:=.tuple #[.string ⟨#[]⟩,.bool false]) (by simp[results,results168,go_sem]) rfl ⟨by rw[HA.o];rfl,HB.o⟩
theorem Cm(w:LC)(ok t v key)(h:In w ok t v)(mm)(hm:aS t key=some mm)(hk:mm.kind=3):Calls prog 168 #[v,aR key] w fun e w'=>e=.returned (.tuple #[aR ((bt t key).getD []),.bool (bt t key).isSome])/\La w w':=by
 have H:=aa h;obtain⟨a1,b1,c1,d1,rfl⟩:=h.form;have HM:=aa hm;have HA:Ll (bt t key=some mm.s):=aa (by simp[bt,hm,hk]);have e1:(mm.kind == 3)=true:=by simp[hk]
 have e1n:(mm.kind != 3)=false:=by simp[hk]
 clear hm hk;clear h;unfold aR;have B0:=aa (ae w (.cells (KV t a1 c1 b1 d1) 39));go_enter func168,ntmps168;go_wp2_with (go_at_call 44;refine(co _ ok t _ key (by exact H.o.bel B0.o)).mono ?_;rintro e w2 ⟨xm,bm,rfl,hb,hb2,m,hy,hyz⟩;obtain⟨a5,b5,c5,d5,rfl⟩:=hy.form;rw[HM.o]at hb2 hyz;simp only[Option.isSome]at hb2;subst hb2;obtain rfl:=hyz _ rfl;have Bm:=aa (show KY (w2.alloc (.cells (KV m a5 c5 b5 d5) 39)) w2.heap.size m a5 c5 b5 d5 from MN w2 _);have HB:=aa (ab B0.o (ab hb (ae w2 (.cells (KV m a5 c5 b5 d5) 39))));have m0_:=Bm.o.c;clear hb hy hyz)
 refine MM (v:=.tuple #[.string ⟨m.s.toArray⟩,.bool true]) (by simp[results,results168,go_sem]) rfl ⟨by rw[HA.o];rfl,HB.o⟩
theorem eQ(w:LC)(ok t v key)(h:In w ok t v):Calls prog 168 #[v,aR key] w fun e w'=>e=.returned (.tuple #[aR ((bt t key).getD []),.bool (bt t key).isSome])/\La w w':=by
 cases hm:aS t key with
 | none=>exact Bt w ok t v key h hm
 | some m=>
  by_cases hk:m.kind=3
  ·exact Cm w ok t v key h m hm hk
  ·exact xO w ok t v key h m hm hk
end Go.Proofs.YtgolnaencepejaaGreatDoor
namespace Go.Proofs.YtgolnaencepejaaGreatDoor
open Go.RowKit
open _root_.Go.Proofs.Tryz
variable {w w':World}
variable {ok:Nat->Prop}
variable {t:V}
variable {g:Nat}
def iE (w:LC) (g:Nat) (u0 u1 u2 v0 v1 v2 v3 v4:Value):Prop:=w.heap[g]?=some (.cells #[u0,u1,u2,v0,v1,v2,v3,v4] 173)
theorem iE.c{u0 u1 u2 v0 v1 v2 v3 v4}(h:iE w g u0 u1 u2 v0 v1 v2 v3 v4):(w.cell? ⟨g,0,none⟩=some u0/\w.cell? ⟨g,1,none⟩=some u1/\w.cell? ⟨g,2,none⟩=some u2/\w.cell? ⟨g,3,none⟩=some v0/\w.cell? ⟨g,4,none⟩=some v1/\w.cell? ⟨g,5,none⟩=some v2/\w.cell? ⟨g,6,none⟩=some v3/\w.cell? ⟨g,7,none⟩=some v4)/\∀ i,w.frozen? ⟨g,i,none⟩=false:=by
 unfold iE at h;refine⟨⟨?_,?_,?_,?_,?_,?_,?_,?_⟩,fun i=>?_⟩ <;> simp[World.cell?,World.frozen?,h]
theorem iE.bel{u0 u1 u2 v0 v1 v2 v3 v4}(h:iE w g u0 u1 u2 v0 v1 v2 v3 v4)(hb:La w w'):iE w' g u0 u1 u2 v0 v1 v2 v3 v4:=(hb.block g (MF.1 h).1).trans h
def qM (w:LC) (g:Nat) (u0 u1 u2 v0 v1 v2 v3 v4:Value):LC:=
 (((((((w.setCell ⟨g,0,none⟩ u0).setCell ⟨g,1,none⟩ u1).setCell ⟨g,2,none⟩ u2).setCell ⟨g,3,none⟩ v0).setCell ⟨g,4,none⟩ v1).setCell ⟨g,5,none⟩ v2).setCell ⟨g,6,none⟩ v3).setCell ⟨g,7,none⟩ v4
theorem Ah(w:LC)(g u0 u1 u2 v0 v1 v2 v3 v4):w.grownBy (qM w g u0 u1 u2 v0 v1 v2 v3 v4) (some g):=ap (ap (ap (ap (ap (ap (ap (ap (az _ _) _ _) _ _) _ _) _ _) _ _) _ _) _ _) _ _
theorem iE.set{u0 u1 u2 v0 v1 v2 v3 v4}(h:iE w g u0 u1 u2 v0 v1 v2 v3 v4)(s0 s1 s2 x0 x1 x2 x3 x4):iE (qM w g s0 s1 s2 x0 x1 x2 x3 x4) g s0 s1 s2 x0 x1 x2 x3 x4:=by
 unfold iE at h ⊢;unfold qM;have e:=ak (ak (ak (ak (ak (ak (ak (ak h 0 s0) 1 s1) 2 s2) 3 x0) 4 x1) 5 x2) 6 x3) 7 x4;simpa using e
theorem iQ{a}(h:La a w)(hg:a.heap.size<=g)(u0 u1 u2 v0 v1 v2 v3 v4):La a (qM w g u0 u1 u2 v0 v1 v2 v3 v4):=bS (lC (aq h) (Ah w g u0 u1 u2 v0 v1 v2 v3 v4) hg)
theorem iE.grown{u0 u1 u2 v0 v1 v2 v3 v4 r}(h:iE w g u0 u1 u2 v0 v1 v2 v3 v4)(hg:w.grownBy w' r)(hr:some g≠r):iE w' g u0 u1 u2 v0 v1 v2 v3 v4:=(hg.block g (MF.1 h).1 hr).trans h
def OD (w:LC) (t:V) (a1 b1:Option Addr) (c1 d1:Nat) (wS:LC):Prop:=KY wS w.heap.size t a1 c1 b1 d1/\iE wS (w.heap.size+1) (.int .i64 0) (.string ⟨#[]⟩) (.string ⟨#[]⟩) (.int .i64 0) (.int .i64 0) (.string ⟨#[]⟩) (.slice none 0 0) (.slice none 0 0)/\La w wS
theorem OD.bel{wS:LC}{a1 b1 c1 d1}(h:OD w t a1 b1 c1 d1 wS)(hb:La wS w'):OD w t a1 b1 c1 d1 w':=⟨af hb h.1,h.2.1.bel hb,ab h.2.2 hb⟩
theorem OD.big{wS:LC}{a1 b1 c1 d1}(h:OD w t a1 b1 c1 d1 wS):w.heap.size+1 < wS.heap.size:=(MF.1 h.2.1).1
theorem OD.grown{wS:LC}{a1 b1 c1 d1}(h:OD w t a1 b1 c1 d1 wS)(hg:wS.grownBy w' (some g))(hr:w.heap.size+2<=g):OD w t a1 b1 c1 d1 w':=by
 have hbig:=h.big;refine⟨h.1.grown hg (by simp;omega),h.2.1.grown hg (by simp;omega),?_⟩;have hb:=h.2.2;exact⟨hg.os.trans hb.os,hg.tape.trans hb.tape,hg.output.trans hb.output,MH hb.size hg.size,fun j hj=>(hg.block j (by omega) (fun e=>by cases e;omega)).trans (hb.block j hj)⟩
def Iz (w:LC) (ok:Nat->Prop) (t:V) (e:Ending) (w':LC):Prop:=∃ (o:jf) (a7 a8:Option Addr) (c7 c8:Nat),e=.returned (.tuple #[.agg (Lg o a7 c7 a8 c8),.bool (oF t).isSome])/\In w' ok o.value (.agg (KV o.value a7 c7 a8 c8))/\(∀ z,oF t=some z->o=z)/\La w w'
theorem qr(hb:La w w')(h:oF t=none):Iz w ok t (.returned (.tuple #[.agg Lh,.bool false])) w':=
 ⟨⟨0,[],[],aM⟩,none,none,0,0,by rw[h];rfl,fG _ _,fun z hz=>(by rw[h]at hz;cases hz),hb⟩
theorem Lx(w ok t v)(h:In w ok t v)(h0:∀ k,ok k->k < w.heap.size)(hG:di w):Calls prog 136 #[v] w (Iz w ok t):=by
 have H:=aa h;have GG:=aa hG;have H0:=aa h0;obtain⟨a1,b1,c1,d1,rfl⟩:=h.form;have K0:Ll (OD w t a1 b1 c1 d1 ((w.alloc (.cells (KV t a1 c1 b1 d1) 39)).alloc (.cells Lh 173))):=aa ⟨fb w _ _,et w _ _,ab (ae _ _) (ae _ _)⟩;clear h hG h0;obtain⟨om,hom⟩:∃ o,aS t yy=o:=⟨_,rfl⟩
 obtain⟨og,hog⟩:∃ o,bt t Ec=o:=⟨_,rfl⟩
 obtain⟨i1,hi1⟩:∃ b,(bt t nL).isSome=b:=⟨_,rfl⟩
 obtain⟨i2,hi2⟩:∃ b,(bt t ea).isSome=b:=⟨_,rfl⟩
 obtain⟨u1,hu1⟩:∃ u,(bt t nL).getD []=u:=⟨_,rfl⟩
 obtain⟨u2,hu2⟩:∃ u,(bt t ea).getD []=u:=⟨_,rfl⟩
 obtain⟨kk,hkk⟩:∃ k,ck u1=k:=⟨_,rfl⟩
 obtain⟨fr,hfr⟩:∃ f,og.getD []=f:=⟨_,rfl⟩
 have cs:((i1=false\/i1=true/\i2=false\/i1=true/\i2=true/\(kk == 0)=true)/\Ll (oF t=none)) \/
  ((i1=true/\i2=true)/\(((kk == 0)=false/\(kk == 1)=true)\/((kk == 0)=false/\(kk == 1)=false/\(kk == 3)=true)\/((kk == 0)=false/\(kk == 1)=false/\(kk == 3)=false/\(kk == 6)=true))/\Ll (oF t=om.map fun y=>⟨kk,u2,[],y⟩)) \/
  ((i1=true/\i2=true)/\(((kk == 0)=false/\(kk == 1)=false/\(kk == 3)=false/\(kk == 6)=false/\(kk == 4)=true)\/((kk == 0)=false/\(kk == 1)=false/\(kk == 3)=false/\(kk == 6)=false/\(kk == 4)=false/\(kk == 5)=true))/\Ll (oF t=og.map fun y=>⟨kk,u2,y,aM⟩)) \/
  ((i1=true/\i2=true)/\((kk == 0)=false/\(kk == 1)=false/\(kk == 3)=false/\(kk == 6)=false/\(kk == 4)=false/\(kk == 5)=false)/\Ll (oF t=some ⟨kk,u2,[],aM⟩)):=by
  cases h1:bt t nL with
  | none=>exact .inl ⟨.inl (by rw[<-hi1,h1];rfl),aa (by simp[oF,h1])⟩
  | some wd=>
   have e1:i1=true:=by rw[<-hi1,h1];rfl
   cases h2:bt t ea with
   | none=>exact .inl ⟨.inr (.inl ⟨e1,by rw[<-hi2,h2];rfl⟩),aa (by simp[oF,h1,h2])⟩
   | some p=>
    have e2:i2=true:=by rw[<-hi2,h2];rfl
    have hw:u1=wd:=by rw[<-hu1,h1];rfl
    have hq:u2=p:=by rw[<-hu2,h2];rfl
    subst hw hq;rcases pm u1 with hk | hk | hk | hk | hk | hk | hk <;> rw[hkk]at hk <;> subst hk
    ·exact .inl ⟨.inr (.inr ⟨e1,e2,rfl⟩),aa (by simp[oF,h1,h2,hkk])⟩
    ·exact .inr (.inl ⟨⟨e1,e2⟩,.inl ⟨rfl,rfl⟩,aa (by rw[<-hom];cases hm:aS t yy <;> simp[oF,h1,h2,hkk,hm])⟩)
    ·exact .inr (.inr (.inr ⟨⟨e1,e2⟩,⟨rfl,rfl,rfl,rfl,rfl,rfl⟩,aa (by simp[oF,h1,h2,hkk])⟩))
    ·exact .inr (.inl ⟨⟨e1,e2⟩,.inr (.inl ⟨rfl,rfl,rfl⟩),aa (by rw[<-hom];cases hm:aS t yy <;> simp[oF,h1,h2,hkk,hm])⟩)
    ·exact .inr (.inr (.inl ⟨⟨e1,e2⟩,.inl ⟨rfl,rfl,rfl,rfl,rfl⟩,aa (by rw[<-hog];cases hm:bt t Ec <;> simp[oF,h1,h2,hkk,hm])⟩))
    ·exact .inr (.inr (.inl ⟨⟨e1,e2⟩,.inr ⟨rfl,rfl,rfl,rfl,rfl,rfl⟩,aa (by rw[<-hog];cases hm:bt t Ec <;> simp[oF,h1,h2,hkk,hm])⟩))
    ·exact .inr (.inl ⟨⟨e1,e2⟩,.inr (.inr ⟨rfl,rfl,rfl,rfl⟩),aa (by rw[<-hom];cases hm:aS t yy <;> simp[oF,h1,h2,hkk,hm])⟩)
 have HM:=aa hom;have HG:=aa hog;have T1:=aa hi1;have T2:=aa hi2;have U1:=aa hu1;have U2:=aa hu2;have UK:=aa hkk;have FR:=aa hfr;clear hom hog hi1 hi2 hu1 hu2 hkk hfr;go_enter func136,ntmps136;go_upto_region 2 with (go_at_call 168;refine Lk (eQ _ ok t _ nL (by exact H.o.bel K0.o.2.2)) fun w1 hb=>?_;unfold aR;have K1:=aa (K0.o.bel hb);have t0_:=K1.o.1.c;rw[U1.o,T1.o];clear hb)
 go_upto_region 3 with (go_at_call 168;refine Lk (eQ _ ok t _ ea (by exact H.o.bel K1.o.2.2)) fun w2 hb=>?_;unfold aR;have K2:=aa (K1.o.bel hb);have t0_:=K2.o.1.c;rw[U2.o,T2.o];clear hb)
 go_upto_region 4 with (go_at_call 169;refine Lk (gW _ _ (by exact GG.o.bel K2.o.2.2)) fun w3 hb=>?_;have K3:=aa (K2.o.bel hb);have t0_:=K3.o.1.c;rw[UK.o];clear hb)
 rcases cs with⟨cs,HA⟩ | ⟨⟨rfl,rfl⟩,gg,HA⟩ | ⟨⟨rfl,rfl⟩,gg,HA⟩ | ⟨⟨rfl,rfl⟩,⟨q0,q1,q2,q3,q4,q5⟩,HA⟩
 ·rcases cs with rfl | ⟨rfl,rfl⟩ | ⟨rfl,rfl,q0⟩
  all_goals
   obtain⟨⟨o0,o1,o2,o3,o4,o5,o6,o7⟩,of⟩:=K3.o.2.1.c;have f0:=of 0;have f1:=of 1;have f2:=of 2;have f3:=of 3;have f4:=of 4;have f5:=of 5;have f6:=of 6;have f7:=of 7;clear of;have ZB:=aa (K3.o.2.1.set (.int .i64 0) (.string ⟨#[]⟩) (.string ⟨#[]⟩) (.int .i64 0) (.int .i64 0) (.string ⟨#[]⟩) (.slice none 0 0) (.slice none 0 0));have ZL:=aa (iQ K3.o.2.2 (Nat.le_succ w.heap.size) (.int .i64 0) (.string ⟨#[]⟩) (.string ⟨#[]⟩) (.int .i64 0) (.int .i64 0) (.string ⟨#[]⟩) (.slice none 0 0) (.slice none 0 0));go_wp2
   obtain⟨⟨z0,z1,z2,z3,z4,z5,z6,z7⟩,-⟩:=ZB.o.c;refine MM (v:=.tuple #[.agg Lh,.bool false]) ?_ rfl (qr (by exact ZL.o) HA.o);simp only[qM]at z0 z1 z2 z3 z4 z5 z6 z7;simp[results,results136,go_sem,z0,z1,z2,z3,z4,z5,z6,z7]
 ·rcases gg with⟨q0,q1⟩ | ⟨q0,q1,q2⟩ | ⟨q0,q1,q2,q3⟩
  all_goals
   have N3:Ll (iE (w3.alloc (.cells #[.int .i64 kk,.string ⟨u2.toArray⟩,.string ⟨#[]⟩,.int .i64 0,.int .i64 0,.string ⟨#[]⟩,.slice none 0 0,.slice none 0 0] 173)) w3.heap.size (.int .i64 kk) (.string ⟨u2.toArray⟩) (.string ⟨#[]⟩) (.int .i64 0) (.int .i64 0) (.string ⟨#[]⟩) (.slice none 0 0) (.slice none 0 0)):=MN w3 _;have K4:=aa (K3.o.bel (ae w3 (.cells #[.int .i64 kk,.string ⟨u2.toArray⟩,.string ⟨#[]⟩,.int .i64 0,.int .i64 0,.string ⟨#[]⟩,.slice none 0 0,.slice none 0 0] 173)));have hbig:=K3.o.big;have t0_:=K4.o.1.c;go_upto_region 16 with (go_at_call 44;refine(co _ ok t _ yy (by exact H.o.bel K4.o.2.2)).mono ?_;rintro e w5 ⟨xm,bm,rfl,hb,hb2,y,hy,hyz⟩;obtain⟨a5,b5,c5,d5,rfl⟩:=hy.form;rw[HM.o]at hb2 hyz;subst hb2;have HY:=aa hyz;have Y5:=aa hy;have K5:=aa (K4.o.bel hb);have N5:=aa (N3.o.bel hb);obtain⟨⟨n0,n1,n2,n3,n4,n5,n6,n7⟩,nf⟩:=N5.o.c;have nf3:=nf 3;have nf4:=nf 4;have nf5:=nf 5;have nf6:=nf 6;have nf7:=nf 7;clear nf hb hy hyz)
   obtain⟨W6,hW6⟩:∃ W,(((((w5.setCell ⟨w3.heap.size,3,none⟩ (.int .i64 y.kind)).setCell ⟨w3.heap.size,4,none⟩ (.int .i64 y.n)).setCell ⟨w3.heap.size,5,none⟩ (.string ⟨y.s.toArray⟩)).setCell ⟨w3.heap.size,6,none⟩ (.slice a5 y.keys.length c5)).setCell ⟨w3.heap.size,7,none⟩ (.slice b5 y.l.length d5))=W:=⟨_,rfl⟩
   rw[hW6];have g6:w5.grownBy W6 (some w3.heap.size):=by rw[<-hW6];exact ap (ap (ap (ap (ap (az _ _) _ _) _ _) _ _) _ _) _ _
   have K6:=aa (K5.o.grown g6 (by omega));have N6:Ll (iE W6 w3.heap.size (.int .i64 kk) (.string ⟨u2.toArray⟩) (.string ⟨#[]⟩) (.int .i64 y.kind) (.int .i64 y.n) (.string ⟨y.s.toArray⟩) (.slice a5 y.keys.length c5) (.slice b5 y.l.length d5)):=aa (by
    rw[<-hW6];have e:=ak (ak (ak (ak (ak N5.o 3 (.int .i64 y.kind)) 4 (.int .i64 y.n)) 5 (.string ⟨y.s.toArray⟩)) 6 (.slice a5 y.keys.length c5)) 7 (.slice b5 y.l.length d5);unfold iE;simpa using e)
   have Y6:Ll (In W6 ok y (.agg (KV y a5 c5 b5 d5))):=Y5.o.grown g6 (fun k hk=>by have:=H0.o k hk;omega);clear hW6 g6 nf3 nf4 nf5 nf6 nf7;obtain⟨⟨n0,n1,n2,n3,n4,n5,n6,n7⟩,-⟩:=N6.o.c;obtain⟨⟨o0,o1,o2,o3,o4,o5,o6,o7⟩,of⟩:=K6.o.2.1.c;have f0:=of 0;have f1:=of 1;have f2:=of 2;have f3:=of 3;have f4:=of 4;have f5:=of 5;have f6:=of 6;have f7:=of 7;clear of;have ZB:=aa (LH (K6.o.2.1.set (.int .i64 kk) (.string ⟨u2.toArray⟩) (.string ⟨#[]⟩)) y a5 c5 b5 d5);have ZL:=aa (iQ K6.o.2.2 (Nat.le_succ w.heap.size) (.int .i64 kk) (.string ⟨u2.toArray⟩) (.string ⟨#[]⟩) (.int .i64 y.kind) (.int .i64 y.n) (.string ⟨y.s.toArray⟩) (.slice a5 y.keys.length c5) (.slice b5 y.l.length d5));go_wp2
   obtain⟨⟨z0,z1,z2,z3,z4,z5,z6,z7⟩,-⟩:=ZB.o.c;refine MM (v:=.tuple #[.agg #[.int .i64 kk,.string ⟨u2.toArray⟩,.string ⟨#[]⟩,.int .i64 y.kind,.int .i64 y.n,.string ⟨y.s.toArray⟩,.slice a5 y.keys.length c5,.slice b5 y.l.length d5],.bool om.isSome]) ?_ rfl ?_
   ·simp only[qM]at z0 z1 z2 z3 z4 z5 z6 z7;simp[results,results136,go_sem,z0,z1,z2,z3,z4,z5,z6,z7]
   ·exact⟨⟨kk,u2,[],y⟩,a5,b5,c5,d5,by rw[HA.o,Option.isSome_map],Y6.o.grown (Ah _ _ _ _ _ _ _ _ _ _) (fun k hk=>by have:=H0.o k hk;omega),fun z hz=>(by rw[HA.o]at hz;obtain⟨z1,e1,e2⟩:=Option.map_eq_some_iff.1 hz;rw[<-e2,HY.o z1 e1]),by exact ZL.o⟩
 ·rcases gg with⟨q0,q1,q2,q3,q4⟩ | ⟨q0,q1,q2,q3,q4,q5⟩
  all_goals
   have N3:Ll (iE (w3.alloc (.cells #[.int .i64 kk,.string ⟨u2.toArray⟩,.string ⟨#[]⟩,.int .i64 0,.int .i64 0,.string ⟨#[]⟩,.slice none 0 0,.slice none 0 0] 173)) w3.heap.size (.int .i64 kk) (.string ⟨u2.toArray⟩) (.string ⟨#[]⟩) (.int .i64 0) (.int .i64 0) (.string ⟨#[]⟩) (.slice none 0 0) (.slice none 0 0)):=MN w3 _;have K4:=aa (K3.o.bel (ae w3 (.cells #[.int .i64 kk,.string ⟨u2.toArray⟩,.string ⟨#[]⟩,.int .i64 0,.int .i64 0,.string ⟨#[]⟩,.slice none 0 0,.slice none 0 0] 173)));have hbig:=K3.o.big;have t0_:=K4.o.1.c;go_upto_region 16 with (go_at_call 168;refine Lk (eQ _ ok t _ Ec (by exact H.o.bel K4.o.2.2)) fun w5 hb=>?_;unfold aR;rw[HG.o];have K5:=aa (K4.o.bel hb);have N5:=aa (N3.o.bel hb);obtain⟨⟨n0,n1,n2,n3,n4,n5,n6,n7⟩,nf⟩:=N5.o.c;have nf2:=nf 2;rw[FR.o];clear nf hb)
   obtain⟨W6,hW6⟩:∃ W,(w5.setCell ⟨w3.heap.size,2,none⟩ (.string ⟨fr.toArray⟩))=W:=⟨_,rfl⟩
   rw[hW6];have g6:w5.grownBy W6 (some w3.heap.size):=by rw[<-hW6];exact ap (az _ _) _ _
   have K6:=aa (K5.o.grown g6 (by omega));have N6:Ll (iE W6 w3.heap.size (.int .i64 kk) (.string ⟨u2.toArray⟩) (.string ⟨fr.toArray⟩) (.int .i64 0) (.int .i64 0) (.string ⟨#[]⟩) (.slice none 0 0) (.slice none 0 0)):=aa (by rw[<-hW6];exact ak N5.o 2 _);clear hW6 g6 nf2;obtain⟨⟨n0,n1,n2,n3,n4,n5,n6,n7⟩,-⟩:=N6.o.c;obtain⟨⟨o0,o1,o2,o3,o4,o5,o6,o7⟩,of⟩:=K6.o.2.1.c;have f0:=of 0;have f1:=of 1;have f2:=of 2;have f3:=of 3;have f4:=of 4;have f5:=of 5;have f6:=of 6;have f7:=of 7;clear of;have ZB:=aa (K6.o.2.1.set (.int .i64 kk) (.string ⟨u2.toArray⟩) (.string ⟨fr.toArray⟩) (.int .i64 0) (.int .i64 0) (.string ⟨#[]⟩) (.slice none 0 0) (.slice none 0 0));have ZL:=aa (iQ K6.o.2.2 (Nat.le_succ w.heap.size) (.int .i64 kk) (.string ⟨u2.toArray⟩) (.string ⟨fr.toArray⟩) (.int .i64 0) (.int .i64 0) (.string ⟨#[]⟩) (.slice none 0 0) (.slice none 0 0));go_wp2
   obtain⟨⟨z0,z1,z2,z3,z4,z5,z6,z7⟩,-⟩:=ZB.o.c;refine MM (v:=.tuple #[.agg #[.int .i64 kk,.string ⟨u2.toArray⟩,.string ⟨fr.toArray⟩,.int .i64 0,.int .i64 0,.string ⟨#[]⟩,.slice none 0 0,.slice none 0 0],.bool og.isSome]) ?_ rfl ?_
   ·simp only[qM]at z0 z1 z2 z3 z4 z5 z6 z7;simp[results,results136,go_sem,z0,z1,z2,z3,z4,z5,z6,z7]
   ·exact⟨⟨kk,u2,fr,aM⟩,none,none,0,0,by rw[HA.o,Option.isSome_map];rfl,fG _ _,fun z hz=>(by rw[HA.o]at hz;obtain⟨z1,e1,e2⟩:=Option.map_eq_some_iff.1 hz;rw[<-e2,<-FR.o,e1];rfl),by exact ZL.o⟩
 ·have N3:Ll (iE (w3.alloc (.cells #[.int .i64 kk,.string ⟨u2.toArray⟩,.string ⟨#[]⟩,.int .i64 0,.int .i64 0,.string ⟨#[]⟩,.slice none 0 0,.slice none 0 0] 173)) w3.heap.size (.int .i64 kk) (.string ⟨u2.toArray⟩) (.string ⟨#[]⟩) (.int .i64 0) (.int .i64 0) (.string ⟨#[]⟩) (.slice none 0 0) (.slice none 0 0)):=MN w3 _;have K4:=aa (K3.o.bel (ae w3 (.cells #[.int .i64 kk,.string ⟨u2.toArray⟩,.string ⟨#[]⟩,.int .i64 0,.int .i64 0,.string ⟨#[]⟩,.slice none 0 0,.slice none 0 0] 173)));have hbig:=K3.o.big;go_upto_region 16 with fail
  obtain⟨W6,hW6⟩:∃ W,w3.alloc (.cells #[.int .i64 kk,.string ⟨u2.toArray⟩,.string ⟨#[]⟩,.int .i64 0,.int .i64 0,.string ⟨#[]⟩,.slice none 0 0,.slice none 0 0] 173)=W:=⟨_,rfl⟩
  rw[hW6]at N3 K4 ⊢;clear hW6;obtain⟨⟨n0,n1,n2,n3,n4,n5,n6,n7⟩,-⟩:=N3.o.c;obtain⟨⟨o0,o1,o2,o3,o4,o5,o6,o7⟩,of⟩:=K4.o.2.1.c;have f0:=of 0;have f1:=of 1;have f2:=of 2;have f3:=of 3;have f4:=of 4;have f5:=of 5;have f6:=of 6;have f7:=of 7;clear of;have ZB:=aa (K4.o.2.1.set (.int .i64 kk) (.string ⟨u2.toArray⟩) (.string ⟨#[]⟩) (.int .i64 0) (.int .i64 0) (.string ⟨#[]⟩) (.slice none 0 0) (.slice none 0 0));have ZL:=aa (iQ K4.o.2.2 (Nat.le_succ w.heap.size) (.int .i64 kk) (.string ⟨u2.toArray⟩) (.string ⟨#[]⟩) (.int .i64 0) (.int .i64 0) (.string ⟨#[]⟩) (.slice none 0 0) (.slice none 0 0));go_wp2
  obtain⟨⟨z0,z1,z2,z3,z4,z5,z6,z7⟩,-⟩:=ZB.o.c;refine MM (v:=.tuple #[.agg #[.int .i64 kk,.string ⟨u2.toArray⟩,.string ⟨#[]⟩,.int .i64 0,.int .i64 0,.string ⟨#[]⟩,.slice none 0 0,.slice none 0 0],.bool true]) ?_ rfl ?_
  ·simp only[qM]at z0 z1 z2 z3 z4 z5 z6 z7;simp[results,results136,go_sem,z0,z1,z2,z3,z4,z5,z6,z7]
  ·exact⟨⟨kk,u2,[],aM⟩,none,none,0,0,by rw[HA.o];rfl,fG _ _,fun z hz=>(by rw[HA.o]at hz;cases hz;rfl),by exact ZL.o⟩
theorem lZ(w:LC)(ok t v)(h:In w ok t v)(hG:di w):Calls prog 136 #[v] w (Iz w ok t):=by
 have key:Calls prog 136 #[v] w (Iz w (Lj ok w) t):=by
  replace h:=h.low;have h0:∀ k,(Lj ok w) k->k < w.heap.size:=fun k hk=>hk.2;exact Lx w _ t v h h0 hG
 refine key.mono ?_;rintro e w' ⟨o,a7,a8,c7,c8,e1,e2,e3,e4⟩;exact⟨o,a7,a8,c7,c8,e1,e2.weak fun k hk=>hk.1,e3,e4⟩
variable {ok':Nat->Prop}
variable {n k i:Nat}
def kV {α:Type} (f:V->Option α):List V->Option (List α)
 | []=>some []
 | x :: l=>match f x,kV f l with
  | some a,some b=>some (a :: b)
  | _,_=>none
theorem Ch{α:Type}{f:V->Option α}{l:List V}(h:k < l.length){xs:List α}(hx:kV f (l.take k)=some xs){x:α}(hr:f l[k]=some x):kV f (l.take (k+1))=some (xs++[x]):=by
 induction l generalizing k xs with
 | nil=>simp at h
 | cons y l ih=>
  cases k with
  | zero=>
   simp at hr hx ⊢;simp[kV]at hx;subst hx;simp[kV,hr]
  | succ k=>
   simp only[List.take_succ_cons,kV]at hx ⊢;simp only[List.getElem_cons_succ]at hr;cases hy:f y with
   | none=>rw[hy]at hx;simp at hx
   | some a=>
    rw[hy]at hx;cases hq:kV f (l.take k) with
    | none=>rw[hq]at hx;simp at hx
    | some b=>
     rw[hq]at hx;simp at hx;subst hx;rw[ih (by simpa using h) hq hr];simp
theorem Bi{α:Type}{f:V->Option α}{l}(h:k < l.length)(hr:f l[k]=none):kV f l=none:=by
 induction l generalizing k with
 | nil=>simp at h
 | cons y l ih=>
  cases k with
  | zero=>simp at hr;simp[kV,hr]
  | succ k=>
   have:=ih (k:=k) (by simpa using h) (by simpa using hr);simp only[kV,this];cases f y <;> rfl
theorem Ez{α:Type}{f:V->Option α}{l}{xs:List α}(h:kV f (l.take k)=some xs)(hk:¬k < l.length):kV f l=some xs:=by rwa [MD (by omega)]at h
def cU (t:V):List jf × Int:=if t.kind≠4\/aE t=false then ([],1) else if 20 < t.l.length then ([],2) else match kV oF t.l with | some os=>(os,0) | none=>([],1)
theorem pf(h:dz t){key s}(hs:bt t key=some s):s.length<=140737488351232:=by
 unfold bt at hs;split at hs
 ·rename_i x hx;split at hs
  ·rename_i hk;cases hs;have hn:=fp (gC h (lG hx));unfold ce at hn;rw[hk]at hn;simp[eK]at hn;omega
  ·cases hs
 ·cases hs
theorem IM(h:dz t){o:jf}(ho:oF t=some o):dW o.kind/\o.path.length<=140737488351232/\o.frm.length<=140737488351232:=by
 unfold oF at ho;split at ho
 ·rename_i wd p h1 h2;have hp:=pf h h2;have hk:=pm wd;split at ho
  ·cases ho
  ·split at ho
   ·obtain⟨y,-,rfl⟩:=Option.map_eq_some_iff.1 ho;exact⟨by unfold dW;simp only;omega,hp,by simp⟩
   ·split at ho
    ·obtain⟨f,hf,rfl⟩:=Option.map_eq_some_iff.1 ho;exact⟨by unfold dW;simp only;omega,hp,pf h hf⟩
    ·cases ho;exact⟨by unfold dW;simp only;omega,hp,by simp⟩
 ·cases ho
def lQ (w:LC) (ok:Nat->Prop) (R n:Nat) (os:List jf):Prop:=∃ cs:Array Value,w.heap[R]?=some (.cells cs 173)/\cs.size=n * 8/\∀ i o,os[i]?=some o->(dW o.kind/\o.path.length<=140737488351232/\o.frm.length<=140737488351232)/\∃ (a7 a8:Option Addr) (c7 c8:Nat),(cs[i * 8]?=some (.int .i64 o.kind)/\cs[i * 8+1]?=some (.string ⟨o.path.toArray⟩)/\cs[i * 8+2]?=some (.string ⟨o.frm.toArray⟩)/\cs[i * 8+3]?=some (.int .i64 o.value.kind)/\cs[i * 8+4]?=some (.int .i64 o.value.n)/\cs[i * 8+5]?=some (.string ⟨o.value.s.toArray⟩)/\cs[i * 8+6]?=some (.slice a7 o.value.keys.length c7)/\cs[i * 8+7]?=some (.slice a8 o.value.l.length c8))/\In w ok o.value (.agg (KV o.value a7 c7 a8 c8))
theorem lQ.bel{R}{os:List jf}(h:lQ w ok R n os)(hb:La w w'):lQ w' ok R n os:=by
 obtain⟨cs,h1,h2,h3⟩:=h;refine⟨cs,(hb.block R (MF.1 h1).1).trans h1,h2,fun i o ho=>?_⟩;obtain⟨g,a7,a8,c7,c8,q,hi⟩:=h3 i o ho;exact⟨g,a7,a8,c7,c8,q,hi.bel hb⟩
theorem lQ.at{R}{os:List jf}(h:lQ w ok R n os)(hk:k < n):(∃ u,w.cell? ⟨R,k * 8,none⟩=some u)/\(∃ u,w.cell? ⟨R,k * 8+1,none⟩=some u)/\(∃ u,w.cell? ⟨R,k * 8+2,none⟩=some u)/\(∃ u,w.cell? ⟨R,k * 8+3,none⟩=some u)/\(∃ u,w.cell? ⟨R,k * 8+4,none⟩=some u)/\(∃ u,w.cell? ⟨R,k * 8+5,none⟩=some u)/\(∃ u,w.cell? ⟨R,k * 8+6,none⟩=some u)/\(∃ u,w.cell? ⟨R,k * 8+7,none⟩=some u)/\∀ i,w.frozen? ⟨R,i,none⟩=false:=by
 obtain⟨cs,h1,h2,h3⟩:=h;have key:∀ j,j < cs.size->∃ u,w.cell? ⟨R,j,none⟩=some u:=fun j hj=>⟨cs[j],by simp[World.cell?,h1,Array.getElem?_eq_getElem hj]⟩
 exact⟨key _ (by omega),key _ (by omega),key _ (by omega),key _ (by omega),key _ (by omega),key _ (by omega),key _ (by omega),key _ (by omega),fun i=>by simp[World.frozen?,h1]⟩
def wO (w:LC) (g i:Nat) (u0 u1 u2 v0 v1 v2 v3 v4:Value):LC:=
 (((((((w.setCell ⟨g,i,none⟩ u0).setCell ⟨g,i+1,none⟩ u1).setCell ⟨g,i+2,none⟩ u2).setCell ⟨g,i+3,none⟩ v0).setCell ⟨g,i+4,none⟩ v1).setCell ⟨g,i+5,none⟩ v2).setCell ⟨g,i+6,none⟩ v3).setCell ⟨g,i+7,none⟩ v4
theorem uW(w:LC)(g i u0 u1 u2 v0 v1 v2 v3 v4):w.grownBy (wO w g i u0 u1 u2 v0 v1 v2 v3 v4) (some g):=ap (ap (ap (ap (ap (ap (ap (ap (az _ _) _ _) _ _) _ _) _ _) _ _) _ _) _ _) _ _
theorem fm{cs:Array Value}{j u0 u1 u2 v0 v1 v2 v3 v4}(h:j < i\/i+8<=j):((((((((cs.setIfInBounds i u0).setIfInBounds (i+1) u1).setIfInBounds (i+2) u2).setIfInBounds (i+3) v0).setIfInBounds (i+4) v1).setIfInBounds (i+5) v2).setIfInBounds (i+6) v3).setIfInBounds (i+7) v4)[j]?=cs[j]?:=by
 rw[Array.getElem?_setIfInBounds_ne (by omega),Array.getElem?_setIfInBounds_ne (by omega),Array.getElem?_setIfInBounds_ne (by omega),Array.getElem?_setIfInBounds_ne (by omega),Array.getElem?_setIfInBounds_ne (by omega),Array.getElem?_setIfInBounds_ne (by omega),Array.getElem?_setIfInBounds_ne (by omega),Array.getElem?_setIfInBounds_ne (by omega)]
theorem tu{cs:Array Value}{u0 u1 u2 v0 v1 v2 v3 v4}(h:i+8<=cs.size):let c:=(((((((cs.setIfInBounds i u0).setIfInBounds (i+1) u1).setIfInBounds (i+2) u2).setIfInBounds (i+3) v0).setIfInBounds (i+4) v1).setIfInBounds (i+5) v2).setIfInBounds (i+6) v3).setIfInBounds (i+7) v4
 c[i]?=some u0/\c[i+1]?=some u1/\c[i+2]?=some u2/\c[i+3]?=some v0/\c[i+4]?=some v1/\c[i+5]?=some v2/\c[i+6]?=some v3/\c[i+7]?=some v4:=by
 refine⟨?_,?_,?_,?_,?_,?_,?_,?_⟩ <;> (simp[Array.getElem?_setIfInBounds];omega)
theorem lQ.push{R}{os:List jf}(h:lQ w ok R n os)(hk:os.length < n)(o:jf)(hg:dW o.kind/\o.path.length<=140737488351232/\o.frm.length<=140737488351232){a7 a8 c7 c8}(hi:In w ok o.value (.agg (KV o.value a7 c7 a8 c8)))(hR:∀ k,ok k->k≠R):lQ (wO w R (os.length * 8) (.int .i64 o.kind) (.string ⟨o.path.toArray⟩) (.string ⟨o.frm.toArray⟩) (.int .i64 o.value.kind) (.int .i64 o.value.n) (.string ⟨o.value.s.toArray⟩) (.slice a7 o.value.keys.length c7) (.slice a8 o.value.l.length c8)) ok R n (os++[o]):=by
 obtain⟨cs,h1,h2,h3⟩:=h;have gs:=uW w R (os.length * 8) (.int .i64 o.kind) (.string ⟨o.path.toArray⟩) (.string ⟨o.frm.toArray⟩) (.int .i64 o.value.kind) (.int .i64 o.value.n) (.string ⟨o.value.s.toArray⟩) (.slice a7 o.value.keys.length c7) (.slice a8 o.value.l.length c8);refine⟨_,ak (ak (ak (ak (ak (ak (ak (ak h1 _ _) _ _) _ _) _ _) _ _) _ _) _ _) _ _,by simpa using h2,fun i z hz=>?_⟩;by_cases hil:i < os.length
 ·rw[List.getElem?_append_left hil]at hz;obtain⟨g,b7,b8,e7,e8,q,hi2⟩:=h3 i z hz;refine⟨g,b7,b8,e7,e8,?_,hi2.grown gs hR⟩;rw[fm (by omega),fm (by omega),fm (by omega),fm (by omega),fm (by omega),fm (by omega),fm (by omega),fm (by omega)];exact q
 ·have hi2:i=os.length:=by
   have:=(Mz.1 hz).1;simp at this;omega
  subst hi2;simp at hz;subst hz;exact⟨hg,a7,a8,c7,c8,tu (by omega),hi.grown gs hR⟩
theorem lQ.done{R}{os:List jf}(h:lQ w ok R n os)(hn:os.length=n)(h20:n<=20)(hR:ok' R)(hk:∀ k,ok k->ok' k):eX w ok' os (.slice (some ⟨R,0,none⟩) n n):=by
 obtain⟨cs,h1,h2,h3⟩:=h;refine⟨by omega,.inr ⟨R,0,n,by rw[hn],by omega,by omega,fun i o ho=>?_⟩⟩;obtain⟨⟨g1,g2,g3⟩,a7,a8,c7,c8,⟨q0,q1,q2,q3,q4,q5,q6,q7⟩,hi⟩:=h3 i o ho;refine⟨_,_,_,_,_,_,_,_,hR,?_,?_,?_,?_,?_,?_,?_,?_,g1,g2,g3,a7,a8,c7,c8,rfl,hi.weak hk⟩
 ·simp[World.cell?,h1,q0]
 ·simp[World.cell?,h1,q1]
 ·simp[World.cell?,h1,q2]
 ·simp[World.cell?,h1,q3]
 ·simp[World.cell?,h1,q4]
 ·simp[World.cell?,h1,q5]
 ·simp[World.cell?,h1,q6]
 ·simp[World.cell?,h1,q7]
theorem JV:∃ j,prog.info? 173=some j/\j.zero=some (.agg Lh)/\j.size=8/\j.bytes=120:=by
 have h:(prog.info? 173).map (fun i=>(i.zero,i.size,i.bytes))=some (some (.agg Lh),8,120):=by kernel_rfl
 cases e:prog.info? 173 with
 | none=>rw[e]at h;cases h
 | some j=>rw[e]at h;simp at h;exact⟨j,rfl,h.1,h.2.1,h.2.2⟩
theorem zt(w:LC)(ok t v)(h:In w ok t v)(h0:∀ k,ok k->k < w.heap.size)(hG:di w)(hk:t.kind≠4):Calls prog 103 #[v] w fun e w'=>∃ sl,e=.returned (.tuple #[sl,.int .i64 (cU t).2])/\eX w' (bQ ok w.heap.size) (cU t).1 sl/\La w w':=by
 have H:=aa h;have GG:=aa hG;have H0:=aa h0;obtain⟨a1,b1,c1,d1,rfl⟩:=h.form;have K0:Ll (KY (w.alloc (.cells (KV t a1 c1 b1 d1) 39)) w.heap.size t a1 c1 b1 d1/\La w (w.alloc (.cells (KV t a1 c1 b1 d1) 39))):=aa ⟨MN w _,ae _ _⟩;have HA:Ll (cU t=([],1)):=aa (by rw[cU,if_pos (.inl hk)]);have e1:(t.kind == 4)=false:=by simp[hk]
 have e1n:(t.kind != 4)=true:=by simp[hk]
 clear h h0 hG hk;go_enter func103,ntmps103;go_wp2
 refine MM (v:=.tuple #[.slice none 0 0,.int .i64 1]) (by simp[results,results103,go_sem]) rfl ?_;exact⟨.slice none 0 0,by rw[HA.o],by rw[HA.o];exact⟨by simp,.inl ⟨rfl,none,rfl⟩⟩,K0.o.2⟩
theorem Cr(w:LC)(ok t v)(h:In w ok t v)(h0:∀ k,ok k->k < w.heap.size)(hG:di w)(hk:t.kind=4)(hg:aE t=false):Calls prog 103 #[v] w fun e w'=>∃ sl,e=.returned (.tuple #[sl,.int .i64 (cU t).2])/\eX w' (bQ ok w.heap.size) (cU t).1 sl/\La w w':=by
 have H:=aa h;have GG:=aa hG;have H0:=aa h0;obtain⟨a1,b1,c1,d1,rfl⟩:=h.form;have K0:Ll (KY (w.alloc (.cells (KV t a1 c1 b1 d1) 39)) w.heap.size t a1 c1 b1 d1/\La w (w.alloc (.cells (KV t a1 c1 b1 d1) 39))):=aa ⟨MN w _,ae _ _⟩;have HA:Ll (cU t=([],1)):=aa (by rw[cU,if_pos (.inr hg)]);have e1:(t.kind == 4)=true:=by simp[hk]
 have e1n:(t.kind != 4)=false:=by simp[hk]
 clear h h0 hG hk;go_enter func103,ntmps103;go_wp2_with (go_at_call 43;refine Lk (bG _ ok t _ (by exact H.o.bel K0.o.2)) fun w1 hb=>?_;rw[hg];have K1:Ll (KY w1 w.heap.size t a1 c1 b1 d1/\La w w1):=aa ⟨af hb K0.o.1,ab K0.o.2 hb⟩;have t0_:=K1.o.1.c;clear hb)
 refine MM (v:=.tuple #[.slice none 0 0,.int .i64 1]) (by simp[results,results103,go_sem]) rfl ?_;exact⟨.slice none 0 0,by rw[HA.o],by rw[HA.o];exact⟨by simp,.inl ⟨rfl,none,rfl⟩⟩,K1.o.2⟩
theorem yD(w:LC)(ok t v)(h:In w ok t v)(h0:∀ k,ok k->k < w.heap.size)(hG:di w)(hk:t.kind=4)(hg:aE t=true)(hl:20 < t.l.length):Calls prog 103 #[v] w fun e w'=>∃ sl,e=.returned (.tuple #[sl,.int .i64 (cU t).2])/\eX w' (bQ ok w.heap.size) (cU t).1 sl/\La w w':=by
 have H:=aa h;have GG:=aa hG;have H0:=aa h0;obtain⟨a1,b1,c1,d1,rfl⟩:=h.form;have K0:Ll (KY (w.alloc (.cells (KV t a1 c1 b1 d1) 39)) w.heap.size t a1 c1 b1 d1/\La w (w.alloc (.cells (KV t a1 c1 b1 d1) 39))):=aa ⟨MN w _,ae _ _⟩;have HA:Ll (cU t=([],2)):=aa (by rw[cU,if_neg (by simp[hk,hg]),if_pos hl]);have e1:(t.kind == 4)=true:=by simp[hk]
 have e1n:(t.kind != 4)=false:=by simp[hk]
 have e2:20 < (t.l.length:Int):=by omega
 clear h h0 hG hk hl;go_enter func103,ntmps103;go_wp2_with (go_at_call 43;refine Lk (bG _ ok t _ (by exact H.o.bel K0.o.2)) fun w1 hb=>?_;rw[hg];have K1:Ll (KY w1 w.heap.size t a1 c1 b1 d1/\La w w1):=aa ⟨af hb K0.o.1,ab K0.o.2 hb⟩;have t0_:=K1.o.1.c;clear hb)
 refine MM (v:=.tuple #[.slice none 0 0,.int .i64 2]) (by simp[results,results103,go_sem]) rfl ?_;exact⟨.slice none 0 0,by rw[HA.o],by rw[HA.o];exact⟨by simp,.inl ⟨rfl,none,rfl⟩⟩,K1.o.2⟩
theorem yI(w:LC)(ok t v)(h:In w ok t v)(h0:∀ k,ok k->k < w.heap.size)(hG:di w)(hk:t.kind=4)(hg:aE t=true)(hl:t.l.length<=20):Calls prog 103 #[v] w fun e w'=>∃ sl,e=.returned (.tuple #[sl,.int .i64 (cU t).2])/\eX w' (bQ ok w.heap.size) (cU t).1 sl/\La w w':=by
 have H:=aa h;have GG:=aa hG;have H0:=aa h0;obtain⟨a1,b1,c1,d1,rfl⟩:=h.form;have K0:Ll (KY (w.alloc (.cells (KV t a1 c1 b1 d1) 39)) w.heap.size t a1 c1 b1 d1/\La w (w.alloc (.cells (KV t a1 c1 b1 d1) 39))):=aa ⟨MN w _,ae _ _⟩;have e1:(t.kind == 4)=true:=by simp[hk]
 have e1n:(t.kind != 4)=false:=by simp[hk]
 have e2:¬20 < (t.l.length:Int):=by omega
 have e3:¬(t.l.length:Int) < 0:=by omega
 have NT:=aa (dQ hg);have FB:Ll (kV oF t.l=none->cU t=([],1)):=aa (fun hx=>by rw[cU,if_neg (by simp[hk,hg]),if_neg (by omega),hx]);have FO:Ll (∀ os,kV oF t.l=some os->cU t=(os,0)):=aa (fun os hx=>by rw[cU,if_neg (by simp[hk,hg]),if_neg (by omega),hx]);have HL:=aa hl;obtain⟨i0,hi,hz0,hz1,hz2⟩:=JV;have hmk:Ll (∀ W:LC,(Instr.makeSlice 147 (.int .i64 (t.l.length:Int)) (.int .i64 (t.l.length:Int))).run prog W=.ok (.slice (some ⟨W.heap.size,0,none⟩) t.l.length t.l.length) (W.alloc (.cells (madeCells Lh (t.l.length * 8)) 173))):=aa (fun W=>by
  have k:=run_make (P:=prog) W 147 173 i0 _ underlying147 hi hz0 .i64 .i64 (t.l.length:Int) (t.l.length:Int) (by omega) (Int.le_refl _) (by rw[hz2];omega) (by omega);rw[hz1]at k;simpa [Value.cells] using k)
 clear h h0 hG hk hi hz0 hz1 hz2;go_enter func103,ntmps103;go_upto_region 5 with (go_at_call 43;refine Lk (bG _ ok t _ (by exact H.o.bel K0.o.2)) fun w1 hb=>?_;rw[hg];have K1:Ll (KY w1 w.heap.size t a1 c1 b1 d1/\La w w1):=aa ⟨af hb K0.o.1,ab K0.o.2 hb⟩;have t0_:=K1.o.1.c;clear hb)
 have mk:=hmk.o w1;have K2:Ll (KY (w1.alloc (.cells (madeCells Lh (t.l.length * 8)) 173)) w.heap.size t a1 c1 b1 d1/\lQ (w1.alloc (.cells (madeCells Lh (t.l.length * 8)) 173)) ok w1.heap.size t.l.length []/\La w (w1.alloc (.cells (madeCells Lh (t.l.length * 8)) 173))/\w.heap.size < w1.heap.size):=aa ⟨af (ae _ _) K1.o.1,⟨_,MN w1 _,by simp[madeCells],fun i o ho=>by simp at ho⟩,ab K1.o.2 (ae _ _),K1.o.1.lt⟩;have t0_:=K1.o.1.c;have s0_:=K2.o.1.c;go_wp2
 clear mk hmk;go_loopg [5,6,7,8,28] t.l.length (fun gk _ _ _ _ i wr=>∃ (k:Nat) (os:List jf),k<=t.l.length/\Ll (gk=t.l.length - k)/\i=.int .i64 k/\Ll (kV oF (t.l.take k)=some os/\os.length=k)/\Ll (KY wr w.heap.size t a1 c1 b1 d1/\lQ wr ok w1.heap.size t.l.length os/\La w wr/\w.heap.size < w1.heap.size))
 case atStart=>exact⟨0,[],Nat.zero_le _,aa rfl,rfl,aa ⟨rfl,rfl⟩,K2⟩
 case round=>
  obtain⟨k,os,hk,GK,rfl,AX,K3⟩:=hrel;by_cases hlt:k < t.l.length
  ·obtain⟨b,off,a5,c5,a6,c6,rfl,j1,j2,g0,g1,g2,g3,g4,g5⟩:=(H.o.bel K3.o.2.2.1).item hlt;have w1':(k:Int) < (t.l.length:Int):=by omega
   have w2':(0:Int)<=(k:Int):=by omega
   have HI:=aa (g5.bel (ae wr (.cells #[.int .i64 t.l[k].kind,.int .i64 t.l[k].n,.string ⟨t.l[k].s.toArray⟩,.slice a5 t.l[k].keys.length c5,.slice a6 t.l[k].l.length c6] 39)));have B4:=aa (ae wr (.cells #[.int .i64 t.l[k].kind,.int .i64 t.l[k].n,.string ⟨t.l[k].s.toArray⟩,.slice a5 t.l[k].keys.length c5,.slice a6 t.l[k].l.length c6] 39));have ST:=aa (fun x hx=>Ch (f:=oF) hlt AX.o.1 (x:=x) hx);have SN:=aa (fun hx=>FB.o (Bi (f:=oF) (l:=t.l) hlt hx));have NK:=aa (fun o ho=>IM (o:=o) (gC NT.o (List.getElem_mem hlt)) ho);clear g5;cases hr:oF t.l[k] with
   | none=>
    have HA:=aa (SN.o hr);go_wp2_with (go_at_call 136;refine(lZ _ ok t.l[k] _ (by exact HI.o) (by exact GG.o.bel (ab K3.o.2.2.1 B4.o))).mono ?_;rintro e w5 ⟨o,a7,a8,c7,c8,rfl,hov,hoz,hb⟩;rw[hr];have K5:Ll (True/\La w (w5.alloc (.cells (Lg o a7 c7 a8 c8) 173))):=aa ⟨trivial,ab K3.o.2.2.1 (ab B4.o (ab hb (ae _ _)))⟩;clear hb hov hoz)
    refine MM (v:=.tuple #[.slice none 0 0,.int .i64 1]) (by simp[results,results103,go_sem]) rfl ?_;exact⟨.slice none 0 0,by rw[HA.o],by rw[HA.o];exact⟨by simp,.inl ⟨rfl,none,rfl⟩⟩,K5.o.2⟩
   | some z=>
    go_upto_region 12 with (go_at_call 136;refine(lZ _ ok t.l[k] _ (by exact HI.o) (by exact GG.o.bel (ab K3.o.2.2.1 B4.o))).mono ?_;rintro e w5 ⟨o,a7,a8,c7,c8,rfl,hov,hoz,hb⟩;rw[hr];obtain rfl:=hoz _ hr;have HV:=aa (hov.bel (ae w5 (.cells (Lg o a7 c7 a8 c8) 173)));have LW:=ab B4.o (ab hb (ae w5 (.cells (Lg o a7 c7 a8 c8) 173)));have K5:Ll (ag (w5.alloc (.cells (Lg o a7 c7 a8 c8) 173)) w.heap.size (.int .i64 t.kind) (.int .i64 t.n) (.string ⟨t.s.toArray⟩) (.slice a1 t.keys.length c1) (.slice (some ⟨b,off,none⟩) t.l.length d1)/\lQ (w5.alloc (.cells (Lg o a7 c7 a8 c8) 173)) ok w1.heap.size t.l.length os/\La w (w5.alloc (.cells (Lg o a7 c7 a8 c8) 173))/\w.heap.size < w1.heap.size):=aa ⟨af LW K3.o.1,K3.o.2.1.bel LW,ab K3.o.2.2.1 LW,K3.o.2.2.2⟩;have BO:Ll (iE (w5.alloc (.cells (Lg o a7 c7 a8 c8) 173)) w5.heap.size (.int .i64 o.kind) (.string ⟨o.path.toArray⟩) (.string ⟨o.frm.toArray⟩) (.int .i64 o.value.kind) (.int .i64 o.value.n) (.string ⟨o.value.s.toArray⟩) (.slice a7 o.value.keys.length c7) (.slice a8 o.value.l.length c8)):=aa (MN w5 _);clear hb hov hoz LW)
    obtain⟨W5,hW5⟩:∃ W,w5.alloc (.cells (Lg o a7 c7 a8 c8) 173)=W:=⟨_,rfl⟩
    rw[hW5]at HV K5 BO ⊢;clear hW5;obtain⟨⟨n0,n1,n2,n3,n4,n5,n6,n7⟩,-⟩:=BO.o.c;obtain⟨⟨u0,r0⟩,⟨u1,r1⟩,⟨u2,r2⟩,⟨u3,r3⟩,⟨u4,r4⟩,⟨u5,r5⟩,⟨u6,r6⟩,⟨u7,r7⟩,rf⟩:=K5.o.2.1.at hlt;have f0:=rf (k * 8);have f1:=rf (k * 8+1);have f2:=rf (k * 8+2);have f3:=rf (k * 8+3);have f4:=rf (k * 8+4);have f5:=rf (k * 8+5);have f6:=rf (k * 8+6);have f7:=rf (k * 8+7);have gs:=uW W5 w1.heap.size (k * 8) (.int .i64 o.kind) (.string ⟨o.path.toArray⟩) (.string ⟨o.frm.toArray⟩) (.int .i64 o.value.kind) (.int .i64 o.value.n) (.string ⟨o.value.s.toArray⟩) (.slice a7 o.value.keys.length c7) (.slice a8 o.value.l.length c8);have FIN:Ll (ag (wO W5 w1.heap.size (k * 8) (.int .i64 o.kind) (.string ⟨o.path.toArray⟩) (.string ⟨o.frm.toArray⟩) (.int .i64 o.value.kind) (.int .i64 o.value.n) (.string ⟨o.value.s.toArray⟩) (.slice a7 o.value.keys.length c7) (.slice a8 o.value.l.length c8)) w.heap.size (.int .i64 t.kind) (.int .i64 t.n) (.string ⟨t.s.toArray⟩) (.slice a1 t.keys.length c1) (.slice (some ⟨b,off,none⟩) t.l.length d1)/\lQ (wO W5 w1.heap.size (k * 8) (.int .i64 o.kind) (.string ⟨o.path.toArray⟩) (.string ⟨o.frm.toArray⟩) (.int .i64 o.value.kind) (.int .i64 o.value.n) (.string ⟨o.value.s.toArray⟩) (.slice a7 o.value.keys.length c7) (.slice a8 o.value.l.length c8)) ok w1.heap.size t.l.length (os++[o])/\La w (wO W5 w1.heap.size (k * 8) (.int .i64 o.kind) (.string ⟨o.path.toArray⟩) (.string ⟨o.frm.toArray⟩) (.int .i64 o.value.kind) (.int .i64 o.value.n) (.string ⟨o.value.s.toArray⟩) (.slice a7 o.value.keys.length c7) (.slice a8 o.value.l.length c8))/\w.heap.size < w1.heap.size):=aa ⟨K5.o.1.grown gs (by have:=K5.o.2.2.2;simp;omega),(by
     have q:=K5.o.2.1.push (by have:=AX.o.2;omega) o (NK.o o hr) HV.o (fun k hk=>by have:=H0.o k hk;have:=K5.o.2.2.2;omega);rw[AX.o.2]at q;exact q),bS (lC (aq K5.o.2.2.1) gs (by have:=K5.o.2.2.2;omega)),K5.o.2.2.2⟩
    clear gs rf;go_wp2
    go_roundg (t.l.length - (k+1))
    case measure=>rw[GK.o];omega
    case rel=>exact⟨k+1,os++[o],hlt,aa rfl,by go_num,aa ⟨ST.o o hr,by simp[AX.o.2]⟩,aa (by exact FIN.o)⟩
  ·have d1':¬(k:Int) < (t.l.length:Int):=by omega
   have Mc:k=t.l.length:=by omega
   have HA:=aa (FO.o os (Ez AX.o.1 hlt));have HE:Ll (os.length=t.l.length):=aa (by rw[AX.o.2,Mc]);clear Mc;go_wp2
   refine MM (v:=.tuple #[.slice (some ⟨w1.heap.size,0,none⟩) t.l.length t.l.length,.int .i64 0]) (by simp[results,results103,go_sem]) rfl ?_;exact⟨.slice (some ⟨w1.heap.size,0,none⟩) t.l.length t.l.length,by rw[HA.o],by rw[HA.o];exact K3.o.2.1.done HE.o HL.o (.inr (by have:=K3.o.2.2.2;omega)) (fun k hk=>.inl hk),K3.o.2.2.1⟩
theorem Gu(w:LC)(ok t v)(h:In w ok t v)(hG:di w):Calls prog 103 #[v] w fun e w'=>∃ sl,e=.returned (.tuple #[sl,.int .i64 (cU t).2])/\eX w' (bQ ok w.heap.size) (cU t).1 sl/\La w w':=by
 have key:Calls prog 103 #[v] w fun e w'=>∃ sl,e=.returned (.tuple #[sl,.int .i64 (cU t).2])/\eX w' (bQ (Lj ok w) w.heap.size) (cU t).1 sl/\La w w':=by
  replace h:=h.low;have h0:∀ k,(Lj ok w) k->k < w.heap.size:=fun k hk=>hk.2;by_cases hk:t.kind=4
  ·cases hg:aE t with
   | false=>exact Cr w _ t v h h0 hG hk hg
   | true=>
    by_cases hl:t.l.length<=20
    ·exact yI w _ t v h h0 hG hk hg hl
    ·exact yD w _ t v h h0 hG hk hg (by omega)
  ·exact zt w _ t v h h0 hG hk
 refine key.mono ?_;rintro e w' ⟨sl,e1,e2,e3⟩;refine⟨sl,e1,?_,e3⟩;refine⟨e2.1,?_⟩;rcases e2.2 with h | ⟨b,off,c,e,h1,h2,h3⟩
 ·exact .inl h
 ·refine .inr ⟨b,off,c,e,h1,h2,fun i o ho=>?_⟩;obtain⟨v0,v1,v2,v3,v4,v5,v6,v7,hk,g0,g1,g2,g3,g4,g5,g6,g7,g8⟩:=h3 i o ho;have imp:∀ k,bQ (Lj ok w) w.heap.size k->bQ ok w.heap.size k:=fun k hk=>hk.imp And.left id;exact⟨v0,v1,v2,v3,v4,v5,v6,v7,imp _ hk,g0,g1,g2,g3,g4,g5,g6,g7,g8.weak imp⟩
variable {v:Value}
variable {y:V}
variable {c:Nat}
theorem gN(a b):cnts (a++b)=cnts a+cnts b:=by simp[cnts]
theorem ii(l i):cnts l=cnts (l.take i)+cnts (l.drop i):=by rw[<-gN,List.take_append_drop]
theorem su{k}:fa (aG t k y)+(match aS t k with | some z=>fa z | none=>0)<=fa t+fa y:=by
 rw[df,df t];unfold aG;split
 ·rename_i hp;unfold aS;split
  ·rename_i i hf;rw[show dO t k=some i by simp[dO,hp,hf],Option.bind_some];simp only;rw[gN,er];cases hz:t.l[i]? with
   | none=>
    have h1:=ii t.l i;have h2:t.l.drop (i+1)=[]:=List.drop_eq_nil_of_le (by have:=List.getElem?_eq_none_iff.1 hz;omega);simp only[h2,qf];omega
   | some z=>
    obtain⟨hi,rfl⟩:=Mz.1 hz;have h1:=ii t.l i;rw[iV hi]at h1;simp only;omega
  ·rename_i hf;rw[show dO t k=none by simp[dO,hp,hf]];simp only[Option.bind_none];rw[gN,er];have h1:=ii t.l (qW k t.keys);omega
 ·rename_i hp;have:aS t k=none:=by simp[aS,dO,hp]
  rw[this];have:=df y;simp only;omega
theorem lN(t k):fa (bH t k)<=fa t:=by
 rw[df,df t];unfold bH;split
 ·rename_i i hf;simp only;rw[gN];have h1:=ii t.l i;have h2:=ii (t.l.drop i) 1;rw[List.drop_drop]at h2;omega
 ·omega
theorem rO(t):fa (cD t)<=fa t:=by
 unfold cD;split
 ·exact MG _
 ·have:=df t;have h2:fa jM=1:=by rw[df];simp[jM,cnts]
  omega
theorem uY:∀ (ns:List Lz) (v x:V),fa (cK ns v x)<=fa v+ns.length+fa x
 | [],v,x=>by unfold cK;split <;> simp <;> omega
 | n :: ns,v,x=>by
  unfold cK;have h1:=su (t:=cD v) (k:=n) (y:=cK ns ((aS v n).getD aM) x);have h2:=uY ns ((aS v n).getD aM) x;have h3:=rO v;rw[kC]at h1;have hz:fa aM=1:=by rw[df];simp[aM,cnts]
  cases hm:aS v n with
  | none=>rw[hm]at h1 h2;simp only[Option.getD_none]at h1 h2 ⊢;rw[hz]at h2;simp only[My];omega
  | some z=>rw[hm]at h1 h2;simp only[Option.getD_some]at h1 h2 ⊢;simp only[My];omega
theorem He{v z n}(h:aS v n=some z):fa z < fa v:=by
 have h1:=pC (lG h);have h2:=df v;omega
theorem Ab(v n):fa ((aS v n).getD aM)<=fa v:=by
 cases h:aS v n with
 | none=>
  have hz:fa aM=1:=by rw[df];simp[aM,cnts]
  have:=df v;rw[Option.getD_none];omega
 | some z=>have:=He h;rw[Option.getD_some];omega
theorem zP:∀ (ns:List Lz) (v:V),(∃ y,dr ns v=some y)->fa (gI ns v)<=fa v
 | [],v,_=>MG _
 | [n],v,_=>lN v n
 | n :: m :: ns,v,⟨y,hy⟩=>by
  obtain⟨-,z,hm,hz⟩:=gB hy;unfold gI;rw[hm,Option.getD_some];have h2:=zP (m :: ns) z ⟨y,hz⟩;split
  ·exact lN v n
  ·have h1:=su (t:=v) (k:=n) (y:=gI (m :: ns) z);rw[hm]at h1;simp only at h1;omega
theorem zT(t):t.l.length < fa t:=by
 have h1:=uF t.l;have h2:=df t;omega
theorem cY{w1:LC}{C v0 v1 v2 v3 v4}(h:In w1 (bg ok w.heap.size C) t (.agg #[v0,v1,v2,v3,v4]))(hb:La w w1)(hg:w.heap.size<=g)(hC:g < C):La w (ar w1 g v0 v1 v2 v3 v4)/\In (ar w1 g v0 v1 v2 v3 v4) (bQ ok w.heap.size) t (.agg #[v0,v1,v2,v3,v4]):=
 ⟨aP hb hg _ _ _ _ _,(h.box hg hC _ _ _ _ _).weak (ik (by omega))⟩
theorem lw{s ns b off}(h:ao w ok (s :: ns) (.slice (some ⟨b,off,none⟩) n c)):ao w ok ns (.slice (some ⟨b,off+1,none⟩) ns.length (c - 1)):=by
 have hl:=h.1;simp only[My]at hl;refine⟨by omega,.inr ⟨b,off+1,c - 1,rfl,?_⟩⟩;rcases h.2 with⟨e,_⟩ | ⟨b',off',c',e,h1,h2,Mb⟩
 ·cases e
 ·simp only[Value.slice.injEq,Option.some.injEq,Addr.mk.injEq,My,and_true]at e h1;obtain⟨⟨rfl,rfl⟩,-,rfl⟩:=e;refine⟨by omega,by omega,fun i x hx=>?_⟩;obtain⟨g1,g2,g3⟩:=Mb (i+1) x (by simpa using hx);exact⟨g1,g2,by rw[show off+1+i=off+(i+1) by omega];exact g3⟩
theorem qm{s ns}(h:ao w ok (s :: ns) v):∃ b off c,v=.slice (some ⟨b,off,none⟩) (s :: ns).length c/\(s :: ns).length<=c/\c<=9223372036854775807/\w.cell? ⟨b,off,none⟩=some (.string ⟨s.toArray⟩)/\s.length<=9223372036854775807:=by
 rcases h.2 with⟨e,_⟩ | ⟨b,off,c,e,h1,h2,Mb⟩
 ·cases e
 ·obtain⟨g1,g2,g3⟩:=Mb 0 s rfl;exact⟨b,off,c,e,h1,h2,g3,g1⟩
variable {W:World}
variable {B:Nat}
section
theorem yl{a:LC}(_:La a W):Lc (W.alloc (.cells Lb 39)) W.heap.size:=MN _ _
theorem tc{a:LC}{was a3 b3 c3 d3}(h:La a W)(hi:In W ok was (.agg (KV was a3 c3 b3 d3))):KY (W.alloc (.cells (KV was a3 c3 b3 d3) 39)) W.heap.size was a3 c3 b3 d3/\a.heap.size<=W.heap.size/\La a (W.alloc (.cells (KV was a3 c3 b3 d3) 39))/\In (W.alloc (.cells (KV was a3 c3 b3 d3) 39)) ok was (.agg (KV was a3 c3 b3 d3)):=
 ⟨MN _ _,h.size,ab h (ae _ _),hi.bel (ae _ _)⟩
theorem sX{a:LC}{was a3 b3 c3 d3 e0 e1 e2 e3 e4}(h:La a W)(hg:a.heap.size<=g)(hb:ag W g e0 e1 e2 e3 e4)(hi:In W ok was (.agg (KV was a3 c3 b3 d3)))(hk:∀ k,ok k->k < g):KY (LG W g was a3 c3 b3 d3) g was a3 c3 b3 d3/\a.heap.size<=g/\La a (LG W g was a3 c3 b3 d3)/\In (LG W g was a3 c3 b3 d3) ok was (.agg (KV was a3 c3 b3 d3)):=
 ⟨hb.set _ _ _ _ _,hg,aP h hg _ _ _ _ _,hi.grown (aI W g _ _ _ _ _) (fun k h9=>by have:=hk k h9;omega)⟩
theorem jr{C D}(h:In W (bQ (fun k=>ok k/\k < B) C) y v)(hC:D<=C):In W (bg ok B D) y v:=h.weak fun k hk=>hk.imp id fun h9=>MH hC h9
theorem uK{D}(h:In W (fun k=>ok k/\k < B) y v):In W (bg ok B D) y v:=h.weak fun k hk=>.inl hk
theorem tT{C:Nat}(h:In W (fun k=>ok k/\k < B) y v):In W (bQ (fun k=>ok k/\k < B) C) y v:=h.weak fun k hk=>.inl hk
attribute [local go_sem ↓] Go.wp_at_zero Go.wp_at_succ
theorem DX:∀ (ns:List Lz) (w:LC) (ok okn:Nat->Prop) (t x:V) (v xv nv:Value),In w ok t v->In w ok x xv->ao w okn ns nv->ns≠[]->fL t->fa t<=90000 ->
 Calls prog 129 #[v,nv,xv] w fun e w'=>∃ r,e=.returned r/\In w' (bQ ok w.heap.size) (cK ns t x) r/\La w w':=by
 intro ns;induction ns with
 | nil=>intro w ok okn t x v xv nv _ _ _ h;exact absurd rfl h
 | cons n ns ih=>
 intro w ok okn t x v xv nv h hx hnv _ hob hcn;have IH:=aa ih;obtain⟨nb,no,nc,rfl,hcl,hnl,hnc,hnn⟩:=qm hnv;have hn1:=hnv.1;unfold maxLen at hn1;have NV:=aa hnv;have NL:=aa hnn;have NC0:=aa hnc;have HT:=aa h.low;have HX:=aa hx.low;have OBT:=aa hob;have CT:=aa hcn;obtain⟨a1,b1,c1,d1,rfl⟩:=h.form;obtain⟨a2,b2,c2,d2,rfl⟩:=hx.form;clear h hx hnv hnc ih hob hcn hnn;have RLA:Ll (∀ o,o=cD t->((((aS o n).getD aM).kind=5/\x.kind=5)->cK [n] t x=o)/\(¬(((aS o n).getD aM).kind=5/\x.kind=5)->cK [n] t x=aG o n x)/\(∀ m ns,cK (n :: m :: ns) t x=aG o n (cK (m :: ns) ((aS o n).getD aM) x))/\aK o=true/\o.l.length<=100000/\fL ((aS o n).getD aM)/\fa ((aS o n).getD aM)<=90000):=aa (fun o ho=>by
  subst ho;have hO:=OBT.o.obOf;rw[kC];refine⟨fun hb=>?_,fun hb=>?_,fun m ns=>rfl,hO.paired,?_,lV OBT.o n,MH (Ab t n) CT.o⟩
  ·show aG (cD t) n (cK [] ((aS t n).getD aM) x)=cD t;rw[cK,if_pos hb];cases hm:aS t n with
   | none=>rw[hm]at hb;simp[aM]at hb
   | some z=>exact Dk hO (by rw[kC];exact hm)
  ·show aG (cD t) n (cK [] ((aS t n).getD aM) x)=aG (cD t) n x;rw[cK,if_neg hb]
  ·have h1:=zT (cD t);have h2:=rO t;have:=CT.o;omega)
 by_cases hk:t.kind=5
 ·have e0:(t.kind != 5)=false:=by simp[hk]
  have e00:(t.kind == 5)=true:=by simp[hk]
  obtain⟨o,ho⟩:∃ o,o=cD t:=⟨_,rfl⟩
  have hot:o=t:=by rw[ho];simp[cD,hk]
  obtain⟨R1,R2,R3,R4,R5,R6,R7⟩:=RLA.o o ho;subst hot;obtain⟨was,hwas⟩:∃ x,(aS o n).getD aM=x:=⟨_,rfl⟩
  obtain⟨th,hth⟩:∃ x,(aS o n).isSome=x:=⟨_,rfl⟩
  rw[hwas]at R1 R2 R3 R6 R7;have HWAS:=aa hwas;have HTH:=aa hth;have RL:=aa R1;have RN:=aa R2;have RMA:=aa R3;have PO:=aa R4;have LO:=aa R5;have OW:=aa R6;have CW:=aa R7;clear R1 R2 R3 R4 R5 R6 R7 hwas hth;obtain⟨WV,hWV⟩:∃ W,W=((w.alloc (.cells (KV o a1 c1 b1 d1) 39)).alloc (.cells (KV x a2 c2 b2 d2) 39)).alloc (.cells Lb 39):=⟨_,rfl⟩
  have BA:Ll (La w WV):=aa (by rw[hWV];exact ab (ab (ae _ _) (ae _ _)) (ae _ _));have VB:Ll (KY WV w.heap.size o a1 c1 b1 d1):=aa (by rw[hWV];exact lI _ _ _ _);have XB:Ll (KY WV (w.heap.size+1) x a2 c2 b2 d2):=aa (by rw[hWV];exact mE _ _ _ _);have RB0:Ll (Lc WV (w.heap.size+2)):=aa (by rw[hWV];exact jI _ _ _ _);have SA:Ll (w.heap.size+3<=WV.heap.size):=aa (by rw[hWV];simp);have OI:=aa (HT.o.bel BA.o);have XI:=aa (HX.o.bel BA.o);have NC:=aa (ah BA.o NC0.o);have NT:Ll (ao WV okn ns (.slice (some ⟨nb,no+1,none⟩) ns.length (nc - 1))):=aa ((lw NV.o).bel BA.o);have HWV:=aa hWV;clear hWV hk ho;go_enter func129,ntmps129;go_upto_region 3 with fail
  rw[<-HWV.o];go_cut [7,8] (fun pv bv wc=>∃ (g7:Nat) (a3 b3:Option Addr) (c3 d3:Nat),pv=.pointer (some ⟨g7,0,none⟩)/\bv=.bool th/\(KY wc g7 was a3 c3 b3 d3/\WV.heap.size<=g7/\La WV wc/\In wc (Lj ok w) was (.agg (KV was a3 c3 b3 d3))))
  case first=>
   refine aD (fun wS=>La WV wS) [9] (by kernel_rfl) (aC _ 1) (fun LI=>?_);refine WT.out ?_;iterate 4
    first
     | refine OJ 0 ?_ [4,5,6,7,9,10] LI ?_ ?_
     | refine OJ 1 ?_ [2,3,4,5,6,7,9,10] LI ?_ ?_
     | refine OJ 2 ?_ [3,4,5,6,7,9,10] LI ?_ ?_
     | refine OJ 3 ?_ [4,5,6,7,9,10] LI ?_ ?_
    rotate_left
    ·intro wS LN;have u0_:=(af LN VB.o).c;have nm:=ah LN NC.o;go_simp;all_goals with_reducible rfl
    simp only[av,List.set]
   repeat' (first
    | exact nl
    |(refine ON 4 (fun K hK=>?_) ?_
      go_simp;refine(ig _ (Lj ok w) o _ n (by exact OI.o.bel LI)).mono ?_;rintro e w4q ⟨rv,rfl,hb5,hr5⟩;rw[HWAS.o]at hr5;rw[HTH.o];obtain⟨a3,b3,c3,d3,rfl⟩:=hr5.form;refine hK.out _ _ (ab LI hb5) (fun LJ=>?_);have WI:=aa hr5;try replace NB:=aa (af hb5 NB.o)
      have Ma:Ll True:=aa trivial;clear hb5 hr5;clear hK K;replace LI:=LJ;clear LJ;try simp only[Act.put,Mt,Mu,Mv])
    |(refine ON 8 (fun K hK=>?_) ?_
      go_simp;refine hK.out _ _ (ab LI (ae _ _)) (fun LJ=>?_);have NB:=aa (yl LI);first | (have c9:=Ma.o;clear c9;have FINA:=aa (tc LI WI.o)) | skip
      clear hK K;replace LI:=LJ;clear LJ;try simp only[Act.put,Mt,Mu,Mv])
    |(refine OO 9 (fun K hK=>?_)
      try rw[show (World.drew WV).heap.size=WV.heap.size from rfl]at NB
      have n0_:=NB.o.c;first | (have c9:=FINA.o;clear c9) | (have FINB:=aa (sX (g:=WV.heap.size) LI (MG _) NB.o WI.o (fun k hk=>by have h9:=hk.2;have:=SA.o;omega)))
      go_simp;refine hK.out _ _ ?_;clear hK K;try simp only[Act.put,Mt,Mu,Mv])
    |(refine OO 10 (fun K hK=>?_)
      go_simp;refine hK.out _ _ ?_;clear hK K;try simp only[Act.put,Mt,Mu,Mv])
    |(first
       | refine OJ 5 ?_ [6,7,9,10] (by exact LI) ?_ ?_
       | refine OJ 6 ?_ [9,10] (by exact LI) ?_ ?_
      rotate_left
      ·intro wS LN;go_simp;all_goals with_reducible rfl
      simp only[av,List.set])
    |(refine Pm 7 ?_ (by exact LI) ?_ ?_
      rotate_left
      ·intro wS;go_simp;all_goals with_reducible rfl
      simp only[av,List.set])
    | refine OL [4,8] ?_
    | refine OL [8] ?_
    | refine OL [4] ?_
    | fail)
   all_goals
    refine dn (by kernel_rfl) ?_;go_wp2
    go_meet
    case rel=>first | exact⟨_,_,_,_,_,rfl,rfl,FINA.o⟩ | exact⟨_,_,_,_,_,rfl,rfl,FINB.o⟩
  case rest=>
   obtain⟨g7,a3,b3,c3,d3,rfl,rfl,hcW,hcG,hcB,hcI⟩:=hcut;have WB:=aa hcW;have BWC:=aa hcB;have WCI:=aa hcI;have SC:Ll (w.heap.size+3<=wc.heap.size):=aa (MH SA.o hcB.size);have BC:=aa (ab BA.o hcB);replace VB:=aa (af hcB VB.o);replace XB:=aa (af hcB XB.o);have RB:=aa (af hcB RB0.o);replace NC:=aa (ah hcB NC.o);clear hcW hcG hcB hcI;cases ns with
   | nil=>
    have w0_:=WB.o.c;have x0_:=XB.o.c;have v0_:=VB.o.c;by_cases hb:was.kind=5/\x.kind=5
    ·have e1:(was.kind == 5)=true:=by simp[hb.1]
     have e2:(x.kind == 5)=true:=by simp[hb.2]
     have RES:Ll (cK [n] o x=o):=aa (RL.o hb);have n0_:=RB.o.c;have ZB:=aa (LH RB.o.set o a1 c1 b1 d1);have Z:=aa (cY (w:=w) (ok:=ok) (C:=wc.heap.size) (g:=(w.heap.size+2)) (uK (OI.o.bel BWC.o)) BC.o (by omega) (by have:=SC.o;omega));clear hb;go_wp2
     have z0_:=ZB.o.c;refine MM (v:=.agg (KV o a1 c1 b1 d1)) ?_ rfl ?_
     ·simp only[ar]at z0_;simp[results,results129,go_sem,z0_]
     ·exact⟨_,rfl,by rw[RES.o];exact Z.o.2,Z.o.1⟩
    ·obtain⟨y,hy⟩:∃ y,aG o n x=y:=⟨_,rfl⟩
     have HY:=aa hy;have RES:Ll (cK [n] o x=y):=aa (by rw[<-hy];exact RN.o hb);clear hy;have e9:(was.kind == 5&&x.kind == 5)=false:=by rw[Bool.and_eq_false_iff,MO,MO];by_cases h9:was.kind=5;exact .inr (fun h8=>hb ⟨h9,h8⟩);exact .inl h9
     by_cases hwk:was.kind=5
     ·have e1:(was.kind == 5)=true:=by simp[hwk]
      have e2:(x.kind == 5)=false:=by rw[MO];exact fun h8=>hb ⟨hwk,h8⟩
      clear hb hwk e9;go_upto_region 8 with fail
      refine aD (fun wS=>La wc wS) [6] (by kernel_rfl) (aC _ 1) (fun LI=>?_);refine WT.out ?_;iterate 5
       first
        | refine OJ 0 ?_ [5,6] LI ?_ ?_
        | refine OJ 1 ?_ [2,3,5,6] LI ?_ ?_
        | refine OJ 2 ?_ [3,5,6] LI ?_ ?_
        | refine OJ 3 ?_ [5,6] LI ?_ ?_
        | refine OJ 4 ?_ [5,6] LI ?_ ?_
       rotate_left
       ·intro wS LN;have u0_:=(af LN VB.o).c;obtain⟨e0,e1,e2,e3,e4,-⟩:=(af LN XB.o).c;have nm:=ah LN NC.o;have f0_:=(af LN WB.o).c;go_simp;all_goals with_reducible rfl
       simp only[av,List.set]
      repeat' (first
       | exact nl
       |(refine ON 5 (fun K hK=>?_) ?_
         go_simp;refine(gf _ (Lj ok w) o x _ _ n (by exact(OI.o.bel BWC.o).bel LI) (by exact(XI.o.bel BWC.o).bel LI) PO.o LO.o NL.o).mono ?_;rintro e w5q ⟨rv,rfl,hr5,hb5⟩;rw[HY.o]at hr5;obtain⟨a4,b4,c4,d4,rfl⟩:=hr5.form;refine hK.out _ _ (ab LI hb5) (fun LJ=>?_);have YI:=aa (jr (D:=wc.heap.size) hr5 LI.size);clear hb5 hr5;clear hK K;replace LI:=LJ;clear LJ;try simp only[Act.put,Mt,Mu,Mv])
       |(refine OO 6 (fun K hK=>?_)
         have HB:=aa (af LI RB.o);have n0_:=HB.o.c;have ZB:=aa (LH HB.o.set y a4 c4 b4 d4);have Z:=aa (cY (w:=w) (ok:=ok) (C:=wc.heap.size) (g:=(w.heap.size+2)) YI.o (ab BC.o LI) (by omega) (by have:=SC.o;omega));go_simp;refine hK.out _ _ ?_;clear hK K;try simp only[Act.put,Mt,Mu,Mv])
       | refine OL [5] ?_
       | fail)
      all_goals
       refine dn (by kernel_rfl) ?_;go_wp2
       have z0_:=ZB.o.c;refine MM (v:=.agg (KV y a4 c4 b4 d4)) ?_ rfl ?_
       ·simp only[ar]at z0_;simp[results,results129,go_sem,z0_]
       ·exact⟨_,rfl,by rw[RES.o];exact Z.o.2,Z.o.1⟩
     ·have e1:(was.kind == 5)=false:=by rw[MO];exact hwk
      clear hb hwk e9;go_upto_region 8 with fail
      refine aD (fun wS=>La wc wS) [6] (by kernel_rfl) (aC _ 1) (fun LI=>?_);refine WT.out ?_;iterate 5
       first
        | refine OJ 0 ?_ [5,6] LI ?_ ?_
        | refine OJ 1 ?_ [2,3,5,6] LI ?_ ?_
        | refine OJ 2 ?_ [3,5,6] LI ?_ ?_
        | refine OJ 3 ?_ [5,6] LI ?_ ?_
        | refine OJ 4 ?_ [5,6] LI ?_ ?_
       rotate_left
       ·intro wS LN;have u0_:=(af LN VB.o).c;obtain⟨e0,e1,e2,e3,e4,-⟩:=(af LN XB.o).c;have nm:=ah LN NC.o;have f0_:=(af LN WB.o).c;go_simp;all_goals with_reducible rfl
       simp only[av,List.set]
      repeat' (first
       | exact nl
       |(refine ON 5 (fun K hK=>?_) ?_
         go_simp;refine(gf _ (Lj ok w) o x _ _ n (by exact(OI.o.bel BWC.o).bel LI) (by exact(XI.o.bel BWC.o).bel LI) PO.o LO.o NL.o).mono ?_;rintro e w5q ⟨rv,rfl,hr5,hb5⟩;rw[HY.o]at hr5;obtain⟨a4,b4,c4,d4,rfl⟩:=hr5.form;refine hK.out _ _ (ab LI hb5) (fun LJ=>?_);have YI:=aa (jr (D:=wc.heap.size) hr5 LI.size);clear hb5 hr5;clear hK K;replace LI:=LJ;clear LJ;try simp only[Act.put,Mt,Mu,Mv])
       |(refine OO 6 (fun K hK=>?_)
         have HB:=aa (af LI RB.o);have n0_:=HB.o.c;have ZB:=aa (LH HB.o.set y a4 c4 b4 d4);have Z:=aa (cY (w:=w) (ok:=ok) (C:=wc.heap.size) (g:=(w.heap.size+2)) YI.o (ab BC.o LI) (by omega) (by have:=SC.o;omega));go_simp;refine hK.out _ _ ?_;clear hK K;try simp only[Act.put,Mt,Mu,Mv])
       | refine OL [5] ?_
       | fail)
      all_goals
       refine dn (by kernel_rfl) ?_;go_wp2
       have z0_:=ZB.o.c;refine MM (v:=.agg (KV y a4 c4 b4 d4)) ?_ rfl ?_
       ·simp only[ar]at z0_;simp[results,results129,go_sem,z0_]
       ·exact⟨_,rfl,by rw[RES.o];exact Z.o.2,Z.o.1⟩
   | cons m ns=>
    obtain⟨u,hu⟩:∃ u,cK (m :: ns) was x=u:=⟨_,rfl⟩
    have HU:=aa hu;obtain⟨y,hy⟩:∃ y,aG o n u=y:=⟨_,rfl⟩
    have HY:=aa hy;have RES:Ll (cK (n :: m :: ns) o x=y):=aa (by rw[<-hy,<-hu];exact RMA.o m ns);clear hu hy;simp only[My]at hcl hn1 hnl ⊢;obtain⟨mc,rfl⟩:∃ mc,nc=mc+2:=⟨nc - 2,by omega⟩
    have NTL:Ll (ao WV okn (m :: ns) (.slice (some ⟨nb,no+1,none⟩) (ns.length+1) (mc+1))):=aa (by have:=NT.o;simpa using this);have g1:(1:Int) < (ns.length:Int)+1+1:=by omega
    have g2:(ns.length:Int)+1+1<=(mc:Int)+2:=by omega
    have g3:(1:Int)<=(ns.length:Int)+1+1:=by omega
    have g5:(0:Int) < (ns.length:Int)+1+1:=by omega
    have g4:decide (1 < ns.length+1+1)=true:=decide_eq_true (by omega);go_upto_region 5 with fail
    refine aD (fun wS=>La wc wS) [10] (by kernel_rfl) (aC _ 1) (fun LI=>?_);refine WT.out ?_;iterate 8
     first
      | refine OJ 0 ?_ [9,10] LI ?_ ?_
      | refine OJ 1 ?_ [2,3,9,10] LI ?_ ?_
      | refine OJ 2 ?_ [3,9,10] LI ?_ ?_
      | refine OJ 3 ?_ [9,10] LI ?_ ?_
      | refine OJ 4 ?_ [8,9,10] LI ?_ ?_
      | refine OJ 5 ?_ [6,8,9,10] LI ?_ ?_
      | refine OJ 6 ?_ [8,9,10] LI ?_ ?_
      | refine OJ 7 ?_ [8,9,10] LI ?_ ?_
     rotate_left
     ·intro wS LN;have u0_:=(af LN VB.o).c;obtain⟨e0,e1,e2,e3,e4,-⟩:=(af LN XB.o).c;have nm:=ah LN NC.o;have f0_:=(af LN WB.o).c;go_simp;all_goals with_reducible rfl
     simp only[av,List.set]
    repeat' (first
     | exact nl
     |(refine ON 8 (fun K hK=>?_) ?_
       go_simp;refine(IH.o _ (Lj ok w) okn was x _ _ _ (by exact WCI.o.bel LI) (by exact(XI.o.bel BWC.o).bel LI) (by exact(NTL.o.bel BWC.o).bel LI) (by simp) OW.o CW.o).mono ?_;rintro e w8q ⟨rv,rfl,hr5,hb5⟩;rw[HU.o]at hr5;obtain⟨a5,b5,c5,d5,rfl⟩:=hr5.form;refine hK.out _ _ (ab LI hb5) (fun LJ=>?_);have UI:=aa hr5;have HB8:=aa LI;have HS8:=aa LI.size;clear hb5 hr5;clear hK K;replace LI:=LJ;clear LJ;try simp only[Act.put,Mt,Mu,Mv])
     |(refine ON 9 (fun K hK=>?_) ?_
       go_simp;refine(gf _ (bQ (Lj ok w) wc.heap.size) o u _ _ n (by exact tT ((OI.o.bel BWC.o).bel LI)) (by exact UI.o.weak fun k hk=>hk.imp id fun h9=>MH HS8.o h9) PO.o LO.o NL.o).mono ?_;rintro e w9q ⟨rv,rfl,hr5,hb5⟩;rw[HY.o]at hr5;obtain⟨a4,b4,c4,d4,rfl⟩:=hr5.form;refine hK.out _ _ (ab LI hb5) (fun LJ=>?_);have YI:Ll (In _ (bg ok w.heap.size wc.heap.size) y _):=aa (hr5.weak fun k hk=>by rcases hk with hk | hk;exact hk;exact Or.inr (MH LI.size hk));clear hb5 hr5;clear hK K;replace LI:=LJ;clear LJ;try simp only[Act.put,Mt,Mu,Mv])
     |(refine OO 10 (fun K hK=>?_)
       have HB:=aa (af LI RB.o);have n0_:=HB.o.c;have ZB:=aa (LH HB.o.set y a4 c4 b4 d4);have Z:=aa (cY (w:=w) (ok:=ok) (C:=wc.heap.size) (g:=(w.heap.size+2)) YI.o (ab BC.o LI) (by omega) (by have:=SC.o;omega));go_simp;refine hK.out _ _ ?_;clear hK K;try simp only[Act.put,Mt,Mu,Mv])
     | refine OL [8] ?_
     | refine OL [9] ?_
     | fail)
    all_goals
     refine dn (by kernel_rfl) ?_;go_wp2
     have z0_:=ZB.o.c;refine MM (v:=.agg (KV y a4 c4 b4 d4)) ?_ rfl ?_
     ·simp only[ar]at z0_;simp[results,results129,go_sem,z0_]
     ·exact⟨_,rfl,by rw[RES.o];exact Z.o.2,Z.o.1⟩
 ·have e0:(t.kind != 5)=true:=by simp[hk]
  have e00:(t.kind == 5)=false:=by rw[MO];exact hk
  obtain⟨o,ho⟩:∃ o,o=cD t:=⟨_,rfl⟩
  have hot:o=jM:=by rw[ho];simp[cD,hk]
  obtain⟨R1,R2,R3,R4,R5,R6,R7⟩:=RLA.o o ho;obtain⟨was,hwas⟩:∃ x,(aS o n).getD aM=x:=⟨_,rfl⟩
  obtain⟨th,hth⟩:∃ x,(aS o n).isSome=x:=⟨_,rfl⟩
  rw[hwas]at R1 R2 R3 R6 R7;have HWAS:=aa hwas;have HTH:=aa hth;have RL:=aa R1;have RN:=aa R2;have RMA:=aa R3;have PO:=aa R4;have LO:=aa R5;have OW:=aa R6;have CW:=aa R7;clear R1 R2 R3 R4 R5 R6 R7 hwas hth;obtain⟨WV,hWV⟩:∃ W,W=((w.alloc (.cells #[.int .i64 5,.int .i64 0,.string ⟨#[]⟩,.slice none 0 0,.slice none 0 0] 39)).alloc (.cells (KV x a2 c2 b2 d2) 39)).alloc (.cells Lb 39):=⟨_,rfl⟩
  have BA:Ll (La w WV):=aa (by rw[hWV];exact ab (ab (ae _ _) (ae _ _)) (ae _ _));obtain⟨a1,ha1⟩:∃ a:Option Addr,a=none:=⟨_,rfl⟩
  obtain⟨b1,hb1⟩:∃ a:Option Addr,a=none:=⟨_,rfl⟩
  obtain⟨c1,hc1⟩:∃ a:Nat,a=0:=⟨_,rfl⟩
  obtain⟨d1,hd1⟩:∃ a:Nat,a=0:=⟨_,rfl⟩
  have VB:Ll (KY WV w.heap.size o a1 c1 b1 d1):=aa (by rw[hWV,hot,ha1,hb1,hc1,hd1];exact lI _ _ _ _);have XB:Ll (KY WV (w.heap.size+1) x a2 c2 b2 d2):=aa (by rw[hWV];exact mE _ _ _ _);have RB0:Ll (Lc WV (w.heap.size+2)):=aa (by rw[hWV];exact jI _ _ _ _);have SA:Ll (w.heap.size+3<=WV.heap.size):=aa (by rw[hWV];simp);have OI:Ll (In WV (Lj ok w) o (.agg (KV o a1 c1 b1 d1))):=aa (by rw[hot,ha1,hb1,hc1,hd1];exact Ac WV _ 5 0 (by unfold dW;simp) (by unfold dW;simp));have XI:=aa (HX.o.bel BA.o);have NC:=aa (ah BA.o NC0.o);have NT:Ll (ao WV okn ns (.slice (some ⟨nb,no+1,none⟩) ns.length (nc - 1))):=aa ((lw NV.o).bel BA.o);have HWV:=aa hWV;clear hWV hk ho hot ha1 hb1 hc1 hd1;go_enter func129,ntmps129;go_upto_region 3 with fail
  rw[<-HWV.o];go_cut [7,8] (fun pv bv wc=>∃ (g7:Nat) (a3 b3:Option Addr) (c3 d3:Nat),pv=.pointer (some ⟨g7,0,none⟩)/\bv=.bool th/\(KY wc g7 was a3 c3 b3 d3/\WV.heap.size<=g7/\La WV wc/\In wc (Lj ok w) was (.agg (KV was a3 c3 b3 d3))))
  case first=>
   refine aD (fun wS=>La WV wS) [9] (by kernel_rfl) (aC _ 1) (fun LI=>?_);refine WT.out ?_;iterate 4
    first
     | refine OJ 0 ?_ [4,5,6,7,9,10] LI ?_ ?_
     | refine OJ 1 ?_ [2,3,4,5,6,7,9,10] LI ?_ ?_
     | refine OJ 2 ?_ [3,4,5,6,7,9,10] LI ?_ ?_
     | refine OJ 3 ?_ [4,5,6,7,9,10] LI ?_ ?_
    rotate_left
    ·intro wS LN;have u0_:=(af LN VB.o).c;have nm:=ah LN NC.o;go_simp;all_goals with_reducible rfl
    simp only[av,List.set]
   repeat' (first
    | exact nl
    |(refine ON 4 (fun K hK=>?_) ?_
      go_simp;refine(ig _ (Lj ok w) o _ n (by exact OI.o.bel LI)).mono ?_;rintro e w4q ⟨rv,rfl,hb5,hr5⟩;rw[HWAS.o]at hr5;rw[HTH.o];obtain⟨a3,b3,c3,d3,rfl⟩:=hr5.form;refine hK.out _ _ (ab LI hb5) (fun LJ=>?_);have WI:=aa hr5;try replace NB:=aa (af hb5 NB.o)
      have Ma:Ll True:=aa trivial;clear hb5 hr5;clear hK K;replace LI:=LJ;clear LJ;try simp only[Act.put,Mt,Mu,Mv])
    |(refine ON 8 (fun K hK=>?_) ?_
      go_simp;refine hK.out _ _ (ab LI (ae _ _)) (fun LJ=>?_);have NB:=aa (yl LI);first | (have c9:=Ma.o;clear c9;have FINA:=aa (tc LI WI.o)) | skip
      clear hK K;replace LI:=LJ;clear LJ;try simp only[Act.put,Mt,Mu,Mv])
    |(refine OO 9 (fun K hK=>?_)
      try rw[show (World.drew WV).heap.size=WV.heap.size from rfl]at NB
      have n0_:=NB.o.c;first | (have c9:=FINA.o;clear c9) | (have FINB:=aa (sX (g:=WV.heap.size) LI (MG _) NB.o WI.o (fun k hk=>by have h9:=hk.2;have:=SA.o;omega)))
      go_simp;refine hK.out _ _ ?_;clear hK K;try simp only[Act.put,Mt,Mu,Mv])
    |(refine OO 10 (fun K hK=>?_)
      go_simp;refine hK.out _ _ ?_;clear hK K;try simp only[Act.put,Mt,Mu,Mv])
    |(first
       | refine OJ 5 ?_ [6,7,9,10] (by exact LI) ?_ ?_
       | refine OJ 6 ?_ [9,10] (by exact LI) ?_ ?_
      rotate_left
      ·intro wS LN;go_simp;all_goals with_reducible rfl
      simp only[av,List.set])
    |(refine Pm 7 ?_ (by exact LI) ?_ ?_
      rotate_left
      ·intro wS;go_simp;all_goals with_reducible rfl
      simp only[av,List.set])
    | refine OL [4,8] ?_
    | refine OL [8] ?_
    | refine OL [4] ?_
    | fail)
   all_goals
    refine dn (by kernel_rfl) ?_;go_wp2
    go_meet
    case rel=>first | exact⟨_,_,_,_,_,rfl,rfl,FINA.o⟩ | exact⟨_,_,_,_,_,rfl,rfl,FINB.o⟩
  case rest=>
   obtain⟨g7,a3,b3,c3,d3,rfl,rfl,hcW,hcG,hcB,hcI⟩:=hcut;have WB:=aa hcW;have BWC:=aa hcB;have WCI:=aa hcI;have SC:Ll (w.heap.size+3<=wc.heap.size):=aa (MH SA.o hcB.size);have BC:=aa (ab BA.o hcB);replace VB:=aa (af hcB VB.o);replace XB:=aa (af hcB XB.o);have RB:=aa (af hcB RB0.o);replace NC:=aa (ah hcB NC.o);clear hcW hcG hcB hcI;cases ns with
   | nil=>
    have w0_:=WB.o.c;have x0_:=XB.o.c;have v0_:=VB.o.c;by_cases hb:was.kind=5/\x.kind=5
    ·have e1:(was.kind == 5)=true:=by simp[hb.1]
     have e2:(x.kind == 5)=true:=by simp[hb.2]
     have RES:Ll (cK [n] t x=o):=aa (RL.o hb);have n0_:=RB.o.c;have ZB:=aa (LH RB.o.set o a1 c1 b1 d1);have Z:=aa (cY (w:=w) (ok:=ok) (C:=wc.heap.size) (g:=(w.heap.size+2)) (uK (OI.o.bel BWC.o)) BC.o (by omega) (by have:=SC.o;omega));clear hb;go_wp2
     have z0_:=ZB.o.c;refine MM (v:=.agg (KV o a1 c1 b1 d1)) ?_ rfl ?_
     ·simp only[ar]at z0_;simp[results,results129,go_sem,z0_]
     ·exact⟨_,rfl,by rw[RES.o];exact Z.o.2,Z.o.1⟩
    ·obtain⟨y,hy⟩:∃ y,aG o n x=y:=⟨_,rfl⟩
     have HY:=aa hy;have RES:Ll (cK [n] t x=y):=aa (by rw[<-hy];exact RN.o hb);clear hy;have e9:(was.kind == 5&&x.kind == 5)=false:=by rw[Bool.and_eq_false_iff,MO,MO];by_cases h9:was.kind=5;exact .inr (fun h8=>hb ⟨h9,h8⟩);exact .inl h9
     by_cases hwk:was.kind=5
     ·have e1:(was.kind == 5)=true:=by simp[hwk]
      have e2:(x.kind == 5)=false:=by rw[MO];exact fun h8=>hb ⟨hwk,h8⟩
      clear hb hwk e9;go_upto_region 8 with fail
      refine aD (fun wS=>La wc wS) [6] (by kernel_rfl) (aC _ 1) (fun LI=>?_);refine WT.out ?_;iterate 5
       first
        | refine OJ 0 ?_ [5,6] LI ?_ ?_
        | refine OJ 1 ?_ [2,3,5,6] LI ?_ ?_
        | refine OJ 2 ?_ [3,5,6] LI ?_ ?_
        | refine OJ 3 ?_ [5,6] LI ?_ ?_
        | refine OJ 4 ?_ [5,6] LI ?_ ?_
       rotate_left
       ·intro wS LN;have u0_:=(af LN VB.o).c;obtain⟨e0,e1,e2,e3,e4,-⟩:=(af LN XB.o).c;have nm:=ah LN NC.o;have f0_:=(af LN WB.o).c;go_simp;all_goals with_reducible rfl
       simp only[av,List.set]
      repeat' (first
       | exact nl
       |(refine ON 5 (fun K hK=>?_) ?_
         go_simp;refine(gf _ (Lj ok w) o x _ _ n (by exact(OI.o.bel BWC.o).bel LI) (by exact(XI.o.bel BWC.o).bel LI) PO.o LO.o NL.o).mono ?_;rintro e w5q ⟨rv,rfl,hr5,hb5⟩;rw[HY.o]at hr5;obtain⟨a4,b4,c4,d4,rfl⟩:=hr5.form;refine hK.out _ _ (ab LI hb5) (fun LJ=>?_);have YI:=aa (jr (D:=wc.heap.size) hr5 LI.size);clear hb5 hr5;clear hK K;replace LI:=LJ;clear LJ;try simp only[Act.put,Mt,Mu,Mv])
       |(refine OO 6 (fun K hK=>?_)
         have HB:=aa (af LI RB.o);have n0_:=HB.o.c;have ZB:=aa (LH HB.o.set y a4 c4 b4 d4);have Z:=aa (cY (w:=w) (ok:=ok) (C:=wc.heap.size) (g:=(w.heap.size+2)) YI.o (ab BC.o LI) (by omega) (by have:=SC.o;omega));go_simp;refine hK.out _ _ ?_;clear hK K;try simp only[Act.put,Mt,Mu,Mv])
       | refine OL [5] ?_
       | fail)
      all_goals
       refine dn (by kernel_rfl) ?_;go_wp2
       have z0_:=ZB.o.c;refine MM (v:=.agg (KV y a4 c4 b4 d4)) ?_ rfl ?_
       ·simp only[ar]at z0_;simp[results,results129,go_sem,z0_]
       ·exact⟨_,rfl,by rw[RES.o];exact Z.o.2,Z.o.1⟩
     ·have e1:(was.kind == 5)=false:=by rw[MO];exact hwk
      clear hb hwk e9;go_upto_region 8 with fail
      refine aD (fun wS=>La wc wS) [6] (by kernel_rfl) (aC _ 1) (fun LI=>?_);refine WT.out ?_;iterate 5
       first
        | refine OJ 0 ?_ [5,6] LI ?_ ?_
        | refine OJ 1 ?_ [2,3,5,6] LI ?_ ?_
        | refine OJ 2 ?_ [3,5,6] LI ?_ ?_
        | refine OJ 3 ?_ [5,6] LI ?_ ?_
        | refine OJ 4 ?_ [5,6] LI ?_ ?_
       rotate_left
       ·intro wS LN;have u0_:=(af LN VB.o).c;obtain⟨e0,e1,e2,e3,e4,-⟩:=(af LN XB.o).c;have nm:=ah LN NC.o;have f0_:=(af LN WB.o).c;go_simp;all_goals with_reducible rfl
       simp only[av,List.set]
      repeat' (first
       | exact nl
       |(refine ON 5 (fun K hK=>?_) ?_
         go_simp;refine(gf _ (Lj ok w) o x _ _ n (by exact(OI.o.bel BWC.o).bel LI) (by exact(XI.o.bel BWC.o).bel LI) PO.o LO.o NL.o).mono ?_;rintro e w5q ⟨rv,rfl,hr5,hb5⟩;rw[HY.o]at hr5;obtain⟨a4,b4,c4,d4,rfl⟩:=hr5.form;refine hK.out _ _ (ab LI hb5) (fun LJ=>?_);have YI:=aa (jr (D:=wc.heap.size) hr5 LI.size);clear hb5 hr5;clear hK K;replace LI:=LJ;clear LJ;try simp only[Act.put,Mt,Mu,Mv])
       |(refine OO 6 (fun K hK=>?_)
         have HB:=aa (af LI RB.o);have n0_:=HB.o.c;have ZB:=aa (LH HB.o.set y a4 c4 b4 d4);have Z:=aa (cY (w:=w) (ok:=ok) (C:=wc.heap.size) (g:=(w.heap.size+2)) YI.o (ab BC.o LI) (by omega) (by have:=SC.o;omega));go_simp;refine hK.out _ _ ?_;clear hK K;try simp only[Act.put,Mt,Mu,Mv])
       | refine OL [5] ?_
       | fail)
      all_goals
       refine dn (by kernel_rfl) ?_;go_wp2
       have z0_:=ZB.o.c;refine MM (v:=.agg (KV y a4 c4 b4 d4)) ?_ rfl ?_
       ·simp only[ar]at z0_;simp[results,results129,go_sem,z0_]
       ·exact⟨_,rfl,by rw[RES.o];exact Z.o.2,Z.o.1⟩
   | cons m ns=>
    obtain⟨u,hu⟩:∃ u,cK (m :: ns) was x=u:=⟨_,rfl⟩
    have HU:=aa hu;obtain⟨y,hy⟩:∃ y,aG o n u=y:=⟨_,rfl⟩
    have HY:=aa hy;have RES:Ll (cK (n :: m :: ns) t x=y):=aa (by rw[<-hy,<-hu];exact RMA.o m ns);clear hu hy;simp only[My]at hcl hn1 hnl ⊢;obtain⟨mc,rfl⟩:∃ mc,nc=mc+2:=⟨nc - 2,by omega⟩
    have NTL:Ll (ao WV okn (m :: ns) (.slice (some ⟨nb,no+1,none⟩) (ns.length+1) (mc+1))):=aa (by have:=NT.o;simpa using this);have g1:(1:Int) < (ns.length:Int)+1+1:=by omega
    have g2:(ns.length:Int)+1+1<=(mc:Int)+2:=by omega
    have g3:(1:Int)<=(ns.length:Int)+1+1:=by omega
    have g5:(0:Int) < (ns.length:Int)+1+1:=by omega
    have g4:decide (1 < ns.length+1+1)=true:=decide_eq_true (by omega);go_upto_region 5 with fail
    refine aD (fun wS=>La wc wS) [10] (by kernel_rfl) (aC _ 1) (fun LI=>?_);refine WT.out ?_;iterate 8
     first
      | refine OJ 0 ?_ [9,10] LI ?_ ?_
      | refine OJ 1 ?_ [2,3,9,10] LI ?_ ?_
      | refine OJ 2 ?_ [3,9,10] LI ?_ ?_
      | refine OJ 3 ?_ [9,10] LI ?_ ?_
      | refine OJ 4 ?_ [8,9,10] LI ?_ ?_
      | refine OJ 5 ?_ [6,8,9,10] LI ?_ ?_
      | refine OJ 6 ?_ [8,9,10] LI ?_ ?_
      | refine OJ 7 ?_ [8,9,10] LI ?_ ?_
     rotate_left
     ·intro wS LN;have u0_:=(af LN VB.o).c;obtain⟨e0,e1,e2,e3,e4,-⟩:=(af LN XB.o).c;have nm:=ah LN NC.o;have f0_:=(af LN WB.o).c;go_simp;all_goals with_reducible rfl
     simp only[av,List.set]
    repeat' (first
     | exact nl
     |(refine ON 8 (fun K hK=>?_) ?_
       go_simp;refine(IH.o _ (Lj ok w) okn was x _ _ _ (by exact WCI.o.bel LI) (by exact(XI.o.bel BWC.o).bel LI) (by exact(NTL.o.bel BWC.o).bel LI) (by simp) OW.o CW.o).mono ?_;rintro e w8q ⟨rv,rfl,hr5,hb5⟩;rw[HU.o]at hr5;obtain⟨a5,b5,c5,d5,rfl⟩:=hr5.form;refine hK.out _ _ (ab LI hb5) (fun LJ=>?_);have UI:=aa hr5;have HB8:=aa LI;have HS8:=aa LI.size;clear hb5 hr5;clear hK K;replace LI:=LJ;clear LJ;try simp only[Act.put,Mt,Mu,Mv])
     |(refine ON 9 (fun K hK=>?_) ?_
       go_simp;refine(gf _ (bQ (Lj ok w) wc.heap.size) o u _ _ n (by exact tT ((OI.o.bel BWC.o).bel LI)) (by exact UI.o.weak fun k hk=>hk.imp id fun h9=>MH HS8.o h9) PO.o LO.o NL.o).mono ?_;rintro e w9q ⟨rv,rfl,hr5,hb5⟩;rw[HY.o]at hr5;obtain⟨a4,b4,c4,d4,rfl⟩:=hr5.form;refine hK.out _ _ (ab LI hb5) (fun LJ=>?_);have YI:Ll (In _ (bg ok w.heap.size wc.heap.size) y _):=aa (hr5.weak fun k hk=>by rcases hk with hk | hk;exact hk;exact Or.inr (MH LI.size hk));clear hb5 hr5;clear hK K;replace LI:=LJ;clear LJ;try simp only[Act.put,Mt,Mu,Mv])
     |(refine OO 10 (fun K hK=>?_)
       have HB:=aa (af LI RB.o);have n0_:=HB.o.c;have ZB:=aa (LH HB.o.set y a4 c4 b4 d4);have Z:=aa (cY (w:=w) (ok:=ok) (C:=wc.heap.size) (g:=(w.heap.size+2)) YI.o (ab BC.o LI) (by omega) (by have:=SC.o;omega));go_simp;refine hK.out _ _ ?_;clear hK K;try simp only[Act.put,Mt,Mu,Mv])
     | refine OL [8] ?_
     | refine OL [9] ?_
     | fail)
    all_goals
     refine dn (by kernel_rfl) ?_;go_wp2
     have z0_:=ZB.o.c;refine MM (v:=.agg (KV y a4 c4 b4 d4)) ?_ rfl ?_
     ·simp only[ar]at z0_;simp[results,results129,go_sem,z0_]
     ·exact⟨_,rfl,by rw[RES.o];exact Z.o.2,Z.o.1⟩
end
section
attribute [local go_sem ↓] Go.wp_at_zero Go.wp_at_succ
theorem xw:∀ (ns:List Lz) (w:LC) (ok okn:Nat->Prop) (o:V) (v nv:Value),In w ok o v->ao w okn ns nv->ns≠[]->fL o->(∃ y,dr ns o=some y)->fa o<=90000 ->
 Calls prog 132 #[v,nv] w fun e w'=>∃ r,e=.returned r/\In w' (bQ ok w.heap.size) (gI ns o) r/\La w w':=by
 intro ns;induction ns with
 | nil=>intro w ok okn o v nv _ _ h;exact absurd rfl h
 | cons n ns ih=>
 intro w ok okn o v nv h hnv _ hob hth hcn;have IH:=aa ih;obtain⟨nb,no,nc,rfl,hcl,hnl,hnc,hnn⟩:=qm hnv;have hn1:=hnv.1;unfold maxLen at hn1;have NV:=aa hnv;have NL:=aa hnn;have NC0:=aa hnc;have HT:=aa h.low;have OBT:=aa hob;have CT:=aa hcn;have TH:=aa hth;obtain⟨a1,b1,c1,d1,rfl⟩:=h.form;have hk5:o.kind=5:=by obtain⟨y,hy⟩:=hth;exact(gB hy).1
 have PO:=aa (hob.ob hk5).paired;have LO:Ll (o.l.length<=100000):=aa (by have:=zT o;omega);clear h hnv hnc ih hob hcn hnn hth hk5;obtain⟨WV,hWV⟩:∃ W,W=(w.alloc (.cells (KV o a1 c1 b1 d1) 39)).alloc (.cells Lb 39):=⟨_,rfl⟩
 have BA:Ll (La w WV):=aa (by rw[hWV];exact ab (ae _ _) (ae _ _));have VB:Ll (KY WV w.heap.size o a1 c1 b1 d1):=aa (by rw[hWV];exact fb _ _ _);have RB:Ll (Lc WV (w.heap.size+1)):=aa (by rw[hWV];exact et _ _ _);have SA:Ll (w.heap.size+2<=WV.heap.size):=aa (by rw[hWV];simp);have OI:=aa (HT.o.bel BA.o);have NC:=aa (ah BA.o NC0.o);have NT:Ll (ao WV okn ns (.slice (some ⟨nb,no+1,none⟩) ns.length (nc - 1))):=aa ((lw NV.o).bel BA.o);have HWV:=aa hWV;clear hWV;cases ns with
 | nil=>
  obtain⟨y,hy⟩:∃ y,bH o n=y:=⟨_,rfl⟩
  have HY:=aa hy;have RES:Ll (gI [n] o=y):=aa (by rw[<-hy];rfl);clear hy;have OIX:=OI;have BC:=BA;have SC:=SA;go_enter func132,ntmps132;go_upto_region 2 with fail
  rw[<-HWV.o];refine aD (fun wS=>La WV wS) [5] (by kernel_rfl) (aC _ 1) (fun LI=>?_);refine WT.out ?_;iterate 4
   first
    | refine OJ 0 ?_ [4,5] LI ?_ ?_
    | refine OJ 1 ?_ [2,3,4,5] LI ?_ ?_
    | refine OJ 2 ?_ [3,4,5] LI ?_ ?_
    | refine OJ 3 ?_ [4,5] LI ?_ ?_
   rotate_left
   ·intro wS LN;have u0_:=(af LN VB.o).c;have nm:=ah LN NC.o;go_simp;all_goals with_reducible rfl
   simp only[av,List.set]
  repeat' (first
   | exact nl
   |(refine ON 4 (fun K hK=>?_) ?_
     go_simp;refine(jD _ (Lj ok w) o _ n (by exact OIX.o.bel LI) LO.o).mono ?_;rintro e w4q ⟨rv,rfl,hr5,hb5⟩;rw[HY.o]at hr5;obtain⟨a4,b4,c4,d4,rfl⟩:=hr5.form;refine hK.out _ _ (ab LI hb5) (fun LJ=>?_);have YI:=aa (jr (D:=WV.heap.size) hr5 LI.size);clear hb5 hr5;clear hK K;replace LI:=LJ;clear LJ;try simp only[Act.put,Mt,Mu,Mv])
   |(refine OO 5 (fun K hK=>?_)
     have HB:=aa (af LI RB.o);have n0_:=HB.o.c;have ZB:=aa (LH HB.o.set y a4 c4 b4 d4);have Z:=aa (cY (w:=w) (ok:=ok) (C:=WV.heap.size) (g:=(w.heap.size+1)) YI.o (ab BC.o LI) (by omega) (by have:=SC.o;omega));go_simp;refine hK.out _ _ ?_;clear hK K;try simp only[Act.put,Mt,Mu,Mv])
   | refine OL [4] ?_
   | fail)
  all_goals
   refine dn (by kernel_rfl) ?_;go_wp2
   have z0_:=ZB.o.c;refine MM (v:=.agg (KV y a4 c4 b4 d4)) ?_ rfl ?_
   ·simp only[ar]at z0_;simp[results,results132,go_sem,z0_]
   ·exact⟨_,rfl,by rw[RES.o];exact Z.o.2,Z.o.1⟩
 | cons m ns=>
  obtain⟨was,hwas⟩:∃ x,(aS o n).getD aM=x:=⟨_,rfl⟩
  obtain⟨th,hth⟩:∃ x,(aS o n).isSome=x:=⟨_,rfl⟩
  obtain⟨u,hu⟩:∃ u,gI (m :: ns) was=u:=⟨_,rfl⟩
  have RM:Ll ((u.l=[]->gI (n :: m :: ns) o=bH o n)/\(u.l≠[]->gI (n :: m :: ns) o=aG o n u)):=aa ⟨fun h9=>by rw[gI,hwas,hu,if_pos h9],fun h9=>by rw[gI,hwas,hu,if_neg h9]⟩;have HU:=aa hu;have OW:Ll (fL was):=aa (by rw[<-hwas];exact lV OBT.o n);have CW:Ll (fa was<=90000):=aa (by rw[<-hwas];exact MH (Ab o n) CT.o);have TW:Ll (∃ y,dr (m :: ns) was=some y):=aa (by
   obtain⟨y,hy⟩:=TH.o;obtain⟨-,z,hm,hz⟩:=gB hy;rw[<-hwas,hm];exact⟨y,hz⟩)
  have HWAS:=aa hwas;have HTH:=aa hth;clear hwas hth hu;simp only[My]at hcl hn1 hnl ⊢;obtain⟨mc,rfl⟩:∃ mc,nc=mc+2:=⟨nc - 2,by omega⟩
  have NTL:Ll (ao WV okn (m :: ns) (.slice (some ⟨nb,no+1,none⟩) (ns.length+1) (mc+1))):=aa (by have:=NT.o;simpa using this);have g1:(((ns.length:Int)+1+1) == 1)=false:=by rw[MO];omega
  have g2:(ns.length:Int)+1+1<=(mc:Int)+2:=by omega
  have g3:(1:Int)<=(ns.length:Int)+1+1:=by omega
  have g5:(0:Int) < (ns.length:Int)+1+1:=by omega
  go_enter func132,ntmps132;go_upto_region 3 with fail
  rw[<-HWV.o];go_cut [5,6] (fun pv bv wc=>∃ (g7:Nat) (a3 b3:Option Addr) (c3 d3:Nat),pv=.pointer (some ⟨g7,0,none⟩)/\bv=.bool th/\(KY wc g7 was a3 c3 b3 d3/\WV.heap.size<=g7/\La WV wc/\In wc (Lj ok w) was (.agg (KV was a3 c3 b3 d3))))
  case first=>
   refine aD (fun wS=>La WV wS) [9] (by kernel_rfl) (aC _ 1) (fun LI=>?_);refine WT.out ?_;iterate 4
    first
     | refine OJ 0 ?_ [4,5,6,7,9,10] LI ?_ ?_
     | refine OJ 1 ?_ [2,3,4,5,6,7,9,10] LI ?_ ?_
     | refine OJ 2 ?_ [3,4,5,6,7,9,10] LI ?_ ?_
     | refine OJ 3 ?_ [4,5,6,7,9,10] LI ?_ ?_
    rotate_left
    ·intro wS LN;have u0_:=(af LN VB.o).c;have nm:=ah LN NC.o;go_simp;all_goals with_reducible rfl
    simp only[av,List.set]
   repeat' (first
    | exact nl
    |(refine ON 4 (fun K hK=>?_) ?_
      go_simp;refine(ig _ (Lj ok w) o _ n (by exact OI.o.bel LI)).mono ?_;rintro e w4q ⟨rv,rfl,hb5,hr5⟩;rw[HWAS.o]at hr5;rw[HTH.o];obtain⟨a3,b3,c3,d3,rfl⟩:=hr5.form;refine hK.out _ _ (ab LI hb5) (fun LJ=>?_);have WI:=aa hr5;try replace NB:=aa (af hb5 NB.o)
      have Ma:Ll True:=aa trivial;clear hb5 hr5;clear hK K;replace LI:=LJ;clear LJ;try simp only[Act.put,Mt,Mu,Mv])
    |(refine ON 8 (fun K hK=>?_) ?_
      go_simp;refine hK.out _ _ (ab LI (ae _ _)) (fun LJ=>?_);have NB:=aa (yl LI);first | (have c9:=Ma.o;clear c9;have FINA:=aa (tc LI WI.o)) | skip
      clear hK K;replace LI:=LJ;clear LJ;try simp only[Act.put,Mt,Mu,Mv])
    |(refine OO 9 (fun K hK=>?_)
      try rw[show (World.drew WV).heap.size=WV.heap.size from rfl]at NB
      have n0_:=NB.o.c;first | (have c9:=FINA.o;clear c9) | (have FINB:=aa (sX (g:=WV.heap.size) LI (MG _) NB.o WI.o (fun k hk=>by have h9:=hk.2;have:=SA.o;omega)))
      go_simp;refine hK.out _ _ ?_;clear hK K;try simp only[Act.put,Mt,Mu,Mv])
    |(refine OO 10 (fun K hK=>?_)
      go_simp;refine hK.out _ _ ?_;clear hK K;try simp only[Act.put,Mt,Mu,Mv])
    |(first
       | refine OJ 5 ?_ [6,7,9,10] (by exact LI) ?_ ?_
       | refine OJ 6 ?_ [9,10] (by exact LI) ?_ ?_
      rotate_left
      ·intro wS LN;go_simp;all_goals with_reducible rfl
      simp only[av,List.set])
    |(refine Pm 7 ?_ (by exact LI) ?_ ?_
      rotate_left
      ·intro wS;go_simp;all_goals with_reducible rfl
      simp only[av,List.set])
    | refine OL [4,8] ?_
    | refine OL [8] ?_
    | refine OL [4] ?_
    | fail)
   all_goals
    refine dn (by kernel_rfl) ?_;go_wp2
    go_meet
    case rel=>first | exact⟨_,_,_,_,_,rfl,rfl,FINA.o⟩ | exact⟨_,_,_,_,_,rfl,rfl,FINB.o⟩
  case rest=>
   obtain⟨g7,a3,b3,c3,d3,rfl,rfl,hcW,hcG,hcB,hcI⟩:=hcut;have WB:=aa hcW;have G7:=aa hcG;have G7L:=aa hcW.lt;have BWC:=aa hcB;have WCI:=aa hcI;have SC:Ll (w.heap.size+2<=wc.heap.size):=aa (MH SA.o hcB.size);have BC:=aa (ab BA.o hcB);replace VB:=aa (af hcB VB.o);replace RB:=aa (af hcB RB.o);replace NC:=aa (ah hcB NC.o);clear hcW hcG hcB hcI;go_upto_region 4 with fail
   refine aD (fun wS=>La wc wS) [4] (by kernel_rfl) (aC _ 1) (fun LI=>?_);refine WT.out ?_;iterate 3
    first
     | refine OJ 0 ?_ [3,4] LI ?_ ?_
     | refine OJ 1 ?_ [2,3,4] LI ?_ ?_
     | refine OJ 2 ?_ [3,4] LI ?_ ?_
    rotate_left
    ·intro wS LN;have f0_:=(af LN WB.o).c;go_simp;all_goals with_reducible rfl
    simp only[av,List.set]
   repeat' (first
    | exact nl
    |(refine ON 3 (fun K hK=>?_) ?_
      go_simp;refine(IH.o _ (Lj ok w) okn was _ _ (by exact WCI.o.bel LI) (by exact(NTL.o.bel BWC.o).bel LI) (by simp) OW.o TW.o CW.o).mono ?_;rintro e w3q ⟨rv,rfl,hr5,hb5⟩;rw[HU.o]at hr5;obtain⟨a5,b5,c5,d5,rfl⟩:=hr5.form;refine hK.out _ _ (ab LI hb5) (fun LJ=>?_);have UI:=aa (jr (ok:=ok) (B:=w.heap.size) (D:=wc.heap.size) hr5 LI.size);clear hb5 hr5;clear hK K;replace LI:=LJ;clear LJ;try simp only[Act.put,Mt,Mu,Mv])
    |(refine OO 4 (fun K hK=>?_)
      have HB:=aa (af LI WB.o);have n0_:=HB.o.c;have HH:=aa LI;go_simp;refine hK.out _ _ ?_;clear hK K;try simp only[Act.put,Mt,Mu,Mv])
    | refine OL [3] ?_
    | fail)
   all_goals
    refine dn (by kernel_rfl) ?_;obtain⟨WD,hWD⟩:∃ W,W=ar w3q g7 (.int .i64 u.kind) (.int .i64 u.n) (.string ⟨u.s.toArray⟩) (.slice a5 u.keys.length c5) (.slice b5 u.l.length d5):=⟨_,rfl⟩
    have UB:Ll (KY WD g7 u a5 c5 b5 d5):=aa (by rw[hWD];exact HB.o.set _ _ _ _ _);have GB:Ll (w3q.grownBy WD (some g7)):=aa (by rw[hWD];exact aI _ _ _ _ _ _ _);have BD:Ll (La w WD):=aa (by rw[hWD];exact aP (ab BC.o HH.o) (by have:=G7.o;have:=SA.o;omega) _ _ _ _ _);have UID:Ll (In WD (bQ (Lj ok w) wc.heap.size) u (.agg (KV u a5 c5 b5 d5))):=aa (by rw[hWD];exact UI.o.box (by have:=G7.o;have:=SA.o;omega) (by have:=G7L.o;omega) _ _ _ _ _);replace VB:=aa ((af HH.o VB.o).grown GB.o (by have:=G7.o;have:=SA.o;simp;omega));replace RB:=aa ((af HH.o RB.o).grown GB.o (by have:=G7.o;have:=SA.o;simp;omega));have OIX:Ll (In WD (Lj ok w) o (.agg (KV o a1 c1 b1 d1))):=aa (((OI.o.bel BWC.o).bel HH.o).grown GB.o (fun k hk=>by have:=hk.2;have:=G7.o;have:=SA.o;omega));replace NC:=aa (ah BD.o NC0.o);have SWD:Ll (wc.heap.size<=WD.heap.size):=aa (MH HH.o.size GB.o.size);have SCC:=SC;replace SC:=aa (MH SC.o SWD.o);replace BC:=BD;simp only[ar]at hWD;go_upto_region 5 with fail
    rw[<-hWD];clear hWD;have q0_:=UB.o.c;by_cases hul:u.l=[]
    ·have e1:((u.l.length:Int) == 0)=true:=by rw[hul];rfl
     have e3:(u.l.length == 0)=true:=by rw[hul];rfl
     obtain⟨y,hy⟩:∃ y,bH o n=y:=⟨_,rfl⟩
     have HY:=aa hy;have RES:Ll (gI (n :: m :: ns) o=y):=aa (by rw[<-hy];exact RM.o.1 hul);clear hy hul;go_upto_region 6 with fail
     refine aD (fun wS=>La WD wS) [5] (by kernel_rfl) (aC _ 1) (fun LI=>?_);refine WT.out ?_;iterate 4
      first
       | refine OJ 0 ?_ [4,5] LI ?_ ?_
       | refine OJ 1 ?_ [2,3,4,5] LI ?_ ?_
       | refine OJ 2 ?_ [3,4,5] LI ?_ ?_
       | refine OJ 3 ?_ [4,5] LI ?_ ?_
      rotate_left
      ·intro wS LN;have u0_:=(af LN VB.o).c;have nm:=ah LN NC.o;go_simp;all_goals with_reducible rfl
      simp only[av,List.set]
     repeat' (first
      | exact nl
      |(refine ON 4 (fun K hK=>?_) ?_
        go_simp;refine(jD _ (Lj ok w) o _ n (by exact OIX.o.bel LI) LO.o).mono ?_;rintro e w4q ⟨rv,rfl,hr5,hb5⟩;rw[HY.o]at hr5;obtain⟨a4,b4,c4,d4,rfl⟩:=hr5.form;refine hK.out _ _ (ab LI hb5) (fun LJ=>?_);have YI:=aa (jr (D:=WD.heap.size) hr5 LI.size);clear hb5 hr5;clear hK K;replace LI:=LJ;clear LJ;try simp only[Act.put,Mt,Mu,Mv])
      |(refine OO 5 (fun K hK=>?_)
        have HB:=aa (af LI RB.o);have n0_:=HB.o.c;have ZB:=aa (LH HB.o.set y a4 c4 b4 d4);have Z:=aa (cY (w:=w) (ok:=ok) (C:=WD.heap.size) (g:=(w.heap.size+1)) YI.o (ab BC.o LI) (by omega) (by have:=SC.o;omega));go_simp;refine hK.out _ _ ?_;clear hK K;try simp only[Act.put,Mt,Mu,Mv])
      | refine OL [4] ?_
      | fail)
     all_goals
      refine dn (by kernel_rfl) ?_;go_wp2
      have z0_:=ZB.o.c;refine MM (v:=.agg (KV y a4 c4 b4 d4)) ?_ rfl ?_
      ·simp only[ar]at z0_;simp[results,results132,go_sem,z0_]
      ·exact⟨_,rfl,by rw[RES.o];exact Z.o.2,Z.o.1⟩
    ·have e1:((u.l.length:Int) == 0)=false:=by rw[MO];have:=List.length_pos_iff.2 hul;omega
     have e3:(u.l.length == 0)=false:=by rw[MO];have:=List.length_pos_iff.2 hul;omega
     obtain⟨y,hy⟩:∃ y,aG o n u=y:=⟨_,rfl⟩
     have HY:=aa hy;have RES:Ll (gI (n :: m :: ns) o=y):=aa (by rw[<-hy];exact RM.o.2 hul);clear hy hul;go_upto_region 7 with fail
     refine aD (fun wS=>La WD wS) [6] (by kernel_rfl) (aC _ 1) (fun LI=>?_);refine WT.out ?_;iterate 5
      first
       | refine OJ 0 ?_ [5,6] LI ?_ ?_
       | refine OJ 1 ?_ [2,3,5,6] LI ?_ ?_
       | refine OJ 2 ?_ [3,5,6] LI ?_ ?_
       | refine OJ 3 ?_ [5,6] LI ?_ ?_
       | refine OJ 4 ?_ [5,6] LI ?_ ?_
      rotate_left
      ·intro wS LN;have u0_:=(af LN VB.o).c;have nm:=ah LN NC.o;have f0_:=(af LN UB.o).c;go_simp;all_goals with_reducible rfl
      simp only[av,List.set]
     repeat' (first
      | exact nl
      |(refine ON 5 (fun K hK=>?_) ?_
        go_simp;refine(gf _ (bQ (Lj ok w) wc.heap.size) o u _ _ n (by exact tT (OIX.o.bel LI)) (by exact UID.o.bel LI) PO.o LO.o NL.o).mono ?_;rintro e w5q ⟨rv,rfl,hr5,hb5⟩;rw[HY.o]at hr5;obtain⟨a4,b4,c4,d4,rfl⟩:=hr5.form;refine hK.out _ _ (ab LI hb5) (fun LJ=>?_);have YI:Ll (In _ (bg ok w.heap.size wc.heap.size) y _):=aa (hr5.weak fun k hk=>by rcases hk with hk | hk;exact hk;exact Or.inr (MH SWD.o (MH LI.size hk)));clear hb5 hr5;clear hK K;replace LI:=LJ;clear LJ;try simp only[Act.put,Mt,Mu,Mv])
      |(refine OO 6 (fun K hK=>?_)
        have HB:=aa (af LI RB.o);have n0_:=HB.o.c;have ZB:=aa (LH HB.o.set y a4 c4 b4 d4);have Z:=aa (cY (w:=w) (ok:=ok) (C:=wc.heap.size) (g:=(w.heap.size+1)) YI.o (ab BC.o LI) (by omega) (by have:=SCC.o;omega));go_simp;refine hK.out _ _ ?_;clear hK K;try simp only[Act.put,Mt,Mu,Mv])
      | refine OL [5] ?_
      | fail)
     all_goals
      refine dn (by kernel_rfl) ?_;go_wp2
      have z0_:=ZB.o.c;refine MM (v:=.agg (KV y a4 c4 b4 d4)) ?_ rfl ?_
      ·simp only[ar]at z0_;simp[results,results132,go_sem,z0_]
      ·exact⟨_,rfl,by rw[RES.o];exact Z.o.2,Z.o.1⟩
end
section
open Go.ChangeShapes Go.WideShapes Go.ChangeAt Go.RowKit
theorem wN:Tryz.prog.globalNamed "stairwell/patch.words"=some 2:=by kernel_rfl
theorem Fv:(Tryz.prog.globals[2]?).map (·.type)=some 225:=by kernel_rfl
theorem uZ:Tryz.prog.cellsOf 225=6:=by kernel_rfl
theorem tL{H:Type}{enc:TypeId × Value->H}{w:World}{base:Nat}{sp:Nat->Bool}{held:Bool}{fuel:Nat}{cs:List Value}{zs:List (List UInt8)}{p:List MemPlace}(hz:zs.length=6)(h:DataW.trod enc Tryz.prog w base sp held fuel 225 cs=some (.agg (zs.map fun z=>.lit (.string z)),p)):cs=zs.map fun z=>Value.string ⟨z.toArray⟩:=by
 obtain⟨xs,m,e,hx,hl,LT,hf⟩:=DataW.trod_array Tryz.underlying225 h;rw[uZ]at hl;have hxs:xs.map (·.1)=zs.map fun z=>(DataW.lit (.string z):DataW H):=by
  have:=congrArg Prod.fst hx;simpa using this.symm
 apply List.ext_getElem?;intro i;by_cases hi:i < 6
 ·have hfi:=hf i hi;rw[db,Nat.mul_one,Mw (by omega)]at hfi;obtain⟨s,e1,e2,-⟩:=DataW.trod_string Tryz.underlying9 hfi;have h1:cs[i]?=some (.string s):=by
   have:=congrArg (·[0]?) e1;simpa [List.getElem?_take,List.getElem?_drop] using this
  have h2:(xs.map (·.1))[i]?=some (DataW.lit (.string s.data.toList):DataW H):=by
   rw[List.getElem?_map,Mw (by omega),e2];rfl
  rw[hxs]at h2;simp only[List.getElem?_map,Option.map_eq_some_iff,DataW.lit.injEq,Lit.string.injEq]at h2;obtain⟨z',hz',e3⟩:=h2;rw[h1,List.getElem?_map,hz',e3];simp
 ·rw[List.getElem?_eq_none (by omega),List.getElem?_eq_none (by simp;omega)]
theorem um{W:World}(h:laidMet Tryz.prog lS W):cn W:=by
 have h3:=h.tail.tail;have h4:=h3.tail.tail;have h5:=h4.tail;rw[Hu]at h3;have hp:=Lib.tabIs_of_head Tl Fp Tryz.underlying213 Tryz.underlying153 FC Ej h3;obtain⟨a1,s1,hv1,-,-,-⟩:=laid_sentinel h4 Gp za Tryz.underlying186 Fg Tryz.underlying276 Tryz.underlying278 rfl rfl Tryz.underlying9 rH db;obtain⟨a2,s2,hv2,-,-,-⟩:=laid_sentinel h5 Ax vR Tryz.underlying186 Fg Tryz.underlying276 Tryz.underlying278 rfl rfl Tryz.underlying9 rH db;obtain⟨t1,f1,e1⟩:=kQ Gp hv1;obtain⟨t2,f2,e2⟩:=kQ Ax hv2;obtain⟨t3,f3,e3⟩:=kQ Tl hp;exact⟨⟨_,_,t2,f2,e2⟩,⟨_,_,t1,f1,e1⟩,t3,f3,e3⟩
theorem sf{W:World}(h:laidMet Tryz.prog lS W):di W:=by
 have h2:=h.tail.tail.tail.tail.tail.tail;obtain⟨ps,⟨g',t',cs,fuel,p,q,hg',ht',hvar,hd,_,_⟩,_⟩:=h2;obtain rfl:=Option.some.inj (wN.symm.trans hg');obtain rfl:=Option.some.inj (Fv.symm.trans ht');have hc:=tL (zs:=ew) rfl hd;obtain⟨t1,f1,e1⟩:=kQ wN hvar;refine⟨t1,f1,?_⟩;rw[e1];congr 2
 simpa [ew] using congrArg List.toArray hc
end
section
open Go.ChangeShapes Go.WideShapes Go.ChangeAt Go.RowKit
theorem Oq{a b:Bool}(h:a=true)(k:b=true):(a&&b)=true:=by rw[h,k];rfl
theorem Ov:laidOutB Tryz.prog=true:=by kernel_rfl
theorem Ow:mapsRowed Tryz.prog=true:=by kernel_rfl
theorem Ot:Tryz.prog.stopsHeard=true:=by kernel_rfl
theorem Ou:Tryz.prog.mayEnter=true:=by kernel_rfl
end
end Go.Proofs.YtgolnaencepejaaGreatDoor
