import Derived.Test.YtgolnaencepejaaGreatDoorG3
import Derived.Test.YtgolnaencepejaaGreatDoorG4
set_option maxRecDepth 100000
set_option maxHeartbeats 40000000
set_option linter.unusedSimpArgs false
set_option linter.unusedVariables false
namespace Go.Proofs.YtgolnaencepejaaGreatDoor
open Go.RowKit
open _root_.Go.Proofs.Tryz
variable {w w':World}
variable {ok:Nat->Prop}
variable {v:Value}
variable {g B n k:Nat}
section
attribute [local go_sem ↓] Go.wp_at_zero Go.wp_at_succ
def em (key:Lz) (keys:List Lz):Nat:=(keys.takeWhile fun a=>Op.bytesLess a key).length
theorem wW(key keys):em key keys<=keys.length:=(List.takeWhile_sublist _).length_le
theorem ym{key a keys}(h:keys[k]?=some a)(hk:k<=em key keys)(hl:Op.bytesLess a key=true):k < em key keys:=by
 induction keys generalizing k with
 | nil=>simp at h
 | cons b keys ih=>
  unfold em at hk ⊢;rw[List.takeWhile_cons]at hk ⊢;cases k with
  | zero=>simp at h;subst h;simp[hl]
  | succ k=>
   split at hk
   ·rename_i hb;rw[if_pos hb];simp only[My]at hk ⊢;have:=ih (k:=k) (by simpa using h) (by unfold em;omega);unfold em at this;omega
   ·simp at hk
theorem Bz{key a keys}(h:keys[k]?=some a)(hk:k<=em key keys)(hl:Op.bytesLess a key=false):k=em key keys:=by
 induction keys generalizing k with
 | nil=>simp at h
 | cons b keys ih=>
  unfold em at hk ⊢;rw[List.takeWhile_cons]at hk ⊢;cases k with
  | zero=>simp at h;subst h;simp[hl]
  | succ k=>
   split at hk
   ·rename_i hb;rw[if_pos hb];simp only[My]at hk ⊢;have:=ih (k:=k) (by simpa using h) (by unfold em;omega);unfold em at this;omega
   ·simp at hk
def Kf (w w2:LC) (t x:V) (key:Lz) (at_:Nat) (a2 a7 a8:Option Addr) (c2 c7 c8:Nat) (wc:LC):Prop:=
 ∃ g cap,ag wc w.heap.size (.int .i64 t.kind) (.int .i64 t.n) (.string ⟨t.s.toArray⟩) (.slice (some ⟨g,0,none⟩) (t.keys.length+1) cap) (.slice a2 t.l.length c2) /\
  KY wc (w.heap.size+1) x a7 c7 a8 c8 /\
  Lc wc (w.heap.size+2) /\
  wc.ownsRow w2.heap.size 9 1 (.slice (some ⟨g,0,none⟩) (t.keys.length+1) cap) (t.keys.length+1) ((t.keys.take at_).map aR++[aR key]++(t.keys.drop at_).map aR) /\
  La w wc/\w2.heap.size<=wc.heap.size
theorem fD{e:TypeId}{size xs}(h:w.ownsRow B e size v n xs)(hb:La w w'):w'.ownsRow B e size v n xs:=h.kept (aq (r:=none) hb) (by cases v.ownBlock <;> simp)
theorem ao.mem{xs}(h:ao w ok xs v)(y)(hy:y∈xs):y.length<=maxLen:=by
 rcases h.2 with⟨e,_⟩ | ⟨b,off,c,e,h1,h2,h3⟩
 ·rw[e]at hy;simp at hy
 ·obtain⟨i,hi⟩:=List.getElem?_of_mem hy;exact(h3 i y hi).1
theorem xx{c0 c1 c2 c3 c4}(h:ag w g c0 c1 c2 c3 c4)(v):ag (w.setCell ⟨g,3,none⟩ v) g c0 c1 c2 v c4:=ak h 3 v
theorem ER(w ok d t x v xv key)(h:bu w ok (d+1) t v)(hx:bu w ok d x xv)(hf:dO t key=none)(hp:aK t=true)(L9:t.l.length<=100000)(hkey:key.length<=maxLen):Calls prog 158 #[v,aR key,xv] w fun e w'=>∃ r,e=.returned r/\bu w' (bQ ok w.heap.size) (d+1) { t with keys:=t.keys.take (em key t.keys)++key :: t.keys.drop (em key t.keys),l:=t.l.take (em key t.keys)++x :: t.l.drop (em key t.keys) } r/\La w w':=by
 have H:=aa h;have HX:=aa hx;obtain⟨ks,ls,rfl,h1,h2,h3,h4,h5⟩:=h;have KK:Ll (dW t.kind/\dW t.n/\t.s.length<=maxLen/\ao w ok t.keys ks/\cS w ok (bu w ok d) t.l ls):=⟨h1,h2,h3,h4,h5⟩
 obtain⟨a1,c1,rfl⟩:=h4.form;obtain⟨a2,c2,rfl⟩:=h5.form;have l1:=h4.1;have l2:=h5.1;have F:=aa hf;have FP:=aa hp;have hkl:t.keys.length=t.l.length:=by
  simp only[aK,MJ,decide_eq_true_eq]at hp;exact hp.2
 have HKL:=aa hkl;have hkl1:t.keys.length<=t.l.length:=by omega
 have hkl2:t.l.length<=t.keys.length:=by omega
 clear hf hp hkl;obtain⟨xk,xl,hxv⟩:∃ xk xl,xv=.agg #[.int .i64 x.kind,.int .i64 x.n,aR x.s,xk,xl]:=by
  match d,hx with
  | d+1,hx=>obtain⟨ks,ls,e,_⟩:=hx;exact⟨ks,ls,e⟩
 subst hxv;obtain⟨-,-,-,⟨a7,c7,rfl⟩,⟨a8,c8,rfl⟩⟩:=hx.agg;unfold maxLen at l1 h3 l2;unfold aR;clear h4 h5 h1 h2 hx;go_enter func158,ntmps158;go_wp2_with fail
 refine Lk (ni _ ok _ t _ (by exact H.o.bel (ab (ab (ae _ _) (ae _ _)) (ae _ _)))) fun w1 hb1=>?_;rw[FP.o];have bx:Ll (KY w1 w.heap.size t a1 c1 a2 c2/\KY w1 (w.heap.size+1) x a7 c7 a8 c8/\Lc w1 (w.heap.size+2)):=⟨af hb1 (lI w _ _ _),af hb1 (mE w _ _ _),af hb1 (jI w _ _ _)⟩
 obtain⟨p0,p1,p2,p3,p4,-,-,-,p9,p10⟩:=bx.o.1.c;have B1:Ll (La w w1):=ab (ab (ab (ae _ _) (ae _ _)) (ae _ _)) hb1;clear hb1;go_wp2_with fail
 refine Lk (kJ _ ok _ t _ key (by exact H.o.bel B1.o)) fun w2 hb2=>?_;rw[F.o];have bx2:Ll (KY w2 w.heap.size t a1 c1 a2 c2/\KY w2 (w.heap.size+1) x a7 c7 a8 c8/\Lc w2 (w.heap.size+2)):=⟨af hb2 bx.o.1,af hb2 bx.o.2.1,af hb2 bx.o.2.2⟩
 have B2:Ll (La w w2):=ab B1.o hb2;have hsz2:w.heap.size+2 < w2.heap.size:=bx2.o.2.2.lt;clear hb2 bx B1;unfold pS;obtain⟨p0,p1,p2,p3,p4,-,-,-,p9,p10⟩:=bx2.o.1.c;obtain⟨q0,q1,q2,q3,q4,-⟩:=bx2.o.2.1.c;go_upto_block 0 with fail
 go_cut [8] (fun i wc=>i=.int .i64 (em key t.keys:Nat)/\wc=w2)
 case first=>
  go_wp2_with fail
  go_loopg [8] t.keys.length (fun g i wr=>∃ k:Nat,k<=em key t.keys/\g=t.keys.length - k/\i=.int .i64 k/\wr=w2)
  case atStart=>exact⟨0,Nat.zero_le _,rfl,rfl,rfl⟩
  case round=>
   obtain⟨k,hk,hgk,rfl,rfl⟩:=hrel;have GK:=aa hgk;have hia:=wW key t.keys;clear hgk;by_cases hlt:k < t.keys.length
   ·obtain⟨_,K4⟩:=KK.o.2.2.2.1;rcases K4 with⟨e,_⟩ | ⟨kb,ko,kc,hks,hc1,hc2,Mb⟩
    ·rw[e]at hlt;simp at hlt
    simp only[Value.slice.injEq]at hks;obtain⟨rfl,-,rfl⟩:=hks;have hc:=ah B2.o (Mb k t.keys[k] (Mw hlt)).2.2;clear Mb;unfold aR at hc;cases hless:Op.bytesLess t.keys[k] key with
    | true=>
     have hk1:k < em key t.keys:=ym (Mw hlt) hk hless;go_wp2_with fail
     go_roundg (t.keys.length - (k+1))
     case measure=>rw[GK.o];omega
     case rel=>exact⟨k+1,hk1,rfl,by go_num,rfl⟩
    | false=>
     have hk1:k=em key t.keys:=Bz (Mw hlt) hk hless;have HK1:=aa hk1;clear hk1;go_wp2_with fail
     go_meet
     case rel=>exact⟨by rw[<-HK1.o],rfl⟩
   ·have hk1:k=em key t.keys:=by omega
    have HK1:=aa hk1;clear hk1;go_wp2_with fail
    go_meet
    case rel=>exact⟨by rw[<-HK1.o],rfl⟩
 case rest=>
  obtain⟨rfl,hw⟩:=hcut;have hw':=hw.symm;clear hw;subst hw';have hia:=wW key t.keys;obtain⟨at_,hat⟩:∃ a,em key t.keys=a:=⟨_,rfl⟩
  rw[hat]at hia ⊢;have HAT:=aa hat;clear hat;have j0:(0:Int)<=(at_:Int):=by omega
  have j1:(at_:Int)<=(t.keys.length:Int):=by omega
  have j2:(at_:Int)<=(t.l.length:Int):=by omega
  have fin10:Ll (∀ w3 g cap,w3.ownsRow w2.heap.size 9 1 (.slice (some ⟨g,0,none⟩) (t.keys.length+1) cap) (t.keys.length+1) ((t.keys.take at_).map aR++[.string ⟨key.toArray⟩]++(t.keys.drop at_).map aR)->La w2 w3 ->
   Kf w w2 t x key at_ a2 a7 a8 c2 c7 c8 (w3.setCell ⟨w.heap.size,3,none⟩ (.slice (some ⟨g,0,none⟩) (t.keys.length+1) cap))):=by
   intro w3 g cap ho hb;have g1:w3.grownBy (w3.setCell ⟨w.heap.size,3,none⟩ (.slice (some ⟨g,0,none⟩) (t.keys.length+1) cap)) (some w.heap.size):=ap (az _ _) _ _;refine⟨g,cap,xx (af hb bx2.o.1) _,(af hb bx2.o.2.1).grown g1 (by simp),(af hb bx2.o.2.2).grown g1 (by simp),aW ho g1 (by omega),?_,MH hb.size g1.size⟩;exact bS (bi (aq (ab B2.o hb)) (MG _) _ _)
  go_upto_region 10 with fail
  go_cut [8] (fun i wc'=>i=.int .i64 (at_:Nat)/\Kf w w2 t x key at_ a2 a7 a8 c2 c7 c8 wc')
  case first=>
   have k3:∀ o,(w2.alloc o).cell? ⟨w.heap.size,3,none⟩=some (.slice a1 t.keys.length c1):=fun o=>(af (ae w2 o) bx2.o.1).c.2.2.2.1;obtain⟨_,K4⟩:=KK.o.2.2.2.1;rcases K4 with⟨e,e2⟩ | ⟨kb,ko,kc,hks,hc1,hc2,Mb⟩
   ·obtain⟨a0,e2⟩:=e2;simp only[Value.slice.injEq]at e2;obtain⟨-,e3,e6⟩:=e2;subst e6;have E3:Ll (t.keys.length=0/\t.keys=[]):=⟨e3,e⟩
    have j4:(t.keys.length:Int)<=0:=by omega
    have e7:at_=0:=by omega
    clear e e3;subst e7;have con:Ll (∀ W,W.heap=((w2.alloc (.cells #[.string ⟨key.toArray⟩] 9)).alloc (.cells #[.slice a1 0 0,.slice (some ⟨w2.heap.size,0,none⟩) 1 1,.slice a1 t.keys.length 0] 36)).heap->W.os=w2.os->W.tape=w2.tape->W.output=w2.output ->
     Calls prog 192 #[.slice (some ⟨w2.heap.size+1,0,none⟩) 3 3] W fun e w'=>∃ g cap,e=.returned (.slice (some ⟨g,0,none⟩) (t.keys.length+1) cap)/\w'.ownsRow w2.heap.size 9 1 (.slice (some ⟨g,0,none⟩) (t.keys.length+1) cap) (t.keys.length+1) ((t.keys.take 0).map aR++[.string ⟨key.toArray⟩]++(t.keys.drop 0).map aR)/\La w2 w'):=by
     intro W e1 e2 e4 e5;obtain⟨q1,q2⟩:=E3.o;rw[q1]at e1;rw[q2];simp only[List.take_nil,List.drop_nil,List.map_nil,List.length_nil];exact Jg ⟨key.toArray⟩ (mi w2 1 a1) (mi w2 1 a1) rfl (by simp) W e1 e2 e4 e5
    go_region_with ((go_at_call 192;refine(con.o _ (by rfl) (by rfl) (by rfl) (by rfl)).mono ?_;rintro e w3 ⟨g,cap,rfl,ho3,hb3⟩;obtain⟨p0,p1,p2,p3,p4,-,-,-,p9,p10⟩:=(af hb3 bx2.o.1).c;have O3:=aa ho3;have HB3:=aa hb3;clear ho3 hb3))
    all_goals
     go_wp2_with fail
     go_meet
     case rel=>exact⟨rfl,fin10.o _ _ _ O3.o HB3.o⟩
   ·simp only[Value.slice.injEq]at hks;obtain⟨rfl,-,rfl⟩:=hks;clear Mb;unfold maxLen at hc2;have j3:(at_:Int)<=(c1:Int):=by omega
    have j4:(t.keys.length:Int)<=(c1:Int):=by omega
    obtain⟨s1,s2⟩:=qG KK.o.2.2.2.1 at_ at_ (MG _) hia (by omega);obtain⟨a3,hifs⟩:∃ a3,(if c1=at_ then (some ⟨kb,ko,none⟩:Option Addr) else some ⟨kb,ko+at_,none⟩)=a3:=⟨_,rfl⟩
    rw[Nat.mul_one,hifs]at s2;have con:Ll (∀ W,W.heap=((w2.alloc (.cells #[.string ⟨key.toArray⟩] 9)).alloc (.cells #[.slice (some ⟨kb,ko,none⟩) at_ c1,.slice (some ⟨w2.heap.size,0,none⟩) 1 1,.slice a3 (t.keys.length - at_) (c1 - at_)] 36)).heap->W.os=w2.os->W.tape=w2.tape->W.output=w2.output ->
     Calls prog 192 #[.slice (some ⟨w2.heap.size+1,0,none⟩) 3 3] W fun e w'=>∃ g cap,e=.returned (.slice (some ⟨g,0,none⟩) (t.keys.length+1) cap)/\w'.ownsRow w2.heap.size 9 1 (.slice (some ⟨g,0,none⟩) (t.keys.length+1) cap) (t.keys.length+1) ((t.keys.take at_).map aR++[.string ⟨key.toArray⟩]++(t.keys.drop at_).map aR)/\La w2 w'):=by
     intro W e1 e2 e4 e5;exact Jg ⟨key.toArray⟩ (s1.bel B2.o) (s2.bel B2.o) (by omega) (by omega) W e1 e2 e4 e5
    clear s1 s2;go_region_with ((go_at_call 192;refine(con.o _ (by rfl) (by rfl) (by rfl) (by rfl)).mono ?_;rintro e w3 ⟨g,cap,rfl,ho3,hb3⟩;obtain⟨p0,p1,p2,p3,p4,-,-,-,p9,p10⟩:=(af hb3 bx2.o.1).c;have O3:=aa ho3;have HB3:=aa hb3;clear ho3 hb3))
    all_goals
     go_wp2_with fail
     go_meet
     case rel=>exact⟨rfl,fin10.o _ _ _ O3.o HB3.o⟩
  case rest=>
   obtain⟨rfl,gk,kcap,hm1,hm2,hm3,hm4,hm5,hm6⟩:=hcut;have M:Ll (ag wc w.heap.size (.int .i64 t.kind) (.int .i64 t.n) (.string ⟨t.s.toArray⟩) (.slice (some ⟨gk,0,none⟩) (t.keys.length+1) kcap) (.slice a2 t.l.length c2)/\KY wc (w.heap.size+1) x a7 c7 a8 c8/\Lc wc (w.heap.size+2)/\wc.ownsRow w2.heap.size 9 1 (.slice (some ⟨gk,0,none⟩) (t.keys.length+1) kcap) (t.keys.length+1) ((t.keys.take at_).map aR++[aR key]++(t.keys.drop at_).map aR)/\La w wc/\w2.heap.size<=wc.heap.size):=⟨hm1,hm2,hm3,hm4,hm5,hm6⟩
   clear hm1 hm2 hm3 hm4 hm5 fin10;obtain⟨p0,p1,p2,p3,p4,-,-,-,p9,p10⟩:=M.o.1.c;obtain⟨q0,q1,q2,q3,q4,-⟩:=M.o.2.1.c;have k4:∀ o,(wc.alloc o).cell? ⟨w.heap.size,4,none⟩=some (.slice a2 t.l.length c2):=fun o=>(af (ae wc o) M.o.1).c.2.2.2.2.1;have m0:∀ o,(wc.alloc o).cell? ⟨w.heap.size+1,0,none⟩=some (.int .i64 x.kind):=fun o=>(af (ae wc o) M.o.2.1).c.1;have m1:∀ o,(wc.alloc o).cell? ⟨w.heap.size+1,1,none⟩=some (.int .i64 x.n):=fun o=>(af (ae wc o) M.o.2.1).c.2.1;have m2:∀ o,(wc.alloc o).cell? ⟨w.heap.size+1,2,none⟩=some (.string ⟨x.s.toArray⟩):=fun o=>(af (ae wc o) M.o.2.1).c.2.2.1;have m3:∀ o,(wc.alloc o).cell? ⟨w.heap.size+1,3,none⟩=some (.slice a7 x.keys.length c7):=fun o=>(af (ae wc o) M.o.2.1).c.2.2.2.1;have m4:∀ o,(wc.alloc o).cell? ⟨w.heap.size+1,4,none⟩=some (.slice a8 x.l.length c8):=fun o=>(af (ae wc o) M.o.2.1).c.2.2.2.2.1;have hrows:∃ cs1 cs2 v1 v3,cA (bu w ok d) (t.l.take at_) cs1/\cA (bu w ok d) (t.l.drop at_) cs2/\du w 5 v1 at_ cs1/\du w 5 v3 (t.l.length - at_) cs2/\(c2=0/\t.l.length=0/\v1=.slice a2 0 0/\v3=.slice a2 t.l.length 0\/∃ b off,a2=some ⟨b,off,none⟩/\t.l.length<=c2/\c2<=maxLen/\v1=.slice (some ⟨b,off,none⟩) at_ c2/\v3=.slice (if c2=at_ then some ⟨b,off,none⟩ else some ⟨b,off+at_ * 5,none⟩) (t.l.length - at_) (c2 - at_)):=by
    obtain⟨_,K5⟩:=KK.o.2.2.2.2;rcases K5 with⟨e,e2⟩ | ⟨b,off,c,hls,hc1,hc2,Mb⟩
    ·obtain⟨a0,e2⟩:=e2;simp only[Value.slice.injEq]at e2;obtain⟨-,e3,e6⟩:=e2;subst e6;have e4:at_=0:=by omega
     refine⟨[],[],_,_,?_,?_,?_,?_,.inl ⟨rfl,e3,rfl,rfl⟩⟩
     ·rw[e,List.take_nil];rfl
     ·rw[e,List.drop_nil];rfl
     ·rw[e4];exact mi w 5 a2
     ·rw[e3,e4];exact mi w 5 a2
    ·simp only[Value.slice.injEq]at hls;obtain⟨rfl,-,rfl⟩:=hls;obtain⟨cs1,cs2,r1,s1,r2,s2⟩:=km KK.o.2.2.2.2 at_ at_ (MG _) (by omega) (by omega);exact⟨cs1,cs2,_,_,r1,r2,s1,s2,.inr ⟨b,off,rfl,hc1,hc2,rfl,rfl⟩⟩
   obtain⟨cs1,cs2,v1,v3,r1,r2,s1,s3,hcase⟩:=hrows;have con:Ll (∀ W,W.heap=((wc.alloc (.cells (KV x a7 c7 a8 c8) 39)).alloc (.cells #[v1,.slice (some ⟨wc.heap.size,0,none⟩) 1 1,v3] 37)).heap->W.os=wc.os->W.tape=wc.tape->W.output=wc.output ->
    Calls prog 191 #[.slice (some ⟨wc.heap.size+1,0,none⟩) 3 3] W fun e w'=>∃ g cap,e=.returned (.slice (some ⟨g,0,none⟩) (t.l.length+1) cap)/\w'.ownsRow wc.heap.size 39 5 (.slice (some ⟨g,0,none⟩) (t.l.length+1) cap) (t.l.length+1) (cs1++[.int .i64 x.kind,.int .i64 x.n,.string ⟨x.s.toArray⟩,.slice a7 x.keys.length c7,.slice a8 x.l.length c8]++cs2)/\La wc w'):=by
    intro W e1 e2 e4 e5;exact EJ _ _ _ _ _ _ _ _ _ (s1.bel M.o.2.2.2.2.1) (s3.bel M.o.2.2.2.2.1) (by omega) (by omega) W e1 e2 e4 e5
   have fin:Ll (∀ w3 g cap,w3.ownsRow wc.heap.size 39 5 (.slice (some ⟨g,0,none⟩) (t.l.length+1) cap) (t.l.length+1) (cs1++[.int .i64 x.kind,.int .i64 x.n,.string ⟨x.s.toArray⟩,.slice a7 x.keys.length c7,.slice a8 x.l.length c8]++cs2)->La wc w3 ->
    bu (ar (w3.setCell ⟨w.heap.size,4,none⟩ (.slice (some ⟨g,0,none⟩) (t.l.length+1) cap)) (w.heap.size+2) (.int .i64 t.kind) (.int .i64 t.n) (.string ⟨t.s.toArray⟩) (.slice (some ⟨gk,0,none⟩) (t.keys.length+1) kcap) (.slice (some ⟨g,0,none⟩) (t.l.length+1) cap)) (bQ ok w.heap.size) (d+1) { t with keys:=t.keys.take at_++key :: t.keys.drop at_,l:=t.l.take at_++x :: t.l.drop at_ } (.agg #[.int .i64 t.kind,.int .i64 t.n,.string ⟨t.s.toArray⟩,.slice (some ⟨gk,0,none⟩) (t.keys.length+1) kcap,.slice (some ⟨g,0,none⟩) (t.l.length+1) cap]) /\
    La w (ar (w3.setCell ⟨w.heap.size,4,none⟩ (.slice (some ⟨g,0,none⟩) (t.l.length+1) cap)) (w.heap.size+2) (.int .i64 t.kind) (.int .i64 t.n) (.string ⟨t.s.toArray⟩) (.slice (some ⟨gk,0,none⟩) (t.keys.length+1) kcap) (.slice (some ⟨g,0,none⟩) (t.l.length+1) cap))/\ag (ar (w3.setCell ⟨w.heap.size,4,none⟩ (.slice (some ⟨g,0,none⟩) (t.l.length+1) cap)) (w.heap.size+2) (.int .i64 t.kind) (.int .i64 t.n) (.string ⟨t.s.toArray⟩) (.slice (some ⟨gk,0,none⟩) (t.keys.length+1) kcap) (.slice (some ⟨g,0,none⟩) (t.l.length+1) cap)) (w.heap.size+2) (.int .i64 t.kind) (.int .i64 t.n) (.string ⟨t.s.toArray⟩) (.slice (some ⟨gk,0,none⟩) (t.keys.length+1) kcap) (.slice (some ⟨g,0,none⟩) (t.l.length+1) cap)):=by
    intro w3 g cap ho hb;have g1:w3.grownBy (w3.setCell ⟨w.heap.size,4,none⟩ (.slice (some ⟨g,0,none⟩) (t.l.length+1) cap)) (some w.heap.size):=ap (az _ _) _ _;have g2:=aI (w3.setCell ⟨w.heap.size,4,none⟩ (.slice (some ⟨g,0,none⟩) (t.l.length+1) cap)) (w.heap.size+2) (.int .i64 t.kind) (.int .i64 t.n) (.string ⟨t.s.toArray⟩) (.slice (some ⟨gk,0,none⟩) (t.keys.length+1) kcap) (.slice (some ⟨g,0,none⟩) (t.l.length+1) cap);have LU:=((af hb M.o.2.2.1).grown g1 (by simp)).set (.int .i64 t.kind) (.int .i64 t.n) (.string ⟨t.s.toArray⟩) (.slice (some ⟨gk,0,none⟩) (t.keys.length+1) kcap) (.slice (some ⟨g,0,none⟩) (t.l.length+1) cap);have hbw:La w w3:=ab M.o.2.2.2.2.1 hb;have hb9:La w (ar (w3.setCell ⟨w.heap.size,4,none⟩ (.slice (some ⟨g,0,none⟩) (t.l.length+1) cap)) (w.heap.size+2) (.int .i64 t.kind) (.int .i64 t.n) (.string ⟨t.s.toArray⟩) (.slice (some ⟨gk,0,none⟩) (t.keys.length+1) kcap) (.slice (some ⟨g,0,none⟩) (t.l.length+1) cap)):=bS (eD (bi (aq hbw) (MG _) _ _) (by omega) _ _ _ _ _);have hsz3:w.heap.size+2 < w2.heap.size:=hsz2;refine⟨⟨_,_,rfl,KK.o.1,KK.o.2.1,KK.o.2.2.1,?_,?_⟩,hb9,LU⟩
    ·have hk3:=aW (aW (fD M.o.2.2.2.1 hb) g1 (by omega)) g2 (by omega);have LT:t.keys.length+1=(t.keys.take at_++key :: t.keys.drop at_).length:=by simp;omega
     refine kf (B:=w2.heap.size) LT ?_ ?_ (fun k hk=>.inr (by omega)) (by rw[<-LT];unfold maxLen;omega)
     ·have e9:(t.keys.take at_++key :: t.keys.drop at_).map aR=(t.keys.take at_).map aR++[aR key]++(t.keys.drop at_).map aR:=by simp
      rw[e9];exact hk3
     ·intro y hy;simp only[List.mem_append,List.mem_cons]at hy;rcases hy with hy | rfl | hy
      ·exact KK.o.2.2.2.1.mem y (List.mem_of_mem_take hy)
      ·exact hkey
      ·exact KK.o.2.2.2.1.mem y (List.mem_of_mem_drop hy)
    ·have ho9:=aW (aW ho g1 (by omega)) g2 (by omega);have LT:t.l.length+1=(t.l.take at_++x :: t.l.drop at_).length:=by simp;omega
     refine fJ LT ho9 ?_ (fun k hk=>.inr (by omega)) (by rw[<-LT];unfold maxLen;omega);have rx:cA (bu _ (bQ ok w.heap.size) d) [x] [.int .i64 x.kind,.int .i64 x.n,.string ⟨x.s.toArray⟩,.slice a7 x.keys.length c7,.slice a8 x.l.length c8]:=⟨_,_,_,_,_,[],rfl,(HX.o.bel hb9).toN,rfl⟩
     have:=((r2.bel (B:=w.heap.size) hb9).append rx).append (r1.bel (B:=w.heap.size) hb9);rw[List.append_assoc];exact this
   clear r1 r2 s1 s3;have hfinish:Ll True:=trivial;rcases hcase with⟨rfl,e3,rfl,rfl⟩ | ⟨b,off,rfl,hc1,hc2,rfl,hv3⟩
   ·have j6:(t.l.length:Int)<=0:=by omega
    have E3:=aa e3;have e7:at_=0:=by omega
    clear e3;subst e7;go_upto_region 11 with fail
    go_region_with ((go_at_call 191;refine(con.o _ (by rfl) (by rfl) (by rfl) (by rfl)).mono ?_;rintro e w3 ⟨g,cap,rfl,ho3,hb3⟩;obtain⟨p0,p1,p2,p3,p4,-,-,-,p9,p10⟩:=(af hb3 M.o.1).c;have x0_:=(af hb3 M.o.2.2.1).c;have O3:=aa ho3;have HB3:=aa hb3;clear ho3 hb3))
    all_goals
     go_wp2_with fail
     obtain⟨f1,f2,f3⟩:=fin.o _ g cap O3.o HB3.o;have z0_:=f3.c;refine MM (v:=.agg #[.int .i64 t.kind,.int .i64 t.n,.string ⟨t.s.toArray⟩,.slice (some ⟨gk,0,none⟩) (t.keys.length+1) kcap,.slice (some ⟨g,0,none⟩) (t.l.length+1) cap]) ?_ rfl ?_
     ·simp only[ar]at z0_;simp[results,results158,go_sem,z0_]
     ·rw[HAT.o];exact⟨_,rfl,f1,f2⟩
   ·obtain⟨a3,hifs⟩:∃ a3,(if c2=at_ then (some ⟨b,off,none⟩:Option Addr) else some ⟨b,off+at_ * 5,none⟩)=a3:=⟨_,rfl⟩
    rw[hifs]at hv3;subst hv3;unfold maxLen at hc2;have j5:(at_:Int)<=(c2:Int):=by omega
    have j6:(t.l.length:Int)<=(c2:Int):=by omega
    go_upto_region 11 with fail
    go_region_with ((go_at_call 191;refine(con.o _ (by rfl) (by rfl) (by rfl) (by rfl)).mono ?_;rintro e w3 ⟨g,cap,rfl,ho3,hb3⟩;obtain⟨p0,p1,p2,p3,p4,-,-,-,p9,p10⟩:=(af hb3 M.o.1).c;have x0_:=(af hb3 M.o.2.2.1).c;have O3:=aa ho3;have HB3:=aa hb3;clear ho3 hb3))
    all_goals
     go_wp2_with fail
     obtain⟨f1,f2,f3⟩:=fin.o _ g cap O3.o HB3.o;have z0_:=f3.c;refine MM (v:=.agg #[.int .i64 t.kind,.int .i64 t.n,.string ⟨t.s.toArray⟩,.slice (some ⟨gk,0,none⟩) (t.keys.length+1) kcap,.slice (some ⟨g,0,none⟩) (t.l.length+1) cap]) ?_ rfl ?_
     ·simp only[ar]at z0_;simp[results,results158,go_sem,z0_]
     ·have hat:=HAT.o;subst hat;exact⟨_,rfl,f1,f2⟩
end
theorem ut:vW:=by
 intro w ok d t x v xv key h hx hp L9 hkey;have hk:dO t key=TN key t.keys:=by simp[dO,hp]
 cases hf:dO t key with
 | some i=>
  have e:aG t key x={ t with l:=t.l.take i++x :: t.l.drop (i+1) }:=by
   unfold aG;rw[if_pos hp,<-hk,hf]
  rw[e];exact yX w ok d t x v xv key i h hx hf L9
 | none=>
  have e:aG t key x={ t with keys:=t.keys.take (em key t.keys)++key :: t.keys.drop (em key t.keys),l:=t.l.take (em key t.keys)++x :: t.l.drop (em key t.keys) }:=by
   unfold aG;rw[if_pos hp,<-hk,hf];rfl
  rw[e];exact ER w ok d t x v xv key h hx hf hp L9 hkey
section
attribute [local go_sem ↓] Go.wp_at_zero Go.wp_at_succ
theorem pK{w2 v1 v3 n1 n3 N cs1 cs3}(s1:du w2 1 v1 n1 cs1)(s3:du w2 1 v3 n3 cs3)(hN:n1+n3=N)(hn:N<=1000000)(W)(e1:W.heap=(w2.alloc (.cells #[v1,v3] 36)).heap)(e2:W.os=w2.os)(e3:W.tape=w2.tape)(e4:W.output=w2.output):Calls prog 192 #[.slice (some ⟨w2.heap.size,0,none⟩) 2 2] W fun e w'=>∃ a cap,e=.returned (.slice a N cap)/\w'.ownsRow w2.heap.size 9 1 (.slice a N cap) N (cs1++cs3)/\La w2 w':=by
 have LY:La w2 W:=by
  have:=ae w2 (.cells #[v1,v3] 36);exact⟨e2,e3,e4,by rw[e1];exact this.size,fun k hk=>by rw[e1];exact this.block k hk⟩
 have hb:=MN w2 (.cells #[v1,v3] 36);rw[<-e1]at hb;refine(At W w2.heap.size 0 2 [⟨v1,n1,cs1⟩,⟨v3,n3,cs3⟩] ?_ (by simp[dl];omega) (by simp) (by simp)).mono ?_
 ·intro i p hp;match i,hp with
  | 0,hp=>simp at hp;subst hp;exact⟨by simp[World.cell?,hb],s1.bel LY⟩
  | 1,hp=>simp at hp;subst hp;exact⟨by simp[World.cell?,hb],s3.bel LY⟩
 rintro e w' ⟨v,rfl,ho,hb9⟩;have q1:dl [⟨v1,n1,cs1⟩,⟨v3,n3,cs3⟩]=N:=by simp[dl];omega
 have q2:fQ [⟨v1,n1,cs1⟩,⟨v3,n3,cs3⟩]=cs1++cs3:=by simp[fQ]
 rw[q1,q2]at ho;have ho':=TP ho LY.size;rcases ho'.2 with⟨e,h0⟩ | ⟨g,cap,cur,e,rest⟩
 ·subst e;subst h0;exact⟨none,0,rfl,ho',ab LY hb9⟩
 ·subst e;exact⟨_,cap,rfl,ho',ab LY hb9⟩
theorem nB{w2 v1 v3 n1 n3 N cs1 cs3}(s1:du w2 5 v1 n1 cs1)(s3:du w2 5 v3 n3 cs3)(hN:n1+n3=N)(hn:N<=1000000)(W)(e1:W.heap=(w2.alloc (.cells #[v1,v3] 37)).heap)(e2:W.os=w2.os)(e3:W.tape=w2.tape)(e4:W.output=w2.output):Calls prog 191 #[.slice (some ⟨w2.heap.size,0,none⟩) 2 2] W fun e w'=>∃ a cap,e=.returned (.slice a N cap)/\w'.ownsRow w2.heap.size 39 5 (.slice a N cap) N (cs1++cs3)/\La w2 w':=by
 have LY:La w2 W:=by
  have:=ae w2 (.cells #[v1,v3] 37);exact⟨e2,e3,e4,by rw[e1];exact this.size,fun k hk=>by rw[e1];exact this.block k hk⟩
 have hb:=MN w2 (.cells #[v1,v3] 37);rw[<-e1]at hb;refine(Av W w2.heap.size 0 2 [⟨v1,n1,cs1⟩,⟨v3,n3,cs3⟩] ?_ (by simp[dl];omega) (by simp) (by simp)).mono ?_
 ·intro i p hp;match i,hp with
  | 0,hp=>simp at hp;subst hp;exact⟨by simp[World.cell?,hb],s1.bel LY⟩
  | 1,hp=>simp at hp;subst hp;exact⟨by simp[World.cell?,hb],s3.bel LY⟩
 rintro e w' ⟨v,rfl,ho,hb9⟩;have q1:dl [⟨v1,n1,cs1⟩,⟨v3,n3,cs3⟩]=N:=by simp[dl];omega
 have q2:fQ [⟨v1,n1,cs1⟩,⟨v3,n3,cs3⟩]=cs1++cs3:=by simp[fQ]
 rw[q1,q2]at ho;have ho':=TP ho LY.size;rcases ho'.2 with⟨e,h0⟩ | ⟨g,cap,cur,e,rest⟩
 ·subst e;subst h0;exact⟨none,0,rfl,ho',ab LY hb9⟩
 ·subst e;exact⟨_,cap,rfl,ho',ab LY hb9⟩
def Ty (w w2:LC) (t:V) (i:Nat) (a2:Option Addr) (c2:Nat) (wc:LC):Prop:=
 ∃ a9 c9,ag wc w.heap.size (.int .i64 t.kind) (.int .i64 t.n) (.string ⟨t.s.toArray⟩) (.slice a9 (t.keys.length - 1) c9) (.slice a2 t.l.length c2) /\
  Lc wc (w.heap.size+1) /\
  wc.ownsRow w2.heap.size 9 1 (.slice a9 (t.keys.length - 1) c9) (t.keys.length - 1) ((t.keys.take i).map aR++(t.keys.drop (i+1)).map aR) /\
  La w wc/\w2.heap.size<=wc.heap.size
theorem tY(w ok d t v key)(h:bu w ok (d+1) t v)(hf:dO t key=none):Calls prog 163 #[v,aR key] w fun e w'=>∃ r,e=.returned r/\bu w' (bQ ok w.heap.size) (d+1) t r/\La w w':=by
 have H:=aa h;obtain⟨ks,ls,rfl,h1,h2,h3,h4,h5⟩:=h;obtain⟨a1,c1,rfl⟩:=h4.form;obtain⟨a2,c2,rfl⟩:=h5.form;have l1:=h4.1;have l2:=h5.1;have F:=aa hf;clear hf;unfold maxLen at l1 h3 l2;unfold aR;clear h4 h5 h1 h2;go_enter func163,ntmps163;go_wp2_with fail
 refine Lk (kJ _ ok _ t _ key (by exact H.o.bel (ab (ae _ _) (ae _ _)))) fun w2 hb2=>?_;rw[F.o];have bx2:Ll (KY w2 w.heap.size t a1 c1 a2 c2/\Lc w2 (w.heap.size+1)):=⟨af hb2 (fb w _ _),af hb2 (et w _ _)⟩
 have B2:Ll (La w w2):=ab (ab (ae _ _) (ae _ _)) hb2;clear hb2;unfold pS;have p0_:=bx2.o.1.c;have x0_:=bx2.o.2.c;obtain⟨z0,z1,z2,z3,z4,-⟩:=(LH bx2.o.2.set t a1 c1 a2 c2).c;have Z:Ll (_/\_/\_/\_/\_):=⟨z0,z1,z2,z3,z4⟩
 go_wp2_with fail
 obtain⟨z0,z1,z2,z3,z4⟩:=Z.o;refine MM (v:=.agg (KV t a1 c1 a2 c2)) ?_ rfl ?_
 ·simp only[ar]at z0 z1 z2 z3 z4;simp[results,results163,go_sem,z0,z1,z2,z3,z4]
 ·have hb9:=bS (eD (aq (r:=none) B2.o) (Nat.le_succ w.heap.size) (.int .i64 t.kind) (.int .i64 t.n) (.string ⟨t.s.toArray⟩) (.slice a1 t.keys.length c1) (.slice a2 t.l.length c2));exact⟨_,rfl,(H.o.bel hb9).toN,hb9⟩
theorem rk(w ok d t v key i)(h:bu w ok (d+1) t v)(hf:dO t key=some i)(L9:t.l.length<=100000):Calls prog 163 #[v,aR key] w fun e w'=>∃ r,e=.returned r/\bu w' (bQ ok w.heap.size) (d+1) { t with keys:=t.keys.take i++t.keys.drop (i+1),l:=t.l.take i++t.l.drop (i+1) } r/\La w w':=by
 have H:=aa h;obtain⟨ks,ls,rfl,h1,h2,h3,h4,h5⟩:=h;have KK:Ll (dW t.kind/\dW t.n/\t.s.length<=maxLen/\ao w ok t.keys ks/\cS w ok (bu w ok d) t.l ls):=⟨h1,h2,h3,h4,h5⟩
 obtain⟨f1,f2,f3,f4⟩:=fW hf;have hkl:t.keys.length=t.l.length:=by
  simp only[aK,MJ,decide_eq_true_eq]at f1;exact f1.2
 have F:=aa hf;have hkl1:t.keys.length<=t.l.length:=by omega
 have hkl2:t.l.length<=t.keys.length:=by omega
 clear hf f1 f2 f4 hkl;obtain⟨_,K4⟩:=h4;rcases K4 with⟨e,_⟩ | ⟨kb,ko,c1,hks,kc1,kc2,-⟩
 ·have:t.keys.length=0:=by rw[e];rfl
  omega
 subst hks;obtain⟨_,K5⟩:=h5;rcases K5 with⟨e,_⟩ | ⟨b,off,c2,hls,hc1,hc2,-⟩
 ·rw[e]at f3;simp at f3
 subst hls;unfold maxLen at h3 hc2 kc2;unfold aR;clear h1 h2;have hsz2:t.keys.length<=100000:=by omega
 have hik:i < t.keys.length:=by omega
 go_enter func163,ntmps163;go_wp2_with fail
 refine Lk (kJ _ ok _ t _ key (by exact H.o.bel (ab (ae _ _) (ae _ _)))) fun w2 hb2=>?_;rw[F.o];have bx2:Ll (ag w2 w.heap.size (.int .i64 t.kind) (.int .i64 t.n) (.string ⟨t.s.toArray⟩) (.slice (some ⟨kb,ko,none⟩) t.keys.length c1) (.slice (some ⟨b,off,none⟩) t.l.length c2)/\Lc w2 (w.heap.size+1)):=⟨af hb2 (fb w _ _),af hb2 (et w _ _)⟩
 have B2:Ll (La w w2):=ab (ab (ae _ _) (ae _ _)) hb2;have hsz3:w.heap.size+1 < w2.heap.size:=bx2.o.2.lt;clear hb2;unfold pS;obtain⟨p0,p1,p2,p3,p4,-,-,-,p9,p10⟩:=bx2.o.1.c;have i0:0<=(i:Int):=by omega
 have i1:(i:Int)<=(c1:Int):=by omega
 have i2:(i:Int)+1<=(t.keys.length:Int):=by omega
 have i3:(t.keys.length:Int)<=(c1:Int):=by omega
 have hw1:IntKind.i64.wrap ((i:Int)+1)=(i:Int)+1:=by rw[IntKind.wrap_i64];omega
 have i4:(0:Int)<=(i:Int)+1:=by omega
 have j1:(i:Int)<=(c2:Int):=by omega
 have j2:(i:Int)+1<=(t.l.length:Int):=by omega
 have j3:(t.l.length:Int)<=(c2:Int):=by omega
 have fin10:Ll (∀ w3 a9 cap,w3.ownsRow w2.heap.size 9 1 (.slice a9 (t.keys.length - 1) cap) (t.keys.length - 1) ((t.keys.take i).map aR++(t.keys.drop (i+1)).map aR)->La w2 w3 ->
  Ty w w2 t i (some ⟨b,off,none⟩) c2 (w3.setCell ⟨w.heap.size,3,none⟩ (.slice a9 (t.keys.length - 1) cap))):=by
  intro w3 a9 cap ho hb;have g1:w3.grownBy (w3.setCell ⟨w.heap.size,3,none⟩ (.slice a9 (t.keys.length - 1) cap)) (some w.heap.size):=ap (az _ _) _ _;refine⟨a9,cap,xx (af hb bx2.o.1) _,(af hb bx2.o.2).grown g1 (by simp),aW ho g1 (by omega),?_,MH hb.size g1.size⟩;exact bS (bi (aq (ab B2.o hb)) (MG _) _ _)
 go_upto_region 4 with fail
 go_cut [5] (fun j wc'=>j=.int .i64 (i:Nat)/\Ty w w2 t i (some ⟨b,off,none⟩) c2 wc')
 case first=>
  have k3:∀ o,(w2.alloc o).cell? ⟨w.heap.size,3,none⟩=some (.slice (some ⟨kb,ko,none⟩) t.keys.length c1):=fun o=>(af (ae w2 o) bx2.o.1).c.2.2.2.1;obtain⟨s1,s2⟩:=qG KK.o.2.2.2.1 i (i+1) (by omega) hik (by omega);obtain⟨a3,hifs⟩:∃ a3,(if c1=i+1 then (some ⟨kb,ko,none⟩:Option Addr) else some ⟨kb,ko+(i+1),none⟩)=a3:=⟨_,rfl⟩
  rw[Nat.mul_one,hifs]at s2;have con:Ll (∀ W,W.heap=(w2.alloc (.cells #[.slice (some ⟨kb,ko,none⟩) i c1,.slice a3 (t.keys.length - (i+1)) (c1 - (i+1))] 36)).heap->W.os=w2.os->W.tape=w2.tape->W.output=w2.output ->
   Calls prog 192 #[.slice (some ⟨w2.heap.size,0,none⟩) 2 2] W fun e w'=>∃ a9 cap,e=.returned (.slice a9 (t.keys.length - 1) cap)/\w'.ownsRow w2.heap.size 9 1 (.slice a9 (t.keys.length - 1) cap) (t.keys.length - 1) ((t.keys.take i).map aR++(t.keys.drop (i+1)).map aR)/\La w2 w'):=by
   intro W e1 e2 e4 e5;exact pK (s1.bel B2.o) (s2.bel B2.o) (by omega) (by omega) W e1 e2 e4 e5
  clear s1 s2;go_region_with ((go_at_call 192;refine(con.o _ (by rfl) (by rfl) (by rfl) (by rfl)).mono ?_;rintro e w3 ⟨a9,cap,rfl,ho3,hb3⟩;obtain⟨p0,p1,p2,p3,p4,-,-,-,p9,p10⟩:=(af hb3 bx2.o.1).c;have O3:=aa ho3;have HB3:=aa hb3;clear ho3 hb3))
  all_goals
   go_wp2_with fail
   go_meet
   case rel=>exact⟨rfl,fin10.o _ _ _ O3.o HB3.o⟩
 case rest=>
  obtain⟨rfl,a9,kcap,hm1,hm2,hm3,hm4,hm5⟩:=hcut;have M:Ll (ag wc w.heap.size (.int .i64 t.kind) (.int .i64 t.n) (.string ⟨t.s.toArray⟩) (.slice a9 (t.keys.length - 1) kcap) (.slice (some ⟨b,off,none⟩) t.l.length c2)/\Lc wc (w.heap.size+1)/\wc.ownsRow w2.heap.size 9 1 (.slice a9 (t.keys.length - 1) kcap) (t.keys.length - 1) ((t.keys.take i).map aR++(t.keys.drop (i+1)).map aR)/\La w wc/\w2.heap.size<=wc.heap.size):=⟨hm1,hm2,hm3,hm4,hm5⟩
  clear hm1 hm2 hm3 hm4 fin10;obtain⟨p0,p1,p2,p3,p4,-,-,-,p9,p10⟩:=M.o.1.c;have k4:∀ o,(wc.alloc o).cell? ⟨w.heap.size,4,none⟩=some (.slice (some ⟨b,off,none⟩) t.l.length c2):=fun o=>(af (ae wc o) M.o.1).c.2.2.2.2.1;obtain⟨cs1,cs2,r1,s1,r2,s2⟩:=km KK.o.2.2.2.2 i (i+1) (by omega) f3 (by omega);obtain⟨a3,hifs⟩:∃ a3,(if c2=i+1 then (some ⟨b,off,none⟩:Option Addr) else some ⟨b,off+(i+1) * 5,none⟩)=a3:=⟨_,rfl⟩
  rw[hifs]at s2;have con:Ll (∀ W,W.heap=(wc.alloc (.cells #[.slice (some ⟨b,off,none⟩) i c2,.slice a3 (t.l.length - (i+1)) (c2 - (i+1))] 37)).heap->W.os=wc.os->W.tape=wc.tape->W.output=wc.output ->
   Calls prog 191 #[.slice (some ⟨wc.heap.size,0,none⟩) 2 2] W fun e w'=>∃ a8 cap,e=.returned (.slice a8 (t.l.length - 1) cap)/\w'.ownsRow wc.heap.size 39 5 (.slice a8 (t.l.length - 1) cap) (t.l.length - 1) (cs1++cs2)/\La wc w'):=by
   intro W e1 e2 e4 e5;exact nB (s1.bel M.o.2.2.2.1) (s2.bel M.o.2.2.2.1) (by omega) (by omega) W e1 e2 e4 e5
  have fin:Ll (∀ w3 a8 cap,w3.ownsRow wc.heap.size 39 5 (.slice a8 (t.l.length - 1) cap) (t.l.length - 1) (cs1++cs2)->La wc w3 ->
   bu (ar (w3.setCell ⟨w.heap.size,4,none⟩ (.slice a8 (t.l.length - 1) cap)) (w.heap.size+1) (.int .i64 t.kind) (.int .i64 t.n) (.string ⟨t.s.toArray⟩) (.slice a9 (t.keys.length - 1) kcap) (.slice a8 (t.l.length - 1) cap)) (bQ ok w.heap.size) (d+1) { t with keys:=t.keys.take i++t.keys.drop (i+1),l:=t.l.take i++t.l.drop (i+1) } (.agg #[.int .i64 t.kind,.int .i64 t.n,.string ⟨t.s.toArray⟩,.slice a9 (t.keys.length - 1) kcap,.slice a8 (t.l.length - 1) cap]) /\
   La w (ar (w3.setCell ⟨w.heap.size,4,none⟩ (.slice a8 (t.l.length - 1) cap)) (w.heap.size+1) (.int .i64 t.kind) (.int .i64 t.n) (.string ⟨t.s.toArray⟩) (.slice a9 (t.keys.length - 1) kcap) (.slice a8 (t.l.length - 1) cap))/\ag (ar (w3.setCell ⟨w.heap.size,4,none⟩ (.slice a8 (t.l.length - 1) cap)) (w.heap.size+1) (.int .i64 t.kind) (.int .i64 t.n) (.string ⟨t.s.toArray⟩) (.slice a9 (t.keys.length - 1) kcap) (.slice a8 (t.l.length - 1) cap)) (w.heap.size+1) (.int .i64 t.kind) (.int .i64 t.n) (.string ⟨t.s.toArray⟩) (.slice a9 (t.keys.length - 1) kcap) (.slice a8 (t.l.length - 1) cap)):=by
   intro w3 a8 cap ho hb;have g1:w3.grownBy (w3.setCell ⟨w.heap.size,4,none⟩ (.slice a8 (t.l.length - 1) cap)) (some w.heap.size):=ap (az _ _) _ _;have g2:=aI (w3.setCell ⟨w.heap.size,4,none⟩ (.slice a8 (t.l.length - 1) cap)) (w.heap.size+1) (.int .i64 t.kind) (.int .i64 t.n) (.string ⟨t.s.toArray⟩) (.slice a9 (t.keys.length - 1) kcap) (.slice a8 (t.l.length - 1) cap);have LU:=((af hb M.o.2.1).grown g1 (by simp)).set (.int .i64 t.kind) (.int .i64 t.n) (.string ⟨t.s.toArray⟩) (.slice a9 (t.keys.length - 1) kcap) (.slice a8 (t.l.length - 1) cap);have hbw:La w w3:=ab M.o.2.2.2.1 hb;have hb9:La w (ar (w3.setCell ⟨w.heap.size,4,none⟩ (.slice a8 (t.l.length - 1) cap)) (w.heap.size+1) (.int .i64 t.kind) (.int .i64 t.n) (.string ⟨t.s.toArray⟩) (.slice a9 (t.keys.length - 1) kcap) (.slice a8 (t.l.length - 1) cap)):=bS (eD (bi (aq hbw) (MG _) _ _) (by omega) _ _ _ _ _);refine⟨⟨_,_,by simp only[Mx,MC,MB];congr 5 <;> omega,KK.o.1,KK.o.2.1,KK.o.2.2.1,?_,?_⟩,hb9,LU⟩
   ·have hk3:=aW (aW (fD M.o.2.2.1 hb) g1 (by omega)) g2 (by omega);have LT:t.keys.length - 1=(t.keys.take i++t.keys.drop (i+1)).length:=by simp;omega
    refine kf (B:=w2.heap.size) LT ?_ ?_ (fun k hk=>.inr (by omega)) (by rw[<-LT];unfold maxLen;omega)
    ·rw[List.map_append];exact hk3
    ·intro y hy;simp only[List.mem_append]at hy;rcases hy with hy | hy
     ·exact KK.o.2.2.2.1.mem y (List.mem_of_mem_take hy)
     ·exact KK.o.2.2.2.1.mem y (List.mem_of_mem_drop hy)
   ·have ho9:=aW (aW ho g1 (by omega)) g2 (by omega);have LT:t.l.length - 1=(t.l.take i++t.l.drop (i+1)).length:=by simp;omega
    refine fJ LT ho9 ?_ (fun k hk=>.inr (by omega)) (by rw[<-LT];unfold maxLen;omega);exact(r2.bel (B:=w.heap.size) hb9).append (r1.bel (B:=w.heap.size) hb9)
  clear r1 r2 s1 s2;go_upto_region 5 with fail
  go_region_with ((go_at_call 191;refine(con.o _ (by rfl) (by rfl) (by rfl) (by rfl)).mono ?_;rintro e w3 ⟨a8,cap,rfl,ho3,hb3⟩;obtain⟨p0,p1,p2,p3,p4,-,-,-,p9,p10⟩:=(af hb3 M.o.1).c;have x0_:=(af hb3 M.o.2.1).c;have O3:=aa ho3;have HB3:=aa hb3;clear ho3 hb3))
  all_goals
   go_wp2_with fail
   obtain⟨f1,f2,f3⟩:=fin.o _ a8 cap O3.o HB3.o;have z0_:=f3.c;refine MM (v:=.agg #[.int .i64 t.kind,.int .i64 t.n,.string ⟨t.s.toArray⟩,.slice a9 (t.keys.length - 1) kcap,.slice a8 (t.l.length - 1) cap]) ?_ rfl ?_
   ·simp only[ar]at z0_;simp[results,results163,go_sem,z0_]
   ·exact⟨_,rfl,f1,f2⟩
theorem ui(w ok d t v key)(h:bu w ok (d+1) t v)(L9:t.l.length<=100000):Calls prog 163 #[v,aR key] w fun e w'=>∃ r,e=.returned r/\bu w' (bQ ok w.heap.size) (d+1) (bH t key) r/\La w w':=by
 unfold bH;cases hf:dO t key with
 | none=>exact tY w ok d t v key h hf
 | some i=>exact rk w ok d t v key i h hf L9
end
theorem gf(w ok t x v xv key)(h:In w ok t v)(hx:In w ok x xv)(hp:aK t=true)(hl:t.l.length<=100000)(hk:key.length<=9223372036854775807):Calls prog 158 #[v,aR key,xv] w fun e w'=>∃ r,e=.returned r/\In w' (bQ ok w.heap.size) (aG t key x) r/\La w w':=by
 obtain⟨d,h1,h2⟩:=h.two hx;refine(ut w ok d t x v xv key h1 h2 hp hl hk).mono ?_;rintro e w' ⟨r,rfl,hr,hb⟩;exact⟨r,rfl,hr.is,hb⟩
theorem jD(w ok t v key)(h:In w ok t v)(hl:t.l.length<=100000):Calls prog 163 #[v,aR key] w fun e w'=>∃ r,e=.returned r/\In w' (bQ ok w.heap.size) (bH t key) r/\La w w':=by
 obtain⟨d,h⟩:=h.at;refine(ui w ok d t v key h hl).mono ?_;rintro e w' ⟨r,rfl,hr,hb⟩;exact⟨r,rfl,hr.is,hb⟩
variable {c d:Nat}
theorem tg{l a}(h:cS w ok (bu w ok d) l (.slice a n c))(i j)(hij:i<=j)(hj:j<=l.length)(hl:l.length<=1000000):∃ cs1 cs2 v1 v3,cA (bu w ok d) (l.take i) cs1/\cA (bu w ok d) (l.drop j) cs2/\du w 5 v1 i cs1/\du w 5 v3 (l.length - j) cs2/\(c=0/\l.length=0/\v1=.slice a 0 0/\v3=.slice a l.length 0\/∃ b off,a=some ⟨b,off,none⟩/\l.length<=c/\c<=9223372036854775807/\v1=.slice (some ⟨b,off,none⟩) i c/\v3=.slice (if c=j then some ⟨b,off,none⟩ else some ⟨b,off+j * 5,none⟩) (l.length - j) (c - j)):=by
 have h':=h;obtain⟨_,K5⟩:=h;rcases K5 with⟨e,e2⟩ | ⟨b,off,c,hls,hc1,hc2,Mb⟩
 ·obtain⟨a0,e2⟩:=e2;simp only[Value.slice.injEq]at e2;obtain⟨-,e3,e6⟩:=e2;subst e6;have e4:l.length=0:=by rw[e];rfl
  have e5:j=0:=by omega
  have e7:i=0:=by omega
  refine⟨[],[],_,_,?_,?_,?_,?_,.inl ⟨rfl,e4,rfl,rfl⟩⟩
  ·rw[e,List.take_nil];rfl
  ·rw[e,List.drop_nil];rfl
  ·rw[e7];exact mi w 5 a
  ·rw[e4,e5];exact mi w 5 a
 ·simp only[Value.slice.injEq]at hls;obtain⟨rfl,rfl,rfl⟩:=hls;obtain⟨cs1,cs2,r1,s1,r2,s2⟩:=km h' i j hij hj hl;exact⟨cs1,cs2,_,_,r1,r2,s1,s2,.inr ⟨b,off,rfl,hc1,hc2,rfl,rfl⟩⟩
theorem eI(w ok t v s)(h:In w ok t v)(hs:s.length<=9223372036854775807):Calls prog 235 #[v,aR s] w fun e w'=>∃ x b,e=.returned (.tuple #[x,.bool b])/\La w w'/\cZ w' ok (cg t s) x b:=by
 have H:=aa h.low;have HO:=aa h;obtain⟨l1,l2,l3⟩:=h.lens;obtain⟨a1,a2,c1,c2,rfl⟩:=h.form;clear h;by_cases hk:t.kind=4
 ·have q1:(t.kind == 4)=true:=by rw[hk];rfl
  have q2:(t.kind != 4)=false:=by rw[hk];rfl
  by_cases hm:∃ i,cX t.l.length s=some i/\i < t.l.length
  ·obtain⟨i,hp,hi⟩:=hm;have HM:Ll (cg t s=some t.l[i]):=aa (by unfold cg;rw[if_pos hk,hp,Option.bind_some,Mw hi]);have HP:=aa hp;have e1:((i:Int) == (t.l.length:Int))=false:=by rw[MO];omega
   clear hp hk;obtain⟨b,off,a5,c5,a6,c6,rfl,hc1,hc2,g0,g1,g2,g3,g4,g5⟩:=HO.o.item hi;have G:Ll (_/\_/\_/\_/\_):=⟨g0,g1,g2,g3,g4⟩
   have G5:=aa g5.low;clear g0 g1 g2 g3 g4 g5;go_enter func235,ntmps235;go_wp2_with fail
   refine(jb _ _ t.l.length c2 s l2 hs).mono ?_;rintro e w1 ⟨rfl,hw⟩;rw[HP.o];unfold ow;have hb1:La w w1:=by rw[hw];exact ab (ae _ _) (ae _ _)
   have LU:Lc w1 (w.heap.size+1):=by rw[hw];exact et w _ _
   have hbv:ag w1 w.heap.size (.int .i64 t.kind) (.int .i64 t.n) (.string ⟨t.s.toArray⟩) (.slice a1 t.keys.length c1) (.slice (some ⟨b,off,none⟩) t.l.length c2):=by rw[hw];exact fb w _ _
   obtain⟨-,-,-,-,p4,-⟩:=hbv.c;have x0_:=LU.c;have Z:Ll (La w w1/\ag (ar w1 (w.heap.size+1) (.int .i64 t.l[i].kind) (.int .i64 t.l[i].n) (.string ⟨t.l[i].s.toArray⟩) (.slice a5 t.l[i].keys.length c5) (.slice a6 t.l[i].l.length c6)) (w.heap.size+1) (.int .i64 t.l[i].kind) (.int .i64 t.l[i].n) (.string ⟨t.l[i].s.toArray⟩) (.slice a5 t.l[i].keys.length c5) (.slice a6 t.l[i].l.length c6)):=⟨hb1,LU.set _ _ _ _ _⟩
   obtain⟨g0,g1,g2,g3,g4⟩:=G.o;have m0:=ah hb1 g0;have m1:=ah hb1 g1;have m2:=ah hb1 g2;have m3:=ah hb1 g3;have m4:=ah hb1 g4;clear hw hb1 LU hbv g0 g1 g2 g3 g4 G;simp only[Option.getD_some,Option.isSome_some];go_wp2_with fail
   have z0_:=Z.o.2.c;refine MM (v:=.tuple #[.agg #[.int .i64 t.l[i].kind,.int .i64 t.l[i].n,.string ⟨t.l[i].s.toArray⟩,.slice a5 t.l[i].keys.length c5,.slice a6 t.l[i].l.length c6],.bool true]) ?_ rfl ?_
   ·simp only[ar]at z0_;simp[results,results235,go_sem,z0_]
   ·refine⟨_,_,rfl,aP Z.o.1 (Nat.le_succ _) _ _ _ _ _,?_⟩;rw[HM.o];exact cZ.some (((G5.o.bel Z.o.1).grown (aI w1 _ _ _ _ _ _) (fun k hk=>by omega)).weak fun k hk=>hk.1)
  ·have HM:Ll (cg t s=none):=aa (by
    unfold cg;rw[if_pos hk];cases hp:cX t.l.length s with
    | none=>rfl
    | some i=>rw[Option.bind_some,List.getElem?_eq_none];exact Nat.le_of_not_lt fun h=>hm ⟨i,hp,h⟩)
   have hq:((cX t.l.length s).isSome=false/\cX t.l.length s=none)\/cX t.l.length s=some t.l.length:=by
    cases hp:cX t.l.length s with
    | none=>exact .inl ⟨rfl,rfl⟩
    | some i=>
     have h1:=pV hp;have h2:¬i < t.l.length:=fun h=>hm ⟨i,hp,h⟩;exact .inr (by rw[show i=t.l.length by omega])
   have e1:((t.l.length:Int) == (t.l.length:Int))=true:=by simp
   clear hm hk;rcases hq with⟨-,hp⟩ | hp
   all_goals
    have HP:=aa hp;clear hp;go_enter func235,ntmps235;go_wp2_with fail
    refine(jb _ _ t.l.length c2 s l2 hs).mono ?_;rintro e w1 ⟨rfl,hw⟩;rw[HP.o];unfold ow;have hb1:La w w1:=by rw[hw];exact ab (ae _ _) (ae _ _)
    have LU:Lc w1 (w.heap.size+1):=by rw[hw];exact et w _ _
    have hbv:KY w1 w.heap.size t a1 c1 a2 c2:=by rw[hw];exact fb w _ _
    obtain⟨-,-,-,-,p4,-⟩:=hbv.c;have x0_:=LU.c;have Z:Ll (La w w1/\Lc (ar w1 (w.heap.size+1) (.int .i64 0) (.int .i64 0) (.string ⟨#[]⟩) (.slice none 0 0) (.slice none 0 0)) (w.heap.size+1)):=⟨hb1,LU.set _ _ _ _ _⟩
    clear hw hb1 LU hbv;simp only[Option.getD_some,Option.isSome_some,Option.getD_none,Option.isSome_none];go_wp2_with fail
    have z0_:=Z.o.2.c;refine MM (v:=.tuple #[.agg Lb,.bool false]) ?_ rfl ?_
    ·simp only[ar]at z0_;simp[results,results235,go_sem,z0_]
    ·refine⟨_,_,rfl,aP Z.o.1 (Nat.le_succ _) _ _ _ _ _,?_⟩;rw[HM.o];exact cZ.none (fG _ _)
 ·have q1:(t.kind == 4)=false:=by rw[MO];exact hk
  have q2:(t.kind != 4)=true:=by rw[bne_iff_ne];exact hk
  have HM:Ll (cg t s=aS t s):=aa (by unfold cg;rw[if_neg hk]);clear hk;go_enter func235,ntmps235;go_wp2_with fail
  refine(co _ (Lj ok w) t _ s (by exact H.o.bel (ab (ae _ _) (ae _ _)))).mono ?_;rintro e w1 ⟨x,b,rfl,hb1,hb2,y,hy,hyz⟩;obtain⟨a5,a6,c5,c6,rfl⟩:=hy.form;have R:Ll (La w w1/\b=(cg t s).isSome/\In w1 (Lj ok w) y (.agg (KV y a5 c5 a6 c6))/\∀ z,cg t s=some z->y=z):=
   ⟨ab (ab (ae _ _) (ae _ _)) hb1,by rw[HM.o];exact hb2,hy,by rw[HM.o];exact hyz⟩
  have LU:Lc w1 (w.heap.size+1):=af hb1 (et w _ _);have x0_:=LU.c;have Z:Ll (KY (LG w1 (w.heap.size+1) y a5 c5 a6 c6) (w.heap.size+1) y a5 c5 a6 c6):=LU.set _ _ _ _ _;clear hb1 hb2 hy hyz LU;go_wp2_with fail
  have z0_:=Z.o.c;refine MM (v:=.tuple #[.agg (KV y a5 c5 a6 c6),.bool b]) ?_ rfl ?_
  ·simp only[ar]at z0_;simp[results,results235,go_sem,z0_]
  ·obtain⟨r1,r2,r3,r4⟩:=R.o;refine⟨_,_,rfl,aP r1 (Nat.le_succ _) _ _ _ _ _,r2,y,?_,r4⟩;exact(r3.grown (aI w1 _ _ _ _ _ _) (fun k hk=>by omega)).weak fun k hk=>hk.1
variable {x:V}
variable {i:Nat}
theorem sY{xs}(h:ao w ok xs v)(hl:xs.length<=1000000):du w 1 v xs.length (xs.map aR):=by
 have h':=h;rcases h.2 with⟨rfl,a,rfl⟩ | ⟨b,off,c,rfl,h1,h2,h3⟩
 ·exact mi w 1 a
 ·have:=(qG h' xs.length xs.length (MG _) (MG _) hl).1;rwa [List.take_length]at this
theorem AF{xs}(h:cS w ok (bu w ok d) xs v)(hl:xs.length<=1000000):∃ cs,cA (bu w ok d) xs cs/\du w 5 v xs.length cs:=by
 have h':=h;rcases h.2 with⟨rfl,a,rfl⟩ | ⟨b,off,c,rfl,h1,h2,h3⟩
 ·exact⟨[],rfl,mi w 5 a⟩
 ·obtain⟨c1,c2,r1,s1,-,-⟩:=km h' xs.length xs.length (MG _) (MG _) hl;rw[List.take_length]at r1;exact⟨c1,r1,s1⟩
theorem ej{e:TypeId}{size xs}(h:w.ownsRow B e size v n xs):∃ a c,v=.slice a n c/\(n=0\/∃ g,a=some ⟨g,0,none⟩)/\n<=c/\c<=9223372036854775807/\∀ g,a=some ⟨g,0,none⟩->B<=g/\g < w.heap.size:=by
 have hlt:=h.lt;rcases h.2 with⟨rfl,h0⟩ | ⟨g,cap,cur,rfl,h1,h2,h3,h4,-⟩
 ·exact⟨none,0,by rw[h0],.inl h0,by omega,by omega,fun g e=>by cases e⟩
 ·exact⟨_,cap,rfl,.inr ⟨g,rfl⟩,h3,h4,fun g' e=>by cases e;exact hlt g rfl⟩
theorem ry{e:TypeId}{size a xs}(h:w.ownsRow B e size (.slice a n c) n xs):a=none\/∃ g,a=some ⟨g,0,none⟩:=by
 rcases h.2 with⟨e,-⟩ | ⟨g,cap,cur,e,-⟩
 ·simp only[Value.slice.injEq]at e;exact .inl e.1
 ·simp only[Value.slice.injEq]at e;exact .inr ⟨g,e.1⟩
theorem mQ:∀ {xs:List V} {cs:List Value},cA (In w ok) xs cs->∃ D,cA (bu w ok D) xs cs
 | [],cs,h=>⟨0,h⟩
 | x :: xs,cs,h=>by
  obtain⟨v0,v1,v2,v3,v4,rest,e,⟨d,hd⟩,hr⟩:=h;obtain⟨D,hD⟩:=mQ hr;exact⟨d+D,v0,v1,v2,v3,v4,rest,e,bu.le (by omega) hd,hD.imp fun _ _ h=>bu.le (by omega) h⟩
theorem nG(h:ce x=true)(hl:x.l.length<=120):x.keys.length<=120:=by
 unfold ce bp at h;repeat' split at h
 all_goals first | (simp only[MJ,decide_eq_true_eq]at h;omega) | cases h
def vr (w:LC) (g i:Nat) (d0 d1 d2 d3 d4:Value):LC:=
 ((((w.setCell ⟨g,i,none⟩ d0).setCell ⟨g,i+1,none⟩ d1).setCell ⟨g,i+2,none⟩ d2).setCell ⟨g,i+3,none⟩ d3).setCell ⟨g,i+4,none⟩ d4
theorem us(w:LC)(g i d0 d1 d2 d3 d4):w.grownBy (vr w g i d0 d1 d2 d3 d4) (some g):=
 ap (ap (ap (ap (ap (az _ _) _ _) _ _) _ _) _ _) _ _
theorem Ad{e:TypeId}{cap xs zs d0 d1 d2 d3 d4 v0 v1 v2 v3 v4}(h:w.ownsRow B e 5 (.slice (some ⟨g,0,none⟩) n cap) n (xs++v0 :: v1 :: v2 :: v3 :: v4 :: zs)):(vr w g xs.length d0 d1 d2 d3 d4).ownsRow B e 5 (.slice (some ⟨g,0,none⟩) n cap) n (xs++d0 :: d1 :: d2 :: d3 :: d4 :: zs):=by
 obtain⟨hl,h⟩:=h;refine⟨by simpa using hl,?_⟩;rcases h with⟨e,_⟩ | ⟨g',cap',cur,e1,h1,h2,h3,h4,h5,h6⟩
 ·cases e
 ·simp only[Value.slice.injEq,Option.some.injEq,Addr.mk.injEq,true_and,and_true]at e1;obtain⟨rfl,rfl⟩:=e1;have e9:=ak (ak (ak (ak (ak h2 xs.length d0) (xs.length+1) d1) (xs.length+2) d2) (xs.length+3) d3) (xs.length+4) d4;refine .inr ⟨g,cap,_,rfl,h1,e9,h3,h4,by simp[h5],?_⟩;obtain⟨tl,hcur⟩:∃ tl,cur.toList=(xs++v0 :: v1 :: v2 :: v3 :: v4 :: zs)++tl:=⟨cur.toList.drop (n * 5),by rw[<-h6,List.take_append_drop]⟩
  have key:∀ (r:List Value),(((((xs++v0 :: v1 :: v2 :: v3 :: v4 :: r).set xs.length d0).set (xs.length+1) d1).set (xs.length+2) d2).set (xs.length+3) d3).set (xs.length+4) d4=xs++d0 :: d1 :: d2 :: d3 :: d4 :: r:=by
   intro r;simp[List.set_append]
  have hcur2:cur.toList=xs++v0 :: v1 :: v2 :: v3 :: v4 :: (zs++tl):=by rw[hcur];simp
  simp only[Array.toList_setIfInBounds];rw[hcur2,key];have hn:n * 5=(xs++d0 :: d1 :: d2 :: d3 :: d4 :: zs).length:=by rw[<-hl];simp
  have e10:xs++d0 :: d1 :: d2 :: d3 :: d4 :: (zs++tl)=(xs++d0 :: d1 :: d2 :: d3 :: d4 :: zs)++tl:=by simp
  rw[e10,List.take_append_of_le_length (by omega),MD (by omega)]
theorem Jc{cs:List Value}{v0 v1 v2 v3 v4}(g0:cs[i * 5]?=some v0)(g1:cs[i * 5+1]?=some v1)(g2:cs[i * 5+2]?=some v2)(g3:cs[i * 5+3]?=some v3)(g4:cs[i * 5+4]?=some v4):cs.drop (i * 5)=v0 :: v1 :: v2 :: v3 :: v4 :: cs.drop ((i+1) * 5):=by
 obtain⟨h0,e0⟩:=Mz.1 g0;obtain⟨h1,e1⟩:=Mz.1 g1;obtain⟨h2,e2⟩:=Mz.1 g2;obtain⟨h3,e3⟩:=Mz.1 g3;obtain⟨h4,e4⟩:=Mz.1 g4;rw[ME h0,ME h1,ME h2,ME h3,ME h4,e0,e1,e2,e3,e4,show i * 5+4+1=(i+1) * 5 by omega]
def Jn (w:LC) (g i:Nat):Prop:=(∃ u,w.cell? ⟨g,i,none⟩=some u)/\(∃ u,w.cell? ⟨g,i+1,none⟩=some u)/\(∃ u,w.cell? ⟨g,i+2,none⟩=some u)/\(∃ u,w.cell? ⟨g,i+3,none⟩=some u)/\(∃ u,w.cell? ⟨g,i+4,none⟩=some u) /\
 w.frozen? ⟨g,i,none⟩=false/\w.frozen? ⟨g,i+1,none⟩=false/\w.frozen? ⟨g,i+2,none⟩=false/\w.frozen? ⟨g,i+3,none⟩=false/\w.frozen? ⟨g,i+4,none⟩=false
theorem lE{e:TypeId}{cap xs zs v0 v1 v2 v3 v4}(h:w.ownsRow B e 5 (.slice (some ⟨g,0,none⟩) n cap) n (xs++v0 :: v1 :: v2 :: v3 :: v4 :: zs))(hi:xs.length=i):w.cell? ⟨g,i,none⟩=some v0/\w.cell? ⟨g,i+1,none⟩=some v1/\w.cell? ⟨g,i+2,none⟩=some v2/\w.cell? ⟨g,i+3,none⟩=some v3/\w.cell? ⟨g,i+4,none⟩=some v4:=by
 subst hi;have c:∀ j u,(xs++v0 :: v1 :: v2 :: v3 :: v4 :: zs)[j]?=some u->w.cell? ⟨g,j,none⟩=some u:=fun j u hj=>by
  have:=h.cells (g:=g) rfl j u hj;rw[eh,Nat.zero_add]at this;exact this
 exact⟨c _ _ (by simp),c _ _ (by simp),c _ _ (by simp),c _ _ (by simp),c _ _ (by simp)⟩
theorem AC{e:TypeId}{cap xs zs v0 v1 v2 v3 v4}(h:w.ownsRow B e 5 (.slice (some ⟨g,0,none⟩) n cap) n (xs++v0 :: v1 :: v2 :: v3 :: v4 :: zs))(hi:xs.length=i):Jn w g i:=by
 obtain⟨c0,c1,c2,c3,c4⟩:=lE h hi;have fz:∀ j,w.frozen? ⟨g,j,none⟩=false:=by
  intro j;rcases h.2 with⟨e,_⟩ | ⟨g',cap',cur,e1,-,h2,-⟩
  ·cases e
  ·simp only[Value.slice.injEq,Option.some.injEq,Addr.mk.injEq,and_true]at e1;obtain⟨rfl,-,-⟩:=e1;simp[World.frozen?,h2]
 exact⟨⟨_,c0⟩,⟨_,c1⟩,⟨_,c2⟩,⟨_,c3⟩,⟨_,c4⟩,fz _,fz _,fz _,fz _,fz _⟩
theorem sK{w1}(h:La w w1)(hg:w.heap.size<=g)(i d0 d1 d2 d3 d4):La w (vr w1 g i d0 d1 d2 d3 d4):=
 bS (bi (bi (bi (bi (bi (aq h) hg _ _) hg _ _) hg _ _) hg _ _) hg _ _)
theorem kM(w:LC)(ok ok' xs ys v1 v2)(h1:ao w ok xs v1)(h2:ao w ok' ys v2):Calls prog 60 #[v1,v2] w fun e w'=>e=.returned (.bool (decide (xs=ys)))/\La w w':=by
 have hm:=h2.1;unfold maxLen at hm;have hm1:=h1.1;unfold maxLen at hm1;obtain⟨a2,c2,e2⟩:=h2.form;rcases h1.2 with⟨rfl,a,rfl⟩ | ⟨b,off,c,rfl,g1,g2,g3⟩
 ·rw[e2];refine LE (Tryz.slices_Equal_string_empty a a2 0 ys.length c2 w hm) ?_;refine⟨?_,MK _ _⟩;congr 2
  cases ys <;> simp
 ·by_cases hl:xs.length=ys.length
  ·rcases h2.2 with⟨rfl,a,e⟩ | ⟨b2,off2,c3,e,f1,f2,f3⟩
   ·have hx:xs=[]:=List.eq_nil_of_length_eq_zero (by simpa using hl);subst hx;rw[e2];refine LE (Tryz.slices_Equal_string_empty _ a2 c 0 c2 w (by omega)) ?_;exact⟨by simp,MK _ _⟩
   ·subst e;refine(Tryz.slices_Equal_string b off xs.length c b2 off2 ys.length c3 (xs.map fun l=>(⟨l.toArray⟩:ByteArray)) (ys.map fun l=>(⟨l.toArray⟩:ByteArray)) w (by simp) (by simp) hm1 hm ?_ ?_).mono ?_
    ·intro j hj;have hj':j < xs.length:=by simpa using hj
     rw[(g3 j xs[j] (Mw hj')).2.2];simp[aR,hj']
    ·intro j hj;have hj':j < ys.length:=by simpa using hj
     rw[(f3 j ys[j] (Mw hj')).2.2];simp[aR,hj']
    ·rintro e w' ⟨rfl,q,rfl⟩;refine⟨?_,⟨rfl,rfl,rfl,MG _,fun _ _=>rfl⟩⟩;congr 2
     rw[MD (by simp),MD (by simp)];have inj:∀ (a b:List Lz),(a.map fun l=>(⟨l.toArray⟩:ByteArray))=(b.map fun l=>(⟨l.toArray⟩:ByteArray))↔a=b:=by
      intro a;induction a with
      | nil=>intro b;cases b <;> simp
      | cons x a ih=>
       intro b;cases b with
       | nil=>simp
       | cons y b=>simp[ih b]
     exact decide_eq_decide.2 (inj xs ys)
  ·rw[e2];refine LE (Tryz.slices_Equal_string_lens _ a2 xs.length c ys.length c2 w hl) ?_;refine⟨?_,MK _ _⟩;congr 2
   have:¬xs=ys:=fun e=>hl (by rw[e]);simp[this]
def eB (a b:V):Bool:=decide (a.kind=b.kind)&&decide (a.n=b.n)&&decide (a.s=b.s)&&decide (a.keys=b.keys)&&decide (a.l.length=b.l.length)
theorem ET(w:LC)(ok ok' a b va vb)(ha:In w ok a va)(hb:In w ok' b vb):Calls prog 40 #[va,vb] w fun e w'=>e=.returned (.bool (eB a b))/\La w w':=by
 obtain⟨l1,l2,l3⟩:=ha.lens;obtain⟨m1,m2,m3⟩:=hb.lens;obtain⟨d1,ha⟩:=ha.at;obtain⟨d2,hb⟩:=hb.at;obtain⟨ks,ls,rfl,-,-,-,h4,h5⟩:=ha;obtain⟨ks',ls',rfl,-,-,-,g4,g5⟩:=hb;have H4:=aa h4;have G4:=aa g4;obtain⟨a1,c1,rfl⟩:=h4.form;obtain⟨a2,c2,rfl⟩:=h5.form;obtain⟨a3,c3,rfl⟩:=g4.form;obtain⟨a4,c4,rfl⟩:=g5.form;clear h4 h5 g4 g5;unfold aR;have B2:Ll (∀ o1 o2,La w ((w.alloc o1).alloc o2)):=fun o1 o2=>ab (ae _ _) (ae _ _);by_cases e1:a.kind=b.kind
 ·have q1:(a.kind == b.kind)=true:=by rw[beq_iff_eq];exact e1
  by_cases e2:a.n=b.n
  ·have q2:(a.n == b.n)=true:=by rw[beq_iff_eq];exact e2
   by_cases e3:a.s=b.s
   ·have q3:(a.s == b.s)=true:=by rw[beq_iff_eq];exact e3
    have HE:Ll (eB a b=(decide (a.keys=b.keys)&&decide (a.l.length=b.l.length))):=aa (by simp[eB,e1,e2,e3]);clear e1 e2 e3;cases hk:decide (a.keys=b.keys) with
    | true=>
     by_cases hl:a.l.length=b.l.length
     ·have q4:((a.l.length:Int) == (b.l.length:Int))=true:=by rw[hl];simp
      have HR:Ll (eB a b=true):=aa (by rw[HE.o,hk];simp[hl]);have HK:=aa hk;clear hk hl;go_enter func40,ntmps40;go_wp2_with fail
      refine Lk (kM _ _ _ a.keys b.keys _ _ (by exact H4.o.bel (B2.o _ _)) (by exact G4.o.bel (B2.o _ _))) fun w1 hb1=>?_;rw[HK.o];have p4:=(af hb1 (fb w _ _)).c.2.2.2.2.1;have r4:=(af hb1 (et w _ _)).c.2.2.2.2.1;have HB:=aa (ab (B2.o _ _) hb1);clear hb1;go_wp2_with fail
      go_ret;exact⟨by rw[HR.o];rfl,HB.o⟩
     ·have q4:((a.l.length:Int) == (b.l.length:Int))=false:=by rw[MO];omega
      have HR:Ll (eB a b=false):=aa (by rw[HE.o,hk];simp[hl]);have HK:=aa hk;clear hk hl;go_enter func40,ntmps40;go_wp2_with fail
      refine Lk (kM _ _ _ a.keys b.keys _ _ (by exact H4.o.bel (B2.o _ _)) (by exact G4.o.bel (B2.o _ _))) fun w1 hb1=>?_;rw[HK.o];have p4:=(af hb1 (fb w _ _)).c.2.2.2.2.1;have r4:=(af hb1 (et w _ _)).c.2.2.2.2.1;have HB:=aa (ab (B2.o _ _) hb1);clear hb1;go_wp2_with fail
      go_ret;exact⟨by rw[HR.o];rfl,HB.o⟩
    | false=>
     have HR:Ll (eB a b=false):=aa (by rw[HE.o,hk];rfl);have HK:=aa hk;clear hk;go_enter func40,ntmps40;go_wp2_with fail
     refine Lk (kM _ _ _ a.keys b.keys _ _ (by exact H4.o.bel (B2.o _ _)) (by exact G4.o.bel (B2.o _ _))) fun w1 hb1=>?_;rw[HK.o];have HB:=aa (ab (B2.o _ _) hb1);clear hb1;go_wp2_with fail
     go_ret;exact⟨by rw[HR.o];rfl,HB.o⟩
   ·have q3:(a.s == b.s)=false:=by rw[MO];exact e3
    have HR:Ll (eB a b=false):=aa (by simp[eB,e3]);clear e1 e2 e3;go_enter func40,ntmps40;go_wp2_with fail
    go_ret;exact⟨by rw[HR.o];rfl,B2.o _ _⟩
  ·have q2:(a.n == b.n)=false:=by rw[MO];exact e2
   have HR:Ll (eB a b=false):=aa (by simp[eB,e2]);clear e1 e2;go_enter func40,ntmps40;go_wp2_with fail
   go_ret;exact⟨by rw[HR.o];rfl,B2.o _ _⟩
 ·have q1:(a.kind == b.kind)=false:=by rw[MO];exact e1
  have HR:Ll (eB a b=false):=aa (by simp[eB,e1]);clear e1;go_enter func40,ntmps40;go_wp2_with fail
  go_ret;exact⟨by rw[HR.o];rfl,B2.o _ _⟩
variable {W:World}
variable {t:V}
theorem my{w1:LC}{C v0 v1 v2 v3 v4}(h:In w1 (bg ok w.heap.size C) t (.agg #[v0,v1,v2,v3,v4]))(hb:La w w1)(hg:w.heap.size<=g)(hC:g < C):La w (ar w1 g v0 v1 v2 v3 v4)/\In (ar w1 g v0 v1 v2 v3 v4) (bQ ok w.heap.size) t (.agg #[v0,v1,v2,v3,v4]):=
 ⟨aP hb hg _ _ _ _ _,(h.box hg hC _ _ _ _ _).weak (ik (by omega))⟩
theorem KH(e1:W.heap=w.heap)(e2:W.os=w.os)(e3:W.tape=w.tape)(e4:W.output=w.output):La w W:=⟨e2,e3,e4,by rw[e1];exact MG _,fun k _=>by rw[e1]⟩
theorem oK{C H}(h:C<=H):∀ k,bQ (bg ok B C) H k->bg ok B C k:=by
 intro k hk;rcases hk with hk | hk
 ·exact hk
 ·exact .inr (by omega)
theorem vN{f:V->V->V}:∀ (ps:List (Lz × V)) (v:V),(ps.foldl (fu f) v).l.length<=v.l.length+ps.length
 | [],v=>by simp
 | p :: ps,v=>by
  have h1:=vN (f:=f) ps (fu f v p);have h2:(fu f v p).l.length<=v.l.length+1:=by
   unfold fu;split
   ·have:=rt v p.1;omega
   ·exact xS _ _ _
  rw[List.foldl_cons,My];omega
theorem Df{v}(h:dz v):(cD v).l.length<=120:=by
 unfold cD;split
 ·exact hU h
 ·simp[jM]
theorem Ws{a:List Lz}{b:List V}(h:k < a.length)(h':k < b.length):(a.zip b)[k]'(by rw[List.length_zip];omega)=(a[k],b[k]):=by simp
theorem EL{β:Type}{g:β->Lz × V->β}{a:List Lz}{b:List V}{v:β}(h:k < a.length)(h':k < b.length):((a.zip b).take (k+1)).foldl g v=g (((a.zip b).take k).foldl g v) (a[k],b[k]):=by
 rw[List.take_succ_eq_append_getElem (by rw[List.length_zip];omega),List.foldl_append,Ws h h'];rfl
theorem Bo{a:List Lz}{b:List V}(hd:a.Nodup)(h:k < a.length):∀ p∈(a.zip b).take k,p.1≠a[k]:=by
 intro p hp e;have ez:(a.zip b).take k=(a.take k).zip (b.take k):=by simp[List.zip,List.take_zipWith]
 rw[ez]at hp;have h1:=(List.of_mem_zip hp).1;rw[e]at h1;obtain⟨i,hi⟩:=List.getElem?_of_mem h1;rw[List.getElem?_take]at hi;split at hi
 ·rename_i hik;have h2:=(Mz.1 hi)
  exact List.pairwise_iff_getElem.1 hd i k h2.1 h hik h2.2
 ·cases hi
theorem Fz{E v p}(hv:dz v)(op:Ob p)(hk:k < p.keys.length):Ob (((p.keys.zip p.l).take k).foldl (fu (dH E)) (cD v))/\aS (((p.keys.zip p.l).take k).foldl (fu (dH E)) (cD v)) p.keys[k]=aS (cD v) p.keys[k]:=by
 have o0:=ul (zO hv);exact⟨Ao (wP _) _ _ o0,wV (wP _) (C5 _) _ _ o0 (Bo (nT op.2.2.2.2) hk)⟩
theorem BG{E v p}(hv:dz v)(hp:dz p):(((p.keys.zip p.l).take k).foldl (fu (dH E)) (cD v)).l.length<=240:=by
 have h1:=vN (f:=dH E) ((p.keys.zip p.l).take k) (cD v);have h2:=Df hv;have h3:=hU hp;have h4:((p.keys.zip p.l).take k).length<=p.l.length:=by rw[MC,List.length_zip];omega
 omega
theorem pB(w v n cells)(h:du w 1 v n cells):Calls prog 30 #[v] w fun e w'=>∃ v',e=.returned v'/\w'.ownsRow w.heap.size 9 1 v' n cells/\La w w':=by
 obtain⟨i0,hi,hz0,hz1,hz2⟩:=info_parts wG;obtain⟨g1,g2,g3,g4⟩:=h;rcases g4 with⟨rfl,rfl⟩ | ⟨ad,cc,rfl,Mb⟩
 ·have hc0:cells=[]:=List.eq_nil_of_length_eq_zero (by rw[g1]);subst hc0;have hnil:∀ W:LC,(binOp .eql 36 (.slice none 0 0) (.slice none 0 0)).run prog W=.ok (.bool true) W:=fun W=>Lib.run_eql_slice_nil W _ _ _ _ _ _ _ underlying36;go_enter func30,ntmps30;go_wp2
  go_ret;exact⟨_,rfl,World.ownsRow_nil _ _ _ _,MK _ _⟩
 ·have O:Ll ((w.alloc (.cells #[] 9)).ownsRow w.heap.size 9 1 (.slice (some ⟨w.heap.size,0,none⟩) 0 0) 0 []):=World.ownsRow_made w #[] 0 (MG _) (by simp) (by simp);have C:Ll (cells.length=n * 1/\(∀ u∈cells,u.oneCell'=true)/\∀ j u,cells[j]?=some u->(w.alloc (.cells #[] 9)).cell? (ad.add j)=some u):=⟨g1,g3,fun j u hj=>ah (ae _ _) (Mb j u hj)⟩
  have hnil:∀ W:LC,(binOp .eql 36 (.slice (some ad) n cc) (.slice none 0 0)).run prog W=.ok (.bool false) W:=fun W=>Lib.run_eql_slice_nil W _ _ _ _ _ _ _ underlying36;clear g1 g3 Mb;go_enter func30,ntmps30;go_wp2_with (at_builtin;go_must (refine wpList_append_own _ rfl _ _ 36 rfl w.heap.size 9 i0 _ 1 16 underlying36 hi hz0 hz1 hz2 rfl (by decide) (.slice (some ⟨w.heap.size,0,none⟩) 0 0) 0 [] rfl O.o ad n cc cells rfl C.o.1 C.o.2.2 C.o.2.1 (by unfold maxLen;omega) (by omega) (by simp) ?_);intro v2 w2 ho2 hg2 _;refine Ll.o ?_)
  refine aa ?_;have D:Ll (w2.ownsRow w.heap.size 9 1 v2 n cells/\La w w2):=by
   rw[Nat.zero_add,List.nil_append]at ho2;exact⟨ho2,(ae w _).grown hg2 (by simp) (fun k hk=>(O.o.lt k hk).1)⟩
  clear ho2 hg2;go_wp2
  go_ret;exact⟨v2,rfl,D.o.1,D.o.2⟩
theorem tD(w v n cells)(h:du w 5 v n cells):Calls prog 42 #[v] w fun e w'=>∃ v',e=.returned v'/\w'.ownsRow w.heap.size 39 5 v' n cells/\La w w':=by
 obtain⟨i0,hi,hz0,hz1,hz2⟩:=info_parts ta;obtain⟨g1,g2,g3,g4⟩:=h;rcases g4 with⟨rfl,rfl⟩ | ⟨ad,cc,rfl,Mb⟩
 ·have hc0:cells=[]:=List.eq_nil_of_length_eq_zero (by rw[g1]);subst hc0;have hnil:∀ W:LC,(binOp .eql 37 (.slice none 0 0) (.slice none 0 0)).run prog W=.ok (.bool true) W:=fun W=>Lib.run_eql_slice_nil W _ _ _ _ _ _ _ underlying37;go_enter func42,ntmps42;go_wp2
  go_ret;exact⟨_,rfl,World.ownsRow_nil _ _ _ _,MK _ _⟩
 ·have O:Ll ((w.alloc (.cells #[] 39)).ownsRow w.heap.size 39 5 (.slice (some ⟨w.heap.size,0,none⟩) 0 0) 0 []):=World.ownsRow_made w #[] 0 (MG _) (by simp) (by simp);have C:Ll (cells.length=n * 5/\(∀ u∈cells,u.oneCell'=true)/\∀ j u,cells[j]?=some u->(w.alloc (.cells #[] 39)).cell? (ad.add j)=some u):=⟨g1,g3,fun j u hj=>ah (ae _ _) (Mb j u hj)⟩
  have hnil:∀ W:LC,(binOp .eql 37 (.slice (some ad) n cc) (.slice none 0 0)).run prog W=.ok (.bool false) W:=fun W=>Lib.run_eql_slice_nil W _ _ _ _ _ _ _ underlying37;clear g1 g3 Mb;go_enter func42,ntmps42;go_wp2_with (at_builtin;go_must (refine wpList_append_own _ rfl _ _ 37 rfl w.heap.size 39 i0 _ 5 80 underlying37 hi hz0 hz1 hz2 rfl (by decide) (.slice (some ⟨w.heap.size,0,none⟩) 0 0) 0 [] rfl O.o ad n cc cells rfl C.o.1 C.o.2.2 C.o.2.1 (by unfold maxLen;omega) (by omega) (by simp) ?_);intro v2 w2 ho2 hg2 _;refine Ll.o ?_)
  refine aa ?_;have D:Ll (w2.ownsRow w.heap.size 39 5 v2 n cells/\La w w2):=by
   rw[Nat.zero_add,List.nil_append]at ho2;exact⟨ho2,(ae w _).grown hg2 (by simp) (fun k hk=>(O.o.lt k hk).1)⟩
  clear ho2 hg2;go_wp2
  go_ret;exact⟨v2,rfl,D.o.1,D.o.2⟩
def KE (b:Option Addr) (c:Nat):Prop:=c=0\/∃ g o,b=some ⟨g,o,none⟩/\c<=9223372036854775807
theorem KE.vals{b}(h:KE b c)(w ok)(R:V->Value->Prop):cS w ok R [] (.slice b 0 c):=by
 rcases h with rfl | ⟨g,o,rfl,hc⟩
 ·exact⟨by simp,.inl ⟨rfl,b,rfl⟩⟩
 ·exact⟨by simp,.inr ⟨g,o,c,rfl,Nat.zero_le _,hc,fun i x hx=>by simp at hx⟩⟩
section
attribute [local go_sem ↓] Go.wp_at_zero Go.wp_at_succ
theorem sQ(w ok t v s i)(h:In w ok t v)(hk:t.kind=4)(hp:cX t.l.length s=some i)(hi:i < t.l.length)(L9:t.l.length<=100000)(hs:s.length<=9223372036854775807):Calls prog 201 #[v,aR s] w fun e w'=>∃ r,e=.returned (.tuple #[r,.bool true])/\La w w'/\In w' (bQ ok w.heap.size) { t with l:=t.l.take i++t.l.drop (i+1) } r:=by
 obtain⟨l1,l2,l3⟩:=h.lens;obtain⟨d,h⟩:=h.low.at;obtain⟨ks,ls,rfl,h1,h2,h3,h4,h5⟩:=h;have KK:Ll (dW t.kind/\dW t.n/\t.s.length<=maxLen/\ao w _ t.keys ks/\cS w _ (bu w _ d) t.l ls):=⟨h1,h2,h3,h4,h5⟩
 obtain⟨a1,c1,rfl⟩:=h4.form;obtain⟨a2,c2,rfl⟩:=h5.form;obtain⟨cs1,cs2,v1,v3,r1,r2,s1,s3,hcase⟩:=tg h5 i (i+1) (by omega) hi (by omega);have R:Ll (cA (bu w _ d) (t.l.take i) cs1/\cA (bu w _ d) (t.l.drop (i+1)) cs2/\du w 5 v1 i cs1/\du w 5 v3 (t.l.length - (i+1)) cs2):=⟨r1,r2,s1,s3⟩
 have HC:=aa hcase;have HP:=aa hp;have q1:(t.kind == 5)=false:=by rw[hk];rfl
 have q2:(t.kind == 4)=true:=by rw[hk];rfl
 clear h1 h2 h4 h5 r1 r2 s1 s3 hcase hp hk;unfold maxLen at h3;unfold aR;have HM:Ll (cg t s=some t.l[i]):=aa (by unfold cg;rw[if_pos (by simpa using q2),HP.o,Option.bind_some,Mw hi]);have HV:Ll (In w (Lj ok w) t (.agg (KV t a1 c1 a2 c2))):=⟨d+1,_,_,rfl,KK.o.1,KK.o.2.1,KK.o.2.2.1,KK.o.2.2.2.1,KK.o.2.2.2.2⟩
 go_enter func201,ntmps201;go_wp2_with fail
 refine(eI _ (Lj ok w) t _ s (by exact HV.o.bel (ab (ae _ _) (ae _ _))) hs).mono ?_;rintro e w0 ⟨x9,b9,rfl,hb0,hb9,y9,hy9,-⟩;rw[HM.o]at hb9;simp only[Option.isSome_some]at hb9;subst hb9;obtain⟨a5,a6,c5,c6,rfl⟩:=hy9.form;have M0:Ll (KY w0 w.heap.size t a1 c1 a2 c2/\Lc w0 (w.heap.size+1)/\La w w0):=
  ⟨af hb0 (fb w _ _),af hb0 (et w _ _),ab (ab (ae _ _) (ae _ _)) hb0⟩
 have M1:Ll (KY (w0.alloc (.cells (KV y9 a5 c5 a6 c6) 39)) w.heap.size t a1 c1 a2 c2/\Lc (w0.alloc (.cells (KV y9 a5 c5 a6 c6) 39)) (w.heap.size+1)/\La w (w0.alloc (.cells (KV y9 a5 c5 a6 c6) 39))):=by
  have LW:=ae w0 (.cells (KV y9 a5 c5 a6 c6) 39);exact⟨af LW M0.o.1,af LW M0.o.2.1,ab M0.o.2.2 LW⟩
 obtain⟨n0,-,-,-,n4,-⟩:=M1.o.1.c;clear hb0 hy9;go_wp2_with fail
 refine(jb _ _ t.l.length c2 s l2 hs).mono ?_;rintro e w1 ⟨rfl,hw⟩;rw[HP.o];unfold ow;have M:Ll (KY w1 w.heap.size t a1 c1 a2 c2/\Lc w1 (w.heap.size+1)/\La w w1):=by
  rw[hw];exact M1.o
 clear hw M1;have hsz1:w.heap.size+1 < w1.heap.size:=M.o.2.1.lt;simp only[Option.getD_some,Option.isSome_some];obtain⟨p0,p1,p2,p3,p4,-,-,-,p9,p10⟩:=M.o.1.c;have k4:∀ o,(w1.alloc o).cell? ⟨w.heap.size,4,none⟩=some (.slice a2 t.l.length c2):=fun o=>(af (ae w1 o) M.o.1).c.2.2.2.2.1;have con:Ll (∀ W,W.heap=(w1.alloc (.cells #[v1,v3] 37)).heap->W.os=w1.os->W.tape=w1.tape->W.output=w1.output ->
  Calls prog 191 #[.slice (some ⟨w1.heap.size,0,none⟩) 2 2] W fun e w'=>∃ a8 cap,e=.returned (.slice a8 (t.l.length - 1) cap)/\w'.ownsRow w1.heap.size 39 5 (.slice a8 (t.l.length - 1) cap) (t.l.length - 1) (cs1++cs2)/\La w1 w'):=by
  intro W e1 e2 e4 e5;exact nB (R.o.2.2.1.bel M.o.2.2) (R.o.2.2.2.bel M.o.2.2) (by omega) (by omega) W e1 e2 e4 e5
 have fin:Ll (∀ w3 a8 cap,w3.ownsRow w1.heap.size 39 5 (.slice a8 (t.l.length - 1) cap) (t.l.length - 1) (cs1++cs2)->La w1 w3 ->
  In (ar (w3.setCell ⟨w.heap.size,4,none⟩ (.slice a8 (t.l.length - 1) cap)) (w.heap.size+1) (.int .i64 t.kind) (.int .i64 t.n) (.string ⟨t.s.toArray⟩) (.slice a1 t.keys.length c1) (.slice a8 (t.l.length - 1) cap)) (bQ ok w.heap.size) { t with l:=t.l.take i++t.l.drop (i+1) } (.agg #[.int .i64 t.kind,.int .i64 t.n,.string ⟨t.s.toArray⟩,.slice a1 t.keys.length c1,.slice a8 (t.l.length - 1) cap]) /\
  La w (ar (w3.setCell ⟨w.heap.size,4,none⟩ (.slice a8 (t.l.length - 1) cap)) (w.heap.size+1) (.int .i64 t.kind) (.int .i64 t.n) (.string ⟨t.s.toArray⟩) (.slice a1 t.keys.length c1) (.slice a8 (t.l.length - 1) cap))/\ag (ar (w3.setCell ⟨w.heap.size,4,none⟩ (.slice a8 (t.l.length - 1) cap)) (w.heap.size+1) (.int .i64 t.kind) (.int .i64 t.n) (.string ⟨t.s.toArray⟩) (.slice a1 t.keys.length c1) (.slice a8 (t.l.length - 1) cap)) (w.heap.size+1) (.int .i64 t.kind) (.int .i64 t.n) (.string ⟨t.s.toArray⟩) (.slice a1 t.keys.length c1) (.slice a8 (t.l.length - 1) cap)):=by
  intro w3 a8 cap ho hb;have g1:w3.grownBy (w3.setCell ⟨w.heap.size,4,none⟩ (.slice a8 (t.l.length - 1) cap)) (some w.heap.size):=ap (az _ _) _ _;have g2:=aI (w3.setCell ⟨w.heap.size,4,none⟩ (.slice a8 (t.l.length - 1) cap)) (w.heap.size+1) (.int .i64 t.kind) (.int .i64 t.n) (.string ⟨t.s.toArray⟩) (.slice a1 t.keys.length c1) (.slice a8 (t.l.length - 1) cap);have LU:=((af hb M.o.2.1).grown g1 (by simp)).set (.int .i64 t.kind) (.int .i64 t.n) (.string ⟨t.s.toArray⟩) (.slice a1 t.keys.length c1) (.slice a8 (t.l.length - 1) cap);have hbw:La w w3:=ab M.o.2.2 hb;have hb9:La w (ar (w3.setCell ⟨w.heap.size,4,none⟩ (.slice a8 (t.l.length - 1) cap)) (w.heap.size+1) (.int .i64 t.kind) (.int .i64 t.n) (.string ⟨t.s.toArray⟩) (.slice a1 t.keys.length c1) (.slice a8 (t.l.length - 1) cap)):=bS (eD (bi (aq hbw) (MG _) _ _) (by omega) _ _ _ _ _);have LT:t.l.length - 1=(t.l.take i++t.l.drop (i+1)).length:=by simp;omega
  refine⟨⟨d+1,_,_,by simp only[<-LT];rfl,KK.o.1,KK.o.2.1,KK.o.2.2.1,?_,?_⟩,hb9,LU⟩
  ·exact(KK.o.2.2.2.1.bel hb9).imp fun a x hx hc=>⟨.inl hx.1,hc⟩
  ·have ho9:=aW (aW ho g1 (by omega)) g2 (by omega);refine fJ LT ho9 ?_ (fun k hk=>.inr (by omega)) (by rw[<-LT];unfold maxLen;omega);have:=(R.o.2.1.bel (B:=w.heap.size) hb9).append (R.o.1.bel (B:=w.heap.size) hb9);exact this.imp fun _ _ h=>h.weak fun k hk=>by rcases hk with hk | hk;exact .inl hk.1;exact .inr hk
 have j0:(0:Int)<=(i:Int):=by omega
 have j1:(i:Int)+1<=(t.l.length:Int):=by omega
 have j2:(0:Int)<=(i:Int)+1:=by omega
 have hw1:IntKind.i64.wrap ((i:Int)+1)=(i:Int)+1:=by rw[IntKind.wrap_i64];omega
 rcases HC.o with⟨-,e3,-⟩ | ⟨b,off,rfl,hc1,hc2,rfl,hv3⟩
 ·omega
 ·obtain⟨a3,hifs⟩:∃ a3,(if c2=i+1 then (some ⟨b,off,none⟩:Option Addr) else some ⟨b,off+(i+1) * 5,none⟩)=a3:=⟨_,rfl⟩
  rw[hifs]at hv3;subst hv3;clear HC;have j5:(i:Int)<=(c2:Int):=by omega
  have j6:(t.l.length:Int)<=(c2:Int):=by omega
  go_upto_region 7 with fail
  go_region_with ((go_at_call 191;refine(con.o _ (by rfl) (by rfl) (by rfl) (by rfl)).mono ?_;rintro e w3 ⟨a8,cap,rfl,ho3,hb3⟩;obtain⟨p0,p1,p2,p3,p4,-,-,-,p9,p10⟩:=(af hb3 M.o.1).c;have x0_:=(af hb3 M.o.2.1).c;have O3:=aa ho3;have HB3:=aa hb3;clear ho3 hb3))
  all_goals
   go_wp2_with fail
   obtain⟨f1,f2,f3⟩:=fin.o _ a8 cap O3.o HB3.o;have z0_:=f3.c;refine MM (v:=.tuple #[.agg #[.int .i64 t.kind,.int .i64 t.n,.string ⟨t.s.toArray⟩,.slice a1 t.keys.length c1,.slice a8 (t.l.length - 1) cap],.bool true]) ?_ rfl ?_
   ·simp only[ar]at z0_;simp[results,results201,go_sem,z0_]
   ·exact⟨_,rfl,f2,f1⟩
end
variable {ok':Nat->Prop}
structure jf where
 kind:Int
 path:Lz
 frm:Lz
 value:V
abbrev Lg (t:jf) (a:Option Addr) (c:Nat) (b:Option Addr) (d:Nat):Array Value:=#[.int .i64 t.kind,.string ⟨t.path.toArray⟩,.string ⟨t.frm.toArray⟩,.int .i64 t.value.kind,.int .i64 t.value.n,.string ⟨t.value.s.toArray⟩,.slice a t.value.keys.length c,.slice b t.value.l.length d]
def wf (v:V) (frm dst:Lz):V × Int:=
 if (fP (ax frm) v).2≠0 then (v,(fP (ax frm) v).2)
 else if Lib.hasPrefix dst (frm++[47])=true then (v,1)
 else if dst=frm then (v,0)
 else if (aX ch (ax frm) v).2≠0 then (v,(aX ch (ax frm) v).2)
 else if (ep bL dst (ax dst) (aX ch (ax frm) v).1 (fP (ax frm) v).1).2≠0 then (v,(ep bL dst (ax dst) (aX ch (ax frm) v).1 (fP (ax frm) v).1).2)
 else ((ep bL dst (ax dst) (aX ch (ax frm) v).1 (fP (ax frm) v).1).1,0)
def gS (v:V) (frm dst:Lz):V × Int:=
 if (fP (ax frm) v).2≠0 then (v,(fP (ax frm) v).2) else ep bL dst (ax dst) v (fP (ax frm) v).1
def od (w:LC) (ok:Nat->Prop) (o:jf) (v:Value):Prop:=
 dW o.kind/\o.path.length<=140737488351232/\o.frm.length<=140737488351232/\∃ (a7 a8:Option Addr) (c7 c8:Nat),
  v=.agg (Lg o a7 c7 a8 c8) /\
  In w ok o.value (.agg (KV o.value a7 c7 a8 c8))
theorem od.bel{o:jf}(h:od w ok o v)(hb:La w w'):od w' ok o v:=by
 obtain⟨h1,h2,h3,a7,a8,c7,c8,e,hi⟩:=h;exact⟨h1,h2,h3,a7,a8,c7,c8,e,hi.bel hb⟩
theorem od.weak{o:jf}(h:od w ok o v)(hk:∀ k,ok k->ok' k):od w ok' o v:=by
 obtain⟨h1,h2,h3,a7,a8,c7,c8,e,hi⟩:=h;exact⟨h1,h2,h3,a7,a8,c7,c8,e,hi.weak hk⟩
theorem od.low{o:jf}(h:od w ok o v):od w (Lj ok w) o v:=by
 obtain⟨h1,h2,h3,a7,a8,c7,c8,e,hi⟩:=h;exact⟨h1,h2,h3,a7,a8,c7,c8,e,hi.low⟩
def eX (w:LC) (ok:Nat->Prop) (os:List jf) (v:Value):Prop:=
 os.length<=9223372036854775807/\(os=[]/\(∃ a,v=.slice a 0 0)\/∃ b off c,v=.slice (some ⟨b,off,none⟩) os.length c/\os.length<=c/\c<=9223372036854775807 /\
  ∀ i o,os[i]?=some o->∃ v0 v1 v2 v3 v4 v5 v6 v7,ok b/\w.cell? ⟨b,off+i * 8,none⟩=some v0/\w.cell? ⟨b,off+i * 8+1,none⟩=some v1/\w.cell? ⟨b,off+i * 8+2,none⟩=some v2/\w.cell? ⟨b,off+i * 8+3,none⟩=some v3 /\
   w.cell? ⟨b,off+i * 8+4,none⟩=some v4/\w.cell? ⟨b,off+i * 8+5,none⟩=some v5/\w.cell? ⟨b,off+i * 8+6,none⟩=some v6/\w.cell? ⟨b,off+i * 8+7,none⟩=some v7/\od w ok o (.agg #[v0,v1,v2,v3,v4,v5,v6,v7]))
theorem eX.form{os:List jf}(h:eX w ok os v):∃ a c,v=.slice a os.length c:=by
 rcases h.2 with⟨rfl,a,e⟩ | ⟨b,off,c,e,_⟩
 ·exact⟨a,0,e⟩
 ·exact⟨_,c,e⟩
theorem eX.bel{os:List jf}(h:eX w ok os v)(hb:La w w'):eX w' ok os v:=by
 refine⟨h.1,?_⟩;rcases h.2 with h | ⟨b,off,c,e,h1,h2,h3⟩
 ·exact .inl h
 ·refine .inr ⟨b,off,c,e,h1,h2,fun i o ho=>?_⟩;obtain⟨v0,v1,v2,v3,v4,v5,v6,v7,hk,g0,g1,g2,g3,g4,g5,g6,g7,g8⟩:=h3 i o ho;exact⟨v0,v1,v2,v3,v4,v5,v6,v7,hk,ah hb g0,ah hb g1,ah hb g2,ah hb g3,ah hb g4,ah hb g5,ah hb g6,ah hb g7,g8.bel hb⟩
def Jm (w:LC) (ok:Nat->Prop) (t:V) (ns:List Lz) (na:Option Addr) (nc k:Nat) (wr:LC):Prop:=
 ∃ (y:V) (a5 a6:Option Addr) (c5 c6:Nat),mh ns t=mh (ns.drop k) y/\KY wr w.heap.size y a5 c5 a6 c6/\Lc wr (w.heap.size+1)/\La w wr /\
  In wr (Lj ok w) y (.agg (KV y a5 c5 a6 c6))/\ao wr (fun k=>w.heap.size+2<=k) ns (.slice na ns.length nc)
theorem zD(w:LC)(ok t v p)(h:In w ok t v)(hp:p.length<=140737488351232)(hM:bj w):Calls prog 203 #[v,aR p] w fun e w'=>∃ r,e=.returned (.tuple #[r,.int .i64 (fP (ax p) t).2])/\La w w'/\In w' ok (fP (ax p) t).1 r:=by
 have H:=aa h.low;have HMM:=aa hM;obtain⟨l1,l2,l3⟩:=h.lens;obtain⟨a1,a2,c1,c2,rfl⟩:=h.form;clear h hM;go_enter func203,ntmps203;go_wp2_with fail
 refine(iO _ p hp (by exact HMM.o.bel (ab (ae _ _) (ae _ _)))).mono ?_;rintro e w1 ⟨ns,ee,na,nc,rfl,hsp,hns,hb1⟩;have SP:=aa hsp;have nlen:=hns.1;unfold maxLen at nlen;have K1:Ll (KY w1 w.heap.size t a1 c1 a2 c2/\Lc w1 (w.heap.size+1)/\La w w1/\ao w1 (fun k=>w.heap.size+2<=k) ns (.slice na ns.length nc)):=⟨af hb1 (fb w _ _),af hb1 (et w _ _),ab (ab (ae _ _) (ae _ _)) hb1,hns.imp fun a x hx hc=>⟨by simpa using hx,hc⟩⟩
 clear hb1 hns hsp;by_cases he:ee=0
 ·subst he;obtain⟨p0,p1,p2,p3,p4,-⟩:=K1.o.1.c;go_wp2_with fail
  refine Lk (bG _ (Lj ok w) t _ (by exact H.o.bel K1.o.2.2.1)) fun w2 hb2=>?_;have K2:Ll (KY w2 w.heap.size t a1 c1 a2 c2/\Lc w2 (w.heap.size+1)/\La w w2/\ao w2 (fun k=>w.heap.size+2<=k) ns (.slice na ns.length nc)):=⟨af hb2 K1.o.1,af hb2 K1.o.2.1,ab K1.o.2.2.1 hb2,K1.o.2.2.2.bel hb2⟩
  clear hb2 K1;cases hg:aE t with
  | false=>
   have x0_:=(K2.o.2.1).c;have Z:=aa (aP K2.o.2.2.1 (Nat.le_succ w.heap.size) (.int .i64 0) (.int .i64 0) (.string ⟨#[]⟩) (.slice none 0 0) (.slice none 0 0));have ZB:=aa ((K2.o.2.1).set (.int .i64 0) (.int .i64 0) (.string ⟨#[]⟩) (.slice none 0 0) (.slice none 0 0));have HA:Ll (fP (ax p) t=(aM,1)):=aa (by rw[SP.o];unfold fP;rw[if_neg (by simp),if_pos hg]);clear hg;go_wp2_with fail
   have z0_:=ZB.o.c;refine MM (v:=.tuple #[.agg Lb,.int .i64 1]) ?_ rfl ?_
   ·simp only[ar]at z0_;simp[results,results203,go_sem,z0_]
   ·refine⟨_,by rw[HA.o],Z.o,?_⟩;rw[HA.o];exact fG _ _
  | true=>
   have HG:=aa hg;clear hg;have S0:Ll (Jm w ok t ns na nc 0 w2):=⟨t,a1,a2,c1,c2,rfl,K2.o.1,K2.o.2.1,K2.o.2.2.1,H.o.bel K2.o.2.2.1,K2.o.2.2.2⟩
   clear K2;go_wp2_with fail
   go_loopg [27] ns.length (fun gk i wr=>∃ k:Nat,k<=ns.length/\gk=ns.length - k/\i=.int .i64 k/\Jm w ok t ns na nc k wr)
   case atStart=>exact⟨0,Nat.zero_le _,rfl,rfl,S0.o⟩
   case round=>
    obtain⟨k,hk,hgk,rfl,y,a5,a6,c5,c6,i1,i2,i3,i4,i5,i6⟩:=hrel;have GK:=aa hgk;have I:Ll (mh ns t=mh (ns.drop k) y/\KY wr w.heap.size y a5 c5 a6 c6/\Lc wr (w.heap.size+1)/\La w wr/\In wr (Lj ok w) y (.agg (KV y a5 c5 a6 c6))/\ao wr (fun k=>w.heap.size+2<=k) ns (.slice na ns.length nc)):=⟨i1,i2,i3,i4,i5,i6⟩
    obtain⟨p0,p1,p2,p3,p4,p5,p6,p7,p8,p9⟩:=i2.c;clear hgk i1 i2 i3 i4 i5 i6;by_cases hlt:k < ns.length
    ·obtain⟨nb,no,rfl,hc1,hc2,hc⟩:=lm I.o.2.2.2.2.2 hlt;unfold maxLen at hc2;have hsl:ns[k].length<=9223372036854775807:=I.o.2.2.2.2.2.mem _ (List.getElem_mem _);go_wp2_with fail
     refine(eI _ (Lj ok w) y _ ns[k] (by exact I.o.2.2.2.2.1) hsl).mono ?_;rintro e w3 ⟨r,b,rfl,hb3,hb,u,hu,huz⟩;obtain⟨b5,b6,d5,d6,rfl⟩:=hu.form;have LW:=ab hb3 (ae w3 (.cells (KV u b5 d5 b6 d6) 39));have K3:Ll (KY (w3.alloc (.cells (KV u b5 d5 b6 d6) 39)) w.heap.size y a5 c5 a6 c6/\Lc (w3.alloc (.cells (KV u b5 d5 b6 d6) 39)) (w.heap.size+1)/\La w (w3.alloc (.cells (KV u b5 d5 b6 d6) 39))/\KY (w3.alloc (.cells (KV u b5 d5 b6 d6) 39)) w3.heap.size u b5 d5 b6 d6/\In (w3.alloc (.cells (KV u b5 d5 b6 d6) 39)) (Lj ok w) u (.agg (KV u b5 d5 b6 d6))/\ao (w3.alloc (.cells (KV u b5 d5 b6 d6) 39)) (fun k=>w.heap.size+2<=k) ns (.slice (some ⟨nb,no,none⟩) ns.length nc)):=⟨af LW I.o.2.1,af LW I.o.2.2.1,ab I.o.2.2.2.1 LW,MN w3 _,hu.bel (ae _ _),I.o.2.2.2.2.2.bel LW⟩
     have GS:Ll (mh (ns.drop k) y=(cg y ns[k]).bind (mh (ns.drop (k+1)))):=aa (by rw[ME hlt,mh]);clear hb3 LW hu hc;have o0_:=K3.o.1.c;have q0_:=K3.o.2.2.2.1.c;cases hm:cg y ns[k] with
     | none=>
      rw[hm]at hb;simp only[Option.isSome_none]at hb;subst hb;have x0_:=(K3.o.2.1).c;have Z:=aa (aP K3.o.2.2.1 (Nat.le_succ w.heap.size) (.int .i64 0) (.int .i64 0) (.string ⟨#[]⟩) (.slice none 0 0) (.slice none 0 0));have ZB:=aa ((K3.o.2.1).set (.int .i64 0) (.int .i64 0) (.string ⟨#[]⟩) (.slice none 0 0) (.slice none 0 0));have HA:Ll (fP (ax p) t=(aM,3)):=aa (by rw[SP.o];unfold fP;rw[if_neg (by simp),if_neg (by simp[HG.o]),I.o.1,GS.o,hm];rfl);clear hm huz;go_wp2_with fail
      have z0_:=ZB.o.c;refine MM (v:=.tuple #[.agg Lb,.int .i64 3]) ?_ rfl ?_
      ·simp only[ar]at z0_;simp[results,results203,go_sem,z0_]
      ·refine⟨_,by rw[HA.o],Z.o,?_⟩;rw[HA.o];exact fG _ _
     | some z9=>
      rw[hm]at hb;simp only[Option.isSome_some]at hb;subst hb;obtain rfl:=huz z9 hm;have HM:=aa hm;have FIN:Ll (Jm w ok t ns (some ⟨nb,no,none⟩) nc (k+1) (LG (w3.alloc (.cells (KV u b5 d5 b6 d6) 39)) w.heap.size u b5 d5 b6 d6)):=by
       have g1:=aI (w3.alloc (.cells (KV u b5 d5 b6 d6) 39)) w.heap.size (.int .i64 u.kind) (.int .i64 u.n) (.string ⟨u.s.toArray⟩) (.slice b5 u.keys.length d5) (.slice b6 u.l.length d6);refine⟨u,b5,b6,d5,d6,?_,K3.o.1.set _ _ _ _ _,K3.o.2.1.grown g1 (by simp),aP K3.o.2.2.1 (MG _) _ _ _ _ _,K3.o.2.2.2.2.1.grown g1 (fun k hk=>by omega),K3.o.2.2.2.2.2.imp (eJ g1 (fun k hk e=>by cases e;omega))⟩;rw[I.o.1,GS.o,HM.o];rfl
      clear hm huz K3;go_wp2_with fail
      go_roundg (ns.length - (k+1))
      case measure=>rw[GK.o];omega
      case rel=>exact⟨k+1,hlt,rfl,by go_num,FIN.o⟩
    ·have Mc:k=ns.length:=by omega
     subst Mc;have x0_:=I.o.2.2.1.c;have Z:=aa (LH (aP I.o.2.2.2.1 (Nat.le_succ w.heap.size)) y a5 c5 a6 c6);have ZI:=aa ((I.o.2.2.2.2.1.grown (LH (aI wr (w.heap.size+1)) y a5 c5 a6 c6) (fun k hk=>by omega)).weak fun k hk=>hk.1);have ZB:=aa (LH I.o.2.2.1.set y a5 c5 a6 c6);have HA:Ll (fP (ax p) t=(y,0)):=aa (by rw[SP.o];refine Jp rfl HG.o ?_;rw[I.o.1,List.drop_length];rfl);go_wp2_with fail
     have z0_:=ZB.o.c;refine MM (v:=.tuple #[.agg (KV y a5 c5 a6 c6),.int .i64 0]) ?_ rfl ?_
     ·simp only[ar]at z0_;simp[results,results203,go_sem,z0_]
     ·refine⟨_,by rw[HA.o],Z.o,?_⟩;rw[HA.o];exact ZI.o
 ·have e1:(ee != 0)=true:=by rw[bne_iff_ne];exact he
  have e2:(ee == 0)=false:=by rw[MO];exact he
  have HE:=aa he;clear he;have x0_:=(K1.o.2.1).c;have Z:=aa (aP K1.o.2.2.1 (Nat.le_succ w.heap.size) (.int .i64 0) (.int .i64 0) (.string ⟨#[]⟩) (.slice none 0 0) (.slice none 0 0));have ZB:=aa ((K1.o.2.1).set (.int .i64 0) (.int .i64 0) (.string ⟨#[]⟩) (.slice none 0 0) (.slice none 0 0));have HA:Ll (fP (ax p) t=(aM,ee)):=aa (by rw[SP.o];unfold fP;rw[if_pos HE.o]);clear K1;go_wp2_with fail
  have z0_:=ZB.o.c;refine MM (v:=.tuple #[.agg Lb,.int .i64 ee]) ?_ rfl ?_
  ·simp only[ar]at z0_;simp[results,results203,go_sem,z0_]
  ·refine⟨_,by rw[HA.o],Z.o,?_⟩;rw[HA.o];exact fG _ _
def nL:Lz:=[111,112]
def ea:Lz:=[112,97,116,104]
def Ec:Lz:=[102,114,111,109]
def yy:Lz:=[118,97,108,117,101]
def ew:List Lz:=[[97,100,100],[114,101,109,111,118,101],[114,101,112,108,97,99,101],[109,111,118,101],[99,111,112,121],[116,101,115,116]]
def ck (s:Lz):Int:=match TN s ew with | some i=>(i:Int)+1 | none=>0
def bt (t:V) (key:Lz):Option Lz:=match aS t key with | some x=>if x.kind=3 then some x.s else none | none=>none
def oF (t:V):Option jf:=
 match bt t nL,bt t ea with
 | some w,some p=>
  if ck w=0 then none
  else if ck w=1\/ck w=3\/ck w=6 then (aS t yy).map fun y=>⟨ck w,p,[],y⟩
  else if ck w=4\/ck w=5 then (bt t Ec).map fun f=>⟨ck w,p,f,aM⟩
  else some ⟨ck w,p,[],aM⟩
 | _,_=>none
theorem pm(s):ck s=0\/ck s=1\/ck s=2\/ck s=3\/ck s=4\/ck s=5\/ck s=6:=by
 unfold ck;cases h:TN s ew with
 | none=>exact .inl rfl
 | some i=>
  have hi:i < 6:=(iw h).1;simp only;omega
def di (w:LC):Prop:=∃ t f,w.heap[2]?=some (.cells #[.string ⟨#[97,100,100]⟩,.string ⟨#[114,101,109,111,118,101]⟩,.string ⟨#[114,101,112,108,97,99,101]⟩,.string ⟨#[109,111,118,101]⟩,.string ⟨#[99,111,112,121]⟩,.string ⟨#[116,101,115,116]⟩] t f)
theorem di.bel(h:di w)(hb:La w w'):di w':=by
 obtain⟨t,f,h⟩:=h;exact⟨t,f,(hb.block _ (MF.1 h).1).trans h⟩
theorem iT{key:Lz}{xs:List Lz}(h:k < xs.length)(hne:xs[k]≠key):(TN key (xs.drop k)).map (·+k)=(TN key (xs.drop (k+1))).map (·+(k+1)):=by
 rw[ME h,TN,if_neg hne];cases TN key (xs.drop (k+1)) with
 | none=>rfl
 | some i=>simp;omega
theorem jc{key:Lz}{xs:List Lz}(h:k < xs.length)(he:xs[k]=key):(TN key (xs.drop k)).map (·+k)=some k:=by
 rw[ME h,TN,if_pos he];simp
theorem gW(w:LC)(s)(hG:di w):Calls prog 169 #[aR s] w fun e w'=>e=.returned (.int .i64 (ck s))/\La w w':=by
 obtain⟨tt,ff,hG⟩:=hG;have c0:w.cell? ⟨2,0,none⟩=some (.string ⟨#[97,100,100]⟩):=by simp[World.cell?,hG]
 have c1:w.cell? ⟨2,1,none⟩=some (.string ⟨#[114,101,109,111,118,101]⟩):=by simp[World.cell?,hG]
 have c2:w.cell? ⟨2,2,none⟩=some (.string ⟨#[114,101,112,108,97,99,101]⟩):=by simp[World.cell?,hG]
 have c3:w.cell? ⟨2,3,none⟩=some (.string ⟨#[109,111,118,101]⟩):=by simp[World.cell?,hG]
 have c4:w.cell? ⟨2,4,none⟩=some (.string ⟨#[99,111,112,121]⟩):=by simp[World.cell?,hG]
 have c5:w.cell? ⟨2,5,none⟩=some (.string ⟨#[116,101,115,116]⟩):=by simp[World.cell?,hG]
 clear hG;unfold aR;go_enter func169,ntmps169;go_wp2
 clear c0 c1 c2 c3 c4 c5;have i0:∀ w,(Instr.index 225 (.agg #[.string ⟨#[97,100,100]⟩,.string ⟨#[114,101,109,111,118,101]⟩,.string ⟨#[114,101,112,108,97,99,101]⟩,.string ⟨#[109,111,118,101]⟩,.string ⟨#[99,111,112,121]⟩,.string ⟨#[116,101,115,116]⟩]) (.int .i64 0)).run prog w=.ok (.string ⟨#[97,100,100]⟩) w:=fun _=>by kernel_rfl
 have i1:∀ w,(Instr.index 225 (.agg #[.string ⟨#[97,100,100]⟩,.string ⟨#[114,101,109,111,118,101]⟩,.string ⟨#[114,101,112,108,97,99,101]⟩,.string ⟨#[109,111,118,101]⟩,.string ⟨#[99,111,112,121]⟩,.string ⟨#[116,101,115,116]⟩]) (.int .i64 1)).run prog w=.ok (.string ⟨#[114,101,109,111,118,101]⟩) w:=fun _=>by kernel_rfl
 have i2:∀ w,(Instr.index 225 (.agg #[.string ⟨#[97,100,100]⟩,.string ⟨#[114,101,109,111,118,101]⟩,.string ⟨#[114,101,112,108,97,99,101]⟩,.string ⟨#[109,111,118,101]⟩,.string ⟨#[99,111,112,121]⟩,.string ⟨#[116,101,115,116]⟩]) (.int .i64 2)).run prog w=.ok (.string ⟨#[114,101,112,108,97,99,101]⟩) w:=fun _=>by kernel_rfl
 have i3:∀ w,(Instr.index 225 (.agg #[.string ⟨#[97,100,100]⟩,.string ⟨#[114,101,109,111,118,101]⟩,.string ⟨#[114,101,112,108,97,99,101]⟩,.string ⟨#[109,111,118,101]⟩,.string ⟨#[99,111,112,121]⟩,.string ⟨#[116,101,115,116]⟩]) (.int .i64 3)).run prog w=.ok (.string ⟨#[109,111,118,101]⟩) w:=fun _=>by kernel_rfl
 have i4:∀ w,(Instr.index 225 (.agg #[.string ⟨#[97,100,100]⟩,.string ⟨#[114,101,109,111,118,101]⟩,.string ⟨#[114,101,112,108,97,99,101]⟩,.string ⟨#[109,111,118,101]⟩,.string ⟨#[99,111,112,121]⟩,.string ⟨#[116,101,115,116]⟩]) (.int .i64 4)).run prog w=.ok (.string ⟨#[99,111,112,121]⟩) w:=fun _=>by kernel_rfl
 have i5:∀ w,(Instr.index 225 (.agg #[.string ⟨#[97,100,100]⟩,.string ⟨#[114,101,109,111,118,101]⟩,.string ⟨#[114,101,112,108,97,99,101]⟩,.string ⟨#[109,111,118,101]⟩,.string ⟨#[99,111,112,121]⟩,.string ⟨#[116,101,115,116]⟩]) (.int .i64 5)).run prog w=.ok (.string ⟨#[116,101,115,116]⟩) w:=fun _=>by kernel_rfl
 go_loop [3,4,6] (fun _ _ i=>∃ k:Nat,k<=6/\i=.int .i64 k/\Ll (TN s ew=(TN s (ew.drop k)).map (·+k))) (fun _ _ i=>6 - (intOf i).toNat)
 case atStart=>exact⟨0,Nat.zero_le _,rfl,aa (by simp)⟩
 case round=>
  obtain⟨k,hk,rfl,HI⟩:=hrel;by_cases hlt:k < 6
  ·have hc:k=0\/k=1\/k=2\/k=3\/k=4\/k=5:=by omega
   clear hk hlt;rcases hc with rfl | rfl | rfl | rfl | rfl | rfl
   ·by_cases he:([97,100,100]:Lz)=s
    ·have e3:(([97,100,100]:Lz) == s)=true:=by rw[beq_iff_eq];exact he
     have HX:Ll (ck s=1):=aa (by unfold ck;rw[HI.o,jc (k:=0) (by decide) he];rfl);clear he HI;go_wp2
     go_ret;exact⟨by rw[HX.o];rfl,MK _ _⟩
    ·have e3:(([97,100,100]:Lz) == s)=false:=by rw[MO];exact he
     have HX:Ll (TN s ew=(TN s (ew.drop 1)).map (·+1)):=aa (by rw[HI.o];exact iT (k:=0) (by decide) he);clear he HI;go_wp2
     go_round
     case rel=>exact⟨1,by omega,by go_num,HX⟩
     case measure=>simp[intOf]
   ·by_cases he:([114,101,109,111,118,101]:Lz)=s
    ·have e3:(([114,101,109,111,118,101]:Lz) == s)=true:=by rw[beq_iff_eq];exact he
     have HX:Ll (ck s=2):=aa (by unfold ck;rw[HI.o,jc (k:=1) (by decide) he];rfl);clear he HI;go_wp2
     go_ret;exact⟨by rw[HX.o];rfl,MK _ _⟩
    ·have e3:(([114,101,109,111,118,101]:Lz) == s)=false:=by rw[MO];exact he
     have HX:Ll (TN s ew=(TN s (ew.drop 2)).map (·+2)):=aa (by rw[HI.o];exact iT (k:=1) (by decide) he);clear he HI;go_wp2
     go_round
     case rel=>exact⟨2,by omega,by go_num,HX⟩
     case measure=>simp[intOf]
   ·by_cases he:([114,101,112,108,97,99,101]:Lz)=s
    ·have e3:(([114,101,112,108,97,99,101]:Lz) == s)=true:=by rw[beq_iff_eq];exact he
     have HX:Ll (ck s=3):=aa (by unfold ck;rw[HI.o,jc (k:=2) (by decide) he];rfl);clear he HI;go_wp2
     go_ret;exact⟨by rw[HX.o];rfl,MK _ _⟩
    ·have e3:(([114,101,112,108,97,99,101]:Lz) == s)=false:=by rw[MO];exact he
     have HX:Ll (TN s ew=(TN s (ew.drop 3)).map (·+3)):=aa (by rw[HI.o];exact iT (k:=2) (by decide) he);clear he HI;go_wp2
     go_round
     case rel=>exact⟨3,by omega,by go_num,HX⟩
     case measure=>simp[intOf]
   ·by_cases he:([109,111,118,101]:Lz)=s
    ·have e3:(([109,111,118,101]:Lz) == s)=true:=by rw[beq_iff_eq];exact he
     have HX:Ll (ck s=4):=aa (by unfold ck;rw[HI.o,jc (k:=3) (by decide) he];rfl);clear he HI;go_wp2
     go_ret;exact⟨by rw[HX.o];rfl,MK _ _⟩
    ·have e3:(([109,111,118,101]:Lz) == s)=false:=by rw[MO];exact he
     have HX:Ll (TN s ew=(TN s (ew.drop 4)).map (·+4)):=aa (by rw[HI.o];exact iT (k:=3) (by decide) he);clear he HI;go_wp2
     go_round
     case rel=>exact⟨4,by omega,by go_num,HX⟩
     case measure=>simp[intOf]
   ·by_cases he:([99,111,112,121]:Lz)=s
    ·have e3:(([99,111,112,121]:Lz) == s)=true:=by rw[beq_iff_eq];exact he
     have HX:Ll (ck s=5):=aa (by unfold ck;rw[HI.o,jc (k:=4) (by decide) he];rfl);clear he HI;go_wp2
     go_ret;exact⟨by rw[HX.o];rfl,MK _ _⟩
    ·have e3:(([99,111,112,121]:Lz) == s)=false:=by rw[MO];exact he
     have HX:Ll (TN s ew=(TN s (ew.drop 5)).map (·+5)):=aa (by rw[HI.o];exact iT (k:=4) (by decide) he);clear he HI;go_wp2
     go_round
     case rel=>exact⟨5,by omega,by go_num,HX⟩
     case measure=>simp[intOf]
   ·by_cases he:([116,101,115,116]:Lz)=s
    ·have e3:(([116,101,115,116]:Lz) == s)=true:=by rw[beq_iff_eq];exact he
     have HX:Ll (ck s=6):=aa (by unfold ck;rw[HI.o,jc (k:=5) (by decide) he];rfl);clear he HI;go_wp2
     go_ret;exact⟨by rw[HX.o];rfl,MK _ _⟩
    ·have e3:(([116,101,115,116]:Lz) == s)=false:=by rw[MO];exact he
     have HX:Ll (TN s ew=(TN s (ew.drop 6)).map (·+6)):=aa (by rw[HI.o];exact iT (k:=5) (by decide) he);clear he HI;go_wp2
     go_round
     case rel=>exact⟨6,by omega,by go_num,HX⟩
     case measure=>simp[intOf]
  ·have hk6:k=6:=by omega
   subst hk6;have HX:Ll (ck s=0):=aa (by unfold ck;rw[HI.o];rfl);clear HI hk hlt;go_wp2
   go_ret;exact⟨by rw[HX.o];rfl,MK _ _⟩
theorem Bt(w:LC)(ok t v key)(h:In w ok t v)(hm:aS t key=none):Calls prog 168 #[v,aR key] w fun e w'=>e=.returned (.tuple #[aR ((bt t key).getD []),.bool (bt t key).isSome])/\La w w':=by
 have H:=aa h;obtain⟨a1,b1,c1,d1,rfl⟩:=h.form;have HM:=aa hm;have HA:Ll (bt t key=none):=aa (by simp[bt,hm]);clear hm;clear h;unfold aR;have B0:=aa (ae w (.cells (KV t a1 c1 b1 d1) 39));go_enter func168,ntmps168;go_wp2_with (go_at_call 44;refine(co _ ok t _ key (by exact H.o.bel B0.o)).mono ?_;rintro e w2 ⟨xm,bm,rfl,hb,hb2,m,hy,hyz⟩;obtain⟨a5,b5,c5,d5,rfl⟩:=hy.form;rw[HM.o]at hb2 hyz;simp only[Option.isSome]at hb2;subst hb2;have Bm:=aa (show KY (w2.alloc (.cells (KV m a5 c5 b5 d5) 39)) w2.heap.size m a5 c5 b5 d5 from MN w2 _);have HB:=aa (ab B0.o (ab hb (ae w2 (.cells (KV m a5 c5 b5 d5) 39))));have m0_:=Bm.o.c;clear hb hy hyz)
 refine MM (v:=.tuple #[.string ⟨#[]⟩,.bool false]) (by simp[results,results168,go_sem]) rfl ⟨by rw[HA.o];rfl,HB.o⟩
theorem xO(w:LC)(ok t v key)(h:In w ok t v)(mm)(hm:aS t key=some mm)(hk:mm.kind≠3):Calls prog 168 #[v,aR key] w fun e w'=>e=.returned (.tuple #[aR ((bt t key).getD []),.bool (bt t key).isSome])/\La w w':=by
 have H:=aa h;obtain⟨a1,b1,c1,d1,rfl⟩:=h.form;have HM:=aa hm;have HA:Ll (bt t key=none):=aa (by simp[bt,hm,hk]);have e1:(mm.kind == 3)=false:=by simp[hk]
 have e1n:(mm.kind != 3)=true:=by simp[hk]
 clear hm hk;clear h;unfold aR;have B0:=aa (ae w (.cells (KV t a1 c1 b1 d1) 39));go_enter func168,ntmps168;go_wp2_with (go_at_call 44;refine(co _ ok t _ key (by exact H.o.bel B0.o)).mono ?_;rintro e w2 ⟨xm,bm,rfl,hb,hb2,m,hy,hyz⟩;obtain⟨a5,b5,c5,d5,rfl⟩:=hy.form;rw[HM.o]at hb2 hyz;simp only[Option.isSome]at hb2;subst hb2;obtain rfl:=hyz _ rfl;have Bm:=aa (show KY (w2.alloc (.cells (KV m a5 c5 b5 d5) 39)) w2.heap.size m a5 c5 b5 d5 from MN w2 _);have HB:=aa (ab B0.o (ab hb (ae w2 (.cells (KV m a5 c5 b5 d5) 39))));have m0_:=Bm.o.c;clear hb hy hyz)
 refine MM (v:=.tuple #[.string ⟨#[]⟩,.bool false]) (by simp[results,results168,go_sem]) rfl ⟨by rw[HA.o];rfl,HB.o⟩
theorem Cm(w:LC)(ok t v key)(h:In w ok t v)(mm)(hm:aS t key=some mm)(hk:mm.kind=3):Calls prog 168 #[v,aR key] w fun e w'=>e=.returned (.tuple #[aR ((bt t key).getD []),.bool (bt t key).isSome])/\La w w':=by
 have H:=aa h;obtain⟨a1,b1,c1,d1,rfl⟩:=h.form;have HM:=aa hm;have HA:Ll (bt t key=some mm.s):=aa (by simp[bt,hm,hk]);have e1:(mm.kind == 3)=true:=by simp[hk]
 have e1n:(mm.kind != 3)=false:=by simp[hk]
 clear hm hk;clear h;unfold aR;have B0:=aa (ae w (.cells (KV t a1 c1 b1 d1) 39));go_enter func168,ntmps168;go_wp2_with (go_at_call 44;refine(co _ ok t _ key (by exact H.o.bel B0.o)).mono ?_;rintro e w2 ⟨xm,bm,rfl,hb,hb2,m,hy,hyz⟩;obtain⟨a5,b5,c5,d5,rfl⟩:=hy.form;rw[HM.o]at hb2 hyz;simp only[Option.isSome]at hb2;subst hb2;obtain rfl:=hyz _ rfl;have Bm:=aa (show KY (w2.alloc (.cells (KV m a5 c5 b5 d5) 39)) w2.heap.size m a5 c5 b5 d5 from MN w2 _);have HB:=aa (ab B0.o (ab hb (ae w2 (.cells (KV m a5 c5 b5 d5) 39))));have m0_:=Bm.o.c;clear hb hy hyz)
 refine MM (v:=.tuple #[.string ⟨m.s.toArray⟩,.bool true]) (by simp[results,results168,go_sem]) rfl ⟨by rw[HA.o];rfl,HB.o⟩
theorem eQ(w:LC)(ok t v key)(h:In w ok t v):Calls prog 168 #[v,aR key] w fun e w'=>e=.returned (.tuple #[aR ((bt t key).getD []),.bool (bt t key).isSome])/\La w w':=by
 cases hm:aS t key with
 | none=>exact Bt w ok t v key h hm
 | some m=>
  by_cases hk:m.kind=3
  ·exact Cm w ok t v key h m hm hk
  ·exact xO w ok t v key h m hm hk
variable {y:V}
theorem gN(a b):cnts (a++b)=cnts a+cnts b:=by simp[cnts]
theorem ii(l i):cnts l=cnts (l.take i)+cnts (l.drop i):=by rw[<-gN,List.take_append_drop]
theorem su{k}:cp (aG t k y)+(match aS t k with | some z=>cp z | none=>0)<=cp t+cp y:=by
 rw[df,df t];unfold aG;split
 ·rename_i hp;unfold aS;split
  ·rename_i i hf;rw[show dO t k=some i by simp[dO,hp,hf],Option.bind_some];simp only;rw[gN,er];cases hz:t.l[i]? with
   | none=>
    have h1:=ii t.l i;have h2:t.l.drop (i+1)=[]:=List.drop_eq_nil_of_le (by have:=List.getElem?_eq_none_iff.1 hz;omega);simp only[h2,qf];omega
   | some z=>
    obtain⟨hi,rfl⟩:=Mz.1 hz;have h1:=ii t.l i;rw[iV hi]at h1;simp only;omega
  ·rename_i hf;rw[show dO t k=none by simp[dO,hp,hf]];simp only[Option.bind_none];rw[gN,er];have h1:=ii t.l (qW k t.keys);omega
 ·rename_i hp;have:aS t k=none:=by simp[aS,dO,hp]
  rw[this];have:=df y;simp only;omega
theorem lN(t k):cp (bH t k)<=cp t:=by
 rw[df,df t];unfold bH;split
 ·rename_i i hf;simp only;rw[gN];have h1:=ii t.l i;have h2:=ii (t.l.drop i) 1;rw[List.drop_drop]at h2;omega
 ·omega
theorem rO(t):cp (cD t)<=cp t:=by
 unfold cD;split
 ·exact MG _
 ·have:=df t;have h2:cp jM=1:=by rw[df];simp[jM,cnts]
  omega
theorem uY:∀ (ns:List Lz) (v x:V),cp (TF ns v x)<=cp v+ns.length+cp x
 | [],v,x=>by unfold TF;split <;> simp <;> omega
 | n :: ns,v,x=>by
  unfold TF;have h1:=su (t:=cD v) (k:=n) (y:=TF ns ((aS v n).getD aM) x);have h2:=uY ns ((aS v n).getD aM) x;have h3:=rO v;rw[kC]at h1;have hz:cp aM=1:=by rw[df];simp[aM,cnts]
  cases hm:aS v n with
  | none=>rw[hm]at h1 h2;simp only[Option.getD_none]at h1 h2 ⊢;rw[hz]at h2;simp only[My];omega
  | some z=>rw[hm]at h1 h2;simp only[Option.getD_some]at h1 h2 ⊢;simp only[My];omega
theorem He{v z n}(h:aS v n=some z):cp z < cp v:=by
 have h1:=pC (lG h);have h2:=df v;omega
theorem Ab(v n):cp ((aS v n).getD aM)<=cp v:=by
 cases h:aS v n with
 | none=>
  have hz:cp aM=1:=by rw[df];simp[aM,cnts]
  have:=df v;rw[Option.getD_none];omega
 | some z=>have:=He h;rw[Option.getD_some];omega
theorem zP:∀ (ns:List Lz) (v:V),(∃ y,dr ns v=some y)->cp (gI ns v)<=cp v
 | [],v,_=>MG _
 | [n],v,_=>lN v n
 | n :: m :: ns,v,⟨y,hy⟩=>by
  obtain⟨-,z,hm,hz⟩:=gB hy;unfold gI;rw[hm,Option.getD_some];have h2:=zP (m :: ns) z ⟨y,hz⟩;split
  ·exact lN v n
  ·have h1:=su (t:=v) (k:=n) (y:=gI (m :: ns) z);rw[hm]at h1;simp only at h1;omega
theorem zT(t):t.l.length < cp t:=by
 have h1:=uF t.l;have h2:=df t;omega
theorem cY{w1:LC}{C v0 v1 v2 v3 v4}(h:In w1 (bg ok w.heap.size C) t (.agg #[v0,v1,v2,v3,v4]))(hb:La w w1)(hg:w.heap.size<=g)(hC:g < C):La w (ar w1 g v0 v1 v2 v3 v4)/\In (ar w1 g v0 v1 v2 v3 v4) (bQ ok w.heap.size) t (.agg #[v0,v1,v2,v3,v4]):=
 ⟨aP hb hg _ _ _ _ _,(h.box hg hC _ _ _ _ _).weak (ik (by omega))⟩
theorem lA{s ns b off}(h:ao w ok (s :: ns) (.slice (some ⟨b,off,none⟩) n c)):ao w ok ns (.slice (some ⟨b,off+1,none⟩) ns.length (c - 1)):=by
 have hl:=h.1;simp only[My]at hl;refine⟨by omega,.inr ⟨b,off+1,c - 1,rfl,?_⟩⟩;rcases h.2 with⟨e,_⟩ | ⟨b',off',c',e,h1,h2,Mb⟩
 ·cases e
 ·simp only[Value.slice.injEq,Option.some.injEq,Addr.mk.injEq,My,and_true]at e h1;obtain⟨⟨rfl,rfl⟩,-,rfl⟩:=e;refine⟨by omega,by omega,fun i x hx=>?_⟩;obtain⟨g1,g2,g3⟩:=Mb (i+1) x (by simpa using hx);exact⟨g1,g2,by rw[show off+1+i=off+(i+1) by omega];exact g3⟩
theorem qm{s ns}(h:ao w ok (s :: ns) v):∃ b off c,v=.slice (some ⟨b,off,none⟩) (s :: ns).length c/\(s :: ns).length<=c/\c<=9223372036854775807/\w.cell? ⟨b,off,none⟩=some (.string ⟨s.toArray⟩)/\s.length<=9223372036854775807:=by
 rcases h.2 with⟨e,_⟩ | ⟨b,off,c,e,h1,h2,Mb⟩
 ·cases e
 ·obtain⟨g1,g2,g3⟩:=Mb 0 s rfl;exact⟨b,off,c,e,h1,h2,g3,g1⟩
section
open Go.ChangeShapes Go.WideShapes Go.ChangeAt Go.RowKit
theorem wN:Tryz.prog.globalNamed "stairwell/patch.words"=some 2:=by kernel_rfl
theorem Fv:(Tryz.prog.globals[2]?).map (·.type)=some 225:=by kernel_rfl
theorem uZ:Tryz.prog.cellsOf 225=6:=by kernel_rfl
theorem tL{H:Type}{enc:TypeId × Value->H}{w:World}{base:Nat}{sp:Nat->Bool}{held:Bool}{fuel:Nat}{cs:List Value}{zs:List (List UInt8)}{p:List MemPlace}(hz:zs.length=6)(h:DataW.trod enc Tryz.prog w base sp held fuel 225 cs=some (.agg (zs.map fun z=>.lit (.string z)),p)):cs=zs.map fun z=>Value.string ⟨z.toArray⟩:=by
 obtain⟨xs,m,e,hx,hl,LT,hf⟩:=DataW.trod_array Tryz.underlying225 h;rw[uZ]at hl;have hxs:xs.map (·.1)=zs.map fun z=>(DataW.lit (.string z):DataW H):=by
  have:=congrArg Prod.fst hx;simpa using this.symm
 apply List.ext_getElem?;intro i;by_cases hi:i < 6
 ·have hfi:=hf i hi;rw[db,Nat.mul_one,Mw (by omega)]at hfi;obtain⟨s,e1,e2,-⟩:=DataW.trod_string Tryz.underlying9 hfi;have h1:cs[i]?=some (.string s):=by
   have:=congrArg (·[0]?) e1;simpa [List.getElem?_take,List.getElem?_drop] using this
  have h2:(xs.map (·.1))[i]?=some (DataW.lit (.string s.data.toList):DataW H):=by
   rw[List.getElem?_map,Mw (by omega),e2];rfl
  rw[hxs]at h2;simp only[List.getElem?_map,Option.map_eq_some_iff,DataW.lit.injEq,Lit.string.injEq]at h2;obtain⟨z',hz',e3⟩:=h2;rw[h1,List.getElem?_map,hz',e3];simp
 ·rw[List.getElem?_eq_none (by omega),List.getElem?_eq_none (by simp;omega)]
theorem um{W:World}(h:laidMet Tryz.prog lS W):cn W:=by
 have h3:=h.tail.tail;have h4:=h3.tail.tail;have h5:=h4.tail;rw[Hu]at h3;have hp:=Lib.tabIs_of_head Wu Fp Tryz.underlying213 Tryz.underlying153 VF Ej h3;obtain⟨a1,s1,hv1,-,-,-⟩:=laid_sentinel h4 Gp za Tryz.underlying186 Fg Tryz.underlying276 Tryz.underlying278 rfl rfl Tryz.underlying9 rH db;obtain⟨a2,s2,hv2,-,-,-⟩:=laid_sentinel h5 Ax vR Tryz.underlying186 Fg Tryz.underlying276 Tryz.underlying278 rfl rfl Tryz.underlying9 rH db;obtain⟨t1,f1,e1⟩:=kQ Gp hv1;obtain⟨t2,f2,e2⟩:=kQ Ax hv2;obtain⟨t3,f3,e3⟩:=kQ Wu hp;exact⟨⟨_,_,t2,f2,e2⟩,⟨_,_,t1,f1,e1⟩,t3,f3,e3⟩
theorem sf{W:World}(h:laidMet Tryz.prog lS W):di W:=by
 have h2:=h.tail.tail.tail.tail.tail.tail;obtain⟨ps,⟨g',t',cs,fuel,p,q,hg',ht',hvar,hd,_,_⟩,_⟩:=h2;obtain rfl:=Option.some.inj (wN.symm.trans hg');obtain rfl:=Option.some.inj (Fv.symm.trans ht');have hc:=tL (zs:=ew) rfl hd;obtain⟨t1,f1,e1⟩:=kQ wN hvar;refine⟨t1,f1,?_⟩;rw[e1];congr 2
 simpa [ew] using congrArg List.toArray hc
end
end Go.Proofs.YtgolnaencepejaaGreatDoor
