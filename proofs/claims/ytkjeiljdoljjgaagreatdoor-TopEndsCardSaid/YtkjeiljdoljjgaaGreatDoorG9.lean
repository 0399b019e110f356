import Derived.Test.YtkjeiljdoljjgaaGreatDoorG8
import Derived.Deep.DeepCutAuto
import Derived.Deep.DrawnRows
set_option maxRecDepth 100000
set_option maxHeartbeats 40000000
set_option linter.unusedSimpArgs false
set_option linter.unusedVariables false
namespace Go.Proofs.YtkjeiljdoljjgaaGreatDoor
open Go.RowKit
open _root_.Go.Proofs.Tryz
variable {w w':World}
variable {ok:Nat->Prop}
variable {v:Value}
variable {g B n k:Nat}
section
attribute [local go_sem ↓] Go.wp_at_zero Go.wp_at_succ
def em (key:Lz) (keys:List Lz):Nat:=(keys.takeWhile fun a=>Op.bytesLess a key).length
theorem wW(key keys):em key keys<=keys.length:=(List.takeWhile_sublist _).length_le
theorem ym{key a keys}(h:keys[k]?=some a)(hk:k<=em key keys)(hl:Op.bytesLess a key=true):k < em key keys:=by
 induction keys generalizing k with
 | nil=>simp at h
 | cons b keys ih=>
  unfold em at hk ⊢;rw[List.takeWhile_cons]at hk ⊢;cases k with
  | zero=>simp at h;subst h;simp[hl]
  | succ k=>
   split at hk
   ·rename_i hb;rw[if_pos hb];simp only[My]at hk ⊢;have:=ih (k:=k) (by simpa using h) (by unfold em;omega);unfold em at this;omega
   ·simp at hk
theorem Bz{key a keys}(h:keys[k]?=some a)(hk:k<=em key keys)(hl:Op.bytesLess a key=false):k=em key keys:=by
 induction keys generalizing k with
 | nil=>simp at h
 | cons b keys ih=>
  unfold em at hk ⊢;rw[List.takeWhile_cons]at hk ⊢;cases k with
  | zero=>simp at h;subst h;simp[hl]
  | succ k=>
   split at hk
   ·rename_i hb;rw[if_pos hb];simp only[My]at hk ⊢;have:=ih (k:=k) (by simpa using h) (by unfold em;omega);unfold em at this;omega
   ·simp at hk
def Kf (w w2:LC) (t x:V) (key:Lz) (at_:Nat) (a2 a7 a8:Option Addr) (c2 c7 c8:Nat) (wc:LC):Prop:=
 ∃ g cap,ag wc w.heap.size (.int .i64 t.kind) (.int .i64 t.n) (.string ⟨t.s.toArray⟩) (.slice (some ⟨g,0,none⟩) (t.keys.length+1) cap) (.slice a2 t.l.length c2) /\
  KY wc (w.heap.size+1) x a7 c7 a8 c8 /\
  Lc wc (w.heap.size+2) /\
  wc.ownsRow w2.heap.size 9 1 (.slice (some ⟨g,0,none⟩) (t.keys.length+1) cap) (t.keys.length+1) ((t.keys.take at_).map aR++[aR key]++(t.keys.drop at_).map aR) /\
  La w wc/\w2.heap.size<=wc.heap.size
theorem fD{e:TypeId}{size xs}(h:w.ownsRow B e size v n xs)(hb:La w w'):w'.ownsRow B e size v n xs:=h.kept (aq (r:=none) hb) (by cases v.ownBlock <;> simp)
theorem ao.mem{xs}(h:ao w ok xs v)(y)(hy:y∈xs):y.length<=maxLen:=by
 rcases h.2 with⟨e,_⟩ | ⟨b,off,c,e,h1,h2,h3⟩
 ·rw[e]at hy;simp at hy
 ·obtain⟨i,hi⟩:=List.getElem?_of_mem hy;exact(h3 i y hi).1
theorem xx{c0 c1 c2 c3 c4}(h:ag w g c0 c1 c2 c3 c4)(v):ag (w.setCell ⟨g,3,none⟩ v) g c0 c1 c2 v c4:=ak h 3 v
theorem ER(w ok d t x v xv key)(h:bu w ok (d+1) t v)(hx:bu w ok d x xv)(hf:dO t key=none)(hp:aK t=true)(L9:t.l.length<=100000)(hkey:key.length<=maxLen):Calls prog 164 #[v,aR key,xv] w fun e w'=>∃ r,e=.returned r/\bu w' (bQ ok w.heap.size) (d+1) { t with keys:=t.keys.take (em key t.keys)++key :: t.keys.drop (em key t.keys),l:=t.l.take (em key t.keys)++x :: t.l.drop (em key t.keys) } r/\La w w':=by
 have H:=aa h;have HX:=aa hx;obtain⟨ks,ls,rfl,h1,h2,h3,h4,h5⟩:=h;have KK:Ll (dW t.kind/\dW t.n/\t.s.length<=maxLen/\ao w ok t.keys ks/\cS w ok (bu w ok d) t.l ls):=⟨h1,h2,h3,h4,h5⟩
 obtain⟨a1,c1,rfl⟩:=h4.form;obtain⟨a2,c2,rfl⟩:=h5.form;have l1:=h4.1;have l2:=h5.1;have F:=aa hf;have FP:=aa hp;have hkl:t.keys.length=t.l.length:=by
  simp only[aK,MJ,decide_eq_true_eq]at hp;exact hp.2
 have HKL:=aa hkl;have hkl1:t.keys.length<=t.l.length:=by omega
 have hkl2:t.l.length<=t.keys.length:=by omega
 clear hf hp hkl;obtain⟨xk,xl,hxv⟩:∃ xk xl,xv=.agg #[.int .i64 x.kind,.int .i64 x.n,aR x.s,xk,xl]:=by
  match d,hx with
  | d+1,hx=>obtain⟨ks,ls,e,_⟩:=hx;exact⟨ks,ls,e⟩
 subst hxv;obtain⟨-,-,-,⟨a7,c7,rfl⟩,⟨a8,c8,rfl⟩⟩:=hx.agg;unfold maxLen at l1 h3 l2;unfold aR;clear h4 h5 h1 h2 hx;go_enter func164,ntmps164;go_wp2_with fail
 refine Lk (ni _ ok _ t _ (by exact H.o.bel (ab (ab (ae _ _) (ae _ _)) (ae _ _)))) fun w1 hb1=>?_;rw[FP.o];have bx:Ll (KY w1 w.heap.size t a1 c1 a2 c2/\KY w1 (w.heap.size+1) x a7 c7 a8 c8/\Lc w1 (w.heap.size+2)):=⟨af hb1 (lI w _ _ _),af hb1 (mE w _ _ _),af hb1 (jI w _ _ _)⟩
 obtain⟨p0,p1,p2,p3,p4,-,-,-,p9,p10⟩:=bx.o.1.c;have B1:Ll (La w w1):=ab (ab (ab (ae _ _) (ae _ _)) (ae _ _)) hb1;clear hb1;go_wp2_with fail
 refine Lk (kJ _ ok _ t _ key (by exact H.o.bel B1.o)) fun w2 hb2=>?_;rw[F.o];have bx2:Ll (KY w2 w.heap.size t a1 c1 a2 c2/\KY w2 (w.heap.size+1) x a7 c7 a8 c8/\Lc w2 (w.heap.size+2)):=⟨af hb2 bx.o.1,af hb2 bx.o.2.1,af hb2 bx.o.2.2⟩
 have B2:Ll (La w w2):=ab B1.o hb2;have hsz2:w.heap.size+2 < w2.heap.size:=bx2.o.2.2.lt;clear hb2 bx B1;unfold pS;obtain⟨p0,p1,p2,p3,p4,-,-,-,p9,p10⟩:=bx2.o.1.c;obtain⟨q0,q1,q2,q3,q4,-⟩:=bx2.o.2.1.c;go_upto_block 0 with fail
 go_cut [8] (fun i wc=>i=.int .i64 (em key t.keys:Nat)/\wc=w2)
 case first=>
  go_wp2_with fail
  go_loopg [8] t.keys.length (fun g i wr=>∃ k:Nat,k<=em key t.keys/\g=t.keys.length - k/\i=.int .i64 k/\wr=w2)
  case atStart=>exact⟨0,Nat.zero_le _,rfl,rfl,rfl⟩
  case round=>
   obtain⟨k,hk,hgk,rfl,rfl⟩:=hrel;have GK:=aa hgk;have hia:=wW key t.keys;clear hgk;by_cases hlt:k < t.keys.length
   ·obtain⟨_,K4⟩:=KK.o.2.2.2.1;rcases K4 with⟨e,_⟩ | ⟨kb,ko,kc,hks,hc1,hc2,Mb⟩
    ·rw[e]at hlt;simp at hlt
    simp only[Value.slice.injEq]at hks;obtain⟨rfl,-,rfl⟩:=hks;have hc:=ah B2.o (Mb k t.keys[k] (Mw hlt)).2.2;clear Mb;unfold aR at hc;cases hless:Op.bytesLess t.keys[k] key with
    | true=>
     have hk1:k < em key t.keys:=ym (Mw hlt) hk hless;go_wp2_with fail
     go_roundg (t.keys.length - (k+1))
     case measure=>rw[GK.o];omega
     case rel=>exact⟨k+1,hk1,rfl,by go_num,rfl⟩
    | false=>
     have hk1:k=em key t.keys:=Bz (Mw hlt) hk hless;have HK1:=aa hk1;clear hk1;go_wp2_with fail
     go_meet
     case rel=>exact⟨by rw[<-HK1.o],rfl⟩
   ·have hk1:k=em key t.keys:=by omega
    have HK1:=aa hk1;clear hk1;go_wp2_with fail
    go_meet
    case rel=>exact⟨by rw[<-HK1.o],rfl⟩
 case rest=>
  obtain⟨rfl,hw⟩:=hcut;have hw':=hw.symm;clear hw;subst hw';have hia:=wW key t.keys;obtain⟨at_,hat⟩:∃ a,em key t.keys=a:=⟨_,rfl⟩
  rw[hat]at hia ⊢;have HAT:=aa hat;clear hat;have j0:(0:Int)<=(at_:Int):=by omega
  have j1:(at_:Int)<=(t.keys.length:Int):=by omega
  have j2:(at_:Int)<=(t.l.length:Int):=by omega
  have fin10:Ll (∀ w3 g cap,w3.ownsRow w2.heap.size 9 1 (.slice (some ⟨g,0,none⟩) (t.keys.length+1) cap) (t.keys.length+1) ((t.keys.take at_).map aR++[.string ⟨key.toArray⟩]++(t.keys.drop at_).map aR)->La w2 w3 ->
   Kf w w2 t x key at_ a2 a7 a8 c2 c7 c8 (w3.setCell ⟨w.heap.size,3,none⟩ (.slice (some ⟨g,0,none⟩) (t.keys.length+1) cap))):=by
   intro w3 g cap ho hb;have g1:w3.grownBy (w3.setCell ⟨w.heap.size,3,none⟩ (.slice (some ⟨g,0,none⟩) (t.keys.length+1) cap)) (some w.heap.size):=ap (az _ _) _ _;refine⟨g,cap,xx (af hb bx2.o.1) _,(af hb bx2.o.2.1).grown g1 (by simp),(af hb bx2.o.2.2).grown g1 (by simp),aW ho g1 (by omega),?_,MH hb.size g1.size⟩;exact bS (bi (aq (ab B2.o hb)) (MG _) _ _)
  go_upto_region 10 with fail
  go_cut [8] (fun i wc'=>i=.int .i64 (at_:Nat)/\Kf w w2 t x key at_ a2 a7 a8 c2 c7 c8 wc')
  case first=>
   have k3:∀ o,(w2.alloc o).cell? ⟨w.heap.size,3,none⟩=some (.slice a1 t.keys.length c1):=fun o=>(af (ae w2 o) bx2.o.1).c.2.2.2.1;obtain⟨_,K4⟩:=KK.o.2.2.2.1;rcases K4 with⟨e,e2⟩ | ⟨kb,ko,kc,hks,hc1,hc2,Mb⟩
   ·obtain⟨a0,e2⟩:=e2;simp only[Value.slice.injEq]at e2;obtain⟨-,e3,e6⟩:=e2;subst e6;have E3:Ll (t.keys.length=0/\t.keys=[]):=⟨e3,e⟩
    have j4:(t.keys.length:Int)<=0:=by omega
    have e7:at_=0:=by omega
    clear e e3;subst e7;have con:Ll (∀ W,W.heap=((w2.alloc (.cells #[.string ⟨key.toArray⟩] 9)).alloc (.cells #[.slice a1 0 0,.slice (some ⟨w2.heap.size,0,none⟩) 1 1,.slice a1 t.keys.length 0] 32)).heap->W.os=w2.os->W.tape=w2.tape->W.output=w2.output ->
     Calls prog 198 #[.slice (some ⟨w2.heap.size+1,0,none⟩) 3 3] W fun e w'=>∃ g cap,e=.returned (.slice (some ⟨g,0,none⟩) (t.keys.length+1) cap)/\w'.ownsRow w2.heap.size 9 1 (.slice (some ⟨g,0,none⟩) (t.keys.length+1) cap) (t.keys.length+1) ((t.keys.take 0).map aR++[.string ⟨key.toArray⟩]++(t.keys.drop 0).map aR)/\La w2 w'):=by
     intro W e1 e2 e4 e5;obtain⟨q1,q2⟩:=E3.o;rw[q1]at e1;rw[q2];simp only[List.take_nil,List.drop_nil,List.map_nil,List.length_nil];exact Jg ⟨key.toArray⟩ (mi w2 1 a1) (mi w2 1 a1) rfl (by simp) W e1 e2 e4 e5
    go_region_with ((go_at_call 198;refine(con.o _ (by rfl) (by rfl) (by rfl) (by rfl)).mono ?_;rintro e w3 ⟨g,cap,rfl,ho3,hb3⟩;obtain⟨p0,p1,p2,p3,p4,-,-,-,p9,p10⟩:=(af hb3 bx2.o.1).c;have O3:=aa ho3;have HB3:=aa hb3;clear ho3 hb3))
    all_goals
     go_wp2_with fail
     go_meet
     case rel=>exact⟨rfl,fin10.o _ _ _ O3.o HB3.o⟩
   ·simp only[Value.slice.injEq]at hks;obtain⟨rfl,-,rfl⟩:=hks;clear Mb;unfold maxLen at hc2;have j3:(at_:Int)<=(c1:Int):=by omega
    have j4:(t.keys.length:Int)<=(c1:Int):=by omega
    obtain⟨s1,s2⟩:=qG KK.o.2.2.2.1 at_ at_ (MG _) hia (by omega);obtain⟨a3,hifs⟩:∃ a3,(if c1=at_ then (some ⟨kb,ko,none⟩:Option Addr) else some ⟨kb,ko+at_,none⟩)=a3:=⟨_,rfl⟩
    rw[Nat.mul_one,hifs]at s2;have con:Ll (∀ W,W.heap=((w2.alloc (.cells #[.string ⟨key.toArray⟩] 9)).alloc (.cells #[.slice (some ⟨kb,ko,none⟩) at_ c1,.slice (some ⟨w2.heap.size,0,none⟩) 1 1,.slice a3 (t.keys.length - at_) (c1 - at_)] 32)).heap->W.os=w2.os->W.tape=w2.tape->W.output=w2.output ->
     Calls prog 198 #[.slice (some ⟨w2.heap.size+1,0,none⟩) 3 3] W fun e w'=>∃ g cap,e=.returned (.slice (some ⟨g,0,none⟩) (t.keys.length+1) cap)/\w'.ownsRow w2.heap.size 9 1 (.slice (some ⟨g,0,none⟩) (t.keys.length+1) cap) (t.keys.length+1) ((t.keys.take at_).map aR++[.string ⟨key.toArray⟩]++(t.keys.drop at_).map aR)/\La w2 w'):=by
     intro W e1 e2 e4 e5;exact Jg ⟨key.toArray⟩ (s1.bel B2.o) (s2.bel B2.o) (by omega) (by omega) W e1 e2 e4 e5
    clear s1 s2;go_region_with ((go_at_call 198;refine(con.o _ (by rfl) (by rfl) (by rfl) (by rfl)).mono ?_;rintro e w3 ⟨g,cap,rfl,ho3,hb3⟩;obtain⟨p0,p1,p2,p3,p4,-,-,-,p9,p10⟩:=(af hb3 bx2.o.1).c;have O3:=aa ho3;have HB3:=aa hb3;clear ho3 hb3))
    all_goals
     go_wp2_with fail
     go_meet
     case rel=>exact⟨rfl,fin10.o _ _ _ O3.o HB3.o⟩
  case rest=>
   obtain⟨rfl,gk,kcap,hm1,hm2,hm3,hm4,hm5,hm6⟩:=hcut;have M:Ll (ag wc w.heap.size (.int .i64 t.kind) (.int .i64 t.n) (.string ⟨t.s.toArray⟩) (.slice (some ⟨gk,0,none⟩) (t.keys.length+1) kcap) (.slice a2 t.l.length c2)/\KY wc (w.heap.size+1) x a7 c7 a8 c8/\Lc wc (w.heap.size+2)/\wc.ownsRow w2.heap.size 9 1 (.slice (some ⟨gk,0,none⟩) (t.keys.length+1) kcap) (t.keys.length+1) ((t.keys.take at_).map aR++[aR key]++(t.keys.drop at_).map aR)/\La w wc/\w2.heap.size<=wc.heap.size):=⟨hm1,hm2,hm3,hm4,hm5,hm6⟩
   clear hm1 hm2 hm3 hm4 hm5 fin10;obtain⟨p0,p1,p2,p3,p4,-,-,-,p9,p10⟩:=M.o.1.c;obtain⟨q0,q1,q2,q3,q4,-⟩:=M.o.2.1.c;have k4:∀ o,(wc.alloc o).cell? ⟨w.heap.size,4,none⟩=some (.slice a2 t.l.length c2):=fun o=>(af (ae wc o) M.o.1).c.2.2.2.2.1;have m0:∀ o,(wc.alloc o).cell? ⟨w.heap.size+1,0,none⟩=some (.int .i64 x.kind):=fun o=>(af (ae wc o) M.o.2.1).c.1;have m1:∀ o,(wc.alloc o).cell? ⟨w.heap.size+1,1,none⟩=some (.int .i64 x.n):=fun o=>(af (ae wc o) M.o.2.1).c.2.1;have m2:∀ o,(wc.alloc o).cell? ⟨w.heap.size+1,2,none⟩=some (.string ⟨x.s.toArray⟩):=fun o=>(af (ae wc o) M.o.2.1).c.2.2.1;have m3:∀ o,(wc.alloc o).cell? ⟨w.heap.size+1,3,none⟩=some (.slice a7 x.keys.length c7):=fun o=>(af (ae wc o) M.o.2.1).c.2.2.2.1;have m4:∀ o,(wc.alloc o).cell? ⟨w.heap.size+1,4,none⟩=some (.slice a8 x.l.length c8):=fun o=>(af (ae wc o) M.o.2.1).c.2.2.2.2.1;have hrows:∃ cs1 cs2 v1 v3,cA (bu w ok d) (t.l.take at_) cs1/\cA (bu w ok d) (t.l.drop at_) cs2/\du w 5 v1 at_ cs1/\du w 5 v3 (t.l.length - at_) cs2/\(c2=0/\t.l.length=0/\v1=.slice a2 0 0/\v3=.slice a2 t.l.length 0\/∃ b off,a2=some ⟨b,off,none⟩/\t.l.length<=c2/\c2<=maxLen/\v1=.slice (some ⟨b,off,none⟩) at_ c2/\v3=.slice (if c2=at_ then some ⟨b,off,none⟩ else some ⟨b,off+at_ * 5,none⟩) (t.l.length - at_) (c2 - at_)):=by
    obtain⟨_,K5⟩:=KK.o.2.2.2.2;rcases K5 with⟨e,e2⟩ | ⟨b,off,c,hls,hc1,hc2,Mb⟩
    ·obtain⟨a0,e2⟩:=e2;simp only[Value.slice.injEq]at e2;obtain⟨-,e3,e6⟩:=e2;subst e6;have e4:at_=0:=by omega
     refine⟨[],[],_,_,?_,?_,?_,?_,.inl ⟨rfl,e3,rfl,rfl⟩⟩
     ·rw[e,List.take_nil];rfl
     ·rw[e,List.drop_nil];rfl
     ·rw[e4];exact mi w 5 a2
     ·rw[e3,e4];exact mi w 5 a2
    ·simp only[Value.slice.injEq]at hls;obtain⟨rfl,-,rfl⟩:=hls;obtain⟨cs1,cs2,r1,s1,r2,s2⟩:=km KK.o.2.2.2.2 at_ at_ (MG _) (by omega) (by omega);exact⟨cs1,cs2,_,_,r1,r2,s1,s2,.inr ⟨b,off,rfl,hc1,hc2,rfl,rfl⟩⟩
   obtain⟨cs1,cs2,v1,v3,r1,r2,s1,s3,hcase⟩:=hrows;have con:Ll (∀ W,W.heap=((wc.alloc (.cells (KV x a7 c7 a8 c8) 35)).alloc (.cells #[v1,.slice (some ⟨wc.heap.size,0,none⟩) 1 1,v3] 33)).heap->W.os=wc.os->W.tape=wc.tape->W.output=wc.output ->
    Calls prog 197 #[.slice (some ⟨wc.heap.size+1,0,none⟩) 3 3] W fun e w'=>∃ g cap,e=.returned (.slice (some ⟨g,0,none⟩) (t.l.length+1) cap)/\w'.ownsRow wc.heap.size 35 5 (.slice (some ⟨g,0,none⟩) (t.l.length+1) cap) (t.l.length+1) (cs1++[.int .i64 x.kind,.int .i64 x.n,.string ⟨x.s.toArray⟩,.slice a7 x.keys.length c7,.slice a8 x.l.length c8]++cs2)/\La wc w'):=by
    intro W e1 e2 e4 e5;exact EJ _ _ _ _ _ _ _ _ _ (s1.bel M.o.2.2.2.2.1) (s3.bel M.o.2.2.2.2.1) (by omega) (by omega) W e1 e2 e4 e5
   have fin:Ll (∀ w3 g cap,w3.ownsRow wc.heap.size 35 5 (.slice (some ⟨g,0,none⟩) (t.l.length+1) cap) (t.l.length+1) (cs1++[.int .i64 x.kind,.int .i64 x.n,.string ⟨x.s.toArray⟩,.slice a7 x.keys.length c7,.slice a8 x.l.length c8]++cs2)->La wc w3 ->
    bu (ar (w3.setCell ⟨w.heap.size,4,none⟩ (.slice (some ⟨g,0,none⟩) (t.l.length+1) cap)) (w.heap.size+2) (.int .i64 t.kind) (.int .i64 t.n) (.string ⟨t.s.toArray⟩) (.slice (some ⟨gk,0,none⟩) (t.keys.length+1) kcap) (.slice (some ⟨g,0,none⟩) (t.l.length+1) cap)) (bQ ok w.heap.size) (d+1) { t with keys:=t.keys.take at_++key :: t.keys.drop at_,l:=t.l.take at_++x :: t.l.drop at_ } (.agg #[.int .i64 t.kind,.int .i64 t.n,.string ⟨t.s.toArray⟩,.slice (some ⟨gk,0,none⟩) (t.keys.length+1) kcap,.slice (some ⟨g,0,none⟩) (t.l.length+1) cap]) /\
    La w (ar (w3.setCell ⟨w.heap.size,4,none⟩ (.slice (some ⟨g,0,none⟩) (t.l.length+1) cap)) (w.heap.size+2) (.int .i64 t.kind) (.int .i64 t.n) (.string ⟨t.s.toArray⟩) (.slice (some ⟨gk,0,none⟩) (t.keys.length+1) kcap) (.slice (some ⟨g,0,none⟩) (t.l.length+1) cap))/\ag (ar (w3.setCell ⟨w.heap.size,4,none⟩ (.slice (some ⟨g,0,none⟩) (t.l.length+1) cap)) (w.heap.size+2) (.int .i64 t.kind) (.int .i64 t.n) (.string ⟨t.s.toArray⟩) (.slice (some ⟨gk,0,none⟩) (t.keys.length+1) kcap) (.slice (some ⟨g,0,none⟩) (t.l.length+1) cap)) (w.heap.size+2) (.int .i64 t.kind) (.int .i64 t.n) (.string ⟨t.s.toArray⟩) (.slice (some ⟨gk,0,none⟩) (t.keys.length+1) kcap) (.slice (some ⟨g,0,none⟩) (t.l.length+1) cap)):=by
    intro w3 g cap ho hb;have g1:w3.grownBy (w3.setCell ⟨w.heap.size,4,none⟩ (.slice (some ⟨g,0,none⟩) (t.l.length+1) cap)) (some w.heap.size):=ap (az _ _) _ _;have g2:=aI (w3.setCell ⟨w.heap.size,4,none⟩ (.slice (some ⟨g,0,none⟩) (t.l.length+1) cap)) (w.heap.size+2) (.int .i64 t.kind) (.int .i64 t.n) (.string ⟨t.s.toArray⟩) (.slice (some ⟨gk,0,none⟩) (t.keys.length+1) kcap) (.slice (some ⟨g,0,none⟩) (t.l.length+1) cap);have LU:=((af hb M.o.2.2.1).grown g1 (by simp)).set (.int .i64 t.kind) (.int .i64 t.n) (.string ⟨t.s.toArray⟩) (.slice (some ⟨gk,0,none⟩) (t.keys.length+1) kcap) (.slice (some ⟨g,0,none⟩) (t.l.length+1) cap);have hbw:La w w3:=ab M.o.2.2.2.2.1 hb;have hb9:La w (ar (w3.setCell ⟨w.heap.size,4,none⟩ (.slice (some ⟨g,0,none⟩) (t.l.length+1) cap)) (w.heap.size+2) (.int .i64 t.kind) (.int .i64 t.n) (.string ⟨t.s.toArray⟩) (.slice (some ⟨gk,0,none⟩) (t.keys.length+1) kcap) (.slice (some ⟨g,0,none⟩) (t.l.length+1) cap)):=bS (eD (bi (aq hbw) (MG _) _ _) (by omega) _ _ _ _ _);have hsz3:w.heap.size+2 < w2.heap.size:=hsz2;refine⟨⟨_,_,rfl,KK.o.1,KK.o.2.1,KK.o.2.2.1,?_,?_⟩,hb9,LU⟩
    ·have hk3:=aW (aW (fD M.o.2.2.2.1 hb) g1 (by omega)) g2 (by omega);have LT:t.keys.length+1=(t.keys.take at_++key :: t.keys.drop at_).length:=by simp;omega
     refine kf (B:=w2.heap.size) LT ?_ ?_ (fun k hk=>.inr (by omega)) (by rw[<-LT];unfold maxLen;omega)
     ·have e9:(t.keys.take at_++key :: t.keys.drop at_).map aR=(t.keys.take at_).map aR++[aR key]++(t.keys.drop at_).map aR:=by simp
      rw[e9];exact hk3
     ·intro y hy;simp only[List.mem_append,List.mem_cons]at hy;rcases hy with hy | rfl | hy
      ·exact KK.o.2.2.2.1.mem y (List.mem_of_mem_take hy)
      ·exact hkey
      ·exact KK.o.2.2.2.1.mem y (List.mem_of_mem_drop hy)
    ·have ho9:=aW (aW ho g1 (by omega)) g2 (by omega);have LT:t.l.length+1=(t.l.take at_++x :: t.l.drop at_).length:=by simp;omega
     refine fJ LT ho9 ?_ (fun k hk=>.inr (by omega)) (by rw[<-LT];unfold maxLen;omega);have rx:cA (bu _ (bQ ok w.heap.size) d) [x] [.int .i64 x.kind,.int .i64 x.n,.string ⟨x.s.toArray⟩,.slice a7 x.keys.length c7,.slice a8 x.l.length c8]:=⟨_,_,_,_,_,[],rfl,(HX.o.bel hb9).toN,rfl⟩
     have:=((r2.bel (B:=w.heap.size) hb9).append rx).append (r1.bel (B:=w.heap.size) hb9);rw[List.append_assoc];exact this
   clear r1 r2 s1 s3;have hfinish:Ll True:=trivial;rcases hcase with⟨rfl,e3,rfl,rfl⟩ | ⟨b,off,rfl,hc1,hc2,rfl,hv3⟩
   ·have j6:(t.l.length:Int)<=0:=by omega
    have E3:=aa e3;have e7:at_=0:=by omega
    clear e3;subst e7;go_upto_region 11 with fail
    go_region_with ((go_at_call 197;refine(con.o _ (by rfl) (by rfl) (by rfl) (by rfl)).mono ?_;rintro e w3 ⟨g,cap,rfl,ho3,hb3⟩;obtain⟨p0,p1,p2,p3,p4,-,-,-,p9,p10⟩:=(af hb3 M.o.1).c;have x0_:=(af hb3 M.o.2.2.1).c;have O3:=aa ho3;have HB3:=aa hb3;clear ho3 hb3))
    all_goals
     go_wp2_with fail
     obtain⟨f1,f2,f3⟩:=fin.o _ g cap O3.o HB3.o;have z0_:=f3.c;refine MM (v:=.agg #[.int .i64 t.kind,.int .i64 t.n,.string ⟨t.s.toArray⟩,.slice (some ⟨gk,0,none⟩) (t.keys.length+1) kcap,.slice (some ⟨g,0,none⟩) (t.l.length+1) cap]) ?_ rfl ?_
     ·simp only[ar]at z0_;simp[results,results164,go_sem,z0_]
     ·rw[HAT.o];exact⟨_,rfl,f1,f2⟩
   ·obtain⟨a3,hifs⟩:∃ a3,(if c2=at_ then (some ⟨b,off,none⟩:Option Addr) else some ⟨b,off+at_ * 5,none⟩)=a3:=⟨_,rfl⟩
    rw[hifs]at hv3;subst hv3;unfold maxLen at hc2;have j5:(at_:Int)<=(c2:Int):=by omega
    have j6:(t.l.length:Int)<=(c2:Int):=by omega
    go_upto_region 11 with fail
    go_region_with ((go_at_call 197;refine(con.o _ (by rfl) (by rfl) (by rfl) (by rfl)).mono ?_;rintro e w3 ⟨g,cap,rfl,ho3,hb3⟩;obtain⟨p0,p1,p2,p3,p4,-,-,-,p9,p10⟩:=(af hb3 M.o.1).c;have x0_:=(af hb3 M.o.2.2.1).c;have O3:=aa ho3;have HB3:=aa hb3;clear ho3 hb3))
    all_goals
     go_wp2_with fail
     obtain⟨f1,f2,f3⟩:=fin.o _ g cap O3.o HB3.o;have z0_:=f3.c;refine MM (v:=.agg #[.int .i64 t.kind,.int .i64 t.n,.string ⟨t.s.toArray⟩,.slice (some ⟨gk,0,none⟩) (t.keys.length+1) kcap,.slice (some ⟨g,0,none⟩) (t.l.length+1) cap]) ?_ rfl ?_
     ·simp only[ar]at z0_;simp[results,results164,go_sem,z0_]
     ·have hat:=HAT.o;subst hat;exact⟨_,rfl,f1,f2⟩
end
end Go.Proofs.YtkjeiljdoljjgaaGreatDoor
