import Derived.Test.YtfpcghnhjlnnoaaGreatDoorG1
import Derived.Deep.Slices
import Derived.Lib.ItoaLen
set_option maxRecDepth 100000
set_option maxHeartbeats 40000000
set_option linter.unusedSimpArgs false
set_option linter.unusedVariables false
namespace Go.Proofs.YtfpcghnhjlnnoaaGreatDoor
open Go.RowKit
open _root_.Go.Proofs.Tryz
section
open Go.ChangeShapes Go.WideShapes Go.ChangeAt Go.RowKit
theorem oI:laidOutB Tryz.prog=true:=by kernel_rfl
theorem sg{w:World}{a:Addr}{v:Value}(h:w.cell? a=some v):a.spot=none:=by
 unfold World.cell? at h;split at h
 ·split at h
  ·cases h
  ·rename_i hs;simpa using hs
 ·cases h
theorem qv{a:Addr}(h:a.spot=none):a=⟨a.block,a.off,none⟩:=by
 obtain⟨b,o,s⟩:=a;simp only at h;subst h;rfl
theorem Pu{n:Int}(h:(Lit.int .i64 n).wf=true):dW n:=by
 have h2:IntKind.min .i64<=n/\n<=IntKind.max .i64:=by simpa [Lit.wf] using h
 have e1:IntKind.min .i64=-9223372036854775808:=by decide
 have e2:IntKind.max .i64=9223372036854775807:=by decide
 rw[e1,e2]at h2;exact h2
theorem lK{H:Type}{enc:TypeId × Value->H}{W:World}{t:TypeId}{v:Value}{d:DataW H}{p:List MemPlace}(h:DataW.Trod enc Tryz.prog W 0 (fun _=>true) true t v d p):∀ x∈p,x.block < W.heap.size:=by
 obtain⟨f,hf⟩:=h;exact DataW.trod_lt f t _ _ hf
end
section
open Go.ChangeShapes Go.WideShapes Go.ChangeAt Go.RowKit
theorem zS{W:World}(h:W.ShapedOpen Tryz.prog):bj W:=
 cell_of_shapedOpen_int (t:=3) (zero:=#[.int .i64 0]) h (of_decide_eq_true (by kernel_rfl)) (by kernel_rfl) rfl (by kernel_rfl) (by kernel_rfl) Tryz.underlying3
end
theorem sB(w b s l bad)(h:eA w b s l bad):Calls prog 98 #[.pointer (some ⟨b,0,none⟩)] w fun e w'=>e=.returned (.tuple #[])/\eA w' b s (l.dropWhile cw) bad/\w.grownBy w' (some b):=by
 have H:=aa h;clear h;go_enter func98,ntmps98;go_wp2
 go_loopg [] l.length (fun k wr=>∃ l1,k=l1.length/\eA wr b s l1 bad/\l1.dropWhile cw=l.dropWhile cw/\w.grownBy wr (some b))
 case atStart=>exact⟨l,rfl,H.o,rfl,az _ _⟩
 case round=>
  obtain⟨l1,hk,h1,he,hg⟩:=hrel;have A:Ll (gk=l1.length/\eA wr b s l1 bad/\l1.dropWhile cw=l.dropWhile cw/\w.grownBy wr (some b)):=⟨hk,h1,he,hg⟩
  clear hk he hg;cases l1 with
  | nil=>
   have c0_:=h1.nil.c;clear h1;have e0:decide ((s.size:Int) < (s.size:Int))=false:=by simp
   go_wp2_with fail
   go_quiet (fail)
   go_wp2
   go_end0
   obtain⟨hk,h1,he,hg⟩:=A.o;refine⟨rfl,?_,cJ hg _⟩;rw[<-he];exact h1.of_heap rfl
  | cons c l2=>
   obtain⟨i,h,⟨hi,hc⟩,hl⟩:=h1.cons;have c0_:=h.c;have h3:=h.2.2;have H1:=aa h;have Hc:=aa hc;have Hl:=aa hl;clear h h1 hl hc;have e0:(i:Int) < (s.size:Int):=by omega
   cases hsp:cw c with
   | true=>
    have e2:0<=Lib.indexByte [32,9,10,13] s[i]:=by rw[Hc.o,qe];exact hsp
    have S:=aa hsp;clear hsp;go_wp2_with fail
    go_quiet ((go_at_call 120;exact Calls.quiet_of_same (Tryz.strings_IndexByte _ _ _)))
    go_wp2_with fail
    obtain⟨hk,h1,he,hg⟩:=A.o;go_roundg l2.length
    case measure=>rw[hk];simp
    case rel=>
     refine⟨l2,rfl,⟨i+1,⟨ak H1.o.1 1 _,by omega,H1.o.2.2⟩,Hl.o⟩,?_,cJ (ap hg _ _) _⟩;rw[<-he,List.dropWhile_cons,if_pos S.o]
   | false=>
    have e2:decide (0<=Lib.indexByte [32,9,10,13] s[i])=false:=decide_eq_false (by rw[Hc.o,qe];simp[hsp]);have S:=aa hsp;clear hsp;go_wp2_with fail
    go_quiet ((go_at_call 120;exact Calls.quiet_of_same (Tryz.strings_IndexByte _ _ _)))
    go_wp2_with fail
    go_end0
    obtain⟨hk,h1,he,hg⟩:=A.o;refine⟨rfl,?_,cJ hg _⟩;rw[<-he,List.dropWhile_cons,if_neg (by rw[S.o];simp)];exact h1.of_heap rfl
theorem Iw(w b s l bad m c)(hm:m=(c.toNat:Int))(hc0:c≠0)(h:eA w b s l bad):Calls prog 156 #[.pointer (some ⟨b,0,none⟩),.int .u8 m] w fun e w'=>e=.returned (.bool (aA c l).isSome)/\eA w' b s ((aA c l).getD (l.dropWhile cw)) bad/\w.grownBy w' (some b):=by
 have H:=aa h;have M:=aa hm;clear h hm;go_enter func156,ntmps156;go_wp2_with fail
 refine(sB _ b s l bad (by exact H.o)).mono ?_;rintro e w1 ⟨rfl,h1,hg1⟩;have H1:=aa h1;have G1:=aa hg1;clear h1 hg1;go_wp2_with fail
 refine(kd _ b s _ bad (by exact H1.o)).mono ?_;rintro e w2 ⟨rfl,n,rfl⟩;cases hl:l.dropWhile cw with
 | nil=>
  rw[hl]at H1;have e1:(((es []).toNat:Int) != m)=true:=by
   rw[M.o,bne_iff_ne];intro e;exact hc0 (UInt8.toNat_inj.1 (by simp[es]at e ⊢;omega))
  have HL:=aa hl;clear hl;go_wp2
  go_ret;exact⟨by simp[aA,HL.o],by simp only[aA,HL.o];exact H1.o.of_heap rfl,cJ G1.o _⟩
 | cons x r=>
  rw[hl]at H1;obtain⟨i,h,⟨hi,hc⟩,hr⟩:=H1.o.cons;have c0_:=h.c;have h3:=h.2.2;have H2:=aa h;have Hr:=aa hr;have HL:=aa hl;clear h hl hr hc;by_cases hx:x=c
  ·have e1:(((es (x :: r)).toNat:Int) != m)=false:=by rw[M.o,hx];simp[es]
   have HX:=aa hx;clear hx;go_wp2
   go_ret;exact⟨by simp[aA,HL.o,HX.o],by simp only[aA,HL.o,HX.o];exact⟨i+1,⟨ak H2.o.1 1 _,by omega,H2.o.2.2⟩,Hr.o⟩,cJ (ap G1.o _ _) _⟩
  ·have e1:(((es (x :: r)).toNat:Int) != m)=true:=by
    rw[M.o,bne_iff_ne];intro e;exact hx (UInt8.toNat_inj.1 (by simp[es]at e ⊢;omega))
   have HX:=aa hx;clear hx;go_wp2
   go_ret;exact⟨by simp[aA,HL.o,HX.o],by simp only[aA,HL.o,HX.o];exact H1.o.of_heap rfl,cJ G1.o _⟩
variable {w w':World}
def bf (w:LC) (b:Nat) (s:ByteArray) (st:Option Lz):Prop:=eA w b s (st.getD []) st.isNone
theorem bf.of_heap{b s}{st:Option Lz}(h:bf w b s st)(e:w'.heap[b]?=w.heap[b]?):bf w' b s st:=eA.of_heap h e
theorem bf.lt{b s}{st:Option Lz}(h:bf w b s st):b < w.heap.size:=eA.lt h
theorem bf.len{b s l}(h:bf w b s (some l)):l.length<=s.size/\s.size<=2000:=eA.len h
theorem bf.grown{a b s}{st:Option Lz}{r}(h:bf a b s st)(hg:a.grownBy w r)(hr:some b≠r):bf w b s st:=h.of_heap (hg.block b h.lt hr)
theorem dv{a:LC}{b row}(h:a.grownBy w (some b))(hg:w.grownBy w' row)(hr:∀ k,row=some k->a.heap.size<=k):a.grownBy w' (some b):=
 ⟨hg.os.trans h.os,hg.tape.trans h.tape,hg.output.trans h.output,MH h.size hg.size,fun i hi hb=>(hg.block i (MI hi h.size) (fun e=>by have:=hr i e.symm;omega)).trans (h.block i hi hb)⟩
theorem go(w b s)(st:Option Lz)(h:bf w b s st):Calls prog 152 #[.pointer (some ⟨b,0,none⟩)] w fun e w'=>e=.returned (.tuple #[])/\bf w' b s none/\w.grownBy w' (some b):=
 mv w b s _ _ h
def uH:Lz->Option (UInt8 × Lz)
 | []=>none
 | c :: l=>some (c,l)
theorem zW(w b s)(st:Option Lz)(h:bf w b s st):Calls prog 154 #[.pointer (some ⟨b,0,none⟩)] w fun e w'=>∃ (c:UInt8) (st':Option Lz),e=.returned (.int .u8 c.toNat)/\st.bind uH=st'.map (fun l=>(c,l))/\(st'=none->c=0)/\bf w' b s st'/\w.grownBy w' (some b):=by
 match st,h with
 | none,h=>exact(pZ w b s true h).mono fun e w' ⟨he,hr,hg⟩=>⟨0,none,he,rfl,fun _=>rfl,hr,hg⟩
 | some [],h=>exact(pZ w b s false h).mono fun e w' ⟨he,hr,hg⟩=>⟨0,none,he,rfl,fun _=>rfl,hr,hg⟩
 | some (c :: l),h=>exact(sF w b s c l false h).mono fun e w' ⟨he,hr,hg⟩=>⟨c,some l,he,rfl,nofun,hr,hg⟩
theorem mD(w b s)(st:Option Lz)(m c)(hm:m=(c.toNat:Int))(hc0:c≠0)(h:bf w b s st):Calls prog 156 #[.pointer (some ⟨b,0,none⟩),.int .u8 m] w fun e w'=>e=.returned (.bool (st.bind (aA c)).isSome) /\
 bf w' b s (if (st.bind (aA c)).isSome then st.bind (aA c) else st.map (List.dropWhile cw))/\w.grownBy w' (some b):=by
 refine(Iw w b s _ _ m c hm hc0 h).mono fun e w' ⟨he,hr,hg⟩=>⟨?_,?_,hg⟩
 ·cases st with
  | none=>exact he
  | some l=>exact he
 ·cases st with
  | none=>exact hr
  | some l=>
   cases hk:aA c l with
   | none=>simpa [bf,hk] using hr
   | some r=>simpa [bf,hk] using hr
theorem kP(w b s)(st:Option Lz)(m c)(hm:m=(c.toNat:Int))(hc0:c≠0)(h:bf w b s st):Calls prog 153 #[.pointer (some ⟨b,0,none⟩),.int .u8 m] w fun e w'=>e=.returned (.tuple #[])/\bf w' b s (st.bind (aA c))/\w.grownBy w' (some b):=by
 have H:=aa h;have M:=aa hm;clear h hm;go_enter func153,ntmps153;go_wp2_with fail
 refine(mD _ b s st m c M.o hc0 (by exact H.o)).mono ?_;rintro e w1 ⟨rfl,h1,hg1⟩;have H1:=aa h1;have G1:=aa hg1;clear h1 hg1;cases hk:st.bind (aA c) with
 | none=>
  rw[hk]at H1;go_wp2_with fail
  refine(go _ b s _ (by exact H1.o)).mono ?_;rintro e w2 ⟨rfl,h2,hg2⟩;go_wp2_with fail
  go_end0
  exact⟨rfl,by rw[hk];exact h2,am G1.o hg2⟩
 | some r=>
  rw[hk]at H1;go_wp2_with fail
  go_end0
  exact⟨rfl,by rw[hk];exact H1.o,G1.o⟩
theorem yA{p:UInt8->Prop}(h:∀ n:Fin 256,p (UInt8.ofNat n.val))(c):p c:=by
 have:=h ⟨c.toNat,c.toNat_lt⟩;simpa using this
theorem Cw(c):Lib.indexByte [48,49,50,51,52,53,54,55,56,57,97,98,99,100,101,102] (if 65<=c.toNat/\c.toNat<=70 then c+32 else c)=(match sN c with | some d=>(d:Int) | none=>-1):=
 yA (p:=fun c=>Lib.indexByte [48,49,50,51,52,53,54,55,56,57,97,98,99,100,101,102] (if 65<=c.toNat/\c.toNat<=70 then c+32 else c)=(match sN c with | some d=>(d:Int) | none=>-1)) (by decide +kernel) c
theorem Ic(c d)(h:sN c=some d):d < 16:=by
 simp only[sN]at h;split at h
 ·cases h;omega
 ·split at h
  ·cases h;omega
  ·split at h
   ·cases h;omega
   ·cases h
theorem fx(t m r w)(h:Lib.indexByte t.data.toList m.toNat.toUInt8=r):Calls prog 120 #[.string t,.int .u8 m] w fun e w'=>e=.returned (.int .i64 r)/\w'=w:=by
 subst h;exact Tryz.strings_IndexByte t m w
theorem ID(c m)(hm:m=if 65<=c.toNat/\c.toNat<=70 then (c.toNat:Int)+32 else c.toNat):Lib.indexByte [48,49,50,51,52,53,54,55,56,57,97,98,99,100,101,102] m.toNat.toUInt8=(match sN c with | some d=>(d:Int) | none=>-1):=by
 rw[<-Cw c];congr 1
 subst hm;split
 ·rename_i h;apply UInt8.toNat_inj.1;rw[UInt8.toNat_add];simp;omega
 ·simp
theorem sj{st st1:Option Lz}{c}{α:Type}(f:UInt8->Lz->Option α)(hs:st.bind uH=st1.map (fun l=>(c,l))):(st.bind fun l=>match l with | []=>none | c :: l=>f c l)=st1.bind (f c):=by
 match st,st1,hs with
 | none,none,_=>rfl
 | some [],none,_=>rfl
 | some (x :: r),some l,hs=>simp[uH]at hs;obtain⟨rfl,rfl⟩:=hs;rfl
theorem Cg{st st1:Option Lz}{c}(hs:st.bind uH=st1.map (fun l=>(c,l))):st.bind qO=st1.bind fun l=>(sN c).map fun d=>(d,l):=by
 rw[<-sj (fun c l=>(sN c).map fun d=>(d,l)) hs];cases st with
 | none=>rfl
 | some l=>cases l <;> rfl
theorem Ey(w b s)(st:Option Lz)(h:bf w b s st):Calls prog 215 #[.pointer (some ⟨b,0,none⟩)] w fun e w'=>∃ (d:Nat) (st':Option Lz),e=.returned (.int .i64 d)/\d < 16/\st.bind qO=st'.map (fun l=>(d,l))/\bf w' b s st'/\w.grownBy w' (some b):=by
 have H:=aa h;clear h;go_enter func215,ntmps215;go_wp2_with fail
 refine(zW _ b s st (by exact H.o)).mono ?_;rintro e w1 ⟨c,st1,rfl,hs,h0,h1,hg1⟩;have hD:=aa (Cg hs);have A:Ll ((st1=none->c=0)/\bf w1 b s st1/\w.grownBy w1 (some b)):=⟨h0,h1,hg1⟩
 clear hs h0 h1 hg1;have hc256:(c.toNat:Int) < 256:=by have:=c.toNat_lt;omega
 have hidx:=aa (ID c);cases hx:sN c with
 | some d=>
  have hd:=Ic c d hx;have es:0<=(d:Int):=by omega
  rw[hx]at hidx hD;have fin:Ll (∃ (d':Nat) (st':Option Lz),Ending.returned (Value.int .i64 d)=.returned (.int .i64 d')/\d' < 16/\st.bind qO=st'.map (fun l=>(d',l))/\bf w1 b s st'/\w.grownBy w1 (some b)):=by
   refine⟨d,st1,rfl,hd,?_,A.o.2.1,A.o.2.2⟩;rw[hD.o];cases st1 <;> rfl
  clear hx;by_cases hup:65<=c.toNat/\c.toNat<=70
  ·have hu1:65<=(c.toNat:Int):=by omega
   have hu2:(c.toNat:Int)<=70:=by omega
   go_wp2_with fail
   refine LE (fx _ _ (d:Int) _ (by exact hidx.o _ (by rw[if_pos hup]))) ?_;go_wp2_with fail
   go_ret;exact fin.o
  ·have hu1:¬(65<=(c.toNat:Int)/\(c.toNat:Int)<=70):=by omega
   by_cases hu2:65<=(c.toNat:Int)
   ·have hu3:¬((c.toNat:Int)<=70):=by omega
    go_wp2_with fail
    refine LE (fx _ _ (d:Int) _ (by exact hidx.o _ (by rw[if_neg hup]))) ?_;go_wp2_with fail
    go_ret;exact fin.o
   ·go_wp2_with fail
    refine LE (fx _ _ (d:Int) _ (by exact hidx.o _ (by rw[if_neg hup]))) ?_;go_wp2_with fail
    go_ret;exact fin.o
 | none=>
  rw[hx]at hidx hD;have fin:Ll (∀ w2,bf w2 b s none->w1.grownBy w2 (some b)->∃ (d':Nat) (st':Option Lz),Ending.returned (Value.int .i64 0)=.returned (.int .i64 d')/\d' < 16/\st.bind qO=st'.map (fun l=>(d',l))/\bf w2 b s st'/\w.grownBy w2 (some b)):=by
   intro w2 h2 hg2;refine⟨0,none,rfl,by omega,?_,h2,am A.o.2.2 hg2⟩;rw[hD.o];cases st1 <;> rfl
  clear hx;by_cases hup:65<=c.toNat/\c.toNat<=70
  ·have hu1:65<=(c.toNat:Int):=by omega
   have hu2:(c.toNat:Int)<=70:=by omega
   go_wp2_with fail
   refine LE (fx _ _ (-1) _ (by exact hidx.o _ (by rw[if_pos hup]))) ?_;go_wp2_with fail
   refine(go _ b s _ (by exact A.o.2.1)).mono ?_;rintro e w2 ⟨rfl,h2,hg2⟩;go_wp2_with fail
   go_ret;exact fin.o _ h2 hg2
  ·have hu1:¬(65<=(c.toNat:Int)/\(c.toNat:Int)<=70):=by omega
   by_cases hu2:65<=(c.toNat:Int)
   ·have hu3:¬((c.toNat:Int)<=70):=by omega
    go_wp2_with fail
    refine LE (fx _ _ (-1) _ (by exact hidx.o _ (by rw[if_neg hup]))) ?_;go_wp2_with fail
    refine(go _ b s _ (by exact A.o.2.1)).mono ?_;rintro e w2 ⟨rfl,h2,hg2⟩;go_wp2_with fail
    go_ret;exact fin.o _ h2 hg2
   ·go_wp2_with fail
    refine LE (fx _ _ (-1) _ (by exact hidx.o _ (by rw[if_neg hup]))) ?_;go_wp2_with fail
    refine(go _ b s _ (by exact A.o.2.1)).mono ?_;rintro e w2 ⟨rfl,h2,hg2⟩;go_wp2_with fail
    go_ret;exact fin.o _ h2 hg2
variable {n d:Nat}
theorem yf{st st1 st2:Option Lz}{j}(h4:j < 4)(h:st.bind (fw 4 0)=st1.bind (fw (4 - j) n))(hd:st1.bind qO=st2.map (fun l=>(d,l))):st.bind (fw 4 0)=st2.bind (fw (4 - (j+1)) (n * 16+d)):=by
 rw[h];have e:4 - j=(4 - (j+1))+1:=by omega
 rw[e];cases st1 with
 | none=>cases st2 with
  | none=>rfl
  | some l=>cases hd
 | some l=>
  show fw (4 - (j+1)+1) n l=_;rw[fw];have hd':qO l=st2.map (fun l=>(d,l)):=hd;rw[hd'];cases st2 <;> rfl
theorem AV{st st1:Option Lz}(h:st.bind (fw 4 0)=st1.bind (fw 0 n)):st.bind iJ=st1.bind fun l=>if n < 128 then some (n.toUInt8,l) else none:=by
 cases st with
 | none=>cases st1 with
  | none=>rfl
  | some l=>cases h
 | some l=>
  have h':fw 4 0 l=st1.bind (fw 0 n):=h;show iJ l=_;rw[iJ,h'];cases st1 <;> rfl
theorem Fu(w b s)(st:Option Lz)(h:bf w b s st):Calls prog 191 #[.pointer (some ⟨b,0,none⟩)] w fun e w'=>∃ (c:UInt8) (st':Option Lz),e=.returned (.int .u8 c.toNat)/\st.bind iJ=st'.map (fun l=>(c,l))/\bf w' b s st'/\w.grownBy w' (some b):=by
 have H:=aa h;clear h;go_enter func191,ntmps191;go_wp2_with fail
 go_loopg [3,4] 4 (fun k n i wr=>∃ (j m:Nat) (st1:Option Lz),n=.int .i64 m/\i=.int .i64 j/\j<=4/\k=4 - j/\m < 16 ^ j/\st.bind (fw 4 0)=st1.bind (fw (4 - j) m)/\bf wr b s st1/\w.grownBy wr (some b))
 case atStart=>exact⟨0,0,st,rfl,rfl,by omega,rfl,by decide,rfl,H.o,az _ _⟩
 case round=>
  obtain⟨j,m,st1,rfl,rfl,hj,hk,hm,hs,h1,hg⟩:=hrel;have hm4:m < 65536:=MI hm (Nat.pow_le_pow_right (n:=16) (by omega) hj);have A:Ll (gk=4 - j/\m < 16 ^ j/\st.bind (fw 4 0)=st1.bind (fw (4 - j) m)/\bf wr b s st1/\w.grownBy wr (some b)):=⟨hk,hm,hs,h1,hg⟩
  clear hk hm hs h1 hg;by_cases hlt:j < 4
  ·go_wp2_with fail
   refine(Ey _ b s st1 (by exact A.o.2.2.2.1)).mono ?_;rintro e w1 ⟨d,st2,rfl,hd,hs2,h2,hg2⟩;have B:Ll (st1.bind qO=st2.map (fun l=>(d,l))/\bf w1 b s st2/\wr.grownBy w1 (some b)):=⟨hs2,h2,hg2⟩
   clear hs2 h2 hg2;go_wp2_with fail
   obtain⟨hk,hm,hs,h1,hg⟩:=A.o;obtain⟨hs2,h2,hg2⟩:=B.o;go_roundg (4 - (j+1))
   case measure=>omega
   case rel=>
    refine⟨j+1,m * 16+d,st2,by go_num,by go_num,by omega,rfl,?_,yf hlt hs hs2,h2,am hg hg2⟩;rw[Nat.pow_succ];omega
  ·have hj4:j=4:=by omega
   subst hj4;have Mb:=aa (AV A.o.2.2.1);by_cases h128:m < 128
   ·go_wp2_with fail
    go_ret;obtain⟨hk,hm,hs,h1,hg⟩:=A.o;refine⟨m.toUInt8,st1,?_,?_,h1,hg⟩
    ·have:m.toUInt8.toNat=m:=by simp;omega
     rw[this];rfl
    ·rw[Mb.o];cases st1 <;> simp[h128]
   ·go_wp2_with fail
    refine(go _ b s _ (by exact A.o.2.2.2.1)).mono ?_;rintro e w2 ⟨rfl,h2,hg2⟩;go_wp2_with fail
    go_ret;obtain⟨hk,hm,hs,h1,hg⟩:=A.o;refine⟨0,none,rfl,?_,h2,am hg hg2⟩;rw[Mb.o];cases st1 <;> simp[h128]
theorem Bf{st st1:Option Lz}{c}(hs:st.bind uH=st1.map (fun l=>(c,l))):st.bind ot=st1.bind fun l=>if c=117 then iJ l else if c=47 then some (47,l) else (wl c).map fun x=>(x,l):=by
 rw[<-sj (fun c l=>if c=117 then iJ l else if c=47 then some (47,l) else (wl c).map fun x=>(x,l)) hs];cases st with
 | none=>rfl
 | some l=>cases l <;> rfl
theorem Ir(c):(c.toNat:Int).toNat.toUInt8=c:=by simp
theorem wE{c d:UInt8}{m:Int}(hm:m=(d.toNat:Int))(h:c≠d):((c.toNat:Int) == m)=false:=by
 rw[MO,hm];intro e;exact h (UInt8.toNat_inj.1 (by omega))
theorem Bd(c):wl c=none->Lib.indexByte [34,92,98,102,110,114,116] c=-1:=
 yA (p:=fun c=>wl c=none->Lib.indexByte [34,92,98,102,110,114,116] c=-1) (by decide +kernel) c
theorem yu(c):wl c=none\/c=34\/c=92\/c=98\/c=102\/c=110\/c=114\/c=116:=
 yA (p:=fun c=>wl c=none\/c=34\/c=92\/c=98\/c=102\/c=110\/c=114\/c=116) (by decide +kernel) c
theorem xJ(w b s)(st:Option Lz)(h:bf w b s st):Calls prog 155 #[.pointer (some ⟨b,0,none⟩)] w fun e w'=>∃ (c:UInt8) (st':Option Lz),e=.returned (.int .u8 c.toNat)/\st.bind ot=st'.map (fun l=>(c,l))/\bf w' b s st'/\w.grownBy w' (some b):=by
 have H:=aa h;clear h;go_enter func155,ntmps155;go_wp2_with fail
 refine(zW _ b s st (by exact H.o)).mono ?_;rintro e w1 ⟨c,st1,rfl,hs,h0,h1,hg1⟩;have E:=aa (Bf hs);have A:Ll (bf w1 b s st1/\w.grownBy w1 (some b)):=⟨h1,hg1⟩
 clear hs h0 h1 hg1;by_cases c1:c=117
 ·subst c1;go_wp2_with fail
  refine(Fu _ b s st1 (by exact A.o.1)).mono ?_;rintro e w2 ⟨x,st2,rfl,hs2,h2,hg2⟩;have B:Ll (st1.bind iJ=st2.map (fun l=>(x,l))/\bf w2 b s st2/\w1.grownBy w2 (some b)):=⟨hs2,h2,hg2⟩
  clear hs2 h2 hg2;go_wp2_with fail
  go_ret;obtain⟨hs2,h2,hg2⟩:=B.o;exact⟨x,st2,rfl,by rw[E.o,<-hs2];rfl,h2,am A.o.2 hg2⟩
 have n1:=wE (m:=117) rfl c1;by_cases c2:c=47
 ·subst c2;go_wp2_with fail
  go_ret;exact⟨47,st1,rfl,by rw[E.o];cases st1 <;> rfl,A.o.1,A.o.2⟩
 have n2:=wE (m:=47) rfl c2;have E2:Ll (st.bind ot=st1.bind fun l=>(wl c).map fun x=>(x,l)):=by
  have e:=E.o;rw[e];cases st1 with
  | none=>rfl
  | some l=>show (if c=117 then _ else _)=_;rw[if_neg c1,if_neg c2];rfl
 clear E c1 c2;rcases yu c with hn | rfl | rfl | rfl | rfl | rfl | rfl | rfl
 ·have L:=aa (Bd c hn);rw[hn]at E2;clear hn;go_wp2_with fail
  refine LE (fx _ _ (-1) _ (by rw[Ir];exact L.o)) ?_;go_wp2_with fail
  refine(go _ b s _ (by exact A.o.1)).mono ?_;rintro e w2 ⟨rfl,h2,hg2⟩;go_wp2_with fail
  go_ret;exact⟨0,none,rfl,by rw[E2.o];cases st1 <;> rfl,h2,am A.o.2 hg2⟩
 ·clear n1 n2;go_wp2_with fail
  refine LE (fx _ _ 0 _ (by rfl)) ?_;go_wp2_with fail
  go_ret;exact⟨34,st1,rfl,by rw[E2.o];cases st1 <;> rfl,A.o.1,A.o.2⟩
 ·clear n1 n2;go_wp2_with fail
  refine LE (fx _ _ 1 _ (by rfl)) ?_;go_wp2_with fail
  go_ret;exact⟨92,st1,rfl,by rw[E2.o];cases st1 <;> rfl,A.o.1,A.o.2⟩
 ·clear n1 n2;go_wp2_with fail
  refine LE (fx _ _ 2 _ (by rfl)) ?_;go_wp2_with fail
  go_ret;exact⟨8,st1,rfl,by rw[E2.o];cases st1 <;> rfl,A.o.1,A.o.2⟩
 ·clear n1 n2;go_wp2_with fail
  refine LE (fx _ _ 3 _ (by rfl)) ?_;go_wp2_with fail
  go_ret;exact⟨12,st1,rfl,by rw[E2.o];cases st1 <;> rfl,A.o.1,A.o.2⟩
 ·clear n1 n2;go_wp2_with fail
  refine LE (fx _ _ 4 _ (by rfl)) ?_;go_wp2_with fail
  go_ret;exact⟨10,st1,rfl,by rw[E2.o];cases st1 <;> rfl,A.o.1,A.o.2⟩
 ·clear n1 n2;go_wp2_with fail
  refine LE (fx _ _ 5 _ (by rfl)) ?_;go_wp2_with fail
  go_ret;exact⟨13,st1,rfl,by rw[E2.o];cases st1 <;> rfl,A.o.1,A.o.2⟩
 ·clear n1 n2;go_wp2_with fail
  refine LE (fx _ _ 6 _ (by rfl)) ?_;go_wp2_with fail
  go_ret;exact⟨9,st1,rfl,by rw[E2.o];cases st1 <;> rfl,A.o.1,A.o.2⟩
variable {v:Value}
theorem infoByte:(prog.info? 5).map (fun i=>(i.zero,i.size,i.bytes))=some (some (.int .u8 0),1,1):=by kernel_rfl
def dw:Option Lz->Nat
 | none=>0
 | some l=>l.length+1
def fB (acc:Lz) (st:Option Lz):Option (Lz × Lz):=st.bind fun l=>i8 (l.length+1) acc l
theorem nM(acc l):fB acc (some (34 :: l))=some (acc,l):=by simp[fB,i8]
theorem vP(acc l c)(h1:c≠34)(h2:c≠92)(h3:¬(c.toNat < 32\/127<=c.toNat)):fB acc (some (c :: l))=fB (acc++[c]) (some l):=by
 simp only[fB,Option.bind_some,i8,if_neg h1,if_neg h2,if_neg h3];exact pi _ _ _ _ (by simp) (by simp)
theorem Dg(acc l c)(h1:c≠34)(h2:c≠92)(h3:c.toNat < 32\/127<=c.toNat):fB acc (some (c :: l))=none:=by
 simp only[fB,Option.bind_some,i8,if_neg h1,if_neg h2,if_pos h3]
theorem Be(acc l x)(st:Option Lz)(h:(some l).bind ot=st.map (fun l=>(x,l))):fB acc (some (92 :: l))=fB (acc++[x]) st:=by
 have h':ot l=st.map (fun l=>(x,l)):=h;have e34:¬((92:UInt8)=34):=by decide
 simp only[fB,Option.bind_some,i8,if_neg e34,if_true,h'];cases st with
 | none=>rfl
 | some r=>
  have hl:=lL h';exact pi _ _ _ _ (by simp only at hl;simp;omega) (by simp)
theorem un{l x}{st:Option Lz}(h:(some l).bind ot=st.map (fun l=>(x,l))):dw st < l.length+1:=by
 have h':ot l=st.map (fun l=>(x,l)):=h;cases st with
 | none=>simp[dw]
 | some r=>have hl:=lL h';simp only at hl;simp[dw];omega
theorem qN(l c):Lib.byteCells l++[Value.int .u8 c.toNat]=Lib.byteCells (l++[c]):=by simp[Lib.byteCells]
theorem gA{a:LC}{b}{e:TypeId}{size xs}(h:w.ownsRow a.heap.size e size v n xs)(hg:w.grownBy w' (some b))(hb:b < a.heap.size):w'.ownsRow a.heap.size e size v n xs:=by
 refine h.kept hg ?_;cases hv:v.ownBlock with
 | none=>exact .inl rfl
 | some k=>
  right;intro e;cases e;have:=(h.lt b hv).1;omega
theorem nX{ops:Array Oper}{rest:List Oper}{o:Oper}{a}{Q:Exit->Act->LC->Prop}(hgd:o.guard=none)(s x:Operand)(ho:o.op=.call { callee:=.builtin .append,args:=#[s,x],argTypes:=#[106,106] })(B v acc c)(hs:a.eval s=v)(hx:a.eval x=.slice (some ⟨w.heap.size,0,none⟩) 1 1)(hown:w.ownsRow B 5 1 v acc.length (Lib.byteCells acc))(hB:B<=w.heap.size)(hl:acc.length<=1000000000)(hK:∀ v' w',w'.ownsRow B 5 1 v' (acc++[c]).length (Lib.byteCells (acc++[c]))->w.grownBy w' v.ownBlock->wpList prog ops Q rest (a.put o.dst v') w'):wpList prog ops Q (o :: rest) a (w.alloc (.cells #[.int .u8 c.toNat] 5)):=by
 obtain⟨i0,hi,hz0,hz1,hz2⟩:=info_parts infoByte;refine wpList_append_own _ hgd s x 106 ho B 5 i0 (.int .u8 0) 1 1 underlying106 hi hz0 hz1 hz2 rfl (by decide) v acc.length (Lib.byteCells acc) hs (hown.alloc _) ⟨w.heap.size,0,none⟩ 1 1 [Value.int .u8 c.toNat] hx rfl
  (by intro j u' hj;match j,hj with | 0,hj=>simp at hj;subst hj;simp[Addr.add]) (by intro u' hu';simp at hu';subst hu';rfl) (by unfold maxLen;omega) (by omega) (by simp;omega) ?_
 intro v2 w2 hown2 hgrow _;refine hK v2 w2 ?_ (am (World.grownBy_alloc w _ _) hgrow);rw[qN]at hown2;simpa using hown2
def IQ (w:LC) (b:Nat) (s:ByteArray) (T:Option (Lz × Lz)) (k:Nat) (v:Value) (wr:LC):Prop:=
 ∃ (acc:Lz) (st:Option Lz),k=dw st/\acc.length+k<=2002/\fB acc st=T/\wr.ownsRow w.heap.size 5 1 v acc.length (Lib.byteCells acc)/\bf wr b s st/\w.grownBy wr (some b)
theorem rY(w b s)(st:Option Lz)(h:bf w b s st):Calls prog 123 #[.pointer (some ⟨b,0,none⟩)] w fun e w'=>∃ (t:Lz) (st':Option Lz),e=.returned (.string ⟨t.toArray⟩)/\st.bind iS=st'.map (fun l=>(t,l))/\t.length<=2002/\bf w' b s st'/\w.grownBy w' (some b):=by
 obtain⟨i0,hi,hz0,hz1,hz2⟩:=info_parts infoByte;have H:=aa h;have hbl:=h.lt;clear h;go_enter func123,ntmps123;go_wp2_with fail
 refine(kP _ b s st 34 34 rfl (by decide) (by exact H.o)).mono ?_;rintro e w1 ⟨rfl,h1,hg1⟩;have H1:=aa h1;have G1:=aa hg1;have hT:Ll (st.bind iS=fB [] (st.bind (aA 34))):=by
  cases st with
  | none=>rfl
  | some l=>show iS l=_;rw[iS];rfl
 clear h1 hg1;go_wp2_with fail
 go_loopg [3] (dw (st.bind (aA 34))) (fun k v wr=>IQ w b s (fB [] (st.bind (aA 34))) k v wr)
 case atStart=>
  refine⟨[],st.bind (aA 34),rfl,?_,rfl,World.ownsRow_nil _ _ _ _,H1.o,G1.o⟩;cases hk:st.bind (aA 34) with
  | none=>simp[dw]
  | some l=>
   have h1:=H1.o;rw[hk]at h1;have:=h1.len;simp[dw];omega
 case round=>
  obtain⟨acc,st1,hk,hb,hr,hown,h2,hg2⟩:=hrel;have A:Ll (gk=dw st1/\acc.length+gk<=2002/\fB acc st1=fB [] (st.bind (aA 34))/\wr.ownsRow w.heap.size 5 1 u3 acc.length (Lib.byteCells acc)/\bf wr b s st1/\w.grownBy wr (some b)):=⟨hk,hb,hr,hown,h2,hg2⟩
  clear hk hb hr hown hg2;cases st1 with
  | none=>
   have c0_:=(eA.nil h2).c;clear h2;go_wp2_with fail
   go_ret;obtain⟨hk,hb,hr,hown,h2,hg2⟩:=A.o;exact⟨[],none,rfl,by rw[hT.o,<-hr];rfl,by simp,h2,hg2⟩
  | some l=>
   have h4:=aa h2;obtain⟨i,h3,e3⟩:=h2;have c0_:=h3.c;clear h3 e3;go_wp2_with fail
   cases l with
   | nil=>
    refine(pZ _ b s false (by exact h4.o)).mono ?_;rintro e w2 ⟨rfl,h5,hg5⟩;have B:Ll (bf w2 b s none/\wr.grownBy w2 (some b)):=⟨h5,hg5⟩
    clear h5 hg5;go_wp2_with fail
    refine(go _ b s _ (by exact B.o.1)).mono ?_;rintro e w3 ⟨rfl,h6,hg6⟩;have C:Ll (bf w3 b s none/\w2.grownBy w3 (some b)):=⟨h6,hg6⟩
    clear h6 hg6;go_wp2_with fail
    obtain⟨hk,hb,hr,hown,h2,hg2⟩:=A.o;go_roundg 0
    case measure=>rw[hk];simp[dw]
    case rel=>exact⟨acc,none,rfl,by omega,hr,gA (gA hown B.o.2 hbl) C.o.2 hbl,C.o.1,am (am hg2 B.o.2) C.o.2⟩
   | cons c l=>
    refine(sF _ b s c l false (by exact h4.o)).mono ?_;rintro e w2 ⟨rfl,h5,hg5⟩;have B:Ll (bf w2 b s (some l)/\wr.grownBy w2 (some b)):=⟨h5,hg5⟩
    clear h5 hg5;by_cases e1:c=34
    ·subst e1;obtain⟨hk,hb,hr,hown,h2,hg2⟩:=A.o;have hown2:=gA hown B.o.2 hbl;rcases hown2.2 with⟨hv,hn⟩ | ⟨g,cap,cur,hv,-,-,-,-,-,-⟩
     ·have hacc:acc=[]:=List.eq_nil_of_length_eq_zero hn;subst hv;clear hk hb hr hown h2 hg2 hown2 hn;have hcv:=run_convert_bytes_nil (P:=prog) (w:=w2) 106 5 underlying106 underlying5 0 0;go_wp2_with fail
      go_ret;obtain⟨hk,hb,hr,hown,h2,hg2⟩:=A.o;subst hacc;exact⟨[],some l,rfl,by rw[hT.o,<-hr,nM];rfl,by simp,B.o.1,am hg2 B.o.2⟩
     ·subst hv;have hcv:=run_convert_bytes_back (P:=prog) w2 106 9 5 ⟨g,0,none⟩ cap acc underlying106 underlying5 underlying9 (fun j hj=>hown2.cells (g:=g) rfl j _ (by simp[Lib.byteCells,hj]));clear hk hb hr hown h2 hg2 hown2;go_wp2_with fail
      go_ret;obtain⟨hk,hb,hr,hown,h2,hg2⟩:=A.o;exact⟨acc,some l,rfl,by rw[hT.o,<-hr,nM];rfl,by omega,B.o.1,am hg2 B.o.2⟩
    have n1:=wE (m:=34) rfl e1;by_cases e2:c=92
    ·subst e2;go_wp2_with fail
     refine(xJ _ b s (some l) (by exact B.o.1)).mono ?_;rintro e w3 ⟨x,st3,rfl,hs3,h6,hg6⟩;have C:Ll ((some l).bind ot=st3.map (fun l=>(x,l))/\bf w3 b s st3/\w2.grownBy w3 (some b)):=⟨hs3,h6,hg6⟩
     clear hs3 h6 hg6;have hown3:w3.ownsRow w.heap.size 5 1 u3 acc.length (Lib.byteCells acc):=gA (gA A.o.2.2.2.1 B.o.2 hbl) C.o.2.2 hbl;have gw3:w.grownBy w3 (some b):=am (am A.o.2.2.2.2.2 B.o.2) C.o.2.2;have hB3:=gw3.size;have hl3:acc.length<=1000000000:=by have:=A.o.2.1;omega
     have O3:=aa hown3;have G3:=aa gw3;clear hown3 gw3;go_wp2_with (at_builtin;go_must (refine nX rfl _ _ rfl w.heap.size u3 acc x rfl rfl O3.o hB3 hl3 ?_);intro v4 w4 LS LR;refine Ll.o ?_)
     refine aa ?_;have D:Ll (w4.ownsRow w.heap.size 5 1 v4 (acc++[x]).length (Lib.byteCells (acc++[x]))/\w3.grownBy w4 u3.ownBlock):=⟨LS,LR⟩
     clear LS LR;go_wp2_with fail
     obtain⟨hk,hb,hr,hown,h2,hg2⟩:=A.o;go_roundg (dw st3)
     case measure=>rw[hk];exact Nat.lt_trans (un C.o.1) (by simp[dw])
     case rel=>
      refine⟨acc++[x],st3,rfl,?_,?_,D.o.1,?_,?_⟩
      ·have h9:=un C.o.1;have h8:dw (some ((92:UInt8) :: l))=l.length+2:=rfl;rw[hk,h8]at hb;simp only[Mx,My,List.length_nil];omega
      ·rw[<-hr,Be acc l x st3 C.o.1]
      ·exact C.o.2.1.grown D.o.2 (fun e=>by have:=(O3.o.lt b e.symm).1;omega)
      ·exact dv G3.o D.o.2 (fun k hk=>(O3.o.lt k hk).1)
    have n2:=wE (m:=92) rfl e2;by_cases e3:c.toNat < 32\/127<=c.toNat
    ·have F:Ll (fB acc (some (c :: l))=none):=Dg acc l c e1 e2 e3;have go1:Ll (∀ w3,bf w3 b s none->w2.grownBy w3 (some b)->IQ w b s (fB [] (st.bind (aA 34))) 0 u3 w3):=by
      intro w3 h6 hg6;obtain⟨hk,hb,hr,hown,h2,hg2⟩:=A.o;exact⟨acc,none,rfl,by omega,by rw[<-hr,F.o];rfl,gA (gA hown B.o.2 hbl) hg6 hbl,h6,am (am hg2 B.o.2) hg6⟩
     by_cases e4:c.toNat < 32
     ·have e5:(c.toNat:Int) < 32:=by omega
      clear e3;go_wp2_with fail
      refine(go _ b s _ (by exact B.o.1)).mono ?_;rintro e w3 ⟨rfl,h6,hg6⟩;have C:Ll (bf w3 b s none/\w2.grownBy w3 (some b)):=⟨h6,hg6⟩
      clear h6 hg6;go_wp2_with fail
      go_roundg 0
      case measure=>rw[A.o.1];simp[dw]
      case rel=>exact go1.o _ C.o.1 C.o.2
     ·have e5:¬(c.toNat:Int) < 32:=by omega
      have e6:127<=(c.toNat:Int):=by omega
      clear e3;go_wp2_with fail
      refine(go _ b s _ (by exact B.o.1)).mono ?_;rintro e w3 ⟨rfl,h6,hg6⟩;have C:Ll (bf w3 b s none/\w2.grownBy w3 (some b)):=⟨h6,hg6⟩
      clear h6 hg6;go_wp2_with fail
      go_roundg 0
      case measure=>rw[A.o.1];simp[dw]
      case rel=>exact go1.o _ C.o.1 C.o.2
    ·have e5:¬(c.toNat:Int) < 32:=by omega
     have e6:¬127<=(c.toNat:Int):=by omega
     have F:Ll (fB acc (some (c :: l))=fB (acc++[c]) (some l)):=vP acc l c e1 e2 e3;clear e1 e2 e3;have hown3:w2.ownsRow w.heap.size 5 1 u3 acc.length (Lib.byteCells acc):=gA A.o.2.2.2.1 B.o.2 hbl;have gw3:w.grownBy w2 (some b):=am A.o.2.2.2.2.2 B.o.2;have hB3:=gw3.size;have hl3:acc.length<=1000000000:=by have:=A.o.2.1;omega
     have O3:=aa hown3;have G3:=aa gw3;clear hown3 gw3;go_wp2_with (at_builtin;go_must (refine nX rfl _ _ rfl w.heap.size u3 acc c rfl rfl O3.o hB3 hl3 ?_);intro v4 w4 LS LR;refine Ll.o ?_)
     refine aa ?_;have D:Ll (w4.ownsRow w.heap.size 5 1 v4 (acc++[c]).length (Lib.byteCells (acc++[c]))/\w2.grownBy w4 u3.ownBlock):=⟨LS,LR⟩
     clear LS LR;go_wp2_with fail
     obtain⟨hk,hb,hr,hown,h2,hg2⟩:=A.o;go_roundg (dw (some l))
     case measure=>rw[hk];simp[dw]
     case rel=>
      refine⟨acc++[c],some l,rfl,?_,?_,D.o.1,?_,?_⟩
      ·rw[hk]at hb;simp[dw]at hb ⊢;omega
      ·rw[<-hr,F.o]
      ·exact B.o.1.grown D.o.2 (fun e=>by have:=(O3.o.lt b e.symm).1;omega)
      ·exact dv G3.o D.o.2 (fun k hk=>(O3.o.lt k hk).1)
section
open Go.RowKit Go.Shelf
def cn (w:LC):Prop:=
 (∃ tp p t f,w.heap[5]?=some (.cells #[.iface tp p] t f))/\(∃ tp p t f,w.heap[6]?=some (.cells #[.iface tp p] t f)) /\
 ∃ t f,w.heap[1]?=some (.cells (Lib.pow10Tab.map fun z=>Value.int .u64 z).toArray t f)
theorem cn.grown{r}(h:cn w)(hg:w.grownBy w' r)(hr:∀ k,r=some k->7<=k):cn w':=by
 obtain⟨⟨tp,p,t,f,h1⟩,⟨tq,q,t2,f2,h2⟩,⟨t3,f3,h3⟩⟩:=h;have lt:∀ k o,w.heap[k]?=some o->k < w.heap.size:=fun k o e=>(MF.1 e).1;refine⟨⟨tp,p,t,f,(hg.block _ (lt _ _ h1) ?_).trans h1⟩,⟨tq,q,t2,f2,(hg.block _ (lt _ _ h2) ?_).trans h2⟩,⟨t3,f3,(hg.block _ (lt _ _ h3) ?_).trans h3⟩⟩ <;>
 ·intro e;have:=hr _ e.symm;omega
theorem cn.size(h:cn w):7<=w.heap.size:=by
 obtain⟨⟨tp,p,t,f,h1⟩,⟨tq,q,t2,f2,h2⟩,⟨t3,f3,h3⟩⟩:=h;have lt:∀ k o,w.heap[k]?=some o->k < w.heap.size:=fun k o e=>(MF.1 e).1;have:=lt _ _ h1;have:=lt _ _ h2;have:=lt _ _ h3;omega
theorem cn.same(h:cn w)(e:w'.heap=w.heap):cn w':=by
 unfold cn at h ⊢;rw[e];exact h
theorem Id(s:ByteArray)(hs:s.size<=2000)(v:Int)(h:Lib.atoiAll s.data.toList=.ok v)(w:LC):Calls prog 158 #[.string s] w fun e w'=>e=.returned (.tuple #[.int .i64 v,.nilIface])/\La w w':=by
 refine(Any.strconv_Atoi_ok Tryz.laysC172 s (by omega) v h w).mono ?_;rintro e w' ⟨rfl,rfl | ⟨t,rfl⟩⟩
 ·exact⟨rfl,MK _ _⟩
 ·exact⟨rfl,Lib.bytesWorld_below w _ t⟩
theorem GH(s:ByteArray)(hs:s.size<=2000)(h:∀ v,Lib.atoiAll s.data.toList≠.ok v)(w:LC)(hG:cn w):Calls prog 158 #[.string s] w fun e w'=>∃ v N T,e=.returned (.tuple #[.int .i64 v,.iface T (.pointer (some ⟨N,0,none⟩))])/\La w w':=by
 obtain⟨⟨tp,p,t,f,h1⟩,⟨tq,q,t2,f2,h2⟩,_⟩:=hG;rcases h9:Lib.atoiAll s.data.toList with v | _ | _
 ·exact absurd h9 (h v)
 ·refine(Any.strconv_Atoi_syntax_var Tryz.laysC172 s (by omega) h9 tp p w ?_).mono ?_
  ·unfold World.var?;rw[show Program.globalNamed prog _=some 5 from by kernel_rfl];simp[h1]
  ·rintro e w' ⟨N,rfl,-,-,hb⟩;exact⟨0,N,_,rfl,hb⟩
 ·refine(Any.strconv_Atoi_range_var Tryz.laysC172 s (by omega) h9 tq q w ?_).mono ?_
  ·unfold World.var?;rw[show Program.globalNamed prog _=some 6 from by kernel_rfl];simp[h2]
  ·rintro e w' ⟨N,rfl,-,-,hb⟩;exact⟨_,N,_,rfl,hb⟩
theorem zF(w)(os:Array Obj):La w (Sort.grow w os):=
 ⟨rfl,rfl,rfl,by simp[Sort.grow],fun k hk=>by simp[Sort.grow,Array.getElem?_append,hk]⟩
theorem H7(n:Int)(h0:dW n)(w:LC)(hG:cn w):Calls prog 159 #[.int .i64 n] w fun e w'=>e=.returned (.string ⟨(Lib.itoa n).toArray⟩)/\La w w':=by
 obtain⟨_,_,t3,f3,h3⟩:=hG;refine(Any.strconv_Itoa Tryz.laysM171 n h0.1 h0.2 w ?_).mono ?_
 ·unfold Lib.TabIs World.var?;rw[show Program.globalNamed prog _=some 1 from by kernel_rfl];simp[h3]
 ·rintro e w' ⟨rfl,k,os,rfl⟩;have h:La w (w.drewN k):=⟨rfl,rfl,rfl,MG _,fun _ _=>rfl⟩
  exact⟨rfl,h.trans (zF (w.drewN k) os)⟩
def cB (c:UInt8):Bool:=c == 45 || (decide (48<=c.toNat)&&decide (c.toNat<=57))
def pO (l:Lz):Option (Int × Lz):=
 match Lib.atoiAll (l.takeWhile cB) with
 | .ok v=>if Lib.itoa v=l.takeWhile cB then some (v,l.dropWhile cB) else none
 | _=>none
def bC (k n:Int) (s:Lz):V:=⟨k,n,s,[],[]⟩
theorem fd(w:LC)(ok d k n s)(hk:dW k)(hn:dW n)(hs:s.length<=maxLen):bu w ok (d+1) (bC k n s) (cz k n s):=
 ⟨_,_,rfl,hk,hn,hs,⟨by simp[bC],.inl ⟨rfl,none,rfl⟩⟩,⟨by simp[bC],.inl ⟨rfl,none,rfl⟩⟩⟩
theorem If{l:Lz}{v:Int}(h:Lib.atoiAll (l.takeWhile cB)=.ok v)(h2:Lib.itoa v=l.takeWhile cB):pO l=some (v,l.dropWhile cB):=by
 simp[pO,h,h2]
theorem Hb{l:Lz}{v:Int}(h:Lib.atoiAll (l.takeWhile cB)=.ok v)(h2:Lib.itoa v≠l.takeWhile cB):pO l=none:=by
 simp[pO,h,h2]
theorem Hq{l:Lz}(h:∀ v,Lib.atoiAll (l.takeWhile cB)≠.ok v):pO l=none:=by
 unfold pO;split
 ·rename_i v e;exact absurd e (h v)
 ·rfl
theorem xn(v:Int):Lib.atoiAll []≠.ok v:=by intro h;cases h
theorem Gh{l}(h:cB (es l)=false):l.dropWhile cB=l:=by
 cases l with
 | nil=>rfl
 | cons c l=>rw[List.dropWhile_cons,if_neg (by simpa [es] using h)]
theorem Du{l}(h:cB (es l)=true):∃ c r,l=c :: r/\cB c=true:=by
 cases l with
 | nil=>simp[es,cB]at h
 | cons c l=>exact⟨c,l,rfl,by simpa [es] using h⟩
def FA (t:V) (v:Value):Prop:=∃ k n,t=bC k n []/\v=cz k n []/\dW k/\dW n
def fi:Obj:=.cells Lb 36
def J8 (w:LC) (b:Nat) (s:ByteArray) (l:Lz) (bad:Bool) (i0:Nat) (k:Nat) (c:Value) (wr:LC) (j:Nat):Prop:=
 ∃ l1,c=.int .u8 (es l1).toNat/\k=l1.length/\qP wr b s (i0+j) bad/\s.data.toList.drop (i0+j)=l1/\l.takeWhile cB=l.take j++l1.takeWhile cB/\l1.dropWhile cB=l.dropWhile cB/\(w.alloc fi).grownBy wr (some b)
theorem CJ(w:LC)(b s)(st:Option Lz)(h:bf w b s st)(hG:cn w)(hb4:7<=b):Calls prog 126 #[.pointer (some ⟨b,0,none⟩)] w fun e w'=>∃ (t:V) (v:Value) (st':Option Lz),e=.returned v/\FA t v /\
 (st.bind pO).map (fun p=>(bC 2 p.1 [],p.2))=st'.map (fun l=>(t,l))/\bf w' b s st'/\w.grownBy w' (some b):=by
 have H:=aa h;have hbl:=h.lt;obtain⟨i0,h1,e1⟩:=h;have c0_:=h1.c;have E1:=aa e1;have hi0:=h1.2.1;have hs0:=h1.2.2;have R0:=aa h1;have HG:=aa hG;clear h1 e1 hG;have hne:b≠w.heap.size:=by omega
 go_enter func126,ntmps126;go_wp2_with fail
 refine(kd _ b s (st.getD []) st.isNone (by exact H.o.grown (World.grownBy_alloc w _ none) (by simp))).mono ?_;rintro e w1 ⟨rfl,n1,rfl⟩;go_wp2_with fail
 go_loopg [4] (st.getD []).length (fun k c wr=>∃ j,J8 w b s (st.getD []) st.isNone i0 k c wr j)
 case atStart=>
  refine⟨0,st.getD [],rfl,rfl,?_,E1.o,rfl,rfl,cJ (az _ _) _⟩;exact⟨(World.grownBy_alloc w _ none).block b hbl (by simp) |>.trans (by exact R0.o.1),R0.o.2⟩
 case round=>
  obtain⟨j,l1,rfl,hk,h2,e2,ht,hd,hg⟩:=hrel;have A:Ll (gk=l1.length/\qP wr b s (i0+j) st.isNone/\s.data.toList.drop (i0+j)=l1/\(st.getD []).takeWhile cB=(st.getD []).take j++l1.takeWhile cB/\l1.dropWhile cB=(st.getD []).dropWhile cB/\(w.alloc fi).grownBy wr (some b)):=⟨hk,h2,e2,ht,hd,hg⟩
  have c0_:=h2.c;have hj:=h2.2.1;clear hk h2 e2 ht hd hg;cases hn:cB (es l1) with
  | true=>
   obtain⟨c,r,rfl,hc⟩:=Du hn;clear hn;have hc':c.toNat=45\/48<=c.toNat/\c.toNat<=57:=by
    simp only[cB,Bool.or_eq_true,beq_iff_eq,MJ,decide_eq_true_eq]at hc;rcases hc with rfl | h
    ·left;rfl
    ·right;exact h
   have hlt:i0+j < s.size:=by
    have:=congrArg List.length A.o.2.2.1;rw[MB,Array.length_toList]at this;have e:s.data.size=s.size:=rfl;simp only[My]at this;omega
   have step:Ll (∀ wr' nn,wr'=(wr.setCell ⟨b,1,none⟩ (.int .i64 ((i0:Int)+j+1)))->J8 w b s (st.getD []) st.isNone i0 r.length (.int .u8 (es r).toNat) (wr'.drewN nn) (j+1)):=by
    rintro wr' nn rfl;obtain⟨hk,h2,e2,ht,hd,hg⟩:=A.o;have e3:s.data.toList.drop (i0+j+1)=r:=by
     have:=congrArg List.tail e2;simpa using this
    refine⟨r,rfl,rfl,⟨?_,by omega,h2.2.2⟩,e3,?_,?_,cJ (ap hg _ _) _⟩
    ·have e9:((i0:Int)+j+1)=((i0+(j+1):Nat):Int):=by omega
     rw[e9];exact ak h2.1 1 _
    ·rw[ht,List.takeWhile_cons,if_pos hc];have e8:(st.getD []).drop j=c :: r:=by rw[<-E1.o,List.drop_drop];exact e2
     rw[List.take_add_one,List.append_assoc];congr 1
     have e7:(st.getD [])[j]?=some c:=by
      have:=congrArg (fun l=>l[0]?) e8;simpa using this
     rw[e7];rfl
    ·rw[<-hd,List.dropWhile_cons,if_pos hc]
   have nxt:Ll (eA (wr.setCell ⟨b,1,none⟩ (.int .i64 ((i0:Int)+j+1))) b s r st.isNone):=by
    obtain⟨r',e5,e6,h3,h4,-⟩:=step.o _ 0 rfl;have e7:s.data.toList.drop (i0+j+1)=r:=by
     have:=congrArg List.tail A.o.2.2.1;simpa using this
    exact⟨i0+(j+1),⟨h3.1,h3.2⟩,e7⟩
   rcases hc' with hq | ⟨hq1,hq2⟩
   ·have q1:(((es (c :: r)).toNat:Int) == 45)=true:=by simp[es,hq]
    go_wp2_with fail
    refine(kd _ b s r st.isNone (by exact nxt.o)).mono ?_;rintro e w1 ⟨rfl,n1,rfl⟩;go_wp2_with fail
    go_roundg r.length
    case measure=>rw[A.o.1];simp
    case rel=>exact⟨j+1,step.o _ n1 rfl⟩
   ·have q1:(((es (c :: r)).toNat:Int) == 45)=false:=by rw[MO];simp only[es,List.headD_cons];omega
    have q2:48<=((es (c :: r)).toNat:Int):=by simp only[es,List.headD_cons];omega
    have q3:((es (c :: r)).toNat:Int)<=57:=by simp only[es,List.headD_cons];omega
    go_wp2_with fail
    refine(kd _ b s r st.isNone (by exact nxt.o)).mono ?_;rintro e w1 ⟨rfl,n1,rfl⟩;go_wp2_with fail
    go_roundg r.length
    case measure=>rw[A.o.1];simp
    case rel=>exact⟨j+1,step.o _ n1 rfl⟩
  | false=>
   have hn':¬(((es l1).toNat:Int)=45):=by
    intro e;have:es l1=45:=UInt8.toNat_inj.1 (by simpa using Int.ofNat.inj e);rw[this]at hn;exact absurd hn (by decide)
   have hn1:(((es l1).toNat:Int) == 45)=false:=by rw[MO];exact hn'
   have hsplit:(48<=((es l1).toNat:Int))/\¬(((es l1).toNat:Int)<=57)\/¬(48<=((es l1).toNat:Int)):=by
    by_cases g1:48<=((es l1).toNat:Int)
    ·left;refine⟨g1,fun g2=>?_⟩;have:cB (es l1)=true:=by
      simp only[cB,Bool.or_eq_true,beq_iff_eq,MJ,decide_eq_true_eq];right;omega
     rw[this]at hn;cases hn
    ·right;exact g1
   have b1:(i0:Int)<=((i0+j:Nat):Int):=by omega
   have b2:((i0+j:Nat):Int)<=(s.size:Int):=by omega
   have hx:Ll ((s.extract i0 (i0+j)).data.toList=(st.getD []).takeWhile cB):=by
    obtain⟨hk,h2,e2,ht,hd,hg⟩:=A.o;have hz:l1.takeWhile cB=[]:=by
     cases l1 with
     | nil=>rfl
     | cons x r=>rw[List.takeWhile_cons,if_neg (by simpa [es] using hn)]
    rw[ht,hz,List.append_nil,<-E1.o];have:=ByteArray.extract_mk s.data.toList i0 (i0+j);have e9:(ByteArray.mk s.data.toList.toArray)=s:=by cases s;simp
    rw[e9]at this;rw[this,Nat.add_sub_cancel_left];exact List.toList_toArray
   have hxl:(s.extract i0 (i0+j)).size<=2000:=by rw[ByteArray.size_extract];omega
   have hend:Ll (eA wr b s ((st.getD []).dropWhile cB) st.isNone):=by
    obtain⟨hk,h2,e2,ht,hd,hg⟩:=A.o;exact⟨i0+j,h2,by rw[e2,<-hd,Gh hn]⟩
   have HN:=aa hn;clear hn hn';generalize hX:s.extract i0 (i0+j)=X at hx hxl;have HX:=aa hX;have hgw:Ll ((w.alloc fi).grownBy wr (some b)):=A.o.2.2.2.2.2;have LU:Ll (Lc wr w.heap.size):=ag.grown (w:=w.alloc fi) (MN w _) hgw.o (by simp;omega);have hG1:Ll (cn wr):=(HG.o.grown (World.grownBy_alloc w fi none) (by simp)).grown hgw.o (by intro k hk;cases hk;exact hb4);rcases hv:Lib.atoiAll X.data.toList with v | _ | _
   ·have hvb:dW v:=Lib.atoiAll_bounds hv;have HV:=aa hv;clear hv;rcases hsplit with⟨d1,d2⟩ | d1
    all_goals
     go_wp2_with fail
     go_quiet (fail)
     rw[hX];go_wp2_with fail
     refine Lk (Id X hxl v HV.o _) fun w2 hb2=>?_;have B2:=aa hb2;clear hb2;go_wp2_with fail
     refine Lk (H7 v hvb _ (by exact(hG1.o.same (w':=wr.drewN _) rfl).grown (aq (r:=none) B2.o) (by simp))) fun w3 hb3=>?_;have B3:=aa hb3;clear hb3;have hg3:Ll (wr.grownBy w3 none):=am (am (cJ (az wr none) _) (aq B2.o)) (aq B3.o);have hbx3:Ll (Lc w3 w.heap.size):=LU.o.grown hg3.o (by simp);have x0_:=hbx3.o.c;by_cases heq:Lib.itoa v=X.data.toList
     ·have hq:(Lib.itoa v == X.toList)=true:=by rw[ByteArray.toList_eq,beq_iff_eq];exact heq
      have hB:=hbx3.o.set (.int .i64 2) (.int .i64 v) (aR []) (.slice none 0 0) (.slice none 0 0);obtain⟨z0,z1,z2,z3,z4,-⟩:=hB.c;have Z:Ll (_/\_/\_/\_/\_):=⟨z0,z1,z2,z3,z4⟩
      clear hB;go_wp2_with fail
      obtain⟨z0,z1,z2,z3,z4⟩:=Z.o;refine MM (v:=cz 2 v []) ?_ rfl ?_
      ·simp only[ar,aR]at z0 z1 z2 z3 z4;simp[results,results126,go_sem,z0,z1,z2,z3,z4,cz,aR]
      ·refine⟨bC 2 v [],cz 2 v [],st.map (List.dropWhile cB),rfl,⟨_,_,rfl,rfl,(by unfold dW;omega),hvb⟩,?_,?_,?_⟩
       ·match st,hx,hend with
        | none,hx,_=>rw[hx.o]at HV;exact absurd HV.o (xn v)
        | some l,hx,_=>
         have hx':X.data.toList=l.takeWhile cB:=hx.o;exact congrArg _ (If (by rw[<-hx'];exact HV.o) (by rw[<-hx'];exact heq))
       ·have e1:(st.map (List.dropWhile cB)).getD []=(st.getD []).dropWhile cB:=by cases st <;> rfl
        have e2:(st.map (List.dropWhile cB)).isNone=st.isNone:=by cases st <;> rfl
        unfold bf;rw[e1,e2];refine hend.o.of_heap (((aI w3 w.heap.size _ _ _ _ _).block b ?_ (by simp;omega)).trans (hg3.o.block b hend.o.lt (by simp)));exact MI hend.o.lt hg3.o.size
       ·exact dv (am (am (World.grownBy_alloc w fi _) hgw.o) (dv (az _ _) hg3.o (by simp))) (aI w3 w.heap.size _ _ _ _ _) (by intro k hk;cases hk;exact MG _)
     ·have hq:(Lib.itoa v == X.toList)=false:=by rw[ByteArray.toList_eq,MO];exact heq
      go_wp2_with fail
      refine(mv _ b s _ _ (by exact hend.o.of_heap (hg3.o.block b hend.o.lt (by simp)))).mono ?_;rintro e w4 ⟨rfl,h4,hg4⟩;have R4:Ll (eA w4 b s [] true/\w3.grownBy w4 (some b)):=⟨h4,hg4⟩
      clear h4 hg4;have hb4':=hbx3.o.grown R4.o.2 (by simp;omega);have x0_:=hb4'.c;have hB:=hb4'.set (.int .i64 0) (.int .i64 0) (aR []) (.slice none 0 0) (.slice none 0 0);obtain⟨z0,z1,z2,z3,z4,-⟩:=hB.c;have Z:Ll (_/\_/\_/\_/\_):=⟨z0,z1,z2,z3,z4⟩
      clear hB hb4';go_wp2_with fail
      obtain⟨z0,z1,z2,z3,z4⟩:=Z.o;refine MM (v:=cz 0 0 []) ?_ rfl ?_
      ·simp only[ar,aR]at z0 z1 z2 z3 z4;simp[results,results126,go_sem,z0,z1,z2,z3,z4,cz,aR]
      ·refine⟨bC 0 0 [],cz 0 0 [],none,rfl,⟨_,_,rfl,rfl,(by unfold dW;omega),(by unfold dW;omega)⟩,?_,?_,?_⟩
       ·cases st with
        | none=>rfl
        | some l=>
         have hx':X.data.toList=l.takeWhile cB:=hx.o;exact congrArg _ (Hb (v:=v) (by rw[<-hx'];exact HV.o) (by rw[<-hx'];exact heq))
       ·exact R4.o.1.of_heap ((aI w4 w.heap.size _ _ _ _ _).block b R4.o.1.lt (by simp;omega))
       ·exact dv (am (am (am (World.grownBy_alloc w fi _) hgw.o) (dv (az _ _) hg3.o (by simp))) R4.o.2) (aI w4 w.heap.size _ _ _ _ _) (by intro k hk;cases hk;exact MG _)
   all_goals
    have hno:∀ v,Lib.atoiAll X.data.toList≠.ok v:=by intro v e;rw[hv]at e;cases e
    have HV:=aa hno;clear hv hno;rcases hsplit with⟨d1,d2⟩ | d1
    all_goals
     go_wp2_with fail
     go_quiet (fail)
     rw[hX];go_wp2_with fail
     refine(GH X hxl HV.o _ (by exact(hG1.o.same (w':=wr.drewN _) rfl))).mono ?_;rintro e w3 ⟨v,N,T,rfl,hb2⟩;have hg3:Ll (wr.grownBy w3 none):=am (cJ (az wr none) _) (aq hb2);clear hb2;have hbx3:Ll (Lc w3 w.heap.size):=LU.o.grown hg3.o (by simp);go_wp2_with fail
     refine(mv _ b s _ _ (by exact hend.o.of_heap (hg3.o.block b hend.o.lt (by simp)))).mono ?_;rintro e w4 ⟨rfl,h4,hg4⟩;have R4:Ll (eA w4 b s [] true/\w3.grownBy w4 (some b)):=⟨h4,hg4⟩
     clear h4 hg4;have hb4':=hbx3.o.grown R4.o.2 (by simp;omega);have x0_:=hb4'.c;have hB:=hb4'.set (.int .i64 0) (.int .i64 0) (aR []) (.slice none 0 0) (.slice none 0 0);obtain⟨z0,z1,z2,z3,z4,-⟩:=hB.c;have Z:Ll (_/\_/\_/\_/\_):=⟨z0,z1,z2,z3,z4⟩
     clear hB hb4';go_wp2_with fail
     obtain⟨z0,z1,z2,z3,z4⟩:=Z.o;refine MM (v:=cz 0 0 []) ?_ rfl ?_
     ·simp only[ar,aR]at z0 z1 z2 z3 z4;simp[results,results126,go_sem,z0,z1,z2,z3,z4,cz,aR]
     ·refine⟨bC 0 0 [],cz 0 0 [],none,rfl,⟨_,_,rfl,rfl,(by unfold dW;omega),(by unfold dW;omega)⟩,?_,?_,?_⟩
      ·cases st with
       | none=>rfl
       | some l=>
        have hx':X.data.toList=l.takeWhile cB:=hx.o;exact congrArg _ (Hq (by intro v;rw[<-hx'];exact HV.o v))
      ·exact R4.o.1.of_heap ((aI w4 w.heap.size _ _ _ _ _).block b R4.o.1.lt (by simp;omega))
      ·exact dv (am (am (am (World.grownBy_alloc w fi _) hgw.o) (dv (az _ _) hg3.o (by simp))) R4.o.2) (aI w4 w.heap.size _ _ _ _ _) (by intro k hk;cases hk;exact MG _)
end
def iW (wd l:Lz):Option Lz:=if wd.isPrefixOf l then some (l.drop wd.length) else none
theorem tW(w:LC)(b s)(st:Option Lz)(wd k n)(hk:dW k)(hn:dW n)(hwd:0 < wd.size)(hwd2:wd.size<=100)(h:bf w b s st):Calls prog 122 #[.pointer (some ⟨b,0,none⟩),.string wd,.agg #[.int .i64 k,.int .i64 n,.string ⟨#[]⟩,.slice none 0 0,.slice none 0 0]] w fun e w'=>∃ (t:V) (v:Value) (st':Option Lz),e=.returned v/\FA t v /\
 (st.bind (iW wd.data.toList)).map (fun l=>(bC k n [],l))=st'.map (fun l=>(t,l))/\bf w' b s st'/\w.grownBy w' (some b):=by
 have H:=aa h;have hbl:=h.lt;obtain⟨i,h1,e1⟩:=h;have E1:=aa e1;have hi:=h1.2.1;have hs0:=h1.2.2;have R0:=aa h1;clear e1 h1;have hr1:Ll (qP ((w.alloc (.cells #[.int .i64 k,.int .i64 n,.string ⟨#[]⟩,.slice none 0 0,.slice none 0 0] 36)).alloc fi) b s i st.isNone):=
  ⟨by rw[(World.grownBy_alloc _ fi none).block b (by simp;omega) (by simp),(World.grownBy_alloc w _ none).block b hbl (by simp)];exact R0.o.1,R0.o.2⟩
 have i0:(0:Int)<=(i:Int):=by omega
 have i1:(i:Int)<=(s.size:Int):=by omega
 obtain⟨c0,c1,c2,f1,f2⟩:=hr1.o.c;unfold fi at c0 c1 c2 f1 f2;have hdr:Ll ((s.data.toList.drop i).take (s.size - i)=st.getD []):=by
  show _=_;rw[<-E1.o];exact MD (by simp only[MB,Array.length_toList];exact MG _)
 cases hpx:wd.data.toList.isPrefixOf (st.getD []) with
 | true=>
  have hp:Lib.hasPrefix ((s.data.toList.drop i).take (s.size - i)) wd.data.toList=true:=by rw[hdr.o];exact hpx
  have HP:=aa hpx;have LT:i+wd.size<=s.size:=by
   have:=List.IsPrefix.length_le (List.isPrefixOf_iff_prefix.1 hpx);rw[<-E1.o,MB,Array.length_toList,Array.length_toList]at this;have e:s.data.size=s.size:=rfl;have e':wd.data.size=wd.size:=rfl;omega
  clear hpx;go_enter func122,ntmps122;go_wp2_with fail
  go_quiet ((go_at_call 151;exact Calls.quiet_of_same (Tryz.strings_HasPrefix _ _ _)))
  go_wp2_with fail
  refine MM (v:=cz k n []) (by simp[results,results122,go_sem,cz,aR]) rfl ?_;refine⟨bC k n [],cz k n [],st.map (List.drop wd.data.toList.length),rfl,⟨_,_,rfl,rfl,hk,hn⟩,?_,?_,?_⟩
  ·cases st with
   | none=>exact absurd HP.o (by
    cases hw:wd.data.toList with
    | nil=>
     have e:wd.data.toList.length=wd.size:=by rw[Array.length_toList];rfl
     rw[hw]at e;simp at e;omega
    | cons c r=>simp)
   | some l=>exact congrArg _ (show iW wd.data.toList l=some _ by unfold iW;exact if_pos HP.o)
  ·have e9:((i:Int)+(wd.size:Int))=((i+wd.size:Nat):Int):=by omega
   refine⟨i+wd.size,⟨?_,LT,hs0⟩,?_⟩
   ·rw[e9];refine((aI _ (w.heap.size+1) _ _ _ _ _).block b ?_ (by simp;omega)).trans ?_
    ·simp[World.setCell];omega
    ·have:(st.map (List.drop wd.data.toList.length)).isNone=st.isNone:=by cases st <;> rfl
     rw[this];exact ak hr1.o.1 1 _
   ·have e8:wd.data.toList.length=wd.size:=by rw[Array.length_toList];rfl
    rw[<-List.drop_drop,E1.o,e8];cases st with
    | none=>simp
    | some l=>rfl
  ·exact dv (ap (cJ (bd (bd (az _ _) _) _) _) _ _) (aI _ (w.heap.size+1) _ _ _ _ _) (by intro k hk;cases hk;omega)
 | false=>
  have hp:Lib.hasPrefix ((s.data.toList.drop i).take (s.size - i)) wd.data.toList=false:=by rw[hdr.o];exact hpx
  have HP:=aa hpx;clear hpx;go_enter func122,ntmps122;go_wp2_with fail
  go_quiet ((go_at_call 151;exact Calls.quiet_of_same (Tryz.strings_HasPrefix _ _ _)))
  go_wp2_with fail
  refine(mv _ b s (st.getD []) st.isNone (by exact⟨i,⟨hr1.o.1,hr1.o.2⟩,E1.o⟩)).mono ?_;rintro e w4 ⟨rfl,h4,hg4⟩;have hg5:=am (cJ (az ((w.alloc (.cells #[.int .i64 k,.int .i64 n,.string ⟨#[]⟩,.slice none 0 0,.slice none 0 0] 36)).alloc fi) (some b)) nq) hg4;have LU:Lc w4 (w.heap.size+1):=ag.grown (et w _ fi) hg5 (by simp;omega);have R4:Ll (eA w4 b s [] true/\w.grownBy w4 (some b)):=⟨h4,am (bd (bd (az _ _) _) _) hg5⟩
  have x0_:=LU.c;obtain⟨z0,z1,z2,z3,z4,-⟩:=(LU.set (.int .i64 0) (.int .i64 0) (aR []) (.slice none 0 0) (.slice none 0 0)).c;have Z:Ll (_/\_/\_/\_/\_):=⟨z0,z1,z2,z3,z4⟩
  clear LU h4 hg4 hg5;go_wp2_with fail
  obtain⟨z0,z1,z2,z3,z4⟩:=Z.o;refine MM (v:=cz 0 0 []) ?_ rfl ?_
  ·simp only[ar,aR]at z0 z1 z2 z3 z4;simp[results,results122,go_sem,z0,z1,z2,z3,z4,cz,aR]
  ·refine⟨bC 0 0 [],cz 0 0 [],none,rfl,⟨_,_,rfl,rfl,(by unfold dW;omega),(by unfold dW;omega)⟩,?_,?_,?_⟩
   ·cases st with
    | none=>rfl
    | some l=>exact congrArg _ (show iW wd.data.toList l=none by unfold iW;rw[if_neg (by rw[show wd.data.toList.isPrefixOf l=false from HP.o];simp)])
   ·exact R4.o.1.of_heap ((aI w4 (w.heap.size+1) _ _ _ _ _).block b R4.o.1.lt (by simp;omega))
   ·exact dv R4.o.2 (aI w4 (w.heap.size+1) _ _ _ _ _) (by intro k hk;cases hk;omega)
end Go.Proofs.YtfpcghnhjlnnoaaGreatDoor
