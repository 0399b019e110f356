import Derived.Test.YtbdlfclnkpofaaaGreatDoorG1
import Derived.Test.YtbdlfclnkpofaaaGreatDoorG2
import Derived.Test.YtbdlfclnkpofaaaGreatDoorG3
import Derived.Lib.ItoaLen
import Derived.Deep.Slices
import Derived.Deep.DeepCutAuto
import Derived.Deep.DrawnRows
set_option maxRecDepth 100000
set_option maxHeartbeats 40000000
set_option linter.unusedSimpArgs false
set_option linter.unusedVariables false
namespace Go.Proofs.YtbdlfclnkpofaaaGreatDoor
open Go.RowKit
open _root_.Go.Proofs.Tryz
theorem sB(w b s l bad)(h:eA w b s l bad):Calls prog 74 #[.pointer (some ⟨b,0,none⟩)] w fun e w'=>e=.returned (.tuple #[])/\eA w' b s (l.dropWhile cw) bad/\w.grownBy w' (some b):=by
 have H:=aa h;clear h;go_enter func74,ntmps74;go_wp2
 go_loopg [] l.length (fun k wr=>∃ l1,k=l1.length/\eA wr b s l1 bad/\l1.dropWhile cw=l.dropWhile cw/\w.grownBy wr (some b))
 case atStart=>exact⟨l,rfl,H.o,rfl,az _ _⟩
 case round=>
  obtain⟨l1,hk,h1,he,hg⟩:=hrel;have A:Ll (gk=l1.length/\eA wr b s l1 bad/\l1.dropWhile cw=l.dropWhile cw/\w.grownBy wr (some b)):=⟨hk,h1,he,hg⟩
  clear hk he hg;cases l1 with
  | nil=>
   have c0_:=h1.nil.c;clear h1;have e0:decide ((s.size:Int) < (s.size:Int))=false:=by simp
   go_wp2_with fail
   go_quiet (fail)
   go_wp2
   go_end0
   obtain⟨hk,h1,he,hg⟩:=A.o;refine⟨rfl,?_,cJ hg _⟩;rw[<-he];exact h1.of_heap rfl
  | cons c l2=>
   obtain⟨i,h,⟨hi,hc⟩,hl⟩:=h1.cons;have c0_:=h.c;have h3:=h.2.2;have H1:=aa h;have Hc:=aa hc;have Hl:=aa hl;clear h h1 hl hc;have e0:(i:Int) < (s.size:Int):=by omega
   cases hsp:cw c with
   | true=>
    have e2:0<=Lib.indexByte [32,9,10,13] s[i]:=by rw[Hc.o,qe];exact hsp
    have S:=aa hsp;clear hsp;go_wp2_with fail
    go_quiet ((go_at_call 105;exact Calls.quiet_of_same (Tryz.strings_IndexByte _ _ _)))
    go_wp2_with fail
    obtain⟨hk,h1,he,hg⟩:=A.o;go_roundg l2.length
    case measure=>rw[hk];simp
    case rel=>
     refine⟨l2,rfl,⟨i+1,⟨ak H1.o.1 1 _,by omega,H1.o.2.2⟩,Hl.o⟩,?_,cJ (ap hg _ _) _⟩;rw[<-he,List.dropWhile_cons,if_pos S.o]
   | false=>
    have e2:decide (0<=Lib.indexByte [32,9,10,13] s[i])=false:=decide_eq_false (by rw[Hc.o,qe];simp[hsp]);have S:=aa hsp;clear hsp;go_wp2_with fail
    go_quiet ((go_at_call 105;exact Calls.quiet_of_same (Tryz.strings_IndexByte _ _ _)))
    go_wp2_with fail
    go_end0
    obtain⟨hk,h1,he,hg⟩:=A.o;refine⟨rfl,?_,cJ hg _⟩;rw[<-he,List.dropWhile_cons,if_neg (by rw[S.o];simp)];exact h1.of_heap rfl
theorem Iw(w b s l bad m c)(hm:m=(c.toNat:Int))(hc0:c≠0)(h:eA w b s l bad):Calls prog 140 #[.pointer (some ⟨b,0,none⟩),.int .u8 m] w fun e w'=>e=.returned (.bool (aA c l).isSome)/\eA w' b s ((aA c l).getD (l.dropWhile cw)) bad/\w.grownBy w' (some b):=by
 have H:=aa h;have M:=aa hm;clear h hm;go_enter func140,ntmps140;go_wp2_with fail
 refine(sB _ b s l bad (by exact H.o)).mono ?_;rintro e w1 ⟨rfl,h1,hg1⟩;have H1:=aa h1;have G1:=aa hg1;clear h1 hg1;go_wp2_with fail
 refine(k9 _ b s _ bad (by exact H1.o)).mono ?_;rintro e w2 ⟨rfl,n,rfl⟩;cases hl:l.dropWhile cw with
 | nil=>
  rw[hl]at H1;have e1:(((cr []).toNat:Int) != m)=true:=by
   rw[M.o,bne_iff_ne];intro e;exact hc0 (UInt8.toNat_inj.1 (by simp[cr]at e ⊢;omega))
  have HL:=aa hl;clear hl;go_wp2
  go_ret;exact⟨by simp[aA,HL.o],by simp only[aA,HL.o];exact H1.o.of_heap rfl,cJ G1.o _⟩
 | cons x r=>
  rw[hl]at H1;obtain⟨i,h,⟨hi,hc⟩,hr⟩:=H1.o.cons;have c0_:=h.c;have h3:=h.2.2;have H2:=aa h;have Hr:=aa hr;have HL:=aa hl;clear h hl hr hc;by_cases hx:x=c
  ·have e1:(((cr (x :: r)).toNat:Int) != m)=false:=by rw[M.o,hx];simp[cr]
   have HX:=aa hx;clear hx;go_wp2
   go_ret;exact⟨by simp[aA,HL.o,HX.o],by simp only[aA,HL.o,HX.o];exact⟨i+1,⟨ak H2.o.1 1 _,by omega,H2.o.2.2⟩,Hr.o⟩,cJ (ap G1.o _ _) _⟩
  ·have e1:(((cr (x :: r)).toNat:Int) != m)=true:=by
    rw[M.o,bne_iff_ne];intro e;exact hx (UInt8.toNat_inj.1 (by simp[cr]at e ⊢;omega))
   have HX:=aa hx;clear hx;go_wp2
   go_ret;exact⟨by simp[aA,HL.o,HX.o],by simp only[aA,HL.o,HX.o];exact H1.o.of_heap rfl,cJ G1.o _⟩
variable {w w':World}
def bf (w:LC) (b:Nat) (s:ByteArray) (st:Option Lz):Prop:=eA w b s (st.getD []) st.isNone
theorem bf.of_heap{b s}{st:Option Lz}(h:bf w b s st)(e:w'.heap[b]?=w.heap[b]?):bf w' b s st:=eA.of_heap h e
theorem bf.lt{b s}{st:Option Lz}(h:bf w b s st):b < w.heap.size:=eA.lt h
theorem bf.len{b s l}(h:bf w b s (some l)):l.length<=s.size/\s.size<=2000:=eA.len h
theorem bf.grown{a b s}{st:Option Lz}{r}(h:bf a b s st)(hg:a.grownBy w r)(hr:some b≠r):bf w b s st:=h.of_heap (hg.block b h.lt hr)
theorem dv{a:LC}{b row}(h:a.grownBy w (some b))(hg:w.grownBy w' row)(hr:∀ k,row=some k->a.heap.size<=k):a.grownBy w' (some b):=
 ⟨hg.os.trans h.os,hg.tape.trans h.tape,hg.output.trans h.output,MH h.size hg.size,fun i hi hb=>(hg.block i (MI hi h.size) (fun e=>by have:=hr i e.symm;omega)).trans (h.block i hi hb)⟩
theorem fs(w b s)(st:Option Lz)(h:bf w b s st):Calls prog 136 #[.pointer (some ⟨b,0,none⟩)] w fun e w'=>e=.returned (.tuple #[])/\bf w' b s none/\w.grownBy w' (some b):=
 Ui w b s _ _ h
def uH:Lz->Option (UInt8 × Lz)
 | []=>none
 | c :: l=>some (c,l)
theorem zW(w b s)(st:Option Lz)(h:bf w b s st):Calls prog 138 #[.pointer (some ⟨b,0,none⟩)] w fun e w'=>∃ (c:UInt8) (st':Option Lz),e=.returned (.int .u8 c.toNat)/\st.bind uH=st'.map (fun l=>(c,l))/\(st'=none->c=0)/\bf w' b s st'/\w.grownBy w' (some b):=by
 match st,h with
 | none,h=>exact(pZ w b s true h).mono fun e w' ⟨he,hr,hg⟩=>⟨0,none,he,rfl,fun _=>rfl,hr,hg⟩
 | some [],h=>exact(pZ w b s false h).mono fun e w' ⟨he,hr,hg⟩=>⟨0,none,he,rfl,fun _=>rfl,hr,hg⟩
 | some (c :: l),h=>exact(sF w b s c l false h).mono fun e w' ⟨he,hr,hg⟩=>⟨c,some l,he,rfl,nofun,hr,hg⟩
theorem mD(w b s)(st:Option Lz)(m c)(hm:m=(c.toNat:Int))(hc0:c≠0)(h:bf w b s st):Calls prog 140 #[.pointer (some ⟨b,0,none⟩),.int .u8 m] w fun e w'=>e=.returned (.bool (st.bind (aA c)).isSome) /\
 bf w' b s (if (st.bind (aA c)).isSome then st.bind (aA c) else st.map (List.dropWhile cw))/\w.grownBy w' (some b):=by
 refine(Iw w b s _ _ m c hm hc0 h).mono fun e w' ⟨he,hr,hg⟩=>⟨?_,?_,hg⟩
 ·cases st with
  | none=>exact he
  | some l=>exact he
 ·cases st with
  | none=>exact hr
  | some l=>
   cases hk:aA c l with
   | none=>simpa [bf,hk] using hr
   | some r=>simpa [bf,hk] using hr
theorem kP(w b s)(st:Option Lz)(m c)(hm:m=(c.toNat:Int))(hc0:c≠0)(h:bf w b s st):Calls prog 137 #[.pointer (some ⟨b,0,none⟩),.int .u8 m] w fun e w'=>e=.returned (.tuple #[])/\bf w' b s (st.bind (aA c))/\w.grownBy w' (some b):=by
 have H:=aa h;have M:=aa hm;clear h hm;go_enter func137,ntmps137;go_wp2_with fail
 refine(mD _ b s st m c M.o hc0 (by exact H.o)).mono ?_;rintro e w1 ⟨rfl,h1,hg1⟩;have H1:=aa h1;have G1:=aa hg1;clear h1 hg1;cases hk:st.bind (aA c) with
 | none=>
  rw[hk]at H1;go_wp2_with fail
  refine(fs _ b s _ (by exact H1.o)).mono ?_;rintro e w2 ⟨rfl,h2,hg2⟩;go_wp2_with fail
  go_end0
  exact⟨rfl,by rw[hk];exact h2,am G1.o hg2⟩
 | some r=>
  rw[hk]at H1;go_wp2_with fail
  go_end0
  exact⟨rfl,by rw[hk];exact H1.o,G1.o⟩
theorem yA{p:UInt8->Prop}(h:∀ n:Fin 256,p (UInt8.ofNat n.val))(c):p c:=by
 have:=h ⟨c.toNat,c.toNat_lt⟩;simpa using this
theorem Cw(c):Lib.indexByte [48,49,50,51,52,53,54,55,56,57,97,98,99,100,101,102] (if 65<=c.toNat/\c.toNat<=70 then c+32 else c)=(match sN c with | some d=>(d:Int) | none=>-1):=
 yA (p:=fun c=>Lib.indexByte [48,49,50,51,52,53,54,55,56,57,97,98,99,100,101,102] (if 65<=c.toNat/\c.toNat<=70 then c+32 else c)=(match sN c with | some d=>(d:Int) | none=>-1)) (by decide +kernel) c
theorem Ic(c d)(h:sN c=some d):d < 16:=by
 simp only[sN]at h;split at h
 ·cases h;omega
 ·split at h
  ·cases h;omega
  ·split at h
   ·cases h;omega
   ·cases h
theorem fx(t m r w)(h:Lib.indexByte t.data.toList m.toNat.toUInt8=r):Calls prog 105 #[.string t,.int .u8 m] w fun e w'=>e=.returned (.int .i64 r)/\w'=w:=by
 subst h;exact Tryz.strings_IndexByte t m w
theorem ID(c m)(hm:m=if 65<=c.toNat/\c.toNat<=70 then (c.toNat:Int)+32 else c.toNat):Lib.indexByte [48,49,50,51,52,53,54,55,56,57,97,98,99,100,101,102] m.toNat.toUInt8=(match sN c with | some d=>(d:Int) | none=>-1):=by
 rw[<-Cw c];congr 1
 subst hm;split
 ·rename_i h;apply UInt8.toNat_inj.1;rw[UInt8.toNat_add];simp;omega
 ·simp
theorem sj{st st1:Option Lz}{c}{α:Type}(f:UInt8->Lz->Option α)(hs:st.bind uH=st1.map (fun l=>(c,l))):(st.bind fun l=>match l with | []=>none | c :: l=>f c l)=st1.bind (f c):=by
 match st,st1,hs with
 | none,none,_=>rfl
 | some [],none,_=>rfl
 | some (x :: r),some l,hs=>simp[uH]at hs;obtain⟨rfl,rfl⟩:=hs;rfl
theorem Cg{st st1:Option Lz}{c}(hs:st.bind uH=st1.map (fun l=>(c,l))):st.bind tF=st1.bind fun l=>(sN c).map fun d=>(d,l):=by
 rw[<-sj (fun c l=>(sN c).map fun d=>(d,l)) hs];cases st with
 | none=>rfl
 | some l=>cases l <;> rfl
theorem Ey(w b s)(st:Option Lz)(h:bf w b s st):Calls prog 168 #[.pointer (some ⟨b,0,none⟩)] w fun e w'=>∃ (d:Nat) (st':Option Lz),e=.returned (.int .i64 d)/\d < 16/\st.bind tF=st'.map (fun l=>(d,l))/\bf w' b s st'/\w.grownBy w' (some b):=by
 have H:=aa h;clear h;go_enter func168,ntmps168;go_wp2_with fail
 refine(zW _ b s st (by exact H.o)).mono ?_;rintro e w1 ⟨c,st1,rfl,hs,h0,h1,hg1⟩;have hD:=aa (Cg hs);have A:Ll ((st1=none->c=0)/\bf w1 b s st1/\w.grownBy w1 (some b)):=⟨h0,h1,hg1⟩
 clear hs h0 h1 hg1;have hc256:(c.toNat:Int) < 256:=by have:=c.toNat_lt;omega
 have hidx:=aa (ID c);cases hx:sN c with
 | some d=>
  have hd:=Ic c d hx;have cr:0<=(d:Int):=by omega
  rw[hx]at hidx hD;have fin:Ll (∃ (d':Nat) (st':Option Lz),Ending.returned (Value.int .i64 d)=.returned (.int .i64 d')/\d' < 16/\st.bind tF=st'.map (fun l=>(d',l))/\bf w1 b s st'/\w.grownBy w1 (some b)):=by
   refine⟨d,st1,rfl,hd,?_,A.o.2.1,A.o.2.2⟩;rw[hD.o];cases st1 <;> rfl
  clear hx;by_cases hup:65<=c.toNat/\c.toNat<=70
  ·have hu1:65<=(c.toNat:Int):=by omega
   have hu2:(c.toNat:Int)<=70:=by omega
   go_wp2_with fail
   refine LE (fx _ _ (d:Int) _ (by exact hidx.o _ (by rw[if_pos hup]))) ?_;go_wp2_with fail
   go_ret;exact fin.o
  ·have hu1:¬(65<=(c.toNat:Int)/\(c.toNat:Int)<=70):=by omega
   by_cases hu2:65<=(c.toNat:Int)
   ·have hu3:¬((c.toNat:Int)<=70):=by omega
    go_wp2_with fail
    refine LE (fx _ _ (d:Int) _ (by exact hidx.o _ (by rw[if_neg hup]))) ?_;go_wp2_with fail
    go_ret;exact fin.o
   ·go_wp2_with fail
    refine LE (fx _ _ (d:Int) _ (by exact hidx.o _ (by rw[if_neg hup]))) ?_;go_wp2_with fail
    go_ret;exact fin.o
 | none=>
  rw[hx]at hidx hD;have fin:Ll (∀ w2,bf w2 b s none->w1.grownBy w2 (some b)->∃ (d':Nat) (st':Option Lz),Ending.returned (Value.int .i64 0)=.returned (.int .i64 d')/\d' < 16/\st.bind tF=st'.map (fun l=>(d',l))/\bf w2 b s st'/\w.grownBy w2 (some b)):=by
   intro w2 h2 hg2;refine⟨0,none,rfl,by omega,?_,h2,am A.o.2.2 hg2⟩;rw[hD.o];cases st1 <;> rfl
  clear hx;by_cases hup:65<=c.toNat/\c.toNat<=70
  ·have hu1:65<=(c.toNat:Int):=by omega
   have hu2:(c.toNat:Int)<=70:=by omega
   go_wp2_with fail
   refine LE (fx _ _ (-1) _ (by exact hidx.o _ (by rw[if_pos hup]))) ?_;go_wp2_with fail
   refine(fs _ b s _ (by exact A.o.2.1)).mono ?_;rintro e w2 ⟨rfl,h2,hg2⟩;go_wp2_with fail
   go_ret;exact fin.o _ h2 hg2
  ·have hu1:¬(65<=(c.toNat:Int)/\(c.toNat:Int)<=70):=by omega
   by_cases hu2:65<=(c.toNat:Int)
   ·have hu3:¬((c.toNat:Int)<=70):=by omega
    go_wp2_with fail
    refine LE (fx _ _ (-1) _ (by exact hidx.o _ (by rw[if_neg hup]))) ?_;go_wp2_with fail
    refine(fs _ b s _ (by exact A.o.2.1)).mono ?_;rintro e w2 ⟨rfl,h2,hg2⟩;go_wp2_with fail
    go_ret;exact fin.o _ h2 hg2
   ·go_wp2_with fail
    refine LE (fx _ _ (-1) _ (by exact hidx.o _ (by rw[if_neg hup]))) ?_;go_wp2_with fail
    refine(fs _ b s _ (by exact A.o.2.1)).mono ?_;rintro e w2 ⟨rfl,h2,hg2⟩;go_wp2_with fail
    go_ret;exact fin.o _ h2 hg2
variable {n d:Nat}
theorem yf{st st1 st2:Option Lz}{j}(h4:j < 4)(h:st.bind (ff 4 0)=st1.bind (ff (4 - j) n))(hd:st1.bind tF=st2.map (fun l=>(d,l))):st.bind (ff 4 0)=st2.bind (ff (4 - (j+1)) (n * 16+d)):=by
 rw[h];have e:4 - j=(4 - (j+1))+1:=by omega
 rw[e];cases st1 with
 | none=>cases st2 with
  | none=>rfl
  | some l=>cases hd
 | some l=>
  show ff (4 - (j+1)+1) n l=_;rw[ff];have hd':tF l=st2.map (fun l=>(d,l)):=hd;rw[hd'];cases st2 <;> rfl
theorem AV{st st1:Option Lz}(h:st.bind (ff 4 0)=st1.bind (ff 0 n)):st.bind iJ=st1.bind fun l=>if n < 128 then some (n.toUInt8,l) else none:=by
 cases st with
 | none=>cases st1 with
  | none=>rfl
  | some l=>cases h
 | some l=>
  have h':ff 4 0 l=st1.bind (ff 0 n):=h;show iJ l=_;rw[iJ,h'];cases st1 <;> rfl
theorem Fu(w b s)(st:Option Lz)(h:bf w b s st):Calls prog 157 #[.pointer (some ⟨b,0,none⟩)] w fun e w'=>∃ (c:UInt8) (st':Option Lz),e=.returned (.int .u8 c.toNat)/\st.bind iJ=st'.map (fun l=>(c,l))/\bf w' b s st'/\w.grownBy w' (some b):=by
 have H:=aa h;clear h;go_enter func157,ntmps157;go_wp2_with fail
 go_loopg [3,4] 4 (fun k n i wr=>∃ (j m:Nat) (st1:Option Lz),n=.int .i64 m/\i=.int .i64 j/\j<=4/\k=4 - j/\m < 16 ^ j/\st.bind (ff 4 0)=st1.bind (ff (4 - j) m)/\bf wr b s st1/\w.grownBy wr (some b))
 case atStart=>exact⟨0,0,st,rfl,rfl,by omega,rfl,by decide,rfl,H.o,az _ _⟩
 case round=>
  obtain⟨j,m,st1,rfl,rfl,hj,hk,hm,hs,h1,hg⟩:=hrel;have hm4:m < 65536:=MI hm (Nat.pow_le_pow_right (n:=16) (by omega) hj);have A:Ll (gk=4 - j/\m < 16 ^ j/\st.bind (ff 4 0)=st1.bind (ff (4 - j) m)/\bf wr b s st1/\w.grownBy wr (some b)):=⟨hk,hm,hs,h1,hg⟩
  clear hk hm hs h1 hg;by_cases hlt:j < 4
  ·go_wp2_with fail
   refine(Ey _ b s st1 (by exact A.o.2.2.2.1)).mono ?_;rintro e w1 ⟨d,st2,rfl,hd,hs2,h2,hg2⟩;have B:Ll (st1.bind tF=st2.map (fun l=>(d,l))/\bf w1 b s st2/\wr.grownBy w1 (some b)):=⟨hs2,h2,hg2⟩
   clear hs2 h2 hg2;go_wp2_with fail
   obtain⟨hk,hm,hs,h1,hg⟩:=A.o;obtain⟨hs2,h2,hg2⟩:=B.o;go_roundg (4 - (j+1))
   case measure=>omega
   case rel=>
    refine⟨j+1,m * 16+d,st2,by go_num,by go_num,by omega,rfl,?_,yf hlt hs hs2,h2,am hg hg2⟩;rw[Nat.pow_succ];omega
  ·have hj4:j=4:=by omega
   subst hj4;have Mb:=aa (AV A.o.2.2.1);by_cases h128:m < 128
   ·go_wp2_with fail
    go_ret;obtain⟨hk,hm,hs,h1,hg⟩:=A.o;refine⟨m.toUInt8,st1,?_,?_,h1,hg⟩
    ·have:m.toUInt8.toNat=m:=by simp;omega
     rw[this];rfl
    ·rw[Mb.o];cases st1 <;> simp[h128]
   ·go_wp2_with fail
    refine(fs _ b s _ (by exact A.o.2.2.2.1)).mono ?_;rintro e w2 ⟨rfl,h2,hg2⟩;go_wp2_with fail
    go_ret;obtain⟨hk,hm,hs,h1,hg⟩:=A.o;refine⟨0,none,rfl,?_,h2,am hg hg2⟩;rw[Mb.o];cases st1 <;> simp[h128]
theorem Bf{st st1:Option Lz}{c}(hs:st.bind uH=st1.map (fun l=>(c,l))):st.bind ot=st1.bind fun l=>if c=117 then iJ l else if c=47 then some (47,l) else (wl c).map fun x=>(x,l):=by
 rw[<-sj (fun c l=>if c=117 then iJ l else if c=47 then some (47,l) else (wl c).map fun x=>(x,l)) hs];cases st with
 | none=>rfl
 | some l=>cases l <;> rfl
theorem Ir(c):(c.toNat:Int).toNat.toUInt8=c:=by simp
theorem wE{c d:UInt8}{m:Int}(hm:m=(d.toNat:Int))(h:c≠d):((c.toNat:Int) == m)=false:=by
 rw[MO,hm];intro e;exact h (UInt8.toNat_inj.1 (by omega))
theorem Bd(c):wl c=none->Lib.indexByte [34,92,98,102,110,114,116] c=-1:=
 yA (p:=fun c=>wl c=none->Lib.indexByte [34,92,98,102,110,114,116] c=-1) (by decide +kernel) c
theorem yu(c):wl c=none\/c=34\/c=92\/c=98\/c=102\/c=110\/c=114\/c=116:=
 yA (p:=fun c=>wl c=none\/c=34\/c=92\/c=98\/c=102\/c=110\/c=114\/c=116) (by decide +kernel) c
theorem xJ(w b s)(st:Option Lz)(h:bf w b s st):Calls prog 139 #[.pointer (some ⟨b,0,none⟩)] w fun e w'=>∃ (c:UInt8) (st':Option Lz),e=.returned (.int .u8 c.toNat)/\st.bind ot=st'.map (fun l=>(c,l))/\bf w' b s st'/\w.grownBy w' (some b):=by
 have H:=aa h;clear h;go_enter func139,ntmps139;go_wp2_with fail
 refine(zW _ b s st (by exact H.o)).mono ?_;rintro e w1 ⟨c,st1,rfl,hs,h0,h1,hg1⟩;have E:=aa (Bf hs);have A:Ll (bf w1 b s st1/\w.grownBy w1 (some b)):=⟨h1,hg1⟩
 clear hs h0 h1 hg1;by_cases c1:c=117
 ·subst c1;go_wp2_with fail
  refine(Fu _ b s st1 (by exact A.o.1)).mono ?_;rintro e w2 ⟨x,st2,rfl,hs2,h2,hg2⟩;have B:Ll (st1.bind iJ=st2.map (fun l=>(x,l))/\bf w2 b s st2/\w1.grownBy w2 (some b)):=⟨hs2,h2,hg2⟩
  clear hs2 h2 hg2;go_wp2_with fail
  go_ret;obtain⟨hs2,h2,hg2⟩:=B.o;exact⟨x,st2,rfl,by rw[E.o,<-hs2];rfl,h2,am A.o.2 hg2⟩
 have n1:=wE (m:=117) rfl c1;by_cases c2:c=47
 ·subst c2;go_wp2_with fail
  go_ret;exact⟨47,st1,rfl,by rw[E.o];cases st1 <;> rfl,A.o.1,A.o.2⟩
 have n2:=wE (m:=47) rfl c2;have E2:Ll (st.bind ot=st1.bind fun l=>(wl c).map fun x=>(x,l)):=by
  have e:=E.o;rw[e];cases st1 with
  | none=>rfl
  | some l=>show (if c=117 then _ else _)=_;rw[if_neg c1,if_neg c2];rfl
 clear E c1 c2;rcases yu c with hn | rfl | rfl | rfl | rfl | rfl | rfl | rfl
 ·have L:=aa (Bd c hn);rw[hn]at E2;clear hn;go_wp2_with fail
  refine LE (fx _ _ (-1) _ (by rw[Ir];exact L.o)) ?_;go_wp2_with fail
  refine(fs _ b s _ (by exact A.o.1)).mono ?_;rintro e w2 ⟨rfl,h2,hg2⟩;go_wp2_with fail
  go_ret;exact⟨0,none,rfl,by rw[E2.o];cases st1 <;> rfl,h2,am A.o.2 hg2⟩
 ·clear n1 n2;go_wp2_with fail
  refine LE (fx _ _ 0 _ (by rfl)) ?_;go_wp2_with fail
  go_ret;exact⟨34,st1,rfl,by rw[E2.o];cases st1 <;> rfl,A.o.1,A.o.2⟩
 ·clear n1 n2;go_wp2_with fail
  refine LE (fx _ _ 1 _ (by rfl)) ?_;go_wp2_with fail
  go_ret;exact⟨92,st1,rfl,by rw[E2.o];cases st1 <;> rfl,A.o.1,A.o.2⟩
 ·clear n1 n2;go_wp2_with fail
  refine LE (fx _ _ 2 _ (by rfl)) ?_;go_wp2_with fail
  go_ret;exact⟨8,st1,rfl,by rw[E2.o];cases st1 <;> rfl,A.o.1,A.o.2⟩
 ·clear n1 n2;go_wp2_with fail
  refine LE (fx _ _ 3 _ (by rfl)) ?_;go_wp2_with fail
  go_ret;exact⟨12,st1,rfl,by rw[E2.o];cases st1 <;> rfl,A.o.1,A.o.2⟩
 ·clear n1 n2;go_wp2_with fail
  refine LE (fx _ _ 4 _ (by rfl)) ?_;go_wp2_with fail
  go_ret;exact⟨10,st1,rfl,by rw[E2.o];cases st1 <;> rfl,A.o.1,A.o.2⟩
 ·clear n1 n2;go_wp2_with fail
  refine LE (fx _ _ 5 _ (by rfl)) ?_;go_wp2_with fail
  go_ret;exact⟨13,st1,rfl,by rw[E2.o];cases st1 <;> rfl,A.o.1,A.o.2⟩
 ·clear n1 n2;go_wp2_with fail
  refine LE (fx _ _ 6 _ (by rfl)) ?_;go_wp2_with fail
  go_ret;exact⟨9,st1,rfl,by rw[E2.o];cases st1 <;> rfl,A.o.1,A.o.2⟩
variable {v:Value}
theorem infoByte:(prog.info? 5).map (fun i=>(i.zero,i.size,i.bytes))=some (some (.int .u8 0),1,1):=by kernel_rfl
def dw:Option Lz->Nat
 | none=>0
 | some l=>l.length+1
def fB (acc:Lz) (st:Option Lz):Option (Lz × Lz):=st.bind fun l=>T5 (l.length+1) acc l
theorem nM(acc l):fB acc (some (34 :: l))=some (acc,l):=by simp[fB,T5]
theorem vP(acc l c)(h1:c≠34)(h2:c≠92)(h3:¬(c.toNat < 32\/127<=c.toNat)):fB acc (some (c :: l))=fB (acc++[c]) (some l):=by
 simp only[fB,Option.bind_some,T5,if_neg h1,if_neg h2,if_neg h3];exact pi _ _ _ _ (by simp) (by simp)
theorem Dg(acc l c)(h1:c≠34)(h2:c≠92)(h3:c.toNat < 32\/127<=c.toNat):fB acc (some (c :: l))=none:=by
 simp only[fB,Option.bind_some,T5,if_neg h1,if_neg h2,if_pos h3]
theorem Be(acc l x)(st:Option Lz)(h:(some l).bind ot=st.map (fun l=>(x,l))):fB acc (some (92 :: l))=fB (acc++[x]) st:=by
 have h':ot l=st.map (fun l=>(x,l)):=h;have e34:¬((92:UInt8)=34):=by decide
 simp only[fB,Option.bind_some,T5,if_neg e34,if_true,h'];cases st with
 | none=>rfl
 | some r=>
  have hl:=lL h';exact pi _ _ _ _ (by simp only at hl;simp;omega) (by simp)
theorem un{l x}{st:Option Lz}(h:(some l).bind ot=st.map (fun l=>(x,l))):dw st < l.length+1:=by
 have h':ot l=st.map (fun l=>(x,l)):=h;cases st with
 | none=>simp[dw]
 | some r=>have hl:=lL h';simp only at hl;simp[dw];omega
theorem u9(l c):Lib.byteCells l++[Value.int .u8 c.toNat]=Lib.byteCells (l++[c]):=by simp[Lib.byteCells]
theorem gA{a:LC}{b}{e:TypeId}{size xs}(h:w.ownsRow a.heap.size e size v n xs)(hg:w.grownBy w' (some b))(hb:b < a.heap.size):w'.ownsRow a.heap.size e size v n xs:=by
 refine h.kept hg ?_;cases hv:v.ownBlock with
 | none=>exact .inl rfl
 | some k=>
  right;intro e;cases e;have:=(h.lt b hv).1;omega
theorem nX{ops:Array Oper}{rest:List Oper}{o:Oper}{a}{Q:Exit->Act->LC->Prop}(hgd:o.guard=none)(s x:Operand)(ho:o.op=.call { callee:=.builtin .append,args:=#[s,x],argTypes:=#[67,67] })(B v acc c)(hs:a.eval s=v)(hx:a.eval x=.slice (some ⟨w.heap.size,0,none⟩) 1 1)(hown:w.ownsRow B 5 1 v acc.length (Lib.byteCells acc))(hB:B<=w.heap.size)(hl:acc.length<=1000000000)(hK:∀ v' w',w'.ownsRow B 5 1 v' (acc++[c]).length (Lib.byteCells (acc++[c]))->w.grownBy w' v.ownBlock->wpList prog ops Q rest (a.put o.dst v') w'):wpList prog ops Q (o :: rest) a (w.alloc (.cells #[.int .u8 c.toNat] 5)):=by
 obtain⟨i0,hi,hz0,hz1,hz2⟩:=info_parts infoByte;refine wpList_append_own _ hgd s x 67 ho B 5 i0 (.int .u8 0) 1 1 underlying67 hi hz0 hz1 hz2 rfl (by decide) v acc.length (Lib.byteCells acc) hs (hown.alloc _) ⟨w.heap.size,0,none⟩ 1 1 [Value.int .u8 c.toNat] hx rfl
  (by intro j u' hj;match j,hj with | 0,hj=>simp at hj;subst hj;simp[Addr.add]) (by intro u' hu';simp at hu';subst hu';rfl) (by unfold maxLen;omega) (by omega) (by simp;omega) ?_
 intro v2 w2 hown2 hgrow _;refine hK v2 w2 ?_ (am (World.grownBy_alloc w _ _) hgrow);rw[u9]at hown2;simpa using hown2
def IQ (w:LC) (b:Nat) (s:ByteArray) (T:Option (Lz × Lz)) (k:Nat) (v:Value) (wr:LC):Prop:=
 ∃ (acc:Lz) (st:Option Lz),k=dw st/\acc.length+k<=2002/\fB acc st=T/\wr.ownsRow w.heap.size 5 1 v acc.length (Lib.byteCells acc)/\bf wr b s st/\w.grownBy wr (some b)
theorem rY(w b s)(st:Option Lz)(h:bf w b s st):Calls prog 101 #[.pointer (some ⟨b,0,none⟩)] w fun e w'=>∃ (t:Lz) (st':Option Lz),e=.returned (.string ⟨t.toArray⟩)/\st.bind iS=st'.map (fun l=>(t,l))/\t.length<=2002/\bf w' b s st'/\w.grownBy w' (some b):=by
 obtain⟨i0,hi,hz0,hz1,hz2⟩:=info_parts infoByte;have H:=aa h;have hbl:=h.lt;clear h;go_enter func101,ntmps101;go_wp2_with fail
 refine(kP _ b s st 34 34 rfl (by decide) (by exact H.o)).mono ?_;rintro e w1 ⟨rfl,h1,hg1⟩;have H1:=aa h1;have G1:=aa hg1;have hT:Ll (st.bind iS=fB [] (st.bind (aA 34))):=by
  cases st with
  | none=>rfl
  | some l=>show iS l=_;rw[iS];rfl
 clear h1 hg1;go_wp2_with fail
 go_loopg [3] (dw (st.bind (aA 34))) (fun k v wr=>IQ w b s (fB [] (st.bind (aA 34))) k v wr)
 case atStart=>
  refine⟨[],st.bind (aA 34),rfl,?_,rfl,World.ownsRow_nil _ _ _ _,H1.o,G1.o⟩;cases hk:st.bind (aA 34) with
  | none=>simp[dw]
  | some l=>
   have h1:=H1.o;rw[hk]at h1;have:=h1.len;simp[dw];omega
 case round=>
  obtain⟨acc,st1,hk,hb,hr,hown,h2,hg2⟩:=hrel;have A:Ll (gk=dw st1/\acc.length+gk<=2002/\fB acc st1=fB [] (st.bind (aA 34))/\wr.ownsRow w.heap.size 5 1 u3 acc.length (Lib.byteCells acc)/\bf wr b s st1/\w.grownBy wr (some b)):=⟨hk,hb,hr,hown,h2,hg2⟩
  clear hk hb hr hown hg2;cases st1 with
  | none=>
   have c0_:=(eA.nil h2).c;clear h2;go_wp2_with fail
   go_ret;obtain⟨hk,hb,hr,hown,h2,hg2⟩:=A.o;exact⟨[],none,rfl,by rw[hT.o,<-hr];rfl,by simp,h2,hg2⟩
  | some l=>
   have h4:=aa h2;obtain⟨i,h3,e3⟩:=h2;have c0_:=h3.c;clear h3 e3;go_wp2_with fail
   cases l with
   | nil=>
    refine(pZ _ b s false (by exact h4.o)).mono ?_;rintro e w2 ⟨rfl,h5,hg5⟩;have B:Ll (bf w2 b s none/\wr.grownBy w2 (some b)):=⟨h5,hg5⟩
    clear h5 hg5;go_wp2_with fail
    refine(fs _ b s _ (by exact B.o.1)).mono ?_;rintro e w3 ⟨rfl,h6,hg6⟩;have C:Ll (bf w3 b s none/\w2.grownBy w3 (some b)):=⟨h6,hg6⟩
    clear h6 hg6;go_wp2_with fail
    obtain⟨hk,hb,hr,hown,h2,hg2⟩:=A.o;go_roundg 0
    case measure=>rw[hk];simp[dw]
    case rel=>exact⟨acc,none,rfl,by omega,hr,gA (gA hown B.o.2 hbl) C.o.2 hbl,C.o.1,am (am hg2 B.o.2) C.o.2⟩
   | cons c l=>
    refine(sF _ b s c l false (by exact h4.o)).mono ?_;rintro e w2 ⟨rfl,h5,hg5⟩;have B:Ll (bf w2 b s (some l)/\wr.grownBy w2 (some b)):=⟨h5,hg5⟩
    clear h5 hg5;by_cases e1:c=34
    ·subst e1;obtain⟨hk,hb,hr,hown,h2,hg2⟩:=A.o;have hown2:=gA hown B.o.2 hbl;rcases hown2.2 with⟨hv,hn⟩ | ⟨g,cap,cur,hv,-,-,-,-,-,-⟩
     ·have hacc:acc=[]:=List.eq_nil_of_length_eq_zero hn;subst hv;clear hk hb hr hown h2 hg2 hown2 hn;have hcv:=run_convert_bytes_nil (P:=prog) (w:=w2) 67 5 underlying67 underlying5 0 0;go_wp2_with fail
      go_ret;obtain⟨hk,hb,hr,hown,h2,hg2⟩:=A.o;subst hacc;exact⟨[],some l,rfl,by rw[hT.o,<-hr,nM];rfl,by simp,B.o.1,am hg2 B.o.2⟩
     ·subst hv;have hcv:=run_convert_bytes_back (P:=prog) w2 67 9 5 ⟨g,0,none⟩ cap acc underlying67 underlying5 underlying9 (fun j hj=>hown2.cells (g:=g) rfl j _ (by simp[Lib.byteCells,hj]));clear hk hb hr hown h2 hg2 hown2;go_wp2_with fail
      go_ret;obtain⟨hk,hb,hr,hown,h2,hg2⟩:=A.o;exact⟨acc,some l,rfl,by rw[hT.o,<-hr,nM];rfl,by omega,B.o.1,am hg2 B.o.2⟩
    have n1:=wE (m:=34) rfl e1;by_cases e2:c=92
    ·subst e2;go_wp2_with fail
     refine(xJ _ b s (some l) (by exact B.o.1)).mono ?_;rintro e w3 ⟨x,st3,rfl,hs3,h6,hg6⟩;have C:Ll ((some l).bind ot=st3.map (fun l=>(x,l))/\bf w3 b s st3/\w2.grownBy w3 (some b)):=⟨hs3,h6,hg6⟩
     clear hs3 h6 hg6;have hown3:w3.ownsRow w.heap.size 5 1 u3 acc.length (Lib.byteCells acc):=gA (gA A.o.2.2.2.1 B.o.2 hbl) C.o.2.2 hbl;have gw3:w.grownBy w3 (some b):=am (am A.o.2.2.2.2.2 B.o.2) C.o.2.2;have hB3:=gw3.size;have hl3:acc.length<=1000000000:=by have:=A.o.2.1;omega
     have O3:=aa hown3;have G3:=aa gw3;clear hown3 gw3;go_wp2_with (at_builtin;go_must (refine nX rfl _ _ rfl w.heap.size u3 acc x rfl rfl O3.o hB3 hl3 ?_);intro v4 w4 LS LR;refine Ll.o ?_)
     refine aa ?_;have D:Ll (w4.ownsRow w.heap.size 5 1 v4 (acc++[x]).length (Lib.byteCells (acc++[x]))/\w3.grownBy w4 u3.ownBlock):=⟨LS,LR⟩
     clear LS LR;go_wp2_with fail
     obtain⟨hk,hb,hr,hown,h2,hg2⟩:=A.o;go_roundg (dw st3)
     case measure=>rw[hk];exact Nat.lt_trans (un C.o.1) (by simp[dw])
     case rel=>
      refine⟨acc++[x],st3,rfl,?_,?_,D.o.1,?_,?_⟩
      ·have h9:=un C.o.1;have h8:dw (some ((92:UInt8) :: l))=l.length+2:=rfl;rw[hk,h8]at hb;simp only[Mx,My,List.length_nil];omega
      ·rw[<-hr,Be acc l x st3 C.o.1]
      ·exact C.o.2.1.grown D.o.2 (fun e=>by have:=(O3.o.lt b e.symm).1;omega)
      ·exact dv G3.o D.o.2 (fun k hk=>(O3.o.lt k hk).1)
    have n2:=wE (m:=92) rfl e2;by_cases e3:c.toNat < 32\/127<=c.toNat
    ·have F:Ll (fB acc (some (c :: l))=none):=Dg acc l c e1 e2 e3;have go1:Ll (∀ w3,bf w3 b s none->w2.grownBy w3 (some b)->IQ w b s (fB [] (st.bind (aA 34))) 0 u3 w3):=by
      intro w3 h6 hg6;obtain⟨hk,hb,hr,hown,h2,hg2⟩:=A.o;exact⟨acc,none,rfl,by omega,by rw[<-hr,F.o];rfl,gA (gA hown B.o.2 hbl) hg6 hbl,h6,am (am hg2 B.o.2) hg6⟩
     by_cases e4:c.toNat < 32
     ·have e5:(c.toNat:Int) < 32:=by omega
      clear e3;go_wp2_with fail
      refine(fs _ b s _ (by exact B.o.1)).mono ?_;rintro e w3 ⟨rfl,h6,hg6⟩;have C:Ll (bf w3 b s none/\w2.grownBy w3 (some b)):=⟨h6,hg6⟩
      clear h6 hg6;go_wp2_with fail
      go_roundg 0
      case measure=>rw[A.o.1];simp[dw]
      case rel=>exact go1.o _ C.o.1 C.o.2
     ·have e5:¬(c.toNat:Int) < 32:=by omega
      have e6:127<=(c.toNat:Int):=by omega
      clear e3;go_wp2_with fail
      refine(fs _ b s _ (by exact B.o.1)).mono ?_;rintro e w3 ⟨rfl,h6,hg6⟩;have C:Ll (bf w3 b s none/\w2.grownBy w3 (some b)):=⟨h6,hg6⟩
      clear h6 hg6;go_wp2_with fail
      go_roundg 0
      case measure=>rw[A.o.1];simp[dw]
      case rel=>exact go1.o _ C.o.1 C.o.2
    ·have e5:¬(c.toNat:Int) < 32:=by omega
     have e6:¬127<=(c.toNat:Int):=by omega
     have F:Ll (fB acc (some (c :: l))=fB (acc++[c]) (some l)):=vP acc l c e1 e2 e3;clear e1 e2 e3;have hown3:w2.ownsRow w.heap.size 5 1 u3 acc.length (Lib.byteCells acc):=gA A.o.2.2.2.1 B.o.2 hbl;have gw3:w.grownBy w2 (some b):=am A.o.2.2.2.2.2 B.o.2;have hB3:=gw3.size;have hl3:acc.length<=1000000000:=by have:=A.o.2.1;omega
     have O3:=aa hown3;have G3:=aa gw3;clear hown3 gw3;go_wp2_with (at_builtin;go_must (refine nX rfl _ _ rfl w.heap.size u3 acc c rfl rfl O3.o hB3 hl3 ?_);intro v4 w4 LS LR;refine Ll.o ?_)
     refine aa ?_;have D:Ll (w4.ownsRow w.heap.size 5 1 v4 (acc++[c]).length (Lib.byteCells (acc++[c]))/\w2.grownBy w4 u3.ownBlock):=⟨LS,LR⟩
     clear LS LR;go_wp2_with fail
     obtain⟨hk,hb,hr,hown,h2,hg2⟩:=A.o;go_roundg (dw (some l))
     case measure=>rw[hk];simp[dw]
     case rel=>
      refine⟨acc++[c],some l,rfl,?_,?_,D.o.1,?_,?_⟩
      ·rw[hk]at hb;simp[dw]at hb ⊢;omega
      ·rw[<-hr,F.o]
      ·exact B.o.1.grown D.o.2 (fun e=>by have:=(O3.o.lt b e.symm).1;omega)
      ·exact dv G3.o D.o.2 (fun k hk=>(O3.o.lt k hk).1)
section
open Go.RowKit Go.Shelf
def cn (w:LC):Prop:=
 (∃ tp p t f,w.heap[1]?=some (.cells #[.iface tp p] t f))/\(∃ tp p t f,w.heap[2]?=some (.cells #[.iface tp p] t f)) /\
 ∃ t f,w.heap[3]?=some (.cells (Lib.pow10Tab.map fun z=>Value.int .u64 z).toArray t f)
theorem cn.grown{r}(h:cn w)(hg:w.grownBy w' r)(hr:∀ k,r=some k->4<=k):cn w':=by
 obtain⟨⟨tp,p,t,f,h1⟩,⟨tq,q,t2,f2,h2⟩,⟨t3,f3,h3⟩⟩:=h;have lt:∀ k o,w.heap[k]?=some o->k < w.heap.size:=fun k o e=>(MF.1 e).1;refine⟨⟨tp,p,t,f,(hg.block _ (lt _ _ h1) ?_).trans h1⟩,⟨tq,q,t2,f2,(hg.block _ (lt _ _ h2) ?_).trans h2⟩,⟨t3,f3,(hg.block _ (lt _ _ h3) ?_).trans h3⟩⟩ <;>
 ·intro e;have:=hr _ e.symm;omega
theorem cn.size(h:cn w):4<=w.heap.size:=by
 obtain⟨⟨tp,p,t,f,h1⟩,⟨tq,q,t2,f2,h2⟩,⟨t3,f3,h3⟩⟩:=h;have lt:∀ k o,w.heap[k]?=some o->k < w.heap.size:=fun k o e=>(MF.1 e).1;have:=lt _ _ h1;have:=lt _ _ h2;have:=lt _ _ h3;omega
theorem cn.same(h:cn w)(e:w'.heap=w.heap):cn w':=by
 unfold cn at h ⊢;rw[e];exact h
theorem Id(s:ByteArray)(hs:s.size<=2000)(v:Int)(h:Lib.atoiAll s.data.toList=.ok v)(w:LC):Calls prog 142 #[.string s] w fun e w'=>e=.returned (.tuple #[.int .i64 v,.nilIface])/\La w w':=by
 refine(Any.strconv_Atoi_ok Tryz.laysC172 s (by omega) v h w).mono ?_;rintro e w' ⟨rfl,rfl | ⟨t,rfl⟩⟩
 ·exact⟨rfl,MK _ _⟩
 ·exact⟨rfl,Lib.bytesWorld_below w _ t⟩
theorem GH(s:ByteArray)(hs:s.size<=2000)(h:∀ v,Lib.atoiAll s.data.toList≠.ok v)(w:LC)(hG:cn w):Calls prog 142 #[.string s] w fun e w'=>∃ v N T,e=.returned (.tuple #[.int .i64 v,.iface T (.pointer (some ⟨N,0,none⟩))])/\La w w':=by
 obtain⟨⟨tp,p,t,f,h1⟩,⟨tq,q,t2,f2,h2⟩,_⟩:=hG;rcases h9:Lib.atoiAll s.data.toList with v | _ | _
 ·exact absurd h9 (h v)
 ·refine(Any.strconv_Atoi_syntax_var Tryz.laysC172 s (by omega) h9 tp p w ?_).mono ?_
  ·unfold World.var?;rw[show Program.globalNamed prog _=some 1 from by kernel_rfl];simp[h1]
  ·rintro e w' ⟨N,rfl,-,-,hb⟩;exact⟨0,N,_,rfl,hb⟩
 ·refine(Any.strconv_Atoi_range_var Tryz.laysC172 s (by omega) h9 tq q w ?_).mono ?_
  ·unfold World.var?;rw[show Program.globalNamed prog _=some 2 from by kernel_rfl];simp[h2]
  ·rintro e w' ⟨N,rfl,-,-,hb⟩;exact⟨_,N,_,rfl,hb⟩
theorem zF(w)(os:Array Obj):La w (Sort.grow w os):=
 ⟨rfl,rfl,rfl,by simp[Sort.grow],fun k hk=>by simp[Sort.grow,Array.getElem?_append,hk]⟩
theorem H7(n:Int)(h0:dW n)(w:LC)(hG:cn w):Calls prog 143 #[.int .i64 n] w fun e w'=>e=.returned (.string ⟨(Lib.itoa n).toArray⟩)/\La w w':=by
 obtain⟨_,_,t3,f3,h3⟩:=hG;refine(Any.strconv_Itoa Tryz.laysM171 n h0.1 h0.2 w ?_).mono ?_
 ·unfold Lib.TabIs World.var?;rw[show Program.globalNamed prog _=some 3 from by kernel_rfl];simp[h3]
 ·rintro e w' ⟨rfl,k,os,rfl⟩;have h:La w (w.drewN k):=⟨rfl,rfl,rfl,MG _,fun _ _=>rfl⟩
  exact⟨rfl,h.trans (zF (w.drewN k) os)⟩
def cB (c:UInt8):Bool:=c == 45 || (decide (48<=c.toNat)&&decide (c.toNat<=57))
def pO (l:Lz):Option (Int × Lz):=
 match Lib.atoiAll (l.takeWhile cB) with
 | .ok v=>if Lib.itoa v=l.takeWhile cB then some (v,l.dropWhile cB) else none
 | _=>none
def bC (k n:Int) (s:Lz):V:=⟨k,n,s,[],[]⟩
theorem fd(w:LC)(ok d k n s)(hk:dW k)(hn:dW n)(hs:s.length<=maxLen):bu w ok (d+1) (bC k n s) (cz k n s):=
 ⟨_,_,rfl,hk,hn,hs,⟨by simp[bC],.inl ⟨rfl,none,rfl⟩⟩,⟨by simp[bC],.inl ⟨rfl,none,rfl⟩⟩⟩
theorem If{l:Lz}{v:Int}(h:Lib.atoiAll (l.takeWhile cB)=.ok v)(h2:Lib.itoa v=l.takeWhile cB):pO l=some (v,l.dropWhile cB):=by
 simp[pO,h,h2]
theorem Hb{l:Lz}{v:Int}(h:Lib.atoiAll (l.takeWhile cB)=.ok v)(h2:Lib.itoa v≠l.takeWhile cB):pO l=none:=by
 simp[pO,h,h2]
theorem Hq{l:Lz}(h:∀ v,Lib.atoiAll (l.takeWhile cB)≠.ok v):pO l=none:=by
 unfold pO;split
 ·rename_i v e;exact absurd e (h v)
 ·rfl
theorem xn(v:Int):Lib.atoiAll []≠.ok v:=by intro h;cases h
theorem Gh{l}(h:cB (cr l)=false):l.dropWhile cB=l:=by
 cases l with
 | nil=>rfl
 | cons c l=>rw[List.dropWhile_cons,if_neg (by simpa [cr] using h)]
theorem Du{l}(h:cB (cr l)=true):∃ c r,l=c :: r/\cB c=true:=by
 cases l with
 | nil=>simp[cr,cB]at h
 | cons c l=>exact⟨c,l,rfl,by simpa [cr] using h⟩
def St (t:V) (v:Value):Prop:=∃ k n,t=bC k n []/\v=cz k n []/\dW k/\dW n
def fi:Obj:=.cells #[.int .i64 0,.int .i64 0,.string ⟨#[]⟩,.slice none 0 0,.slice none 0 0] 25
def J8 (w:LC) (b:Nat) (s:ByteArray) (l:Lz) (bad:Bool) (i0:Nat) (k:Nat) (c:Value) (wr:LC) (j:Nat):Prop:=
 ∃ l1,c=.int .u8 (cr l1).toNat/\k=l1.length/\qP wr b s (i0+j) bad/\s.data.toList.drop (i0+j)=l1/\l.takeWhile cB=l.take j++l1.takeWhile cB/\l1.dropWhile cB=l.dropWhile cB/\(w.alloc fi).grownBy wr (some b)
theorem CJ(w:LC)(b s)(st:Option Lz)(h:bf w b s st)(hG:cn w)(hb4:4<=b):Calls prog 104 #[.pointer (some ⟨b,0,none⟩)] w fun e w'=>∃ (t:V) (v:Value) (st':Option Lz),e=.returned v/\St t v /\
 (st.bind pO).map (fun p=>(bC 2 p.1 [],p.2))=st'.map (fun l=>(t,l))/\bf w' b s st'/\w.grownBy w' (some b):=by
 have H:=aa h;have hbl:=h.lt;obtain⟨i0,h1,e1⟩:=h;have c0_:=h1.c;have E1:=aa e1;have hi0:=h1.2.1;have hs0:=h1.2.2;have R0:=aa h1;have HG:=aa hG;clear h1 e1 hG;have hne:b≠w.heap.size:=by omega
 go_enter func104,ntmps104;go_wp2_with fail
 refine(k9 _ b s (st.getD []) st.isNone (by exact H.o.grown (World.grownBy_alloc w _ none) (by simp))).mono ?_;rintro e w1 ⟨rfl,n1,rfl⟩;go_wp2_with fail
 go_loopg [4] (st.getD []).length (fun k c wr=>∃ j,J8 w b s (st.getD []) st.isNone i0 k c wr j)
 case atStart=>
  refine⟨0,st.getD [],rfl,rfl,?_,E1.o,rfl,rfl,cJ (az _ _) _⟩;exact⟨(World.grownBy_alloc w _ none).block b hbl (by simp) |>.trans (by exact R0.o.1),R0.o.2⟩
 case round=>
  obtain⟨j,l1,rfl,hk,h2,e2,ht,hd,hg⟩:=hrel;have A:Ll (gk=l1.length/\qP wr b s (i0+j) st.isNone/\s.data.toList.drop (i0+j)=l1/\(st.getD []).takeWhile cB=(st.getD []).take j++l1.takeWhile cB/\l1.dropWhile cB=(st.getD []).dropWhile cB/\(w.alloc fi).grownBy wr (some b)):=⟨hk,h2,e2,ht,hd,hg⟩
  have c0_:=h2.c;have hj:=h2.2.1;clear hk h2 e2 ht hd hg;cases hn:cB (cr l1) with
  | true=>
   obtain⟨c,r,rfl,hc⟩:=Du hn;clear hn;have hc':c.toNat=45\/48<=c.toNat/\c.toNat<=57:=by
    simp only[cB,Bool.or_eq_true,beq_iff_eq,MJ,decide_eq_true_eq]at hc;rcases hc with rfl | h
    ·left;rfl
    ·right;exact h
   have hlt:i0+j < s.size:=by
    have:=congrArg List.length A.o.2.2.1;rw[MB,Array.length_toList]at this;have e:s.data.size=s.size:=rfl;simp only[My]at this;omega
   have step:Ll (∀ wr' nn,wr'=(wr.setCell ⟨b,1,none⟩ (.int .i64 ((i0:Int)+j+1)))->J8 w b s (st.getD []) st.isNone i0 r.length (.int .u8 (cr r).toNat) (wr'.drewN nn) (j+1)):=by
    rintro wr' nn rfl;obtain⟨hk,h2,e2,ht,hd,hg⟩:=A.o;have e3:s.data.toList.drop (i0+j+1)=r:=by
     have:=congrArg List.tail e2;simpa using this
    refine⟨r,rfl,rfl,⟨?_,by omega,h2.2.2⟩,e3,?_,?_,cJ (ap hg _ _) _⟩
    ·have e9:((i0:Int)+j+1)=((i0+(j+1):Nat):Int):=by omega
     rw[e9];exact ak h2.1 1 _
    ·rw[ht,List.takeWhile_cons,if_pos hc];have e8:(st.getD []).drop j=c :: r:=by rw[<-E1.o,List.drop_drop];exact e2
     rw[List.take_add_one,List.append_assoc];congr 1
     have e7:(st.getD [])[j]?=some c:=by
      have:=congrArg (fun l=>l[0]?) e8;simpa using this
     rw[e7];rfl
    ·rw[<-hd,List.dropWhile_cons,if_pos hc]
   have nxt:Ll (eA (wr.setCell ⟨b,1,none⟩ (.int .i64 ((i0:Int)+j+1))) b s r st.isNone):=by
    obtain⟨r',e5,e6,h3,h4,-⟩:=step.o _ 0 rfl;have e7:s.data.toList.drop (i0+j+1)=r:=by
     have:=congrArg List.tail A.o.2.2.1;simpa using this
    exact⟨i0+(j+1),⟨h3.1,h3.2⟩,e7⟩
   rcases hc' with hq | ⟨hq1,hq2⟩
   ·have q1:(((cr (c :: r)).toNat:Int) == 45)=true:=by simp[cr,hq]
    go_wp2_with fail
    refine(k9 _ b s r st.isNone (by exact nxt.o)).mono ?_;rintro e w1 ⟨rfl,n1,rfl⟩;go_wp2_with fail
    go_roundg r.length
    case measure=>rw[A.o.1];simp
    case rel=>exact⟨j+1,step.o _ n1 rfl⟩
   ·have q1:(((cr (c :: r)).toNat:Int) == 45)=false:=by rw[MO];simp only[cr,List.headD_cons];omega
    have q2:48<=((cr (c :: r)).toNat:Int):=by simp only[cr,List.headD_cons];omega
    have q3:((cr (c :: r)).toNat:Int)<=57:=by simp only[cr,List.headD_cons];omega
    go_wp2_with fail
    refine(k9 _ b s r st.isNone (by exact nxt.o)).mono ?_;rintro e w1 ⟨rfl,n1,rfl⟩;go_wp2_with fail
    go_roundg r.length
    case measure=>rw[A.o.1];simp
    case rel=>exact⟨j+1,step.o _ n1 rfl⟩
  | false=>
   have hn':¬(((cr l1).toNat:Int)=45):=by
    intro e;have:cr l1=45:=UInt8.toNat_inj.1 (by simpa using Int.ofNat.inj e);rw[this]at hn;exact absurd hn (by decide)
   have hn1:(((cr l1).toNat:Int) == 45)=false:=by rw[MO];exact hn'
   have hsplit:(48<=((cr l1).toNat:Int))/\¬(((cr l1).toNat:Int)<=57)\/¬(48<=((cr l1).toNat:Int)):=by
    by_cases g1:48<=((cr l1).toNat:Int)
    ·left;refine⟨g1,fun g2=>?_⟩;have:cB (cr l1)=true:=by
      simp only[cB,Bool.or_eq_true,beq_iff_eq,MJ,decide_eq_true_eq];right;omega
     rw[this]at hn;cases hn
    ·right;exact g1
   have b1:(i0:Int)<=((i0+j:Nat):Int):=by omega
   have b2:((i0+j:Nat):Int)<=(s.size:Int):=by omega
   have hx:Ll ((s.extract i0 (i0+j)).data.toList=(st.getD []).takeWhile cB):=by
    obtain⟨hk,h2,e2,ht,hd,hg⟩:=A.o;have hz:l1.takeWhile cB=[]:=by
     cases l1 with
     | nil=>rfl
     | cons x r=>rw[List.takeWhile_cons,if_neg (by simpa [cr] using hn)]
    rw[ht,hz,List.append_nil,<-E1.o];have:=ByteArray.extract_mk s.data.toList i0 (i0+j);have e9:(ByteArray.mk s.data.toList.toArray)=s:=by cases s;simp
    rw[e9]at this;rw[this,Nat.add_sub_cancel_left];exact List.toList_toArray
   have hxl:(s.extract i0 (i0+j)).size<=2000:=by rw[ByteArray.size_extract];omega
   have hend:Ll (eA wr b s ((st.getD []).dropWhile cB) st.isNone):=by
    obtain⟨hk,h2,e2,ht,hd,hg⟩:=A.o;exact⟨i0+j,h2,by rw[e2,<-hd,Gh hn]⟩
   have HN:=aa hn;clear hn hn';generalize hX:s.extract i0 (i0+j)=X at hx hxl;have HX:=aa hX;have hgw:Ll ((w.alloc fi).grownBy wr (some b)):=A.o.2.2.2.2.2;have LU:Ll (ag wr w.heap.size (.int .i64 0) (.int .i64 0) (.string ⟨#[]⟩) (.slice none 0 0) (.slice none 0 0)):=ag.grown (w:=w.alloc fi) (MN w _) hgw.o (by simp;omega);have hG1:Ll (cn wr):=(HG.o.grown (World.grownBy_alloc w fi none) (by simp)).grown hgw.o (by intro k hk;cases hk;exact hb4);rcases hv:Lib.atoiAll X.data.toList with v | _ | _
   ·have hvb:dW v:=Lib.atoiAll_bounds hv;have HV:=aa hv;clear hv;rcases hsplit with⟨d1,d2⟩ | d1
    all_goals
     go_wp2_with fail
     go_quiet (fail)
     rw[hX];go_wp2_with fail
     refine Lk (Id X hxl v HV.o _) fun w2 hb2=>?_;have B2:=aa hb2;clear hb2;go_wp2_with fail
     refine Lk (H7 v hvb _ (by exact(hG1.o.same (w':=wr.drewN _) rfl).grown (aq (r:=none) B2.o) (by simp))) fun w3 hb3=>?_;have B3:=aa hb3;clear hb3;have hg3:Ll (wr.grownBy w3 none):=am (am (cJ (az wr none) _) (aq B2.o)) (aq B3.o);have hbx3:Ll (ag w3 w.heap.size (.int .i64 0) (.int .i64 0) (.string ⟨#[]⟩) (.slice none 0 0) (.slice none 0 0)):=LU.o.grown hg3.o (by simp);have x0_:=hbx3.o.c;by_cases heq:Lib.itoa v=X.data.toList
     ·have hq:(Lib.itoa v == X.toList)=true:=by rw[ByteArray.toList_eq,beq_iff_eq];exact heq
      have hB:=hbx3.o.set (.int .i64 2) (.int .i64 v) (aR []) (.slice none 0 0) (.slice none 0 0);obtain⟨z0,z1,z2,z3,z4,-⟩:=hB.c;have Z:Ll (_/\_/\_/\_/\_):=⟨z0,z1,z2,z3,z4⟩
      clear hB;go_wp2_with fail
      obtain⟨z0,z1,z2,z3,z4⟩:=Z.o;refine MM (v:=cz 2 v []) ?_ rfl ?_
      ·simp only[ar,aR]at z0 z1 z2 z3 z4;simp[results,results104,go_sem,z0,z1,z2,z3,z4,cz,aR]
      ·refine⟨bC 2 v [],cz 2 v [],st.map (List.dropWhile cB),rfl,⟨_,_,rfl,rfl,(by unfold dW;omega),hvb⟩,?_,?_,?_⟩
       ·match st,hx,hend with
        | none,hx,_=>rw[hx.o]at HV;exact absurd HV.o (xn v)
        | some l,hx,_=>
         have hx':X.data.toList=l.takeWhile cB:=hx.o;exact congrArg _ (If (by rw[<-hx'];exact HV.o) (by rw[<-hx'];exact heq))
       ·have e1:(st.map (List.dropWhile cB)).getD []=(st.getD []).dropWhile cB:=by cases st <;> rfl
        have e2:(st.map (List.dropWhile cB)).isNone=st.isNone:=by cases st <;> rfl
        unfold bf;rw[e1,e2];refine hend.o.of_heap (((aI w3 w.heap.size _ _ _ _ _).block b ?_ (by simp;omega)).trans (hg3.o.block b hend.o.lt (by simp)));exact MI hend.o.lt hg3.o.size
       ·exact dv (am (am (World.grownBy_alloc w fi _) hgw.o) (dv (az _ _) hg3.o (by simp))) (aI w3 w.heap.size _ _ _ _ _) (by intro k hk;cases hk;exact MG _)
     ·have hq:(Lib.itoa v == X.toList)=false:=by rw[ByteArray.toList_eq,MO];exact heq
      go_wp2_with fail
      refine(Ui _ b s _ _ (by exact hend.o.of_heap (hg3.o.block b hend.o.lt (by simp)))).mono ?_;rintro e w4 ⟨rfl,h4,hg4⟩;have R4:Ll (eA w4 b s [] true/\w3.grownBy w4 (some b)):=⟨h4,hg4⟩
      clear h4 hg4;have hb4':=hbx3.o.grown R4.o.2 (by simp;omega);have x0_:=hb4'.c;have hB:=hb4'.set (.int .i64 0) (.int .i64 0) (aR []) (.slice none 0 0) (.slice none 0 0);obtain⟨z0,z1,z2,z3,z4,-⟩:=hB.c;have Z:Ll (_/\_/\_/\_/\_):=⟨z0,z1,z2,z3,z4⟩
      clear hB hb4';go_wp2_with fail
      obtain⟨z0,z1,z2,z3,z4⟩:=Z.o;refine MM (v:=cz 0 0 []) ?_ rfl ?_
      ·simp only[ar,aR]at z0 z1 z2 z3 z4;simp[results,results104,go_sem,z0,z1,z2,z3,z4,cz,aR]
      ·refine⟨bC 0 0 [],cz 0 0 [],none,rfl,⟨_,_,rfl,rfl,(by unfold dW;omega),(by unfold dW;omega)⟩,?_,?_,?_⟩
       ·cases st with
        | none=>rfl
        | some l=>
         have hx':X.data.toList=l.takeWhile cB:=hx.o;exact congrArg _ (Hb (v:=v) (by rw[<-hx'];exact HV.o) (by rw[<-hx'];exact heq))
       ·exact R4.o.1.of_heap ((aI w4 w.heap.size _ _ _ _ _).block b R4.o.1.lt (by simp;omega))
       ·exact dv (am (am (am (World.grownBy_alloc w fi _) hgw.o) (dv (az _ _) hg3.o (by simp))) R4.o.2) (aI w4 w.heap.size _ _ _ _ _) (by intro k hk;cases hk;exact MG _)
   all_goals
    have hno:∀ v,Lib.atoiAll X.data.toList≠.ok v:=by intro v e;rw[hv]at e;cases e
    have HV:=aa hno;clear hv hno;rcases hsplit with⟨d1,d2⟩ | d1
    all_goals
     go_wp2_with fail
     go_quiet (fail)
     rw[hX];go_wp2_with fail
     refine(GH X hxl HV.o _ (by exact(hG1.o.same (w':=wr.drewN _) rfl))).mono ?_;rintro e w3 ⟨v,N,T,rfl,hb2⟩;have hg3:Ll (wr.grownBy w3 none):=am (cJ (az wr none) _) (aq hb2);clear hb2;have hbx3:Ll (ag w3 w.heap.size (.int .i64 0) (.int .i64 0) (.string ⟨#[]⟩) (.slice none 0 0) (.slice none 0 0)):=LU.o.grown hg3.o (by simp);go_wp2_with fail
     refine(Ui _ b s _ _ (by exact hend.o.of_heap (hg3.o.block b hend.o.lt (by simp)))).mono ?_;rintro e w4 ⟨rfl,h4,hg4⟩;have R4:Ll (eA w4 b s [] true/\w3.grownBy w4 (some b)):=⟨h4,hg4⟩
     clear h4 hg4;have hb4':=hbx3.o.grown R4.o.2 (by simp;omega);have x0_:=hb4'.c;have hB:=hb4'.set (.int .i64 0) (.int .i64 0) (aR []) (.slice none 0 0) (.slice none 0 0);obtain⟨z0,z1,z2,z3,z4,-⟩:=hB.c;have Z:Ll (_/\_/\_/\_/\_):=⟨z0,z1,z2,z3,z4⟩
     clear hB hb4';go_wp2_with fail
     obtain⟨z0,z1,z2,z3,z4⟩:=Z.o;refine MM (v:=cz 0 0 []) ?_ rfl ?_
     ·simp only[ar,aR]at z0 z1 z2 z3 z4;simp[results,results104,go_sem,z0,z1,z2,z3,z4,cz,aR]
     ·refine⟨bC 0 0 [],cz 0 0 [],none,rfl,⟨_,_,rfl,rfl,(by unfold dW;omega),(by unfold dW;omega)⟩,?_,?_,?_⟩
      ·cases st with
       | none=>rfl
       | some l=>
        have hx':X.data.toList=l.takeWhile cB:=hx.o;exact congrArg _ (Hq (by intro v;rw[<-hx'];exact HV.o v))
      ·exact R4.o.1.of_heap ((aI w4 w.heap.size _ _ _ _ _).block b R4.o.1.lt (by simp;omega))
      ·exact dv (am (am (am (World.grownBy_alloc w fi _) hgw.o) (dv (az _ _) hg3.o (by simp))) R4.o.2) (aI w4 w.heap.size _ _ _ _ _) (by intro k hk;cases hk;exact MG _)
end
section
open Go.ChangeShapes Go.WideShapes Go.ChangeAt Go.RowKit
theorem J3:Tryz.prog.globalNamed "internal/strconv.uint64pow10"=some 3:=by kernel_rfl
theorem Fp:(Tryz.prog.globals[3]?).map (·.type)=some 188:=by kernel_rfl
theorem Gp:Tryz.prog.globalNamed "strconv.ErrRange"=some 2:=by kernel_rfl
theorem za:(Tryz.prog.globals[2]?).map (·.type)=some 117:=by kernel_rfl
theorem Ax:Tryz.prog.globalNamed "strconv.ErrSyntax"=some 1:=by kernel_rfl
theorem vR:(Tryz.prog.globals[1]?).map (·.type)=some 117:=by kernel_rfl
theorem Ej:Tryz.prog.cellsOf 188=20:=by kernel_rfl
theorem VF:Tryz.prog.cellsOf 132=1:=by kernel_rfl
theorem rH:Tryz.prog.cellsOf 186=1:=by kernel_rfl
theorem J6: "*"++ "errors.errorString"= "*errors.errorString":=by decide
theorem Fg(u:TypeId)(h:Tryz.prog.typeName? 3 u=some "*errors.errorString"):u=184:=
 typeName_ptr_named (nm:= "errors.errorString") (by rw[J6];kernel_rfl) (by kernel_rfl) (by decide) u (by rw[J6];exact h)
theorem Hu:(Rows.laid_internal_strconv_uint64pow10:DataW Unit)=Lib.tabData .u64 Lib.pow10Tab:=by kernel_rfl
end
variable {ok:Nat->Prop}
variable {t:V}
variable {g i:Nat}
theorem fW{key}(h:dO t key=some i):aK t=true/\TN key t.keys=some i/\i < t.l.length/\i < t.keys.length:=by
 unfold dO at h;split at h
 ·rename_i hp;have h9:=(iw h).1;have:t.keys.length=t.l.length:=by
   simp only[aK,MJ,decide_eq_true_eq]at hp;exact hp.2
  exact⟨hp,h,by omega,h9⟩
 ·cases h
theorem af(hb:La w w'){c0 c1 c2 c3 c4}(h:ag w g c0 c1 c2 c3 c4):ag w' g c0 c1 c2 c3 c4:=h.grown (aq (r:=none) hb) (by simp)
theorem eD{a:LC}{r}(h:a.grownBy w r)(hg:a.heap.size<=g)(d0 d1 d2 d3 d4):a.grownBy (ar w g d0 d1 d2 d3 d4) r:=by
 have k:=aI w g d0 d1 d2 d3 d4;exact⟨k.os.trans h.os,k.tape.trans h.tape,k.output.trans h.output,MH h.size k.size,fun i hi hr=>(k.block i (MI hi h.size) (fun e=>by cases e;omega)).trans (h.block i hi hr)⟩
theorem bu.agg{v0 v1 v2 v3 v4}(h:bu w ok d t (.agg #[v0,v1,v2,v3,v4])):v0=.int .i64 t.kind/\v1=.int .i64 t.n/\v2=.string ⟨t.s.toArray⟩/\(∃ a c,v3=.slice a t.keys.length c)/\∃ a c,v4=.slice a t.l.length c:=by
 match d,h with
 | d+1,h=>
  obtain⟨ks,ls,e,h1,h2,h3,h4,h5⟩:=h;simp only[Value.agg.injEq,Array.mk.injEq,List.cons.injEq,and_true]at e;obtain⟨rfl,rfl,rfl,rfl,rfl⟩:=e;exact⟨rfl,rfl,rfl,h4.form,h5.form⟩
def IX (w:LC) (ok:Nat->Prop) (d:Nat) (m:Option V) (x:Value) (b:Bool):Prop:=
 match m with
 | some y=>b=true/\bu w ok d y x
 | none=>b=false/\x=cz 0 0 []
theorem ny(w ok d t v key)(h:bu w ok d t v):Calls prog 82 #[v,aR key] w fun e w'=>∃ x b,e=.returned (.tuple #[x,.bool b])/\La w w'/\IX w' ok d (aS t key) x b:=by
 have H:=aa h;match d,h with
 | d+1,h=>
  obtain⟨ks,ls,rfl,h1,h2,h3,h4,h5⟩:=h;have K5:=aa h5;obtain⟨a1,c1,rfl⟩:=h4.form;obtain⟨a2,c2,hls⟩:=h5.form;have l1:=h4.1;have l2:=h5.1;unfold maxLen at l1 l2 h3;unfold aR;clear h4 h5 h1 h2;cases hf:dO t key with
  | none=>
   have F:=aa hf;subst hls;clear hf;go_enter func82,ntmps82;go_wp2_with fail
   refine Lk (kJ _ ok _ t _ key (by exact H.o.bel (ab (ae _ _) (ae _ _)))) fun w1 hb1=>?_;rw[F.o];have B1:=aa hb1;have LU:ag w1 (w.heap.size+1) (.int .i64 0) (.int .i64 0) (.string ⟨#[]⟩) (.slice none 0 0) (.slice none 0 0):=by
    exact af hb1 (et w _ _)
   have x0_:=LU.c;obtain⟨z0,z1,z2,z3,z4,-⟩:=(LU.set (.int .i64 0) (.int .i64 0) (aR []) (.slice none 0 0) (.slice none 0 0)).c;have Z:Ll (_/\_/\_/\_/\_):=⟨z0,z1,z2,z3,z4⟩
   clear z0 z1 z2 z3 z4 hb1;unfold pS;go_wp2_with fail
   obtain⟨z0,z1,z2,z3,z4⟩:=Z.o;refine MM (v:=.tuple #[cz 0 0 [],.bool false]) ?_ rfl ?_
   ·simp only[ar,aR]at z0 z1 z2 z3 z4;simp[results,results82,go_sem,z0,z1,z2,z3,z4,cz,aR]
   ·refine⟨_,_,rfl,?_,?_⟩
    ·exact bS (eD (am (bd (bd (az _ _) _) _) (aq B1.o)) (Nat.le_succ _) _ _ _ _ _)
    ·simp[IX,aS,F.o]
  | some i=>
   obtain⟨f1,f2,f3,f4⟩:=fW hf;have F:=aa hf;clear hf f1 f2;obtain⟨_,K5'⟩:=K5.o;rcases K5' with⟨e,_⟩ | ⟨b,off,c,hls',hc1,hc2,Mb⟩
   ·rw[e]at f3;simp at f3
   ·subst hls';obtain⟨v0,v1,v2,v3,v4,g,g0,g1,g2,g3,g4,g5⟩:=Mb i t.l[i] (Mw f3);go_enter func82,ntmps82;go_wp2_with fail
    refine Lk (kJ _ ok _ t _ key (by exact H.o.bel (ab (ae _ _) (ae _ _)))) fun w1 hb1=>?_;rw[F.o];have B1:=aa hb1;have LU:ag w1 (w.heap.size+1) (.int .i64 0) (.int .i64 0) (.string ⟨#[]⟩) (.slice none 0 0) (.slice none 0 0):=by
     exact af hb1 (et w _ _)
    have x0_:=LU.c;obtain⟨z0,z1,z2,z3,z4,-⟩:=(LU.set v0 v1 v2 v3 v4).c;have Z:Ll (_/\_/\_/\_/\_):=⟨z0,z1,z2,z3,z4⟩
    have hbv:ag w1 w.heap.size (.int .i64 t.kind) (.int .i64 t.n) (.string ⟨t.s.toArray⟩) (.slice a1 t.keys.length c1) (.slice (some ⟨b,off,none⟩) t.l.length c2):=af hb1 (fb w _ _);obtain⟨-,-,-,-,q4,-⟩:=hbv.c;have hb0:La w w1:=ab (ab (ae _ _) (ae _ _)) hb1;have g0':=ah hb0 g0;have g1':=ah hb0 g1;have g2':=ah hb0 g2;have g3':=ah hb0 g3;have g4':=ah hb0 g4;have G5:=aa g5;obtain⟨rfl,rfl,rfl,⟨a5,c5,rfl⟩,⟨a6,c6,rfl⟩⟩:=g5.agg;clear z0 z1 z2 z3 z4 hb1 hb0 g0 g1 g2 g3 g4 g5 Mb hbv LU;unfold pS;have i0:¬((i:Int) < 0):=by omega
    go_wp2_with fail
    obtain⟨z0,z1,z2,z3,z4⟩:=Z.o;refine MM (v:=.tuple #[.agg #[.int .i64 t.l[i].kind,.int .i64 t.l[i].n,.string ⟨t.l[i].s.toArray⟩,.slice a5 t.l[i].keys.length c5,.slice a6 t.l[i].l.length c6],.bool true]) ?_ rfl ?_
    ·simp only[ar]at z0 z1 z2 z3 z4;simp[results,results82,go_sem,z0,z1,z2,z3,z4]
    ·have hb9:La w (ar w1 (w.heap.size+1) (.int .i64 t.l[i].kind) (.int .i64 t.l[i].n) (.string ⟨t.l[i].s.toArray⟩) (.slice a5 t.l[i].keys.length c5) (.slice a6 t.l[i].l.length c6)):=
      bS (eD (am (bd (bd (az _ _) _) _) (aq B1.o)) (Nat.le_succ _) _ _ _ _ _)
     refine⟨_,_,rfl,hb9,?_⟩;have hm:aS t key=some t.l[i]:=by simp[aS,F.o,Mw f3]
     rw[hm];exact⟨rfl,(G5.o.bel hb9).succ⟩
def cA (R:V->Value->Prop):List V->List Value->Prop
 | [],cs=>cs=[]
 | x :: xs,cs=>∃ v0 v1 v2 v3 v4 rest,cs=v0 :: v1 :: v2 :: v3 :: v4 :: rest/\R x (.agg #[v0,v1,v2,v3,v4])/\cA R xs rest
theorem cA.length{R:V->Value->Prop}:∀ {xs:List V} {cs:List Value},cA R xs cs->cs.length=xs.length * 5
 | [],cs,h=>by simp[cA]at h;simp[h]
 | x :: xs,cs,h=>by
  obtain⟨v0,v1,v2,v3,v4,rest,rfl,_,hr⟩:=h;have:=hr.length;simp only[My];omega
theorem cA.append{R:V->Value->Prop}{ys ds}(hy:cA R ys ds):∀ {xs:List V} {cs:List Value},cA R xs cs->cA R (xs++ys) (cs++ds)
 | [],cs,h=>by simp[cA]at h;subst h;exact hy
 | x :: xs,cs,h=>by
  obtain⟨v0,v1,v2,v3,v4,rest,rfl,hR,hr⟩:=h;exact⟨v0,v1,v2,v3,v4,rest++ds,rfl,hR,hy.append hr⟩
theorem cA.split{R:V->Value->Prop}{ys}:∀ {xs:List V} {cs:List Value},cA R (xs++ys) cs->∃ c1 c2,cs=c1++c2/\cA R xs c1/\cA R ys c2
 | [],cs,h=>⟨[],cs,rfl,rfl,h⟩
 | x :: xs,cs,h=>by
  obtain⟨v0,v1,v2,v3,v4,rest,rfl,hR,hr⟩:=h;obtain⟨c1,c2,rfl,h1,h2⟩:=cA.split hr;exact⟨v0 :: v1 :: v2 :: v3 :: v4 :: c1,c2,rfl,⟨v0,v1,v2,v3,v4,c1,rfl,hR,h1⟩,h2⟩
theorem cA.imp{R R':V->Value->Prop}(hR:∀ x v,R x v->R' x v):∀ {xs:List V} {cs:List Value},cA R xs cs->cA R' xs cs
 | [],cs,h=>h
 | x :: xs,cs,h=>by
  obtain⟨v0,v1,v2,v3,v4,rest,rfl,h1,hr⟩:=h;exact⟨v0,v1,v2,v3,v4,rest,rfl,hR _ _ h1,hr.imp hR⟩
theorem cA.one{w ok d}:∀ {xs:List V} {cs:List Value},cA (bu w ok d) xs cs->∀ u∈cs,u.oneCell'=true
 | [],cs,h=>by simp[cA]at h;subst h;simp
 | x :: xs,cs,h=>by
  obtain⟨v0,v1,v2,v3,v4,rest,rfl,h1,hr⟩:=h;obtain⟨rfl,rfl,rfl,⟨a5,c5,rfl⟩,⟨a6,c6,rfl⟩⟩:=h1.agg;intro u hu;simp only[List.mem_cons]at hu;rcases hu with rfl | rfl | rfl | rfl | rfl | hu
  ·rfl
  ·rfl
  ·rfl
  ·rfl
  ·rfl
  ·exact hr.one u hu
theorem cA.get{R:V->Value->Prop}:∀ {xs:List V} {cs:List Value},cA R xs cs->∀ i x,xs[i]?=some x->∃ v0 v1 v2 v3 v4,cs[i * 5]?=some v0/\cs[i * 5+1]?=some v1/\cs[i * 5+2]?=some v2/\cs[i * 5+3]?=some v3/\cs[i * 5+4]?=some v4/\R x (.agg #[v0,v1,v2,v3,v4])
 | [],cs,h,i,x,hx=>by simp at hx
 | y :: xs,cs,h,0,x,hx=>by
  obtain⟨v0,v1,v2,v3,v4,rest,rfl,h1,hr⟩:=h;simp at hx;subst hx;exact⟨v0,v1,v2,v3,v4,rfl,rfl,rfl,rfl,rfl,h1⟩
 | y :: xs,cs,h,i+1,x,hx=>by
  obtain⟨v0,v1,v2,v3,v4,rest,rfl,h1,hr⟩:=h;obtain⟨u0,u1,u2,u3,u4,g0,g1,g2,g3,g4,g5⟩:=hr.get i x (by simpa using hx);have e:(i+1) * 5=i * 5+5:=by omega
  refine⟨u0,u1,u2,u3,u4,?_,?_,?_,?_,?_,g5⟩
  ·rw[e];exact g0
  ·rw[e];exact g1
  ·rw[e];exact g2
  ·rw[e];exact g3
  ·rw[e];exact g4
theorem zX{w:LC}{b}{R:V->Value->Prop}:∀ (xs:List V) (off:Nat),
 (∀ i x,xs[i]?=some x->∃ v0 v1 v2 v3 v4,w.cell? ⟨b,off+i * 5,none⟩=some v0/\w.cell? ⟨b,off+i * 5+1,none⟩=some v1/\w.cell? ⟨b,off+i * 5+2,none⟩=some v2 /\
  w.cell? ⟨b,off+i * 5+3,none⟩=some v3/\w.cell? ⟨b,off+i * 5+4,none⟩=some v4/\R x (.agg #[v0,v1,v2,v3,v4])) ->
 ∃ cs,cA R xs cs/\∀ j u,cs[j]?=some u->w.cell? ⟨b,off+j,none⟩=some u
 | [],off,_=>⟨[],rfl,by simp⟩
 | x :: xs,off,h=>by
  obtain⟨v0,v1,v2,v3,v4,g0,g1,g2,g3,g4,g5⟩:=h 0 x rfl;obtain⟨cs,h1,h2⟩:=zX (w:=w) (b:=b) (R:=R) xs (off+5) (fun i y hy=>by
   have:=h (i+1) y (by simpa using hy);have e:off+(i+1) * 5=off+5+i * 5:=by omega
   rw[e]at this;exact this)
  simp only[Nat.zero_mul,Nat.add_zero]at g0 g1 g2 g3 g4;refine⟨v0 :: v1 :: v2 :: v3 :: v4 :: cs,⟨v0,v1,v2,v3,v4,cs,rfl,g5,h1⟩,?_⟩;intro j u hj;match j,hj with
  | 0,hj=>simp at hj;subst hj;exact g0
  | 1,hj=>simp at hj;subst hj;exact g1
  | 2,hj=>simp at hj;subst hj;exact g2
  | 3,hj=>simp at hj;subst hj;exact g3
  | 4,hj=>simp at hj;subst hj;exact g4
  | j+5,hj=>
   have:=h2 j u (by simpa using hj);have e:off+(j+5)=off+5+j:=by omega
   rw[e];exact this
theorem cS.plain{w ok}{R:V->Value->Prop}{xs b off n c}(h:cS w ok R xs (.slice (some ⟨b,off,none⟩) n c)):∃ b' off' c',Value.slice (some ⟨b,off,none⟩) n c=.slice (some ⟨b',off',none⟩) xs.length c'/\xs.length<=c'/\c'<=maxLen /\
 ∀ i x,xs[i]?=some x->∃ v0 v1 v2 v3 v4,ok b'/\w.cell? ⟨b',off'+i * 5,none⟩=some v0/\w.cell? ⟨b',off'+i * 5+1,none⟩=some v1/\w.cell? ⟨b',off'+i * 5+2,none⟩=some v2 /\
  w.cell? ⟨b',off'+i * 5+3,none⟩=some v3/\w.cell? ⟨b',off'+i * 5+4,none⟩=some v4/\R x (.agg #[v0,v1,v2,v3,v4]):=by
 rcases h.2 with⟨e0,a,e⟩ | h
 ·simp only[Value.slice.injEq]at e;obtain⟨-,e1,e2⟩:=e;subst e1;subst e2;exact⟨b,off,0,by rw[e0];rfl,by rw[e0];simp,Nat.zero_le _,fun i x hx=>by rw[e0]at hx;simp at hx⟩
 ·exact h
theorem ao.plain{w ok xs b off n c}(h:ao w ok xs (.slice (some ⟨b,off,none⟩) n c)):∃ b' off' c',Value.slice (some ⟨b,off,none⟩) n c=.slice (some ⟨b',off',none⟩) xs.length c'/\xs.length<=c'/\c'<=maxLen /\
 ∀ i x,xs[i]?=some x->x.length<=maxLen/\ok b'/\w.cell? ⟨b',off'+i,none⟩=some (aR x):=by
 rcases h.2 with⟨e0,a,e⟩ | h
 ·simp only[Value.slice.injEq]at e;obtain⟨-,e1,e2⟩:=e;subst e1;subst e2;exact⟨b,off,0,by rw[e0];rfl,by rw[e0];simp,Nat.zero_le _,fun i x hx=>by rw[e0]at hx;simp at hx⟩
 ·exact h
theorem cS.row{w ok d xs b off n c}(h:cS w ok (bu w ok d) xs (.slice (some ⟨b,off,none⟩) n c)):n=xs.length/\n<=c/\∃ cs,cA (bu w ok d) xs cs/\∀ j u,cs[j]?=some u->w.cell? ⟨b,off+j,none⟩=some u:=by
 obtain⟨b',off',c',e,h1,h2,h3⟩:=h.plain
 ·simp only[Value.slice.injEq,Option.some.injEq,Addr.mk.injEq,and_true]at e;obtain⟨⟨rfl,rfl⟩,rfl,rfl⟩:=e;refine⟨rfl,h1,zX xs off (fun i x hx=>?_)⟩;obtain⟨v0,v1,v2,v3,v4,_,g⟩:=h3 i x hx;exact⟨v0,v1,v2,v3,v4,g⟩
theorem eh(b off j):(⟨b,off,none⟩:Addr).add j=⟨b,off+j,none⟩:=by
 unfold Addr.add;split
 ·rename_i h;subst h;rfl
 ·rfl
theorem fJ{w ok d B xs cs v n}(hn:n=xs.length)(ho:w.ownsRow B 25 5 v n cs)(hr:cA (bu w ok d) xs cs)(hok:∀ k,B<=k->ok k)(hm:xs.length<=maxLen):cS w ok (bu w ok d) xs v:=by
 subst hn;refine⟨hm,?_⟩;rcases ho.2 with⟨e,h0⟩ | ⟨g,cap,cur,e,h1,h2,h3,h4,h5,h6⟩
 ·exact .inl ⟨List.eq_nil_of_length_eq_zero h0,none,e⟩
 ·refine .inr ⟨g,0,cap,e,h3,h4,fun i x hx=>?_⟩;obtain⟨v0,v1,v2,v3,v4,g0,g1,g2,g3,g4,g5⟩:=hr.get i x hx;have cell:∀ j u,cs[j]?=some u->w.cell? ⟨g,0+j,none⟩=some u:=fun j u hj=>by
   have:=ho.cells (g:=g) (by rw[e];rfl) j u hj;rw[eh]at this;exact this
  exact⟨v0,v1,v2,v3,v4,hok g h1,cell _ _ g0,cell _ _ g1,cell _ _ g2,cell _ _ g3,cell _ _ g4,g5⟩
theorem kf{w ok B xs v n}(hn:n=xs.length)(ho:w.ownsRow B 9 1 v n (xs.map aR))(hl:∀ x∈xs,x.length<=maxLen)(hok:∀ k,B<=k->ok k)(hm:xs.length<=maxLen):ao w ok xs v:=by
 subst hn;refine⟨hm,?_⟩;rcases ho.2 with⟨e,h0⟩ | ⟨g,cap,cur,e,h1,h2,h3,h4,h5,h6⟩
 ·exact .inl ⟨List.eq_nil_of_length_eq_zero h0,none,e⟩
 ·refine .inr ⟨g,0,cap,e,h3,h4,fun i x hx=>⟨hl x (List.mem_of_getElem? hx),hok g h1,?_⟩⟩;have:=ho.cells (g:=g) (by rw[e];rfl) i (aR x) (by simp[hx]);rw[eh]at this;exact this
theorem km{w ok d xs b off n c}(h:cS w ok (bu w ok d) xs (.slice (some ⟨b,off,none⟩) n c))(i j)(hij:i<=j)(hi:j<=xs.length)(hs:xs.length<=1000000):∃ c1 c2,cA (bu w ok d) (xs.take i) c1/\du w 5 (.slice (some ⟨b,off,none⟩) i c) i c1/\cA (bu w ok d) (xs.drop j) c2/\du w 5 (.slice (if c=j then some ⟨b,off,none⟩ else some ⟨b,off+j * 5,none⟩) (n - j) (c - j)) (xs.length - j) c2:=by
 obtain⟨hn,hc,cs,hr,hm⟩:=h.row;have hr1:=hr;rw[<-List.take_append_drop i xs]at hr1;obtain⟨c1,c1',e1,h1,h1'⟩:=hr1.split;have hr2:=hr;rw[<-List.take_append_drop j xs]at hr2;obtain⟨c2',c2,e2,h2',h2⟩:=hr2.split;have l1:=h1.length;have l2:=h2.length;have l2':=h2'.length;rw[MC]at l1 l2';rw[MB]at l2;refine⟨c1,c2,h1,⟨by rw[l1];congr 1;omega,by omega,h1.one,.inr ⟨_,c,rfl,fun k u hk=>?_⟩⟩,h2,⟨l2,by omega,h2.one,.inr ?_⟩⟩
 ·rw[eh];refine hm k u ?_;rw[e1,List.getElem?_append_left (Mz.1 hk).1];exact hk
 ·by_cases hcj:c=j
  ·refine⟨⟨b,off,none⟩,c - j,by rw[if_pos hcj,hn],fun k u hk=>?_⟩;have:c2.length=0:=by rw[l2];omega
   rw[List.eq_nil_of_length_eq_zero this]at hk;simp at hk
  ·refine⟨⟨b,off+j * 5,none⟩,c - j,by rw[if_neg hcj,hn],fun k u hk=>?_⟩;rw[eh,Nat.add_assoc];refine hm (j * 5+k) u ?_;have e3:c2'.length=j * 5:=by rw[l2'];congr 1;omega
   rw[e2,List.getElem?_append_right (by omega),e3,Nat.add_sub_cancel_left];exact hk
theorem qG{w ok xs b off n c}(h:ao w ok xs (.slice (some ⟨b,off,none⟩) n c))(i j)(hij:i<=j)(hi:j<=xs.length)(hs:xs.length<=1000000):du w 1 (.slice (some ⟨b,off,none⟩) i c) i ((xs.take i).map aR)/\du w 1 (.slice (if c=j then some ⟨b,off,none⟩ else some ⟨b,off+j * 1,none⟩) (n - j) (c - j)) (xs.length - j) ((xs.drop j).map aR):=by
 obtain⟨b',off',c',e,h1,h2,h3⟩:=h.plain
 ·simp only[Value.slice.injEq,Option.some.injEq,Addr.mk.injEq,and_true]at e;obtain⟨⟨rfl,rfl⟩,rfl,rfl⟩:=e;have one:∀ l:List Lz,∀ u∈l.map aR,u.oneCell'=true:=by
   intro l u hu;simp only[List.mem_map]at hu;obtain⟨a,_,rfl⟩:=hu;rfl
  refine⟨⟨by simp;omega,by omega,one _,.inr ⟨_,c,rfl,fun k u hk=>?_⟩⟩,⟨by simp,by omega,one _,.inr ?_⟩⟩
  ·rw[eh];simp only[List.getElem?_map,Option.map_eq_some_iff]at hk;obtain⟨x,hx,rfl⟩:=hk;exact(h3 k x (by rw[List.getElem?_take]at hx;split at hx;exact hx;cases hx)).2.2
  ·by_cases hcj:c=j
   ·refine⟨⟨b,off,none⟩,c - j,by rw[if_pos hcj],fun k u hk=>?_⟩;have:xs.drop j=[]:=List.drop_eq_nil_of_le (by omega);rw[this]at hk;simp at hk
   ·refine⟨⟨b,off+j * 1,none⟩,c - j,by rw[if_neg hcj],fun k u hk=>?_⟩;rw[eh,Nat.mul_one,Nat.add_assoc];simp only[List.getElem?_map,Option.map_eq_some_iff,List.getElem?_drop]at hk;obtain⟨x,hx,rfl⟩:=hk;exact(h3 (j+k) x hx).2.2
theorem du.bel{w w' size v n cells}(h:du w size v n cells)(hb:La w w'):du w' size v n cells:=h.below hb
theorem mi(w size a):du w size (.slice a 0 0) 0 []:=by
 refine⟨by simp,by simp,by simp,?_⟩;cases a with
 | none=>exact .inl ⟨rfl,rfl⟩
 | some ad=>exact .inr ⟨ad,0,rfl,fun j u hj=>by simp at hj⟩
theorem Gj{w g v0 v1 v2 v3 v4}(h:ag w g v0 v1 v2 v3 v4)(h0:∀ u∈[v0,v1,v2,v3,v4],u.oneCell'=true):du w 5 (.slice (some ⟨g,0,none⟩) 1 1) 1 [v0,v1,v2,v3,v4]:=by
 refine⟨rfl,by omega,h0,.inr ⟨_,_,rfl,fun j u hj=>?_⟩⟩;rw[eh,Nat.zero_add];obtain⟨x0,x1,x2,x3,x4,-⟩:=h.c;match j,hj with
 | 0,hj=>simp at hj;subst hj;exact x0
 | 1,hj=>simp at hj;subst hj;exact x1
 | 2,hj=>simp at hj;subst hj;exact x2
 | 3,hj=>simp at hj;subst hj;exact x3
 | 4,hj=>simp at hj;subst hj;exact x4
theorem Kp{w g}{t:TypeId}{v}(h:w.heap[g]?=some (.cells #[v] t))(h0:v.oneCell'=true):du w 1 (.slice (some ⟨g,0,none⟩) 1 1) 1 [v]:=by
 refine⟨rfl,by omega,by simpa using h0,.inr ⟨_,_,rfl,fun j u hj=>?_⟩⟩;rw[eh,Nat.zero_add];match j,hj with
 | 0,hj=>simp at hj;subst hj;simp[World.cell?,h]
section
open Go.ChangeShapes Go.WideShapes Go.ChangeAt Go.RowKit
theorem si:Tryz.prog.cellsOf 25=5:=by kernel_rfl
theorem D6:Tryz.prog.cellsOf 3=1:=by kernel_rfl
theorem x6:Tryz.prog.cellsOf 22=1:=by kernel_rfl
theorem Vu:Tryz.prog.cellsOf 23=1:=by kernel_rfl
theorem oI:laidOutB Tryz.prog=true:=by kernel_rfl
theorem Uf:Tryz.prog.readableRec 25=true:=by kernel_rfl
theorem SY:25 < Tryz.prog.types.size:=of_decide_eq_true (by kernel_rfl)
theorem sg{w:World}{a:Addr}{v:Value}(h:w.cell? a=some v):a.spot=none:=by
 unfold World.cell? at h;split at h
 ·split at h
  ·cases h
  ·rename_i hs;simpa using hs
 ·cases h
theorem qv{a:Addr}(h:a.spot=none):a=⟨a.block,a.off,none⟩:=by
 obtain⟨b,o,s⟩:=a;simp only at h;subst h;rfl
theorem Pu{n:Int}(h:(Lit.int .i64 n).wf=true):dW n:=by
 have h2:IntKind.min .i64<=n/\n<=IntKind.max .i64:=by simpa [Lit.wf] using h
 have e1:IntKind.min .i64=-9223372036854775808:=by decide
 have e2:IntKind.max .i64=9223372036854775807:=by decide
 rw[e1,e2]at h2;exact h2
theorem Tm{H:Type}{enc:TypeId × Value->H}{W:World}{fuel:Nat}{v:Value}{x:DataW H × List MemPlace}(h:DataW.trod enc Tryz.prog W 0 (fun _=>true) true fuel 22 [v]=some x):∃ ks,ao W (fun _=>True) ks v:=by
 rcases open_strings Tryz.underlying22 Tryz.underlying9 db h with⟨e,-⟩ | ⟨a,len,cap,ss,e,-,hl,hm,hss,-,hc,hz⟩
 ·simp only[List.cons.injEq,and_true]at e;exact⟨[],by simp[maxLen],.inl ⟨rfl,none,e⟩⟩
 ·simp only[List.cons.injEq,and_true]at e;simp only[if_true]at hss;refine⟨(ss.take len).map fun s=>s.data.toList,?_,?_⟩
  ·simp only[List.length_map,MC];omega
  ·have LT:((ss.take len).map fun s=>s.data.toList).length=len:=by simp only[List.length_map,MC];omega
   by_cases h0:cap=0
   ·have:len=0:=by omega
    subst this;subst h0;exact .inl ⟨by simp,some a,e⟩
   ·have ha:=qv (sg (by have:=hc 0 (by omega);simpa [Addr.add] using this));refine .inr ⟨a.block,a.off,cap,by rw[LT,<-ha];exact e,by omega,hm,fun i y hy=>?_⟩;simp only[List.getElem?_map,Option.map_eq_some_iff]at hy;obtain⟨s,hs,rfl⟩:=hy;have hs2:ss[i]?=some s:=by
     rw[List.getElem?_take]at hs;split at hs
     ·exact hs
     ·cases hs
    have hi:=(Mz.1 hs2).1;refine⟨by rw[Array.length_toList];exact hz s (List.mem_of_getElem? hs2),trivial,?_⟩;have:=hc i hi;rw[ha,eh]at this;rw[this];unfold aR;simp[List.getD,hs2]
theorem lK{H:Type}{enc:TypeId × Value->H}{W:World}{t:TypeId}{v:Value}{d:DataW H}{p:List MemPlace}(h:DataW.Trod enc Tryz.prog W 0 (fun _=>true) true t v d p):∀ x∈p,x.block < W.heap.size:=by
 obtain⟨f,hf⟩:=h;exact DataW.trod_lt f t _ _ hf
end
section
open Go.ChangeShapes Go.WideShapes Go.ChangeAt Go.RowKit
theorem zS{W:World}(h:W.ShapedOpen Tryz.prog):bj W:=
 cell_of_shapedOpen_int (t:=3) (zero:=#[.int .i64 0]) h (of_decide_eq_true (by kernel_rfl)) (by kernel_rfl) rfl (by kernel_rfl) (by kernel_rfl) Tryz.underlying3
end
section
open Go.ChangeShapes Go.WideShapes Go.ChangeAt Go.RowKit
theorem wt{H:Type}:∀ (ss:List ByteArray),Rows.uptoBulkAll (strs (H:=H) ss)=(ss.map fun s=>s.data.toList.length+1).sum
 | []=>by simp[strs,Rows.uptoBulkAll]
 | s :: ss=>by
  have h:=wt (H:=H) ss;simp only[strs,List.map_cons,Rows.uptoBulkAll,Rows.uptoBulk,List.sum_cons]at h ⊢;rw[h]
theorem N4{H:Type}{enc:TypeId × Value->H}{W:World}{fuel:Nat}{v:Value}{x:DataW H × List MemPlace}(h:DataW.trod enc Tryz.prog W 0 (fun _=>true) true fuel 22 [v]=some x):∃ ks,ao W (fun _=>True) ks v/\(ks.map fun x=>x.length+1).sum<=Rows.uptoBulk x.1:=by
 rcases open_strings Tryz.underlying22 Tryz.underlying9 db h with⟨e,-⟩ | ⟨a,len,cap,ss,e,-,hl,hm,hss,hx,hc,hz⟩
 ·simp only[List.cons.injEq,and_true]at e;exact⟨[],⟨by simp[maxLen],.inl ⟨rfl,none,e⟩⟩,by simp⟩
 ·simp only[List.cons.injEq,and_true]at e;simp only[if_true]at hss;refine⟨(ss.take len).map fun s=>s.data.toList,⟨?_,?_⟩,?_⟩
  ·simp only[List.length_map,MC];omega
  ·have LT:((ss.take len).map fun s=>s.data.toList).length=len:=by simp only[List.length_map,MC];omega
   by_cases h0:cap=0
   ·have:len=0:=by omega
    subst this;subst h0;exact .inl ⟨by simp,some a,e⟩
   ·have ha:=qv (sg (by have:=hc 0 (by omega);simpa [Addr.add] using this));refine .inr ⟨a.block,a.off,cap,by rw[LT,<-ha];exact e,by omega,hm,fun i y hy=>?_⟩;simp only[List.getElem?_map,Option.map_eq_some_iff]at hy;obtain⟨s,hs,rfl⟩:=hy;have hs2:ss[i]?=some s:=by
     rw[List.getElem?_take]at hs;split at hs
     ·exact hs
     ·cases hs
    have hi:=(Mz.1 hs2).1;refine⟨by rw[Array.length_toList];exact hz s (List.mem_of_getElem? hs2),trivial,?_⟩;have:=hc i hi;rw[ha,eh]at this;rw[this];unfold aR;simp[List.getD,hs2]
  ·rw[hx];simp only[Rows.uptoBulk,wt,List.map_map,Function.comp_def];omega
end
variable {k:Nat}
def eK (s:Lz):Bool:=decide (s.length<=60)&&s.all fun c=>decide (c.toNat < 128)
def el (prev:Option Lz):List Lz->Bool
 | []=>true
 | k :: ks=>eK k&&(match prev with | none=>true | some p=>Op.bytesLess p k)&&el (some k) ks
def bh (t:V):Bool:=decide (t.keys.length=0)&&decide (t.l.length=0)
def ce (t:V):Bool:=
 if t.kind=0 then decide (t.n=0)&&decide (t.s=[])&&bh t
 else if t.kind=1 then (decide (t.n=0) || decide (t.n=1))&&decide (t.s=[])&&bh t
 else if t.kind=2 then decide (-9007199254740992<=t.n)&&decide (t.n<=9007199254740992)&&decide (t.s=[])&&bh t
 else if t.kind=3 then decide (t.n=0)&&eK t.s&&bh t
 else if t.kind=4 then decide (t.n=0)&&decide (t.s=[])&&decide (t.keys.length=0)
 else if t.kind=5 then decide (t.n=0)&&decide (t.s=[])&&decide (t.keys.length=t.l.length)&&el none t.keys
 else false
theorem ke(w s)(hs:s.length<=maxLen):Calls prog 134 #[aR s] w fun e w'=>e=.returned (.bool (eK s))/\w'=w:=by
 unfold maxLen at hs;unfold aR;by_cases h60:s.length<=60
 ·have e0:¬(60 < (s.length:Int)):=by omega
  go_enter func134,ntmps134;go_wp2
  go_loop [3] (fun i=>∃ k:Nat,k<=s.length/\i=.int .i64 k/\(s.take k).all (fun c=>decide (c.toNat < 128))=true) (fun i=>s.length - (intOf i).toNat)
  case atStart=>exact⟨0,Nat.zero_le _,rfl,rfl⟩
  case round=>
   obtain⟨k,hk,rfl,hall⟩:=hrel;have HA:=aa hall;clear hall;by_cases hlt:k < s.length
   ·have hb:(s[k].toNat:Int) < 256:=by have:=s[k].toNat_lt;omega
    have L9:k < (ByteArray.mk s.toArray).size:=by simpa [ByteArray.size] using hlt
    have hget:(ByteArray.mk s.toArray)[k]=s[k]:=rfl;by_cases hc:s[k].toNat < 128
    ·have hc':¬(128<=(s[k].toNat:Int)):=by omega
     go_wp2
     go_round
     case rel=>
      refine⟨k+1,by omega,by go_num,?_⟩;rw[List.take_add_one,Mw hlt,List.all_append,HA.o];simp[hc]
     case measure=>simp[intOf];omega
    ·have hc':128<=(s[k].toNat:Int):=by omega
     go_wp2
     go_ret;refine⟨?_,rfl⟩;have:eK s=false:=by
      unfold eK;rw[Bool.and_eq_false_iff];right;rw[List.all_eq_false];exact⟨s[k],List.getElem_mem _,by simp;omega⟩
     rw[this];rfl
   ·have Mc:k=s.length:=by omega
    subst Mc;go_wp2
    go_ret;refine⟨?_,rfl⟩;have:eK s=true:=by
     have:=HA.o;rw[List.take_length]at this;simp[eK,h60,this]
    rw[this];rfl
 ·have e0:60 < (s.length:Int):=by omega
  go_enter func134,ntmps134;go_wp2
  go_ret;exact⟨by rw[show eK s=false by simp[eK,h60]];rfl,rfl⟩
theorem gM(w k n s a1 a2 m1 m2 c1 c2)(l1:m1<=2 ^ 63 - 1)(l2:m2<=2 ^ 63 - 1):Calls prog 133 #[.agg #[.int .i64 k,.int .i64 n,.string s,.slice a1 m1 c1,.slice a2 m2 c2]] w fun e w'=>e=.returned (.bool (decide (m1=0)&&decide (m2=0)))/\La w w':=by
 by_cases hk:m1=0
 ·have e1:((m1:Int) == 0)=true:=by simp[hk]
  have HK:=aa hk;clear hk;by_cases hl:m2=0
  ·have e2:((m2:Int) == 0)=true:=by simp[hl]
   have HL:=aa hl;clear hl;go_enter func133,ntmps133;go_wp2
   go_ret;exact⟨by rw[show (decide (m1=0)&&decide (m2=0))=true by simp[HK.o,HL.o]];rfl,ae _ _⟩
  ·have e2:((m2:Int) == 0)=false:=by rw[MO];omega
   go_enter func133,ntmps133;go_wp2
   go_ret;exact⟨by rw[show (decide (m1=0)&&decide (m2=0))=false by simp only[Bool.and_eq_false_iff,decide_eq_false_iff_not];right;omega];rfl,ae _ _⟩
 ·have e1:((m1:Int) == 0)=false:=by rw[MO];omega
  go_enter func133,ntmps133;go_wp2
  go_ret;exact⟨by rw[show (decide (m1=0)&&decide (m2=0))=false by simp only[Bool.and_eq_false_iff,decide_eq_false_iff_not];left;omega];rfl,ae _ _⟩
def bV (xs:List Lz) (i:Nat):Option Lz:=if i=0 then none else xs[i - 1]?
theorem rq{xs}(h:k < xs.length):el (bV xs k) (xs.drop k)=(eK xs[k]&&(match bV xs k with | none=>true | some p=>Op.bytesLess p xs[k])&&el (bV xs (k+1)) (xs.drop (k+1))):=by
 rw[ME h];have e:bV xs (k+1)=some xs[k]:=by simp[bV,Mw h]
 rw[e];rfl
theorem Vn(w ok xs v)(h:ao w ok xs v):Calls prog 135 #[v] w fun e w'=>e=.returned (.bool (el none xs))/\w'=w:=by
 obtain⟨hm,hx⟩:=h;obtain⟨a,c,rfl⟩:=ao.form ⟨hm,hx⟩;unfold maxLen at hm;have HX:=aa hx;clear hx;go_enter func135,ntmps135;go_wp2
 go_loop [7] (fun i=>∃ k:Nat,k<=xs.length/\i=.int .i64 k/\el none xs=el (bV xs k) (xs.drop k)) (fun i=>xs.length - (intOf i).toNat)
 case atStart=>exact⟨0,Nat.zero_le _,rfl,rfl⟩
 case round=>
  obtain⟨k,hk,rfl,hr⟩:=hrel;have HR:=aa hr;clear hr;by_cases hlt:k < xs.length
  ·rcases HX.o with⟨e,_⟩ | ⟨b,off,c',hv,hc1,hc2,Mb⟩
   ·rw[e]at hlt;simp at hlt
   simp only[Value.slice.injEq]at hv;obtain⟨rfl,-,rfl⟩:=hv;have LV:=(Mb k xs[k] (Mw hlt)).2.2;have hl9:=(Mb k xs[k] (Mw hlt)).1;have S:=aa (rq hlt);have hprev:∀ j,k=j+1->w.cell? ⟨b,off+j,none⟩=some (aR xs[k - 1]):=by
    intro j hj;subst hj;exact(Mb j xs[j] (Mw (by omega))).2.2
   have HPV:=aa hprev;clear Mb hprev;unfold aR at LV;cases hpl:eK xs[k] with
   | false=>
    have HPL:=aa hpl;clear hpl;go_wp2_with (go_at_call 134;refine LE (ke _ xs[k] hl9) ?_;rw[HPL.o])
    go_ret;refine⟨?_,rfl⟩;rw[HR.o,S.o,HPL.o];rfl
   | true=>
    have HPL:=aa hpl;clear hpl;cases k with
    | zero=>
     have z:bV xs 0=none:=rfl;rw[Nat.add_zero]at LV;go_wp2_with (go_at_call 134;refine LE (ke _ xs[0] hl9) ?_;rw[HPL.o])
     go_round
     case rel=>exact⟨1,by omega,by go_num,by rw[HR.o,S.o,HPL.o,z];rfl⟩
     case measure=>simp[intOf];omega
    | succ j=>
     have hpc:=HPV.o j rfl;unfold aR at hpc;have z:bV xs (j+1)=some xs[j]:=by simp[bV,Mw (show j < xs.length by omega)]
     have j0:(0:Int) < ((j+1:Nat):Int):=by omega
     have Z:=aa z;clear z;cases hbl:Op.bytesLess xs[j] xs[j+1] with
     | true=>
      have HBL:=aa hbl;go_wp2_with (go_at_call 134;refine LE (ke _ xs[j+1] hl9) ?_;rw[HPL.o])
      go_round
      case rel=>exact⟨j+1+1,by omega,by go_num,by rw[HR.o,S.o,HPL.o,Z.o];simp only[HBL.o];rfl⟩
      case measure=>simp[intOf];omega
     | false=>
      have HBL:=aa hbl;go_wp2_with (go_at_call 134;refine LE (ke _ xs[j+1] hl9) ?_;rw[HPL.o])
      go_ret;refine⟨?_,rfl⟩;rw[HR.o,S.o,HPL.o,Z.o];simp only[HBL.o];rfl
  ·have Mc:k=xs.length:=by omega
   subst Mc;go_wp2
   go_ret;refine⟨?_,rfl⟩;rw[HR.o,List.drop_length];rfl
theorem rP(w ok d t v)(h:bu w ok d t v):Calls prog 97 #[v] w fun e w'=>e=.returned (.bool (ce t))/\La w w':=by
 have H:=aa h;match d,h with
 | d+1,h=>
  obtain⟨ks,ls,rfl,h1,h2,h3,h4,h5⟩:=h;have K4:=aa h4;have HS:=aa h3;obtain⟨a1,c1,rfl⟩:=h4.form;obtain⟨a2,c2,rfl⟩:=h5.form;have l1:=h4.1;have l2:=h5.1;unfold maxLen at l1 l2 h3;unfold aR;clear h4 h5 h1 h2;by_cases k0:t.kind=0
  ·have e0:(t.kind == 0)=true:=by simp[k0]
   have K:=aa k0;clear k0;go_enter func97,ntmps97;go_wp2_with (go_at_call 133;refine Lk (gM _ _ _ _ _ _ _ _ _ _ l1 l2) fun w1 hb1=>?_)
   all_goals
    go_ret;have kk:=K.o;refine⟨?_,?_⟩
    ·(simp_all [ce,bh]) <;> (intros;omega)
    ·first | exact ab (ae _ _) (by assumption) | exact ae _ _
  by_cases k1:t.kind=1
  ·have e1:(t.kind == 1)=true:=by simp[k1]
   have f0:(t.kind == 0)=false:=by simp[k1]
   have K:=aa k1;clear k1;go_enter func97,ntmps97;go_wp2_with (go_at_call 133;refine Lk (gM _ _ _ _ _ _ _ _ _ _ l1 l2) fun w1 hb1=>?_)
   all_goals
    go_ret;have kk:=K.o;refine⟨?_,?_⟩
    ·(simp_all [ce,bh]) <;> (intros;omega)
    ·first | exact ab (ae _ _) (by assumption) | exact ae _ _
  by_cases k2:t.kind=2
  ·have e2:(t.kind == 2)=true:=by simp[k2]
   have f0:(t.kind == 0)=false:=by simp[k2]
   have f1:(t.kind == 1)=false:=by simp[k2]
   have K:=aa k2;clear k2;go_enter func97,ntmps97;go_wp2_with (go_at_call 133;refine Lk (gM _ _ _ _ _ _ _ _ _ _ l1 l2) fun w1 hb1=>?_)
   all_goals
    go_ret;have kk:=K.o;refine⟨?_,?_⟩
    ·(simp_all [ce,bh]) <;> (intros;omega)
    ·first | exact ab (ae _ _) (by assumption) | exact ae _ _
  by_cases k3:t.kind=3
  ·have e3:(t.kind == 3)=true:=by simp[k3]
   have f0:(t.kind == 0)=false:=by simp[k3]
   have f1:(t.kind == 1)=false:=by simp[k3]
   have f2:(t.kind == 2)=false:=by simp[k3]
   have K:=aa k3;clear k3;go_enter func97,ntmps97;go_wp2_with (first | (go_at_call 134;refine LE (ke _ t.s HS.o) ?_) | (go_at_call 133;refine Lk (gM _ _ _ _ _ _ _ _ _ _ l1 l2) fun w1 hb1=>?_))
   all_goals
    go_ret;have kk:=K.o;refine⟨?_,?_⟩
    ·(simp_all [ce,bh]) <;> (intros;omega)
    ·first | exact ab (ae _ _) (by assumption) | exact ae _ _
  by_cases k4:t.kind=4
  ·have e4:(t.kind == 4)=true:=by simp[k4]
   have f0:(t.kind == 0)=false:=by simp[k4]
   have f1:(t.kind == 1)=false:=by simp[k4]
   have f2:(t.kind == 2)=false:=by simp[k4]
   have f3:(t.kind == 3)=false:=by simp[k4]
   have K:=aa k4;clear k4;by_cases hl:t.keys.length=0
   ·have hlb:((t.keys.length:Int) == 0)=true:=by simp[hl]
    have HL:=aa hl;clear hl;go_enter func97,ntmps97;go_wp2
    all_goals
     go_ret;have kk:=K.o;have hl:=HL.o;refine⟨?_,?_⟩
     ·simp_all [ce,bh]
     ·first | exact ab (ae _ _) (by assumption) | exact ae _ _
   ·have hlb:((t.keys.length:Int) == 0)=false:=by rw[MO];omega
    have HL:=aa hl;clear hl;go_enter func97,ntmps97;go_wp2
    all_goals
     go_ret;have kk:=K.o;have hl:=HL.o;refine⟨?_,?_⟩
     ·simp_all [ce,bh]
     ·first | exact ab (ae _ _) (by assumption) | exact ae _ _
  by_cases k5:t.kind=5
  ·have e5:(t.kind == 5)=true:=by simp[k5]
   have f0:(t.kind == 0)=false:=by simp[k5]
   have f1:(t.kind == 1)=false:=by simp[k5]
   have f2:(t.kind == 2)=false:=by simp[k5]
   have f3:(t.kind == 3)=false:=by simp[k5]
   have f4:(t.kind == 4)=false:=by simp[k5]
   have K:=aa k5;clear k5;by_cases hl:t.keys.length=t.l.length
   ·have hlb:((t.keys.length:Int) == (t.l.length:Int))=true:=by simp[hl]
    have HL:=aa hl;clear hl;go_enter func97,ntmps97;go_wp2_with (go_at_call 135;refine LE (Vn _ ok t.keys _ (by exact K4.o.bel (ae _ _))) ?_)
    all_goals
     go_ret;have kk:=K.o;have hl:=HL.o;refine⟨?_,?_⟩
     ·simp_all [ce,bh]
     ·first | exact ab (ae _ _) (by assumption) | exact ae _ _
   ·have hlb:((t.keys.length:Int) == (t.l.length:Int))=false:=by rw[MO];omega
    have HL:=aa hl;clear hl;go_enter func97,ntmps97;go_wp2
    all_goals
     go_ret;have kk:=K.o;have hl:=HL.o;refine⟨?_,?_⟩
     ·simp_all [ce,bh]
     ·first | exact ab (ae _ _) (by assumption) | exact ae _ _
  ·have g0:(t.kind == 0)=false:=by simp[k0]
   have g1:(t.kind == 1)=false:=by simp[k1]
   have g2:(t.kind == 2)=false:=by simp[k2]
   have g3:(t.kind == 3)=false:=by simp[k3]
   have g4:(t.kind == 4)=false:=by simp[k4]
   have g5:(t.kind == 5)=false:=by simp[k5]
   have F:Ll (ce t=false):=aa (by simp[ce,k0,k1,k2,k3,k4,k5]);clear k0 k1 k2 k3 k4 k5;go_enter func97,ntmps97;go_wp2
   go_ret;exact⟨by rw[F.o];rfl,ae _ _⟩
variable {x:V}
def bn:Nat->V->Int->Bool × Int
 | 0,_,r=>(false,r - 1)
 | d+1,t,r=>if r - 1 < 0\/ce t=false then (false,r - 1) else t.l.foldl (fun p x=>if p.1 then bn d x p.2 else p) (true,r - 1)
def aE (t:V):Bool:=(bn 12 t 120).1
theorem jU(l:List V)(r:Int):l.foldl (fun p x=>if p.1 then bn d x p.2 else p) (false,r)=(false,r):=by
 induction l with
 | nil=>rfl
 | cons x l ih=>simpa using ih
theorem nt(ih:∀ t r,0<=r->-1<=(bn d t r).2/\(bn d t r).2<=r/\((bn d t r).1=true->0<=(bn d t r).2))(l:List V):∀ r,0<=r ->
 -1<=(l.foldl (fun p x=>if p.1 then bn d x p.2 else p) (true,r)).2/\(l.foldl (fun p x=>if p.1 then bn d x p.2 else p) (true,r)).2<=r/\((l.foldl (fun p x=>if p.1 then bn d x p.2 else p) (true,r)).1=true->0<=(l.foldl (fun p x=>if p.1 then bn d x p.2 else p) (true,r)).2):=by
 induction l with
 | nil=>intro r h;exact⟨by simp only[List.foldl_nil];omega,by simp,fun _=>h⟩
 | cons x l ihl=>
  intro r h;rw[List.foldl_cons];simp only[if_true];obtain⟨h1,h2,h3⟩:=ih x r h;cases hb:(bn d x r).1 with
  | true=>
   have e:bn d x r=(true,(bn d x r).2):=by rw[<-hb]
   rw[e];obtain⟨g1,g2,g3⟩:=ihl (bn d x r).2 (h3 hb);exact⟨g1,by omega,g3⟩
  | false=>
   have e:bn d x r=(false,(bn d x r).2):=by rw[<-hb]
   rw[e,jU];exact⟨h1,h2,by simp⟩
theorem ic(d):∀ t r,0<=r->-1<=(bn d t r).2/\(bn d t r).2<=r/\((bn d t r).1=true->0<=(bn d t r).2):=by
 induction d with
 | zero=>intro t r h;simp only[bn];exact⟨by omega,by omega,by simp⟩
 | succ d ih=>
  intro t r h;simp only[bn];split
  ·exact⟨by simp only;omega,by simp only;omega,by simp⟩
  ·rename_i hc;obtain⟨g1,g2,g3⟩:=nt ih t.l (r - 1) (by omega);exact⟨g1,by omega,g3⟩
def eb (d:Nat) (l:List V) (r:Int):Bool × Int:=l.foldl (fun p x=>if p.1 then bn d x p.2 else p) (true,r)
theorem xV{l:List V}{r p:Int}(hx:l[k]?=some x)(h:eb d (l.take k) r=(true,p)):eb d (l.take (k+1)) r=bn d x p:=by
 unfold eb at h ⊢;rw[List.take_add_one,hx,List.foldl_append,h];rfl
theorem vH{l r p}(h:eb d (l.take k) r=(false,p)):eb d l r=(false,p):=by
 unfold eb at h ⊢;have e:l=l.take k++l.drop k:=(List.take_append_drop k l).symm;rw[e,List.foldl_append,h,jU]
theorem bu.shape(h:bu w ok d t v):∃ (a7 a8:Option Addr) (c7 c8:Nat),v=.agg #[.int .i64 t.kind,.int .i64 t.n,.string ⟨t.s.toArray⟩,.slice a7 t.keys.length c7,.slice a8 t.l.length c8]:=by
 match d,h with
 | d+1,h=>
  obtain⟨ks,ls,e,h1,h2,h3,h4,h5⟩:=h;obtain⟨a1,c1,rfl⟩:=h4.form;obtain⟨a2,c2,rfl⟩:=h5.form;exact⟨_,_,_,_,e⟩
def eH (w:LC) (g:Nat) (r:Int):Prop:=w.heap[g]?=some (.cells #[.int .i64 r] 3)
theorem eH.c{r}(h:eH w g r):w.cell? ⟨g,0,none⟩=some (.int .i64 r)/\w.frozen? ⟨g,0,none⟩=false:=by
 unfold eH at h;exact⟨by simp[World.cell?,h],by simp[World.frozen?,h]⟩
theorem eH.lt{r}(h:eH w g r):g < w.heap.size:=(MF.1 h).1
theorem lC{a:LC}{r}(h:a.grownBy w r)(hg:w.grownBy w' (some g))(hag:a.heap.size<=g):a.grownBy w' r:=
 ⟨hg.os.trans h.os,hg.tape.trans h.tape,hg.output.trans h.output,MH h.size hg.size,fun i hi hr=>(hg.block i (MI hi h.size) (fun e=>by cases e;omega)).trans (h.block i hi hr)⟩
theorem oG{r}(h:eH w g r)(r')(o:Obj):eH ((w.setCell ⟨g,0,none⟩ (.int .i64 r')).alloc o) g r':=by
 have h1:(w.setCell ⟨g,0,none⟩ (.int .i64 r')).heap[g]?=some (.cells #[.int .i64 r'] 3):=ak h 0 _;exact((World.grownBy_alloc _ o none).block g (MF.1 h1).1 (by simp)).trans h1
def Az (D:Nat):Prop:=∀ (w:LC) (ok:Nat->Prop) (d:Nat) (t:V) (v:Value) (g:Nat) (r:Int),bu w ok d t v->(∀ k,ok k->k≠g)->eH w g r->0<=r->r<=120 ->
 Calls prog 69 #[v,.int .i64 D,.pointer (some ⟨g,0,none⟩)] w fun e w'=>e=.returned (.bool (bn D t r).1)/\eH w' g (bn D t r).2/\w.grownBy w' (some g)
theorem Bb:Az 0:=by
 intro w ok d t v g r hv hok hr h0 h1;obtain⟨a7,a8,c7,c8,rfl⟩:=hv.shape;have HR:=aa hr;have hgl:=hr.lt;have hr2:eH (w.alloc (.cells #[.int .i64 t.kind,.int .i64 t.n,.string ⟨t.s.toArray⟩,.slice a7 t.keys.length c7,.slice a8 t.l.length c8] 25)) g r:=((World.grownBy_alloc w _ none).block g hgl (by simp)).trans hr;have c0_:=hr2.c;have HR2:=aa hr2;clear hr hv hr2;go_enter func69,ntmps69;go_wp2_with fail
 go_ret;exact⟨rfl,oG HR.o _ _,bd (ap (az _ _) _ _) _⟩
theorem Cx(D)(hD:D+1<=12)(ih:Az D):Az (D+1):=by
 intro w ok d t v g r hv hok hr h0 h1;obtain⟨a7,a8,c7,c8,rfl⟩:=hv.shape;have HV:=aa hv;have IH:=aa ih;have HOK:=aa hok;have hgl:=hr.lt;have hr2:eH (w.alloc (.cells #[.int .i64 t.kind,.int .i64 t.n,.string ⟨t.s.toArray⟩,.slice a7 t.keys.length c7,.slice a8 t.l.length c8] 25)) g r:=((World.grownBy_alloc w _ none).block g hgl (by simp)).trans hr;have c0_:=hr2.c;have HR2:=aa hr2;have d0:((D:Int)+1 == 0)=false:=by rw[MO];omega
 have HR:=aa hr;have c9:∀ o,((w.setCell ⟨g,0,none⟩ (.int .i64 (r - 1))).alloc o).cell? ⟨g,0,none⟩=some (.int .i64 (r - 1)):=fun o=>(oG hr (r - 1) o).c.1;have hne:g≠w.heap.size:=by omega
 clear hr hv hr2 ih hok;by_cases hr0:r - 1 < 0
 ·have F:Ll (bn (D+1) t r=(false,r - 1)):=aa (by simp[bn,hr0]);have hr9:r - 1 < 0:=hr0;go_enter func69,ntmps69;go_wp2_with fail
  go_ret;rw[F.o];exact⟨rfl,oG HR.o _ _,bd (ap (az _ _) _ _) _⟩
 ·have hr9:¬(r - 1 < 0):=hr0;have W1:Ll (eH ((w.setCell ⟨g,0,none⟩ (.int .i64 (r - 1))).alloc (.cells #[.int .i64 t.kind,.int .i64 t.n,.string ⟨t.s.toArray⟩,.slice a7 t.keys.length c7,.slice a8 t.l.length c8] 25)) g (r - 1)/\ag ((w.setCell ⟨g,0,none⟩ (.int .i64 (r - 1))).alloc (.cells #[.int .i64 t.kind,.int .i64 t.n,.string ⟨t.s.toArray⟩,.slice a7 t.keys.length c7,.slice a8 t.l.length c8] 25)) w.heap.size (.int .i64 t.kind) (.int .i64 t.n) (.string ⟨t.s.toArray⟩) (.slice a7 t.keys.length c7) (.slice a8 t.l.length c8) /\
   bu ((w.setCell ⟨g,0,none⟩ (.int .i64 (r - 1))).alloc (.cells #[.int .i64 t.kind,.int .i64 t.n,.string ⟨t.s.toArray⟩,.slice a7 t.keys.length c7,.slice a8 t.l.length c8] 25)) ok d t (.agg #[.int .i64 t.kind,.int .i64 t.n,.string ⟨t.s.toArray⟩,.slice a7 t.keys.length c7,.slice a8 t.l.length c8])/\w.grownBy ((w.setCell ⟨g,0,none⟩ (.int .i64 (r - 1))).alloc (.cells #[.int .i64 t.kind,.int .i64 t.n,.string ⟨t.s.toArray⟩,.slice a7 t.keys.length c7,.slice a8 t.l.length c8] 25)) (some g)):=by
   have L9:(w.setCell ⟨g,0,none⟩ (.int .i64 (r - 1))).heap.size=w.heap.size:=by simp[World.setCell]
   have ga:w.grownBy ((w.setCell ⟨g,0,none⟩ (.int .i64 (r - 1))).alloc (.cells #[.int .i64 t.kind,.int .i64 t.n,.string ⟨t.s.toArray⟩,.slice a7 t.keys.length c7,.slice a8 t.l.length c8] 25)) (some g):=bd (ap (az _ _) _ _) _;refine⟨oG HR.o _ _,?_,HV.o.grown ga (fun k hk e=>by cases e;exact HOK.o _ hk rfl),ga⟩;have:=MN (w.setCell ⟨g,0,none⟩ (.int .i64 (r - 1))) (.cells #[.int .i64 t.kind,.int .i64 t.n,.string ⟨t.s.toArray⟩,.slice a7 t.keys.length c7,.slice a8 t.l.length c8] 25);rw[L9]at this;exact this
  obtain⟨w1,hw1⟩:∃ w1,w1=(w.setCell ⟨g,0,none⟩ (.int .i64 (r - 1))).alloc (.cells #[.int .i64 t.kind,.int .i64 t.n,.string ⟨t.s.toArray⟩,.slice a7 t.keys.length c7,.slice a8 t.l.length c8] 25):=⟨_,rfl⟩
  cases hsh:ce t with
  | false=>
   have F:Ll (bn (D+1) t r=(false,r - 1)):=aa (by simp[bn,hsh]);have HSH:=aa hsh;clear hsh;go_enter func69,ntmps69;go_wp2_with fail
   rw[<-hw1]at W1 ⊢;refine Lk (rP _ ok d t _ (by exact W1.o.2.2.1)) fun w2 hb2=>?_;rw[HSH.o];have G2:Ll (eH w2 g (r - 1)/\w.grownBy w2 (some g)):=⟨(hb2.block g W1.o.1.lt).trans W1.o.1,am W1.o.2.2.2 (aq hb2)⟩
   clear hb2 hw1;go_wp2_with fail
   go_ret;rw[F.o];exact⟨rfl,G2.o⟩
  | true=>
   have F:Ll (bn (D+1) t r=eb D t.l (r - 1)):=aa (by simp[bn,hsh,hr0,eb]);have HSH:=aa hsh;clear hsh;go_enter func69,ntmps69;go_wp2_with fail
   rw[<-hw1]at W1 ⊢;refine Lk (rP _ ok d t _ (by exact W1.o.2.2.1)) fun w2 hb2=>?_;rw[HSH.o];have G2:Ll (eH w2 g (r - 1)/\w.grownBy w2 (some g)/\bu w2 ok d t (.agg #[.int .i64 t.kind,.int .i64 t.n,.string ⟨t.s.toArray⟩,.slice a7 t.keys.length c7,.slice a8 t.l.length c8])):=⟨(hb2.block g W1.o.1.lt).trans W1.o.1,am W1.o.2.2.2 (aq hb2),W1.o.2.2.1.bel hb2⟩
   have q4:=(af hb2 W1.o.2.1).c.2.2.2.2.1;have rc_:=G2.o.1.c;have l2:t.l.length<=maxLen:=by
    have hv:=HV.o;match d,hv with
    | d+1,hv=>obtain⟨ks,ls,e,h1,h2,h3,h4,h5⟩:=hv;exact h5.1
   unfold maxLen at l2;clear hb2 hw1;go_wp2_with fail
   go_loopg [30] t.l.length (fun gk i wr=>∃ (k:Nat) (p:Int),k<=t.l.length/\gk=t.l.length - k/\i=.int .i64 k/\eb D (t.l.take k) (r - 1)=(true,p)/\0<=p/\p<=120/\eH wr g p/\w.grownBy wr (some g)/\bu wr ok d t (.agg #[.int .i64 t.kind,.int .i64 t.n,.string ⟨t.s.toArray⟩,.slice a7 t.keys.length c7,.slice a8 t.l.length c8]))
   case atStart=>exact⟨0,r - 1,Nat.zero_le _,rfl,rfl,rfl,by omega,by omega,G2.o⟩
   case round=>
    obtain⟨k,p,hk,hgk,rfl,hf,hp0,hp1,hrm,hg,hvr⟩:=hrel;have A:Ll (gk=t.l.length - k/\eb D (t.l.take k) (r - 1)=(true,p)/\eH wr g p/\w.grownBy wr (some g)/\bu wr ok d t (.agg #[.int .i64 t.kind,.int .i64 t.n,.string ⟨t.s.toArray⟩,.slice a7 t.keys.length c7,.slice a8 t.l.length c8])):=⟨hgk,hf,hrm,hg,hvr⟩
    clear hgk hf hrm hg rc_ q4;by_cases hlt:k < t.l.length
    ·match d,hvr with
     | d+1,hvr=>
      obtain⟨ks,ls,e,-,-,-,-,h5⟩:=hvr;simp only[Value.agg.injEq,Array.mk.injEq,List.cons.injEq,and_true]at e;obtain⟨-,-,-,-,rfl⟩:=e;obtain⟨_,h5⟩:=h5;rcases h5 with⟨e,_⟩ | ⟨b,off,c,hls,hc1,hc2,Mb⟩
      ·rw[e]at hlt;simp at hlt
      simp only[Value.slice.injEq]at hls;obtain⟨rfl,-,rfl⟩:=hls;obtain⟨v0,v1,v2,v3,v4,g',g0,g1,g2,g3,g4,g5⟩:=Mb k t.l[k] (Mw hlt);have G5:=aa g5;obtain⟨rfl,rfl,rfl,⟨a5,c5,rfl⟩,⟨a6,c6,rfl⟩⟩:=g5.agg;clear Mb g5;unfold maxLen at hc2;go_wp2_with fail
      refine(IH.o _ ok d t.l[k] _ g p (by exact G5.o.bel (ae _ _)) HOK.o (by exact((World.grownBy_alloc wr _ none).block g A.o.2.2.1.lt (by simp)).trans A.o.2.2.1) hp0 hp1).mono ?_;rintro e w3 ⟨rfl,hr3,hg3⟩;have hst:=xV (Mw hlt) A.o.2.1;have hrm:=ic D t.l[k] p hp0;have gg:wr.grownBy w3 (some g):=am (World.grownBy_alloc wr _ _) hg3;have C:Ll (eb D (t.l.take (k+1)) (r - 1)=bn D t.l[k] p/\eH w3 g (bn D t.l[k] p).2/\wr.grownBy w3 (some g)):=⟨hst,hr3,gg⟩
      clear hst hr3 hg3 gg;cases hb:(bn D t.l[k] p).1 with
      | true=>
       have HB:=aa hb;have HRM:=aa hrm;clear hb hrm;go_wp2_with fail
       go_roundg (t.l.length - (k+1))
       case measure=>rw[A.o.1];omega
       case rel=>
        obtain⟨q1,q2,q3⟩:=HRM.o;refine⟨k+1,(bn D t.l[k] p).2,by omega,rfl,by go_num,by rw[C.o.1,<-HB.o],q3 HB.o,by omega,C.o.2.1,am A.o.2.2.2.1 C.o.2.2,?_⟩;exact A.o.2.2.2.2.grown C.o.2.2 (fun j hj e=>by cases e;exact HOK.o _ hj rfl)
      | false=>
       have HB:=aa hb;clear hb hrm;go_wp2_with fail
       go_ret;have e9:bn D t.l[k] p=(false,(bn D t.l[k] p).2):=by rw[<-HB.o]
       have e8:eb D t.l (r - 1)=bn D t.l[k] p:=by
        have:=C.o.1;rw[e9]at this;rw[e9,vH this]
       rw[F.o,e8,HB.o];exact⟨rfl,C.o.2.1,am A.o.2.2.2.1 C.o.2.2⟩
    ·have Mc:k=t.l.length:=by omega
     clear hvr;go_wp2_with fail
     go_ret;have hf:=A.o.2.1;rw[Mc,List.take_length]at hf;rw[F.o,hf];exact⟨rfl,A.o.2.2.1,A.o.2.2.2.1⟩
theorem Vz(D):D<=12->Az D:=by
 induction D with
 | zero=>intro _;exact Bb
 | succ D ih=>intro h;exact Cx D h (ih (by omega))
theorem mr(w ok d t v)(h:bu w ok d t v):Calls prog 34 #[v] w fun e w'=>e=.returned (.bool (aE t))/\La w w':=by
 obtain⟨a7,a8,c7,c8,rfl⟩:=h.shape;have HV:=aa h;clear h;go_enter func34,ntmps34;go_wp2_with fail
 refine(Vz 12 (by omega) _ (Lj ok w) d t _ (w.heap.size+1) 120 (by exact HV.o.below.bel (ab (ae _ _) (ae _ _))) (by intro k hk;omega) (by exact et w _ _) (by omega) (by omega)).mono ?_;rintro e w2 ⟨rfl,hr2,hg2⟩;go_wp2_with fail
 go_ret;exact⟨rfl,bS (lC (bd (bd (az _ _) _) _) hg2 (by omega))⟩
variable {B:Nat}
theorem TP{base base'}{e:TypeId}{size xs}(h:w.ownsRow base e size v n xs)(hb:base'<=base):w.ownsRow base' e size v n xs:=by
 refine⟨h.1,?_⟩;rcases h.2 with h | ⟨g,cap,cur,e1,h1,h2⟩
 ·exact .inl h
 ·exact .inr ⟨g,cap,cur,e1,MH hb h1,h2⟩
theorem lI(w:LC)(o1 o2 o3:Obj):(((w.alloc o1).alloc o2).alloc o3).heap[w.heap.size]?=some o1:=by
 have:=World.grownBy_alloc ((w.alloc o1).alloc o2) o3 none;rw[this.block _ (by simp;omega) (by simp)];exact fb w o1 o2
theorem mE(w:LC)(o1 o2 o3:Obj):(((w.alloc o1).alloc o2).alloc o3).heap[w.heap.size+1]?=some o2:=by
 have:=World.grownBy_alloc ((w.alloc o1).alloc o2) o3 none;rw[this.block _ (by simp) (by simp)];exact et w o1 o2
theorem jI(w:LC)(o1 o2 o3:Obj):(((w.alloc o1).alloc o2).alloc o3).heap[w.heap.size+2]?=some o3:=by
 have:=MN ((w.alloc o1).alloc o2) o3;simpa using this
theorem Ji(k n s a1 a2 l1 c1 l2 c2):∀ u∈[Value.int .i64 k,.int .i64 n,.string s,.slice a1 l1 c1,.slice a2 l2 c2],u.oneCell'=true:=by
 intro u hu;simp only[List.mem_cons,List.not_mem_nil,or_false]at hu;rcases hu with rfl | rfl | rfl | rfl | rfl <;> rfl
theorem bi{a:LC}{r}(h:a.grownBy w r)(hg:a.heap.size<=g)(i v):a.grownBy (w.setCell ⟨g,i,none⟩ v) r:=by
 have k:w.grownBy (w.setCell ⟨g,i,none⟩ v) (some g):=ap (az _ _) _ _;exact⟨k.os.trans h.os,k.tape.trans h.tape,k.output.trans h.output,MH h.size k.size,fun j hj hr=>(k.block j (MI hj h.size) (fun e=>by cases e;omega)).trans (h.block j hj hr)⟩
theorem aW{b}{e:TypeId}{size xs}(h:w.ownsRow B e size v n xs)(hg:w.grownBy w' (some b))(hb:b < B):w'.ownsRow B e size v n xs:=by
 refine h.kept hg ?_;cases hv:v.ownBlock with
 | none=>exact .inl rfl
 | some k=>
  right;intro e;cases e;have:=(h.lt b hv).1;omega
def bQ (ok:Nat->Prop) (B:Nat):Nat->Prop:=fun k=>ok k\/B<=k
theorem bu.toN(h:bu w ok d t v):bu w (bQ ok B) d t v:=h.weak fun k hk=>.inl hk
theorem cA.bel{xs cs}(h:cA (bu w ok d) xs cs)(hb:La w w'):cA (bu w' (bQ ok B) d) xs cs:=h.imp fun _ _ h=>(h.bel hb).toN
def qW (key:Lz) (keys:List Lz):Nat:=(keys.takeWhile fun a=>Op.bytesLess a key).length
def aG (t:V) (key:Lz) (x:V):V:=
 if aK t then
  match TN key t.keys with
  | some i=>{ t with l:=t.l.take i++x :: t.l.drop (i+1) }
  | none=>{ t with keys:=t.keys.take (qW key t.keys)++key :: t.keys.drop (qW key t.keys),l:=t.l.take (qW key t.keys)++x :: t.l.drop (qW key t.keys) }
 else t
def bH (t:V) (key:Lz):V:=
 match dO t key with
 | some i=>{ t with keys:=t.keys.take i++t.keys.drop (i+1),l:=t.l.take i++t.l.drop (i+1) }
 | none=>t
theorem io{D:Nat}{t:V}{r p:Int}(h:bn D t r=(true,p)):∃ D',D=D'+1/\ce t=true/\0<=r - 1/\eb D' t.l (r - 1)=(true,p):=by
 cases D with
 | zero=>simp[bn]at h
 | succ D=>
  simp only[bn]at h;split at h
  ·cases h
  ·rename_i hc;rw[not_or]at hc;exact⟨D,rfl,by simpa using hc.2,by omega,h⟩
theorem jv{D:Nat}{x:V}{l:List V}{r p:Int}(h:eb D (x :: l) r=(true,p)):∃ q,bn D x r=(true,q)/\eb D l q=(true,p):=by
 unfold eb at h;rw[List.foldl_cons]at h;simp only[if_true]at h;cases hb:(bn D x r).1 with
 | true=>
  have e:bn D x r=(true,(bn D x r).2):=by rw[<-hb]
  rw[e]at h;exact⟨_,e,h⟩
 | false=>
  have e:bn D x r=(false,(bn D x r).2):=by rw[<-hb]
  rw[e,jU]at h;cases h
def fO:Nat->V->Prop
 | 0,_=>False
 | d+1,t=>ce t=true/\∀ x∈t.l,fO d x
theorem yr(D:Nat):∀ (t:V) (r p:Int),bn D t r=(true,p)->fO D t:=by
 induction D with
 | zero=>intro t r p h;simp[bn]at h
 | succ D ih=>
  intro t r p h;obtain⟨D',e,hs,h0,hf⟩:=io h;cases e;refine⟨hs,?_⟩;generalize t.l=l at hf;generalize r - 1=q at hf;induction l generalizing q with
  | nil=>intro x hx;cases hx
  | cons y l ihl=>
   obtain⟨q2,h1,h2⟩:=jv hf;intro x hx;rcases List.mem_cons.1 hx with rfl | hx
   ·exact ih _ _ _ h1
   ·exact ihl q2 h2 x hx
theorem fh{t:V}(h:aE t=true):fO 12 t:=yr 12 t 120 _ (by unfold aE at h;rw[<-h])
def Jd:Nat->V->Prop
 | 0,_=>False
 | d+1,t=>∀ x∈t.l,Jd d x
theorem TE(a:List UInt8):Op.bytesLess a a=false:=by
 induction a with
 | nil=>rfl
 | cons c a ih=>simp[Op.bytesLess,ih]
theorem cP:∀ (a b c:List UInt8),Op.bytesLess a b=true->Op.bytesLess b c=true->Op.bytesLess a c=true
 | _,_,[],_,h=>by simp[Op.bytesLess]at h
 | [],_,_ :: _,_,_=>by simp[Op.bytesLess]
 | _ :: _,[],_ :: _,h,_=>by simp[Op.bytesLess]at h
 | x :: a,y :: b,z :: c,h1,h2=>by
  simp only[Op.bytesLess,Bool.or_eq_true,MJ,decide_eq_true_eq,beq_iff_eq]at h1 h2 ⊢;rcases h1 with h1 | ⟨rfl,h1⟩
  ·rcases h2 with h2 | ⟨rfl,h2⟩
   ·exact .inl (by rw[UInt8.lt_iff_toNat_lt]at *;omega)
   ·exact .inl h1
  ·rcases h2 with h2 | ⟨rfl,h2⟩
   ·exact .inl h2
   ·exact .inr ⟨rfl,cP a b c h1 h2⟩
def bD (ks:List (List UInt8)):Prop:=ks.Pairwise fun a b=>Op.bytesLess a b=true
theorem rJ(ks:List (List UInt8)):∀ (p:Option (List UInt8)),el p ks=true->(∀ a∈p,∀ k∈ks,Op.bytesLess a k=true)/\bD ks/\∀ k∈ks,eK k=true:=by
 induction ks with
 | nil=>intro p _;exact⟨fun _ _ _ h=>by (cases h),List.Pairwise.nil,fun _ h=>by cases h⟩
 | cons k ks ih=>
  intro p h;simp only[el,MJ]at h;obtain⟨⟨h1,h2⟩,h3⟩:=h;obtain⟨g1,g2,g3⟩:=ih _ h3;refine⟨?_,List.Pairwise.cons (fun a ha=>g1 k rfl a ha) g2,fun a ha=>?_⟩
  ·intro a ha x hx;simp only[Option.mem_def]at ha;subst ha;rcases List.mem_cons.1 hx with rfl | hx
   ·exact h2
   ·exact cP _ _ _ h2 (g1 k rfl x hx)
  ·rcases List.mem_cons.1 ha with rfl | ha
   ·exact h1
   ·exact g3 a ha
theorem Ix{a b:List UInt8}(h:Op.bytesLess a b=true):a≠b:=by
 rintro rfl;rw[TE]at h;cases h
def eo (k:List UInt8):List (List UInt8 × V)->Option V
 | []=>none
 | p :: ps=>if p.1=k then some p.2 else eo k ps
theorem dU(k:List UInt8)(a b:List (List UInt8 × V)):eo k (a++b)=(eo k a).or (eo k b):=by
 induction a with
 | nil=>rfl
 | cons p a ih=>
  rw[List.cons_append,eo,eo];split
  ·rfl
  ·exact ih
theorem mG{k:List UInt8}{ps:List (List UInt8 × V)}(h:∀ p∈ps,p.1≠k):eo k ps=none:=by
 induction ps with
 | nil=>rfl
 | cons p ps ih=>rw[eo,if_neg (h p (by simp)),ih fun q hq=>h q (by simp[hq])]
theorem uL(k:List UInt8):∀ (ks:List (List UInt8)) (l:List V),ks.length=l.length->((TN k ks).bind fun i=>l[i]?)=eo k (ks.zip l)
 | [],l,_=>rfl
 | a :: ks,[],h=>by simp at h
 | a :: ks,x :: l,h=>by
  rw[TN,List.zip_cons_cons,eo];by_cases e:a=k
  ·rw[if_pos e,if_pos e];rfl
  ·rw[if_neg e,if_neg e,<-uL k ks l (by simpa using h)];cases TN k ks <;> simp
theorem ft{t:V}(h:aK t=true)(k:List UInt8):aS t k=eo k (t.keys.zip t.l):=by
 have hl:t.keys.length=t.l.length:=by
  simp only[aK,MJ,decide_eq_true_eq]at h;exact h.2
 rw[aS,dO,if_pos h,uL k _ _ hl]
theorem mR(ks:List (List UInt8))(l:List V)(i:Nat)(h:ks.length=l.length):ks.zip l=(ks.take i).zip (l.take i)++(ks.drop i).zip (l.drop i):=by
 rw[<-List.zip_append (by simp[h]),List.take_append_drop,List.take_append_drop]
theorem oM(ks:List (List UInt8))(l:List V)(i j:Nat)(k:List UInt8)(x:V)(h:ks.length=l.length):(ks.take i++k :: ks.drop j).zip (l.take i++x :: l.drop j)=(ks.take i).zip (l.take i)++(k,x) :: (ks.drop j).zip (l.drop j):=by
 rw[List.zip_append (by simp[h]),List.zip_cons_cons]
theorem lf{k:List UInt8}{ks:List (List UInt8)}{l:List V}(h:k ∉ ks):eo k (ks.zip l)=none:=
 mG fun p hp e=>h (by rw[<-e];exact(List.of_mem_zip hp).1)
theorem nT{ks:List (List UInt8)}(h:bD ks):ks.Nodup:=List.Pairwise.imp (fun h=>Ix h) h
theorem oU{k:List UInt8}{ks:List (List UInt8)}(h:TN k ks=none):k ∉ ks:=by
 induction ks with
 | nil=>simp
 | cons a ks ih=>
  rw[TN]at h;split at h
  ·cases h
  ·rename_i hne;simp only[Option.map_eq_none_iff]at h;simp only[List.mem_cons,not_or];exact⟨fun e=>hne e.symm,ih h⟩
theorem tZ{ks:List (List UInt8)}{i:Nat}{k:List UInt8}(h:ks[i]?=some k):ks.drop i=k :: ks.drop (i+1):=by
 obtain⟨h1,h2⟩:=Mz.1 h;rw[ME h1,h2]
theorem wU{ks:List (List UInt8)}{i:Nat}{k:List UInt8}(h:ks[i]?=some k):ks=ks.take i++k :: ks.drop (i+1):=by
 rw[<-tZ h,List.take_append_drop]
theorem ku{t:V}(h:aK t=true)(key:List UInt8)(x:V):aK (aG t key x)=true:=by
 have hl:t.keys.length=t.l.length:=by
  simp only[aK,MJ,decide_eq_true_eq]at h;exact h.2
 have hk:t.kind=5:=by
  simp only[aK,MJ,decide_eq_true_eq]at h;exact h.1
 unfold aG;rw[if_pos h];cases hi:TN key t.keys with
 | some i=>
  have:=(iw hi).1;simp only[aK,hk,decide_true,Bool.true_and,decide_eq_true_eq,Mx,MC,My,MB];omega
 | none=>
  simp only[aK,hk,decide_true,Bool.true_and,decide_eq_true_eq,Mx,MC,My,MB];omega
theorem pQ{t:V}(h:aK t=true)(key:List UInt8)(x:V):aS (aG t key x) key=some x:=by
 have hl:t.keys.length=t.l.length:=by
  simp only[aK,MJ,decide_eq_true_eq]at h;exact h.2
 rw[ft (ku h key x)];unfold aG;rw[if_pos h];cases hi:TN key t.keys with
 | some i=>
  obtain⟨h1,h2⟩:=iw hi;simp only;have e:(t.keys.zip (t.l.take i++x :: t.l.drop (i+1)))=(t.keys.take i++key :: t.keys.drop (i+1)).zip (t.l.take i++x :: t.l.drop (i+1)):=by rw[<-wU h2]
  rw[e,oM _ _ _ _ _ _ hl,dU];have:eo key ((t.keys.take i).zip (t.l.take i))=none:=by
   have hm:(TN key (t.keys.take i))=none:=by
    cases hq:TN key (t.keys.take i) with
    | none=>rfl
    | some j=>
     exfalso;obtain⟨g1,g2⟩:=iw hq;have:TN key t.keys=some j:=by
      have e2:∀ (a b:List (List UInt8)) (j:Nat),TN key a=some j->TN key (a++b)=some j:=by
       intro a;induction a with
       | nil=>intro b j h;cases h
       | cons c a ih=>
        intro b j h;rw[TN]at h;rw[List.cons_append,TN];split at h
        ·rename_i hc;rw[if_pos hc];exact h
        ·rename_i hc;rw[if_neg hc];simp only[Option.map_eq_some_iff]at h ⊢;obtain⟨m,hm,rfl⟩:=h;exact⟨m,ih b m hm,rfl⟩
      have:=e2 (t.keys.take i) (t.keys.drop i) j hq;rwa [List.take_append_drop]at this
     rw[hi]at this;cases this;simp at g1;omega
   exact lf (oU hm)
  rw[this,eo,if_pos rfl];rfl
 | none=>
  simp only;rw[oM _ _ _ _ _ _ hl,dU];have hn:=oU hi;rw[lf (fun hm=>hn (List.mem_of_mem_take hm)),eo,if_pos rfl];rfl
theorem mJ{t:V}(h:aK t=true)(key other:List UInt8)(x:V)(hne:other≠key):aS (aG t key x) other=aS t other:=by
 have hl:t.keys.length=t.l.length:=by
  simp only[aK,MJ,decide_eq_true_eq]at h;exact h.2
 rw[ft (ku h key x),ft h];unfold aG;rw[if_pos h];cases hi:TN key t.keys with
 | some i=>
  obtain⟨h1,h2⟩:=iw hi;simp only;have e:(t.keys.zip (t.l.take i++x :: t.l.drop (i+1)))=(t.keys.take i++key :: t.keys.drop (i+1)).zip (t.l.take i++x :: t.l.drop (i+1)):=by rw[<-wU h2]
  rw[e,oM _ _ _ _ _ _ hl,dU,eo,if_neg (fun e=>hne e.symm),mR t.keys t.l i hl,dU];congr 1
  have hli:i < t.l.length:=by omega
  rw[tZ h2,ME hli,List.zip_cons_cons,eo,if_neg (fun e=>hne e.symm)]
 | none=>
  simp only;rw[oM _ _ _ _ _ _ hl,dU,eo,if_neg (fun e=>hne e.symm),mR t.keys t.l (qW key t.keys) hl,dU]
theorem Ud{t:V}(h:aK t=true)(hd:t.keys.Nodup)(key:List UInt8):aS (bH t key) key=none:=by
 have hl:t.keys.length=t.l.length:=by
  simp only[aK,MJ,decide_eq_true_eq]at h;exact h.2
 have hk:t.kind=5:=by
  simp only[aK,MJ,decide_eq_true_eq]at h;exact h.1
 unfold bH;cases hf:dO t key with
 | none=>simp only[aS,hf];rfl
 | some i=>
  have hi:TN key t.keys=some i:=by rw[dO,if_pos h]at hf;exact hf
  obtain⟨h1,h2⟩:=iw hi;simp only;have hp:aK { t with keys:=t.keys.take i++t.keys.drop (i+1),l:=t.l.take i++t.l.drop (i+1) }=true:=by
   simp only[aK,hk,decide_true,Bool.true_and,decide_eq_true_eq,Mx,MC,MB];omega
  rw[ft hp];simp only;refine lf ?_;rw[wU h2]at hd;rw[List.nodup_append]at hd;simp only[List.mem_append,not_or];refine⟨fun hm=>hd.2.2 key hm key (by simp) rfl,?_⟩;exact(List.nodup_cons.1 hd.2.1).1
theorem Ai(t):(⟨t.kind,t.n,t.s,t.keys,t.l⟩:V)=t:=by cases t;rfl
def qJ:Nat->V->Nat
 | 0,_=>0
 | D+1,t=>1+(t.l.map (qJ D)).sum
theorem zZ(D):∀ (t:V) (r p:Int),0<=r->(bn D t r=(true,p)↔fO D t/\(qJ D t:Int)<=r/\p=r - qJ D t):=by
 induction D with
 | zero=>intro t r p _;simp[bn,fO]
 | succ D ih=>
  have hf:∀ (l:List V) (r p:Int),0<=r->(eb D l r=(true,p)↔(∀ x∈l,fO D x)/\(((l.map (qJ D)).sum:Nat):Int)<=r/\p=r - ((l.map (qJ D)).sum:Nat)):=by
   intro l;induction l with
   | nil=>intro r p h;simp[eb];omega
   | cons y l ihl=>
    intro r p h;constructor
    ·intro hg;obtain⟨q,h1,h2⟩:=jv hg;obtain⟨a1,a2,a3⟩:=(ih y r q h).1 h1;obtain⟨b1,b2,b3⟩:=(ihl q p (by omega)).1 h2;refine⟨?_,?_,?_⟩
     ·intro x hx;rcases List.mem_cons.1 hx with rfl | hx
      ·exact a1
      ·exact b1 x hx
     ·simp only[List.map_cons,List.sum_cons];omega
     ·simp only[List.map_cons,List.sum_cons];omega
    ·rintro⟨h1,h2,h3⟩;simp only[List.map_cons,List.sum_cons]at h2 h3;have e1:=(ih y r (r - qJ D y) h).2 ⟨h1 y (by simp),by omega,rfl⟩;have e2:=(ihl (r - qJ D y) p (by omega)).2 ⟨fun x hx=>h1 x (by simp[hx]),by omega,by omega⟩;unfold eb at e2 ⊢;rw[List.foldl_cons];simp only[if_true];rw[e1];exact e2
  intro t r p h;constructor
  ·intro hg;obtain⟨D',e,hs,h0,hg⟩:=io hg;cases e;obtain⟨b1,b2,b3⟩:=(hf t.l (r - 1) p h0).1 hg;refine⟨⟨hs,b1⟩,?_,?_⟩
   ·simp only[qJ];omega
   ·simp only[qJ];omega
  ·rintro⟨⟨h1,h2⟩,h3,h4⟩;simp only[qJ]at h3 h4;have e:=(hf t.l (r - 1) p (by omega)).2 ⟨h2,by omega,by omega⟩;simp only[bn];rw[if_neg (by rw[h1];simp;omega)];exact e
theorem FU(t):aE t=true↔fO 12 t/\qJ 12 t<=120:=by
 unfold aE;constructor
 ·intro h;obtain⟨a,b,-⟩:=(zZ 12 t 120 _ (by omega)).1 (show bn 12 t 120=(true,(bn 12 t 120).2) by rw[<-h]);exact⟨a,by omega⟩
 ·rintro⟨a,b⟩;have:=(zZ 12 t 120 (120 - qJ 12 t) (by omega)).2 ⟨a,by omega,rfl⟩;rw[this]
def dz (t:V):Prop:=∃ D,fO D t/\qJ D t<=120
theorem dQ(h:aE t=true):dz t:=⟨12,(FU t).1 h⟩
theorem gu(hs:ce t=true)(hk:t.kind=5):aK t=true/\el none t.keys=true/\t.n=0/\t.s=[]:=by
 unfold ce at hs;rw[hk]at hs;simp only[Int.reduceEq,if_false,if_true,MJ,decide_eq_true_eq]at hs;obtain⟨⟨⟨a1,a2⟩,a3⟩,a4⟩:=hs;exact⟨by simp[aK,hk,a3],a4,a1,a2⟩
theorem Hh{α:Type}(l:List α)(i):(l.take i++l.drop (i+1)).Sublist l:=by
 have:l=l.take i++l.drop i:=(List.take_append_drop i l).symm;conv=>rhs;rw[this]
 exact List.Sublist.append (List.Sublist.refl _) (by
  rw[<-List.drop_drop];exact List.drop_sublist _ _)
def aM:V:=⟨0,0,[],[],[]⟩
variable {wr:World}
variable {ok':Nat->Prop}
variable {c:Nat}
def n8 (f:V->V->Bool):List V->List V->Bool
 | x :: l,y :: m=>f x y&&n8 f l m
 | _,_=>true
theorem r9{f:V->V->Bool}:∀ (l m:List V),n8 f l m=true↔∀ (j:Nat) (x y:V),l[j]?=some x->m[j]?=some y->f x y=true
 | [],m=>by simp[n8]
 | x :: l,[]=>by simp[n8]
 | x :: l,y :: m=>by
  rw[n8,MJ,r9 l m];constructor
  ·rintro⟨h1,h2⟩ j x' y' hx hy;cases j with
   | zero=>simp at hx hy;subst hx;subst hy;exact h1
   | succ j=>exact h2 j x' y' (by simpa using hx) (by simpa using hy)
  ·intro h;exact⟨h 0 x y rfl rfl,fun j x' y' hx hy=>h (j+1) x' y' (by simpa using hx) (by simpa using hy)⟩
def TQ:Nat->V->V->Bool
 | 0,_,_=>false
 | d+1,a,b=>decide (a.kind=b.kind)&&decide (a.n=b.n)&&decide (a.s=b.s)&&decide (a.keys=b.keys)&&decide (a.l.length=b.l.length)&&n8 (TQ d) a.l b.l
def ru (w wr:LC) (ok ok':Nat->Prop) (d:Nat) (a b:V) (k n:Int) (s:Lz) (nk nl:Nat) (a1 a2 b1 b2:Option Addr) (c1 c2 d1 d2:Nat):Prop:=
 ag wr w.heap.size (.int .i64 k) (.int .i64 n) (.string ⟨s.toArray⟩) (.slice a1 nk c1) (.slice a2 nl c2) /\
 ag wr (w.heap.size+1) (.int .i64 k) (.int .i64 n) (.string ⟨s.toArray⟩) (.slice b1 nk d1) (.slice b2 nl d2) /\
 bu wr ok d a (.agg #[.int .i64 k,.int .i64 n,.string ⟨s.toArray⟩,.slice a1 nk c1,.slice a2 nl c2]) /\
 bu wr ok' d b (.agg #[.int .i64 k,.int .i64 n,.string ⟨s.toArray⟩,.slice b1 nk d1,.slice b2 nl d2])/\La w wr
theorem ru.below{a b k n s nk nl a1 a2 b1 b2 c1 c2 d1 d2}(h:ru w wr ok ok' d a b k n s nk nl a1 a2 b1 b2 c1 c2 d1 d2)(hb:La wr w'):ru w w' ok ok' d a b k n s nk nl a1 a2 b1 b2 c1 c2 d1 d2:=
 ⟨af hb h.1,af hb h.2.1,h.2.2.1.bel hb,h.2.2.2.1.bel hb,ab h.2.2.2.2 hb⟩
theorem ru.drewN{a b k n s nk nl a1 a2 b1 b2 c1 c2 d1 d2}(h:ru w wr ok ok' d a b k n s nk nl a1 a2 b1 b2 c1 c2 d1 d2)(m):ru w (wr.drewN m) ok ok' d a b k n s nk nl a1 a2 b1 b2 c1 c2 d1 d2:=
 h.below ⟨rfl,rfl,rfl,MG _,fun _ _=>rfl⟩
theorem gQ{xs a}(h:ao w ok xs (.slice a n c))(hk:k < xs.length):∃ b off,a=some ⟨b,off,none⟩/\xs.length<=c/\c<=maxLen/\w.cell? ⟨b,off+k,none⟩=some (.string ⟨xs[k].toArray⟩):=by
 rcases h.2 with⟨e,_⟩ | ⟨b,off,c',e,h1,h2,Mb⟩
 ·rw[e]at hk;simp at hk
 ·simp only[Value.slice.injEq]at e;obtain⟨rfl,-,rfl⟩:=e;exact⟨b,off,rfl,h1,h2,(Mb k xs[k] (Mw hk)).2.2⟩
theorem fz{xs a}(h:cS w ok (bu w ok d) xs (.slice a n c))(hk:k < xs.length):∃ b off,a=some ⟨b,off,none⟩/\xs.length<=c/\c<=maxLen /\
 ∃ a5 c5 a6 c6,w.cell? ⟨b,off+k * 5,none⟩=some (.int .i64 xs[k].kind)/\w.cell? ⟨b,off+k * 5+1,none⟩=some (.int .i64 xs[k].n)/\w.cell? ⟨b,off+k * 5+2,none⟩=some (.string ⟨xs[k].s.toArray⟩) /\
  w.cell? ⟨b,off+k * 5+3,none⟩=some (.slice a5 xs[k].keys.length c5)/\w.cell? ⟨b,off+k * 5+4,none⟩=some (.slice a6 xs[k].l.length c6) /\
  bu w ok d xs[k] (.agg #[.int .i64 xs[k].kind,.int .i64 xs[k].n,.string ⟨xs[k].s.toArray⟩,.slice a5 xs[k].keys.length c5,.slice a6 xs[k].l.length c6]):=by
 rcases h.2 with⟨e,_⟩ | ⟨b,off,c',e,h1,h2,Mb⟩
 ·rw[e]at hk;simp at hk
 ·simp only[Value.slice.injEq]at e;obtain⟨rfl,-,rfl⟩:=e;obtain⟨v0,v1,v2,v3,v4,-,g0,g1,g2,g3,g4,g5⟩:=Mb k xs[k] (Mw hk);have g6:=g5;obtain⟨rfl,rfl,rfl,⟨a5,c5,rfl⟩,⟨a6,c6,rfl⟩⟩:=g6.agg;exact⟨b,off,rfl,h1,h2,a5,c5,a6,c6,g0,g1,g2,g3,g4,g5⟩
theorem D2{R:V->Value->Prop}{xs}(h:cS w ok R xs v)(hx:x∈xs):∃ y,R x y:=by
 rcases h.2 with⟨e,_⟩ | ⟨b,off,c,e,h1,h2,h3⟩
 ·rw[e]at hx;cases hx
 ·obtain⟨i,hi⟩:=List.getElem?_of_mem hx;obtain⟨v0,v1,v2,v3,v4,-,-,-,-,-,-,g⟩:=h3 i x hi;exact⟨_,g⟩
theorem yR(a b:Lz):ByteArray.mk a.toArray++ByteArray.mk b.toArray=ByteArray.mk (a++b).toArray:=by
 apply ByteArray.ext;simp
variable {y:V}
def In (w:LC) (ok:Nat->Prop) (t:V) (v:Value):Prop:=∃ d,bu w ok d t v
theorem bu.is(h:bu w ok d t v):In w ok t v:=⟨d,h⟩
theorem In.bel(h:In w ok t v)(hb:La w w'):In w' ok t v:=by
 obtain⟨d,h⟩:=h;exact⟨d,h.bel hb⟩
theorem In.weak(h:In w ok t v)(hk:∀ k,ok k->ok' k):In w ok' t v:=by
 obtain⟨d,h⟩:=h;exact⟨d,h.weak hk⟩
theorem In.grown(h:In w ok t v)(hg:w.grownBy w' (some g))(hr:∀ k,ok k->k≠g):In w' ok t v:=by
 obtain⟨d,h⟩:=h;exact⟨d,h.grown hg fun k hk e=>hr k hk (by cases e;rfl)⟩
theorem In.at(h:In w ok t v):∃ d,bu w ok (d+1) t v:=by
 obtain⟨d,h⟩:=h;exact⟨d,h.succ⟩
theorem In.two{xv}(h:In w ok t v)(hx:In w ok x xv):∃ d,bu w ok (d+1) t v/\bu w ok d x xv:=by
 obtain⟨d,h⟩:=h;obtain⟨d',h'⟩:=hx;exact⟨d+d',bu.le (by omega) h,bu.le (by omega) h'⟩
theorem In.form(h:In w ok t v):∃ (a7 a8:Option Addr) (c7 c8:Nat),v=.agg #[.int .i64 t.kind,.int .i64 t.n,.string ⟨t.s.toArray⟩,.slice a7 t.keys.length c7,.slice a8 t.l.length c8]:=by
 obtain⟨d,h⟩:=h;exact h.shape
theorem In.lens(h:In w ok t v):t.keys.length<=9223372036854775807/\t.l.length<=9223372036854775807/\t.s.length<=9223372036854775807:=by
 obtain⟨d,h⟩:=h.at;obtain⟨ks,ls,-,-,-,h3,h4,h5⟩:=h;exact⟨h4.1,h5.1,h3⟩
def bg (ok:Nat->Prop) (B C:Nat):Nat->Prop:=bQ (fun k=>ok k/\k < B) C
theorem In.low(h:In w ok t v):In w (Lj ok w) t v:=by
 obtain⟨d,h⟩:=h;exact⟨d,h.below⟩
theorem jB{C}(h1:B<=g)(h2:g < C):∀ k,bg ok B C k->k≠g:=by
 intro k hk e;rcases hk with hk | hk <;> omega
theorem ik{C}(h:B<=C):∀ k,bg ok B C k->bQ ok B k:=by
 intro k hk;rcases hk with hk | hk
 ·exact .inl hk.1
 ·exact .inr (by omega)
theorem In.box{C}(h:In w (bg ok B C) t v)(h1:B<=g)(h2:g < C)(d0 d1 d2 d3 d4):In (ar w g d0 d1 d2 d3 d4) (bg ok B C) t v:=
 h.grown (aI w g _ _ _ _ _) (jB h1 h2)
theorem aP{w1}(h:La w w1)(hg:w.heap.size<=g)(d0 d1 d2 d3 d4):La w (ar w1 g d0 d1 d2 d3 d4):=bS (eD (aq h) hg _ _ _ _ _)
theorem In.item{k n s ks a m}(h:In w ok t (.agg #[k,n,s,ks,.slice a m c]))(hi:i < t.l.length):∃ b off a5 c5 a6 c6,a=some ⟨b,off,none⟩/\t.l.length<=c/\c<=9223372036854775807/\w.cell? ⟨b,off+i * 5,none⟩=some (.int .i64 t.l[i].kind)/\w.cell? ⟨b,off+i * 5+1,none⟩=some (.int .i64 t.l[i].n)/\w.cell? ⟨b,off+i * 5+2,none⟩=some (.string ⟨t.l[i].s.toArray⟩) /\
 w.cell? ⟨b,off+i * 5+3,none⟩=some (.slice a5 t.l[i].keys.length c5)/\w.cell? ⟨b,off+i * 5+4,none⟩=some (.slice a6 t.l[i].l.length c6)/\In w ok t.l[i] (.agg #[.int .i64 t.l[i].kind,.int .i64 t.l[i].n,.string ⟨t.l[i].s.toArray⟩,.slice a5 t.l[i].keys.length c5,.slice a6 t.l[i].l.length c6]):=by
 obtain⟨d,h⟩:=h.at;obtain⟨ks',ls,e,-,-,-,-,h5⟩:=h;simp only[Value.agg.injEq,Array.mk.injEq,List.cons.injEq,and_true]at e;obtain⟨-,-,-,-,rfl⟩:=e;obtain⟨-,h5⟩:=h5;rcases h5 with⟨e,_⟩ | ⟨b,off,c',e,h1,h2,Mb⟩
 ·rw[e]at hi;simp at hi
 ·simp only[Value.slice.injEq]at e;obtain⟨rfl,-,rfl⟩:=e;obtain⟨v0,v1,v2,v3,v4,-,g0,g1,g2,g3,g4,g5⟩:=Mb i t.l[i] (Mw hi);obtain⟨rfl,rfl,rfl,⟨a5,c5,rfl⟩,⟨a6,c6,rfl⟩⟩:=g5.agg;exact⟨b,off,a5,c5,a6,c6,rfl,h1,h2,g0,g1,g2,g3,g4,g5.is⟩
def cZ (w:LC) (ok:Nat->Prop) (m:Option V) (x:Value) (b:Bool):Prop:=b=m.isSome/\∃ y,In w ok y x/\∀ z,m=some z->y=z
theorem cZ.some{x}(h:In w ok y x):cZ w ok (some y) x true:=⟨rfl,y,h,fun z e=>by cases e;rfl⟩
theorem fG(w ok):In w ok aM (.agg #[.int .i64 0,.int .i64 0,.string ⟨#[]⟩,.slice none 0 0,.slice none 0 0]):=⟨1,_,_,rfl,by unfold dW;simp[aM],by unfold dW;simp[aM],by simp[aM,maxLen],⟨by simp[aM,maxLen],.inl ⟨rfl,none,rfl⟩⟩,⟨by simp[aM,maxLen],.inl ⟨rfl,none,rfl⟩⟩⟩
theorem bG(w ok t v)(h:In w ok t v):Calls prog 34 #[v] w fun e w'=>e=.returned (.bool (aE t))/\La w w':=by
 obtain⟨d,h⟩:=h;exact mr w ok d t v h
theorem Ac(w ok k n)(hk:dW k)(hn:dW n):In w ok ⟨k,n,[],[],[]⟩ (.agg #[.int .i64 k,.int .i64 n,.string ⟨#[]⟩,.slice none 0 0,.slice none 0 0]):=⟨1,_,_,rfl,hk,hn,by simp[maxLen],⟨by simp[maxLen],.inl ⟨rfl,none,rfl⟩⟩,⟨by simp[maxLen],.inl ⟨rfl,none,rfl⟩⟩⟩
theorem In.key{k n s ls a m}(h:In w ok t (.agg #[k,n,s,.slice a m c,ls]))(hi:i < t.keys.length):∃ b off,a=some ⟨b,off,none⟩/\t.keys.length<=c/\c<=9223372036854775807/\w.cell? ⟨b,off+i,none⟩=some (.string ⟨t.keys[i].toArray⟩)/\t.keys[i].length<=9223372036854775807:=by
 obtain⟨d,h⟩:=h.at;obtain⟨ks',ls',e,-,-,-,h4,-⟩:=h;simp only[Value.agg.injEq,Array.mk.injEq,List.cons.injEq,and_true]at e;obtain⟨-,-,-,rfl,-⟩:=e;obtain⟨-,h4⟩:=h4;rcases h4 with⟨e,_⟩ | ⟨b,off,c',e,h1,h2,Mb⟩
 ·rw[e]at hi;simp at hi
 ·simp only[Value.slice.injEq]at e;obtain⟨rfl,-,rfl⟩:=e;obtain⟨g1,-,g3⟩:=Mb i t.keys[i] (Mw hi);exact⟨b,off,rfl,h1,h2,g3,g1⟩
theorem ig(w ok t v key)(h:In w ok t v):Calls prog 82 #[v,aR key] w fun e w'=>∃ x,e=.returned (.tuple #[x,.bool (aS t key).isSome])/\La w w'/\In w' ok ((aS t key).getD aM) x:=by
 obtain⟨d,h⟩:=h;refine(ny w ok d t v key h).mono ?_;rintro e w' ⟨x,b,rfl,hb,hm⟩;cases hq:aS t key with
 | none=>rw[hq]at hm;rw[hm.1,hm.2];exact⟨_,rfl,hb,fG w' ok⟩
 | some y=>rw[hq]at hm;rw[hm.1];exact⟨_,rfl,hb,hm.2.is⟩
def bN:V->Nat
 | ⟨_,_,_,_,l⟩=>1+(l.map bN).sum
def cnts (xs:List V):Nat:=(xs.map bN).sum
theorem qf:cnts []=0:=rfl
theorem er(x xs):cnts (x :: xs)=bN x+cnts xs:=by simp[cnts]
theorem df(t):bN t=1+cnts t.l:=by cases t;rw[bN];rfl
theorem iV{xs:List V}(h:k < xs.length):cnts (xs.drop k)=bN xs[k]+cnts (xs.drop (k+1)):=by
 rw[ME h,er]
theorem uF:∀ (xs:List V),xs.length<=cnts xs
 | []=>MG _
 | x :: xs=>by
  have:=uF xs;have:=df x;rw[er,My];omega
theorem pC{xs}(h:x∈xs):bN x<=cnts xs:=by
 induction xs with
 | nil=>cases h
 | cons y xs ih=>
  rw[er];rcases List.mem_cons.1 h with rfl | h
  ·omega
  ·have:=ih h;omega
theorem JQ(D):∀ (t:V),fO D t->bN t=qJ D t:=by
 induction D with
 | zero=>intro t h;exact h.elim
 | succ D ih=>
  intro t h;rw[df,qJ];congr 1
  obtain⟨-,h⟩:=h;generalize t.l=l at h;induction l with
  | nil=>rfl
  | cons y l ihl=>
   rw[er,ih y (h y (by simp)),ihl fun x hx=>h x (by simp[hx])];simp
theorem gE(h:dz t):bN t<=120:=by
 obtain⟨D,h1,h2⟩:=h;rw[JQ D t h1];exact h2
def mu (ls:List (List V)):Nat:=(ls.map fun l=>1+cnts l).sum
theorem sP(ls:List (List V))(l):mu (ls++[l])=mu ls+(1+cnts l):=by simp[mu]
theorem Jo(ls:List (List V)):ls.length<=mu ls:=by
 unfold mu;induction ls with
 | nil=>simp
 | cons l ls ih=>simp only[List.map_cons,List.sum_cons,My];omega
def bJ (w:LC) (ok:Nat->Prop) (xs:List V) (v:Value):Prop:=In w ok ⟨0,0,[],[],xs⟩ (.agg #[.int .i64 0,.int .i64 0,.string ⟨#[]⟩,.slice none 0 0,v])
theorem bJ.bel{xs}(h:bJ w ok xs v)(hb:La w w'):bJ w' ok xs v:=In.bel h hb
theorem bJ.weak{xs}(h:bJ w ok xs v)(hk:∀ k,ok k->ok' k):bJ w ok' xs v:=In.weak h hk
theorem bJ.grown{xs}(h:bJ w ok xs v)(hg:w.grownBy w' (some g))(hr:∀ k,ok k->k≠g):bJ w' ok xs v:=In.grown h hg hr
theorem bJ.form{xs}(h:bJ w ok xs v):∃ a c,v=.slice a xs.length c:=by
 obtain⟨a7,a8,c7,c8,e⟩:=In.form h;simp only[Value.agg.injEq,Array.mk.injEq,List.cons.injEq,and_true]at e;exact⟨a8,c8,e.2.2.2.2⟩
theorem bJ.len{xs}(h:bJ w ok xs v):xs.length<=9223372036854775807:=(In.lens h).2.1
theorem In.vals{k n s ks ls}(h:In w ok t (.agg #[k,n,s,ks,ls])):bJ w ok t.l ls:=by
 obtain⟨d,h⟩:=h.at;obtain⟨ks',ls',e,-,-,-,-,h5⟩:=h;simp only[Value.agg.injEq,Array.mk.injEq,List.cons.injEq,and_true]at e;obtain⟨-,-,-,-,rfl⟩:=e;exact⟨d+1,_,_,rfl,by unfold dW;simp,by unfold dW;simp,by simp[maxLen],⟨by simp[maxLen],.inl ⟨rfl,none,rfl⟩⟩,h5⟩
theorem bJ.item{xs a m}(h:bJ w ok xs (.slice a m c))(hi:i < xs.length):∃ b off a5 c5 a6 c6,a=some ⟨b,off,none⟩/\xs.length<=c/\c<=9223372036854775807/\w.cell? ⟨b,off+i * 5,none⟩=some (.int .i64 xs[i].kind)/\w.cell? ⟨b,off+i * 5+1,none⟩=some (.int .i64 xs[i].n)/\w.cell? ⟨b,off+i * 5+2,none⟩=some (.string ⟨xs[i].s.toArray⟩) /\
 w.cell? ⟨b,off+i * 5+3,none⟩=some (.slice a5 xs[i].keys.length c5)/\w.cell? ⟨b,off+i * 5+4,none⟩=some (.slice a6 xs[i].l.length c6)/\In w ok xs[i] (.agg #[.int .i64 xs[i].kind,.int .i64 xs[i].n,.string ⟨xs[i].s.toArray⟩,.slice a5 xs[i].keys.length c5,.slice a6 xs[i].l.length c6]):=
 In.item h hi
theorem bJ.blk{xs b off m}(h:bJ w ok xs (.slice (some ⟨b,off,none⟩) m c))(hi:i < xs.length):ok b:=by
 obtain⟨d,h⟩:=In.at h;obtain⟨ks',ls,e,-,-,-,-,h5⟩:=h;simp only[Value.agg.injEq,Array.mk.injEq,List.cons.injEq,and_true]at e;obtain⟨-,-,-,-,rfl⟩:=e;obtain⟨-,h5⟩:=h5;rcases h5 with⟨e,_⟩ | ⟨b',off',c',e,h1,h2,Mb⟩
 ·simp only at e;rw[e]at hi;simp at hi
 ·simp only[Value.slice.injEq,Option.some.injEq,Addr.mk.injEq]at e;obtain⟨⟨rfl,-,-⟩,-,-⟩:=e;obtain⟨_,_,_,_,_,g,_⟩:=Mb i xs[i] (Mw hi);exact g
theorem Fd{c0 c1 c2 c3 c4}(h:In w ok t (.agg #[c0,c1,c2,c3,c4]))(hb:ag w g c0 c1 c2 c3 c4)(hok:ok g):bJ w ok [t] (.slice (some ⟨g,0,none⟩) 1 1):=by
 obtain⟨d,h⟩:=h;obtain⟨b0,b1,b2,b3,b4,-⟩:=hb.c;refine⟨d+1,_,_,rfl,by unfold dW;simp,by unfold dW;simp,by simp[maxLen],⟨by simp[maxLen],.inl ⟨rfl,none,rfl⟩⟩,by simp[maxLen],.inr ⟨g,0,1,rfl,by simp,by simp[maxLen],?_⟩⟩;intro i x hx;cases i with
 | zero=>
  simp only[List.getElem?_cons_zero,Option.some.injEq]at hx;subst hx;exact⟨c0,c1,c2,c3,c4,hok,by simpa using b0,by simpa using b1,by simpa using b2,by simpa using b3,by simpa using b4,h⟩
 | succ i=>simp at hx
def TB (l:List Nat):Nat:=l.foldr max 0
def AB:V->Nat
 | ⟨_,_,_,_,l⟩=>TB (l.map AB)+1
def Ug (xs:List V):Nat:=TB (xs.map AB)
theorem r7:Ug []=0:=rfl
theorem TX(x:V)(xs:List V):Ug (x :: xs)=max (AB x) (Ug xs):=by simp[Ug,TB]
def T7:V->Bool
 | ⟨k,n,s,ks,l⟩=>ce ⟨k,n,s,ks,l⟩&&(l.map T7).all id
def bq (xs:List V):Bool:=(xs.map T7).all id
theorem D9:bq []=true:=rfl
theorem l6(x:V)(xs:List V):bq (x :: xs)=(T7 x&&bq xs):=by simp[bq]
theorem A7(t:V):AB t=Ug t.l+1:=by cases t;rw[AB];rfl
theorem im(t:V):T7 t=(ce t&&bq t.l):=by cases t;rw[T7];rfl
theorem x7(x:V):∀ (xs:List V),Ug (xs++[x])=max (Ug xs) (AB x)
 | []=>by simp[r7,TX]
 | y :: xs=>by rw[List.cons_append,TX,TX,x7 x xs];omega
theorem xq(x:V):∀ (xs:List V),cnts (xs++[x])=cnts xs+bN x
 | []=>by simp[qf,er]
 | y :: xs=>by rw[List.cons_append,er,er,xq x xs];omega
theorem fe(x:V):∀ (xs:List V),bq (xs++[x])=(bq xs&&T7 x)
 | []=>by simp[D9,l6]
 | y :: xs=>by rw[List.cons_append,l6,l6,fe x xs,Bool.and_assoc]
theorem b8{xs:List V}(h:k < xs.length):xs.take (k+1)=xs.take k++[xs[k]]:=List.take_succ_eq_append_getElem h
theorem Uu{xs:List V}(k:Nat):cnts (xs.take k)<=cnts xs:=by
 induction xs generalizing k with
 | nil=>simp[qf]
 | cons x xs ih=>
  cases k with
  | zero=>simp[qf]
  | succ k=>rw[List.take_succ_cons,er,er];have:=ih k;omega
theorem Sc{xs:List V}(h:x∈xs):AB x<=Ug xs:=by
 induction xs with
 | nil=>cases h
 | cons y xs ih=>
  rw[TX];rcases List.mem_cons.1 h with rfl | h
  ·omega
  ·have:=ih h;omega
theorem Tn{xs:List V}{D:Nat}(h:∀ x∈xs,AB x<=D):Ug xs<=D:=by
 induction xs with
 | nil=>simp[r7]
 | cons y xs ih=>
  rw[TX];have h1:=h y (by simp);have h2:=ih fun x hx=>h x (by simp[hx]);omega
theorem SR{xs:List V}:bq xs=true↔∀ x∈xs,T7 x=true:=by
 induction xs with
 | nil=>simp[D9]
 | cons y xs ih=>rw[l6,MJ,ih];simp
theorem k8:∀ (l:List V),(∀ x∈l,AB x<=bN x)->Ug l<=cnts l
 | [],_=>by simp[r7,qf]
 | x :: l,h=>by
  rw[TX,er];have h1:=h x (by simp);have h2:=k8 l fun y hy=>h y (by simp[hy]);omega
theorem rr:∀ (t:V),AB t<=bN t
 | ⟨k,n,s,ks,l⟩=>by
  rw[A7,df];have h:∀ x∈l,AB x<=bN x:=fun x hx=>rr x;have:=k8 l h;simp only;omega
theorem Sl(l:List V):Ug l<=cnts l:=k8 l fun x _=>rr x
theorem oe(D:Nat):∀ (t:V),fO D t↔T7 t=true/\AB t<=D:=by
 induction D with
 | zero=>intro t;rw[A7];simp[fO]
 | succ D ih=>
  intro t;rw[im,A7,MJ,SR];constructor
  ·rintro⟨h1,h2⟩;refine⟨⟨h1,fun x hx=>((ih x).1 (h2 x hx)).1⟩,?_⟩;have:=Tn (D:=D) fun x hx=>((ih x).1 (h2 x hx)).2;omega
  ·rintro⟨⟨h1,h2⟩,h3⟩;exact⟨h1,fun x hx=>(ih x).2 ⟨h2 x hx,by have:=Sc hx;omega⟩⟩
theorem Sv(t:V):(decide (AB t<=12)&&decide (bN t<=120)&&T7 t)=aE t:=by
 rw[Bool.eq_iff_iff,FU,oe];simp only[MJ,decide_eq_true_eq];constructor
 ·rintro⟨⟨h1,h2⟩,h3⟩;exact⟨⟨h3,h1⟩,by rw[<-JQ 12 t ((oe 12 t).2 ⟨h3,h1⟩)];exact h2⟩
 ·rintro⟨⟨h3,h1⟩,h2⟩;exact⟨⟨h1,by rw[JQ 12 t ((oe 12 t).2 ⟨h3,h1⟩)];exact h2⟩,h3⟩
theorem EZ(W:LC)(ty:TypeId):(Builtin.append_ #[22,22] ty #[.slice none 0 0,.slice none 0 0]).run prog W=.ok (.slice none 0 0) W:=by
 obtain⟨i0,hi,hz0,hz1,hz2⟩:=info_parts wG;simp[Builtin.append_,run_underlying underlying22,hi,go_sem]
theorem Vr(W:LC)(ok:Nat->Prop)(xs:List Lz)(v:Value)(h:ao W ok xs v)(hl:xs.length<=8000000000000)(ty:TypeId):∃ v' W',(Builtin.append_ #[22,22] ty #[.slice none 0 0,v]).run prog W=.ok v' W'/\ao W' (fun k=>W.heap.size<=k) xs v'/\La W W':=by
 obtain⟨i0,hi,hz0,hz1,hz2⟩:=info_parts wG;have hm:=h.1;have some_case:∀ (ad:Addr) (c:Nat),(∀ j u,(xs.map aR)[j]?=some u->W.cell? (ad.add j)=some u)->(∀ x∈xs,x.length<=maxLen) ->
  ∃ v' W',(Builtin.append_ #[22,22] ty #[.slice none 0 0,.slice (some ad) xs.length c]).run prog W=.ok v' W'/\ao W' (fun k=>W.heap.size<=k) xs v'/\La W W':=by
  intro ad c hc hx;obtain⟨v',W',hr,ho,hg,-,-⟩:=run_append_own_at (P:=prog) W W.heap.size 22 ty 9 i0 _ 1 16 underlying22 hi hz0 hz1 hz2 rfl (by decide) (.slice none 0 0) 0 [] (World.ownsRow_nil _ _ _ _) ad xs.length c (xs.map aR) (by simp) hc (by intro u hu;simp only[List.mem_map]at hu;obtain⟨x,-,rfl⟩:=hu;rfl) (by omega) (by omega) (MG _);refine⟨v',W',hr,kf (n:=xs.length) rfl (by simpa using ho) hx (fun _ h=>h) hm,?_⟩;exact bS (by simpa [Value.ownBlock] using hg)
 rcases h.2 with⟨rfl,a,rfl⟩ | ⟨b,off,c,rfl,h1,h2,h3⟩
 ·cases a with
  | none=>exact⟨_,_,EZ W ty,⟨by simp,.inl ⟨rfl,none,rfl⟩⟩,MK _ _⟩
  | some ad=>exact some_case ad 0 (by simp) (by simp)
 ·refine some_case ⟨b,off,none⟩ c ?_ ?_
  ·intro j u hj;rw[eh];simp only[List.getElem?_map,Option.map_eq_some_iff]at hj;obtain⟨x,hx,rfl⟩:=hj;exact(h3 j x hx).2.2
  ·intro x hx;obtain⟨i,hi⟩:=List.getElem?_of_mem hx;exact(h3 i x hi).1
def Ob (t:V):Prop:=t.kind=5/\t.n=0/\t.s=[]/\t.keys.length=t.l.length/\bD t.keys
theorem Ob.paired(h:Ob t):aK t=true:=by simp[aK,h.1,h.2.2.2.1]
def jM:V:=⟨5,0,[],[],[]⟩
theorem AA:Ob jM:=⟨rfl,rfl,rfl,rfl,List.Pairwise.nil⟩
theorem Jb(hs:ce t=true)(hk:t.kind=5):Ob t:=by
 obtain⟨h1,h2,h3,h4⟩:=gu hs hk;simp only[aK,MJ,decide_eq_true_eq]at h1;exact⟨hk,h3,h4,h1.2,(rJ _ _ h2).2.1⟩
theorem vd{k}{ps:List (Lz × V)}(h:eo k ps=some x):(k,x)∈ps:=by
 induction ps with
 | nil=>cases h
 | cons p ps ih=>
  rw[eo]at h;split at h
  ·rename_i e;cases h;rw[<-e];simp
  ·simp[ih h]
theorem wH:∀ (a b:List (Lz × V)),(a.map Prod.fst).Pairwise (fun x y=>Op.bytesLess x y=true)->(b.map Prod.fst).Pairwise (fun x y=>Op.bytesLess x y=true)->(∀ k,eo k a=eo k b)->a=b
 | [],[],_,_,_=>rfl
 | [],q :: b,_,_,h=>by have:=h q.1;simp[eo]at this
 | p :: a,[],_,_,h=>by have:=h p.1;simp[eo]at this
 | p :: a,q :: b,ha,hb,h=>by
  rw[List.map_cons,List.pairwise_cons]at ha hb;have less:∀ x y:Lz,Op.bytesLess x y=true->Op.bytesLess y x=true->False:=fun x y h1 h2=>by
   have:=cP x y x h1 h2;rw[TE]at this;cases this
  have hk:p.1=q.1:=by
   have h1:=h p.1;have h2:=h q.1;rw[eo,if_pos rfl,eo]at h1;rw[eo]at h2;split at h1
   ·rename_i e;exact e.symm
   ·rename_i e;have m1:=vd h1.symm;have l1:=hb.1 p.1 (List.mem_map.2 ⟨_,m1,rfl⟩);rw[if_neg (fun e'=>e e'.symm),eo,if_pos rfl]at h2;have m2:=vd h2;have l2:=ha.1 q.1 (List.mem_map.2 ⟨_,m2,rfl⟩);exact(less _ _ l1 l2).elim
  have hv:p.2=q.2:=by
   have h1:=h p.1;rw[eo,if_pos rfl,eo,if_pos hk.symm]at h1;exact Option.some.inj h1
  have hp:p=q:=Prod.ext hk hv;subst hp;congr 1
  refine wH a b ha.2 hb.2 fun k=>?_;have h1:=h k;rw[eo,eo]at h1;by_cases e:p.1=k
  ·have n1:eo k a=none:=mG fun r hr e'=>by
    have:=ha.1 r.1 (List.mem_map.2 ⟨r,hr,rfl⟩);rw[e,<-e',TE]at this;cases this
   have n2:eo k b=none:=mG fun r hr e'=>by
    have:=hb.1 r.1 (List.mem_map.2 ⟨r,hr,rfl⟩);rw[e,<-e',TE]at this;cases this
   rw[n1,n2]
  ·rwa [if_neg e,if_neg e]at h1
theorem G8{a b:List Lz}{c d:List V}(h1:a.length=c.length)(h2:b.length=d.length)(h:a.zip c=b.zip d):a=b/\c=d:=by
 have e1:=congrArg (List.map Prod.fst) h;have e2:=congrArg (List.map Prod.snd) h;rw[List.map_fst_zip (by omega),List.map_fst_zip (by omega)]at e1;rw[List.map_snd_zip (by omega),List.map_snd_zip (by omega)]at e2;exact⟨e1,e2⟩
theorem Tw{u}(ht:Ob t)(hu:Ob u)(h:∀ k,aS t k=aS u k):t=u:=by
 have hz:t.keys.zip t.l=u.keys.zip u.l:=wH _ _
  (by rw[List.map_fst_zip (by have:=ht.2.2.2.1;omega)];exact ht.2.2.2.2)
  (by rw[List.map_fst_zip (by have:=hu.2.2.2.1;omega)];exact hu.2.2.2.2)
  fun k=>by rw[<-ft ht.paired,<-ft hu.paired];exact h k
 obtain⟨e1,e2⟩:=G8 ht.2.2.2.1 hu.2.2.2.1 hz;rw[<-Ai t,<-Ai u,ht.1,hu.1,ht.2.1,hu.2.1,ht.2.2.1,hu.2.2.1,e1,e2]
theorem ez:∀ (a b:Lz),Op.bytesLess a b=false->a≠b->Op.bytesLess b a=true
 | [],[],_,h=>absurd rfl h
 | [],_ :: _,h,_=>by simp[Op.bytesLess]at h
 | _ :: _,[],_,_=>by simp[Op.bytesLess]
 | x :: a,y :: b,h,hne=>by
  simp only[Op.bytesLess,Bool.or_eq_false_iff,decide_eq_false_iff_not,Bool.and_eq_false_iff]at h;simp only[Op.bytesLess,Bool.or_eq_true,MJ,decide_eq_true_eq,beq_iff_eq];by_cases e:x=y
  ·subst e;refine .inr ⟨rfl,ez a b ?_ (fun e=>hne (by rw[e]))⟩;rcases h.2 with h2 | h2
   ·simp at h2
   ·exact h2
  ·left;have h1:=h.1;rw[UInt8.lt_iff_toNat_lt]at *;have:x.toNat≠y.toNat:=fun e'=>e (UInt8.toNat_inj.1 e');omega
theorem Dw{key ks}(h:bD ks)(hn:key ∉ ks):bD (ks.take (qW key ks)++key :: ks.drop (qW key ks)):=by
 unfold bD at *;induction ks with
 | nil=>simp[qW]
 | cons a ks ih=>
  rw[List.pairwise_cons]at h;simp only[List.mem_cons,not_or]at hn;unfold qW;rw[List.takeWhile_cons];split
  ·rename_i hl;simp only[My,List.take_succ_cons,List.drop_succ_cons,List.cons_append];rw[List.pairwise_cons];refine⟨?_,ih h.2 hn.2⟩;intro x hx;rw[List.mem_append]at hx;rcases hx with hx | hx
   ·exact h.1 x (List.mem_of_mem_take hx)
   ·rcases List.mem_cons.1 hx with rfl | hx
    ·exact hl
    ·exact h.1 x (List.mem_of_mem_drop hx)
  ·rename_i hl;simp only[List.length_nil,List.take_zero,List.drop_zero,List.nil_append];have hka:=ez _ _ (by simpa using hl) (fun e=>hn.1 e.symm);rw[List.pairwise_cons];refine⟨?_,List.pairwise_cons.2 h⟩;intro x hx;rcases List.mem_cons.1 hx with rfl | hx
   ·exact hka
   ·exact cP _ _ _ hka (h.1 x hx)
theorem mo(h:Ob t)(k x):Ob (aG t k x):=by
 have hp:=h.paired;have hp':=ku hp k x;simp only[aK,MJ,decide_eq_true_eq]at hp';refine⟨hp'.1,?_,?_,hp'.2,?_⟩
 ·unfold aG;rw[if_pos hp];split <;> exact h.2.1
 ·unfold aG;rw[if_pos hp];split <;> exact h.2.2.1
 ·unfold aG;rw[if_pos hp];split
  ·exact h.2.2.2.2
  ·rename_i hi;exact Dw h.2.2.2.2 (oU hi)
theorem ie(h:Ob t)(k):Ob (bH t k):=by
 unfold bH;split
 ·rename_i i hi;obtain⟨-,-,h1,h2⟩:=fW hi;have hl:=h.2.2.2.1;refine⟨h.1,h.2.1,h.2.2.1,?_,h.2.2.2.2.sublist (Hh _ _)⟩;simp only[Mx,MC,MB];omega
 ·exact h
theorem mg(h:Ob t){k k'}(hne:k'≠k):aS (bH t k) k'=aS t k':=by
 have ho:=ie h k;rw[ft ho.paired,ft h.paired];have hl:=h.2.2.2.1;unfold bH at ho ⊢;cases hi:dO t k with
 | none=>rfl
 | some i=>
  obtain⟨-,h0,h1,h2⟩:=fW hi;have hk:=(iw h0).2;simp only;rw[List.zip_append (by simp[hl]),dU,mR t.keys t.l i hl,dU];congr 1
  rw[tZ hk,ME h1,List.zip_cons_cons,eo,if_neg (fun e=>hne e.symm)]
theorem xt(h:Ob t):((t.keys.zip t.l).map Prod.fst).Nodup:=by
 rw[List.map_fst_zip (by have:=h.2.2.2.1;omega)];exact nT h.2.2.2.2
def cD (v:V):V:=if v.kind=5 then v else jM
theorem ul{v}(h:v.kind=5->Ob v):Ob (cD v):=by
 unfold cD;split
 ·exact h (by assumption)
 ·exact AA
theorem lG{k}(h:aS t k=some x):x∈t.l:=by
 unfold aS at h;rw[Option.bind_eq_some_iff]at h;obtain⟨i,-,h⟩:=h;exact List.mem_of_getElem? h
section
open Go.Lib (index count replaceK replaceAll split splitK)
def HO:Nat->V->Prop
 | 0,_=>False
 | D+1,t=>(t.kind=5->Ob t)/\∀ x∈t.l,HO D x
def fL (t:V):Prop:=∃ D,HO D t
theorem HO.succ:∀ (D:Nat) {t:V},HO D t->HO (D+1) t
 | 0,_,h=>h.elim
 | D+1,_,h=>⟨h.1,fun x hx=>HO.succ D (h.2 x hx)⟩
theorem HO.le{D E}(h:D<=E)(ht:HO D t):HO E t:=by
 induction h with
 | refl=>exact ht
 | step _ ih=>exact ih.succ
theorem fO.ho:∀ (D:Nat) {t:V},fO D t->HO D t
 | 0,_,h=>h
 | D+1,_,h=>⟨fun hk=>Jb h.1 hk,fun x hx=>fO.ho D (h.2 x hx)⟩
theorem kg(h:aE t=true):fL t:=⟨12,(fh h).ho⟩
theorem fL.ob(h:fL t)(hk:t.kind=5):Ob t:=by
 obtain⟨D,h⟩:=h;cases D with
 | zero=>exact h.elim
 | succ D=>exact h.1 hk
theorem tV{k}(h:fL t)(hm:aS t k=some x):fL x:=by
 obtain⟨D,h⟩:=h;cases D with
 | zero=>exact h.elim
 | succ D=>exact⟨D,h.2 x (lG hm)⟩
theorem uw:fL aM:=⟨1,fun h=>by simp[aM]at h,fun x hx=>by simp[aM]at hx⟩
theorem Eo:fL jM:=⟨1,fun _=>AA,fun x hx=>by simp[jM]at hx⟩
theorem Bs(h:fL t):fL (cD t):=by
 unfold cD;split
 ·exact h
 ·exact Eo
theorem fL.obOf(h:fL t):Ob (cD t):=ul h.ob
theorem lV(h:fL t)(k):fL ((aS t k).getD aM):=by
 cases hm:aS t k with
 | none=>exact uw
 | some x=>exact tV h hm
theorem kC(t k):aS (cD t) k=aS t k:=by
 unfold cD;split
 ·rfl
 ·rename_i h;simp[aS,dO,aK,h,jM,TN]
theorem Gy{k}(h:y∈(aG t k x).l):y∈t.l\/y=x:=by
 unfold aG at h;split at h
 ·split at h
  ·simp only[List.mem_append,List.mem_cons]at h;rcases h with h | h | h
   ·exact .inl (List.mem_of_mem_take h)
   ·exact .inr h
   ·exact .inl (List.mem_of_mem_drop h)
  ·simp only[List.mem_append,List.mem_cons]at h;rcases h with h | h | h
   ·exact .inl (List.mem_of_mem_take h)
   ·exact .inr h
   ·exact .inl (List.mem_of_mem_drop h)
 ·exact .inl h
theorem U6{k}(h:y∈(bH t k).l):y∈t.l:=by
 unfold bH at h;split at h
 ·simp only[List.mem_append]at h;rcases h with h | h
  ·exact List.mem_of_mem_take h
  ·exact List.mem_of_mem_drop h
 ·exact h
theorem vL(ht:fL t)(ho:Ob t)(hx:fL x)(k):fL (aG t k x):=by
 obtain⟨D,ht⟩:=ht;obtain⟨E,hx⟩:=hx;cases D with
 | zero=>exact ht.elim
 | succ D=>
  refine⟨D+E+1,fun _=>mo ho k x,fun y hy=>?_⟩;rcases Gy hy with h | rfl
  ·exact(ht.2 y h).le (by omega)
  ·exact hx.le (by omega)
theorem nU(ht:fL t)(ho:Ob t)(k):fL (bH t k):=by
 obtain⟨D,ht⟩:=ht;cases D with
 | zero=>exact ht.elim
 | succ D=>exact⟨D+1,fun _=>ie ho k,fun y hy=>ht.2 y (U6 hy)⟩
theorem Dk(h:Ob t){k}(hm:aS t k=some y):aG t k y=t:=by
 refine Tw (mo h k y) h fun k'=>?_;by_cases e:k'=k
 ·rw[e,pQ h.paired,hm]
 ·rw[mJ h.paired _ _ _ e]
def dr:List Lz->V->Option V
 | [],v=>some v
 | n :: ns,v=>(aS v n).bind (dr ns)
def TF:List Lz->V->V->V
 | [],v,x=>if v.kind=5/\x.kind=5 then v else x
 | n :: ns,v,x=>aG (cD v) n (TF ns ((aS v n).getD aM) x)
theorem iY:∀ (ns:List Lz) (v x:V),fL v->fL x->fL (TF ns v x)
 | [],v,x,hv,hx=>by unfold TF;split <;> assumption
 | n :: ns,v,x,hv,hx=>vL (Bs hv) hv.obOf (iY ns _ x (lV hv n) hx) n
theorem vZ{ns}(h:ns≠[]):dr ns aM=none:=by
 cases ns with
 | nil=>exact absurd rfl h
 | cons n ns=>simp[dr,aS,dO,aK,aM]
theorem uO:∀ (ns:List Lz) (v x:V),fL v->dr ns (TF ns v x)=some (if ((dr ns v).getD aM).kind=5/\x.kind=5 then (dr ns v).getD aM else x)
 | [],v,x,hv=>by simp only[dr,TF,Option.getD_some];rfl
 | n :: ns,v,x,hv=>by
  unfold TF;rw[dr,pQ hv.obOf.paired,Option.bind_some,uO ns _ x (lV hv n)];rw[dr];cases hm:aS v n with
  | some y=>simp
  | none=>
   simp only[Option.getD_none,Option.bind_none];cases ns with
   | nil=>simp only[dr,Option.getD_some];rfl
   | cons m ns=>rw[vZ (by simp)];rfl
theorem jt:∀ (ns b:List Lz) (v x:V),fL v->¬ns <+: b->¬b <+: ns->dr b (TF ns v x)=dr b v
 | [],b,v,x,hv,h1,_=>absurd (List.nil_prefix) h1
 | n :: ns,[],v,x,hv,_,h2=>absurd (List.nil_prefix) h2
 | n :: ns,m :: bs,v,x,hv,h1,h2=>by
  unfold TF;rw[dr,dr];by_cases e:m=n
  ·subst e;rw[pQ hv.obOf.paired,Option.bind_some,jt ns bs _ x (lV hv m) (fun h=>h1 (List.cons_prefix_cons.2 ⟨rfl,h⟩)) (fun h=>h2 (List.cons_prefix_cons.2 ⟨rfl,h⟩))];cases hm:aS v m with
   | some y=>rfl
   | none=>
    have:bs≠[]:=fun e=>h2 (by rw[e];exact List.cons_prefix_cons.2 ⟨rfl,List.nil_prefix⟩);simp[vZ this]
  ·rw[mJ hv.obOf.paired _ _ _ e,kC]
theorem gB{n ns v}(h:dr (n :: ns) v=some y):v.kind=5/\∃ z,aS v n=some z/\dr ns z=some y:=by
 unfold dr at h;cases hm:aS v n with
 | none=>rw[hm]at h;cases h
 | some z=>
  rw[hm]at h;refine⟨?_,z,rfl,h⟩;by_cases hk:v.kind=5
  ·exact hk
  ·simp[aS,dO,aK,hk]at hm
def gI:List Lz->V->V
 | [],v=>v
 | [n],v=>bH v n
 | n :: m :: ns,v=>if (gI (m :: ns) ((aS v n).getD aM)).l=[] then bH v n else aG v n (gI (m :: ns) ((aS v n).getD aM))
theorem QP{b v}(h:dr b v=some y)(hb:b≠[]):v.l≠[]:=by
 cases b with
 | nil=>exact absurd rfl hb
 | cons m bs=>
  obtain⟨hk,z,hm,hz⟩:=gB h;exact List.ne_nil_of_mem (lG hm)
theorem tr:∀ (ns:List Lz) (v:V),fL v->v.kind=5->(∃ y,dr ns v=some y)->fL (gI ns v)/\(gI ns v).kind=(if ns=[] then v.kind else 5)
 | [],v,hv,_,_=>⟨hv,by simp[gI]⟩
 | [n],v,hv,hk,_=>⟨nU hv (hv.ob hk) n,(ie (hv.ob hk) n).1⟩
 | n :: m :: ns,v,hv,hk,⟨y,hy⟩=>by
  obtain⟨-,z,hm,hz⟩:=gB hy;have hkz:z.kind=5:=(gB hz).1;have ih:=tr (m :: ns) z (tV hv hm) hkz ⟨y,hz⟩;unfold gI;rw[hm,Option.getD_some];split
  ·exact⟨nU hv (hv.ob hk) n,(ie (hv.ob hk) n).1⟩
  ·exact⟨vL hv (hv.ob hk) ih.1 n,(mo (hv.ob hk) n _).1⟩
def jF (a b:List Lz):Prop:=¬a <+: b/\¬b <+: a
theorem jF.symm{a b}(h:jF a b):jF b a:=⟨h.2,h.1⟩
theorem jF.cons{a b}(h:jF a b)(k):jF (k :: a) (k :: b):=
 ⟨fun e=>h.1 (List.cons_prefix_cons.1 e).2,fun e=>h.2 (List.cons_prefix_cons.1 e).2⟩
theorem rj{k m}(h:k≠m)(a b):jF (k :: a) (m :: b):=
 ⟨fun e=>h (List.cons_prefix_cons.1 e).1,fun e=>h (List.cons_prefix_cons.1 e).1.symm⟩
def jK:Nat->V->List (List Lz)
 | 0,_=>[]
 | D+1,v=>(v.keys.zip v.l).flatMap fun p=>if p.2.kind=5/\p.2.l≠[] then (jK D p.2).map (p.1 :: ·) else [[p.1]]
def Ja (x:V):Prop:=¬(x.kind=5/\x.l≠[])
theorem zm{D v ns}(h:ns∈jK (D+1) v):∃ k x,(k,x)∈v.keys.zip v.l/\((x.kind=5/\x.l≠[])/\(∃ r,r∈jK D x/\ns=k :: r)\/Ja x/\ns=[k]):=by
 unfold jK at h;rw[List.mem_flatMap]at h;obtain⟨⟨k,x⟩,hp,h⟩:=h;refine⟨k,x,hp,?_⟩;by_cases hc:x.kind=5/\x.l≠[]
 ·rw[if_pos hc,List.mem_map]at h;obtain⟨r,hr,rfl⟩:=h;exact .inl ⟨hc,r,hr,rfl⟩
 ·rw[if_neg hc,List.mem_singleton]at h;exact .inr ⟨hc,h⟩
theorem Gt{D v ns}(h:ns∈jK D v):ns≠[]:=by
 cases D with
 | zero=>simp[jK]at h
 | succ D=>
  obtain⟨k,x,-,⟨-,r,-,rfl⟩ | ⟨-,rfl⟩⟩:=zm h <;> simp
theorem uU{ps:List (Lz × V)}(hn:(ps.map Prod.fst).Nodup){k}(h:(k,x)∈ps):eo k ps=some x:=by
 induction ps with
 | nil=>cases h
 | cons p ps ih=>
  rw[List.map_cons,List.nodup_cons]at hn;rcases List.mem_cons.1 h with e | h
  ·subst e;simp[eo]
  ·have:p.1≠k:=fun e=>hn.1 (by rw[e];exact List.mem_map.2 ⟨(k,x),h,rfl⟩);rw[eo,if_neg this,ih hn.2 h]
theorem qI{v k}(h:Ob v)(hx:(k,x)∈v.keys.zip v.l):aS v k=some x:=by
 rw[ft h.paired];exact uU (xt h) hx
theorem HO.item{D v k}(h:HO (D+1) v)(hx:(k,x)∈v.keys.zip v.l):HO D x:=h.2 x (List.of_mem_zip hx).2
theorem Vg:∀ (D:Nat) (v:V) (ns:List Lz),HO D v->v.kind=5->ns∈jK D v->∃ x,dr ns v=some x/\Ja x
 | 0,v,ns,h,_,_=>h.elim
 | D+1,v,ns,h,hk,hn=>by
  obtain⟨k,x,hp,⟨hc,r,hr,rfl⟩ | ⟨hl,rfl⟩⟩:=zm hn
  ·obtain⟨y,h1,h2⟩:=Vg D x r (h.item hp) hc.1 hr;exact⟨y,by rw[dr,qI (h.1 hk) hp];exact h1,h2⟩
  ·exact⟨x,by rw[dr,qI (h.1 hk) hp];rfl,hl⟩
theorem rS:∀ (D:Nat) (v:V),HO D v->v.kind=5->(jK D v).Pairwise jF
 | 0,v,h,_=>h.elim
 | D+1,v,h,hk=>by
  have hnd:=xt (h.1 hk);have hit:∀ p∈v.keys.zip v.l,HO D p.2:=fun p hp=>h.item (k:=p.1) (x:=p.2) hp;unfold jK;generalize v.keys.zip v.l=ps at *;clear h hk;induction ps with
  | nil=>exact List.Pairwise.nil
  | cons p ps ih=>
   rw[List.map_cons,List.nodup_cons]at hnd;rw[List.flatMap_cons,List.pairwise_append];refine⟨?_,ih hnd.2 (fun q hq=>hit q (List.mem_cons_of_mem _ hq)),?_⟩
   ·by_cases hc:p.2.kind=5/\p.2.l≠[]
    ·rw[if_pos hc];rw[List.pairwise_map];exact(rS D p.2 (hit p (by simp)) hc.1).imp fun h=>h.cons _
    ·rw[if_neg hc];simp
   ·intro a ha b hb;rw[List.mem_flatMap]at hb;obtain⟨q,hq,hb⟩:=hb;have hne:p.1≠q.1:=fun e=>hnd.1 (by rw[e];exact List.mem_map.2 ⟨q,hq,rfl⟩);have ha':∃ r,a=p.1 :: r:=by
     split at ha
     ·rw[List.mem_map]at ha;obtain⟨r,-,rfl⟩:=ha;exact⟨r,rfl⟩
     ·rw[List.mem_singleton]at ha;exact⟨[],ha⟩
    have hb':∃ r,b=q.1 :: r:=by
     split at hb
     ·rw[List.mem_map]at hb;obtain⟨r,-,rfl⟩:=hb;exact⟨r,rfl⟩
     ·rw[List.mem_singleton]at hb;exact⟨[],hb⟩
    obtain⟨r,rfl⟩:=ha';obtain⟨s,rfl⟩:=hb';exact rj hne r s
def il (LQ:V) (L:List (List Lz)) (v:V):V:=L.foldl (fun v a=>TF a v ((dr a LQ).getD aM)) v
theorem Aa:∀ (ns:List Lz) (v x:V),fL v->dr ns v=some x->fL x
 | [],v,x,h,e=>by cases e;exact h
 | n :: ns,v,x,h,e=>by
  obtain⟨-,z,hm,hz⟩:=gB e;exact Aa ns z x (tV h hm) hz
theorem jW{LQ}(h:fL LQ)(a):fL ((dr a LQ).getD aM):=by
 cases e:dr a LQ with
 | none=>exact uw
 | some x=>exact Aa a LQ x h e
theorem qC{LQ}(hw:fL LQ){b}:∀ (L:List (List Lz)) (v:V),(∀ a∈L,jF a b)->fL v->dr b (il LQ L v)=dr b v
 | [],v,_,_=>rfl
 | a :: L,v,hL,h=>by
  have e:il LQ (a :: L) v=il LQ L (TF a v ((dr a LQ).getD aM)):=rfl;rw[e,qC hw L _ (fun c hc=>hL c (by simp[hc])) (iY a v _ h (jW hw a)),jt a b v _ h (hL a (by simp)).1 (hL a (by simp)).2]
theorem rL{LQ}(hw:fL LQ){b}:∀ (L:List (List Lz)) (v:V),L.Pairwise jF->fL v->b∈L ->
 dr b (il LQ L v)=some (if ((dr b v).getD aM).kind=5/\((dr b LQ).getD aM).kind=5 then (dr b v).getD aM else (dr b LQ).getD aM)
 | [],v,_,_,hb=>by cases hb
 | a :: L,v,hp,h,hb=>by
  rw[List.pairwise_cons]at hp;have e:il LQ (a :: L) v=il LQ L (TF a v ((dr a LQ).getD aM)):=rfl;rw[e];rcases List.mem_cons.1 hb with rfl | hb
  ·rw[qC hw L _ (fun c hc=>(hp.1 c hc).symm) (iY _ v _ h (jW hw _)),uO _ v _ h]
  ·rw[rL hw L _ hp.2 (iY a v _ h (jW hw a)) hb];have ha:=hp.1 b hb;rw[jt a b v _ h ha.1 ha.2]
def iI (keep:List Lz->Bool) (had:List (List Lz)) (v:V):V:=had.foldl (fun v p=>if (dr p v).isSome&&!keep p then gI p v else v) v
theorem mS{keep:List Lz->Bool}:∀ (had:List (List Lz)) (v:V),(∀ p∈had,p≠[])->fL v->v.kind=5->fL (iI keep had v)/\(iI keep had v).kind=5
 | [],v,_,h,hk=>⟨h,hk⟩
 | p :: had,v,hne,h,hk=>by
  have e:iI keep (p :: had) v=iI keep had (if (dr p v).isSome&&!keep p then gI p v else v):=rfl;rw[e];split
  ·rename_i hc;rw[MJ,Option.isSome_iff_exists]at hc;obtain⟨h1,h2⟩:=tr p v h hk hc.1;rw[if_neg (hne p (by simp))]at h2;exact mS had _ (fun q hq=>hne q (by simp[hq])) h1 h2
  ·exact mS had _ (fun q hq=>hne q (by simp[hq])) h hk
theorem kz(n ns):aU (n :: ns)=47 :: (dY n++aU ns):=by simp[aU]
theorem vT(a b):aU (a++b)=aU a++aU b:=by simp[aU]
theorem PY(s):47 ∉ dY s:=by rw[iR];exact Ef s
theorem QB{a b}(h:dY a=dY b):a=b:=by
 rw[iR,iR]at h;rw[<-jJ a,h,jJ]
theorem ph:∀ (X Y r s:Lz),47 ∉ X->47 ∉ Y->(s=[]\/∃ s',s=47 :: s')->X++47 :: r <+: Y++s->X=Y/\47 :: r <+: s
 | [],[],r,s,_,_,_,h=>⟨rfl,h⟩
 | [],y :: Y,r,s,_,hY,_,h=>by
  simp only[List.nil_append,List.cons_append,List.cons_prefix_cons]at h;exact absurd (by rw[h.1];simp) hY
 | x :: X,[],r,s,hX,_,hs,h=>by
  rcases hs with rfl | ⟨s',rfl⟩
  ·simp at h
  ·simp only[List.cons_append,List.nil_append,List.cons_prefix_cons]at h;exact absurd (by rw[<-h.1];simp) hX
 | x :: X,y :: Y,r,s,hX,hY,hs,h=>by
  simp only[List.cons_append,List.cons_prefix_cons]at h;obtain⟨h1,h2⟩:=ph X Y r s (fun e=>hX (by simp[e])) (fun e=>hY (by simp[e])) hs h.2;exact⟨by rw[h.1,h1],h2⟩
theorem Qi(b):aU b=[]\/∃ s,aU b=47 :: s:=by
 cases b with
 | nil=>exact .inl rfl
 | cons n ns=>exact .inr ⟨_,kz n ns⟩
def aboveP (p q:Lz):Bool:=(p++[47]).isPrefixOf q
theorem PG:∀ (a b:List Lz),aboveP (aU a) (aU b)=true↔a <+: b/\a≠b
 | [],[]=>by simp[aboveP,aU]
 | [],n :: ns=>by rw[kz];simp[aboveP,aU]
 | n :: ns,[]=>by rw[kz];simp[aboveP,aU]
 | n :: ns,m :: ms=>by
  rw[kz,kz];unfold aboveP;rw[List.isPrefixOf_iff_prefix,List.cons_append,List.cons_prefix_cons,List.append_assoc];have ih:=PG ns ms;unfold aboveP at ih;rw[List.isPrefixOf_iff_prefix]at ih;have hh:∃ r,aU ns++[47]=47 :: r:=by
   rcases Qi ns with h | ⟨s,h⟩
   ·exact⟨[],by rw[h];rfl⟩
   ·exact⟨s++[47],by rw[h];rfl⟩
  obtain⟨r,hr⟩:=hh;constructor
  ·rintro⟨-,h⟩;rw[hr]at h ih;obtain⟨h1,h2⟩:=ph _ _ _ _ (PY n) (PY m) (Qi ms) h;obtain⟨h3,h4⟩:=ih.1 h2;have e:=QB h1;subst e;exact⟨List.cons_prefix_cons.2 ⟨rfl,h3⟩,fun e=>h4 (by simpa using e)⟩
  ·rintro⟨h1,h2⟩;obtain⟨rfl,h3⟩:=List.cons_prefix_cons.1 h1;exact⟨rfl,(List.prefix_append_right_inj _).2 (ih.2 ⟨h3,fun e=>h2 (by rw[e])⟩)⟩
theorem Ql(a b):jF a b↔a≠b/\aboveP (aU a) (aU b)=false/\aboveP (aU b) (aU a)=false:=by
 have h1:=PG a b;have h2:=PG b a;constructor
 ·rintro⟨h3,h4⟩;refine⟨fun e=>h3 (by rw[e];exact List.prefix_rfl),?_,?_⟩
  ·rw[Bool.eq_false_iff];exact fun e=>h3 (h1.1 e).1
  ·rw[Bool.eq_false_iff];exact fun e=>h4 (h2.1 e).1
 ·rintro⟨h3,h4,h5⟩;refine⟨fun e=>?_,fun e=>?_⟩
  ·rw[h1.2 ⟨e,h3⟩]at h4;cases h4
  ·rw[h2.2 ⟨e,fun h=>h3 h.symm⟩]at h5;cases h5
end
section
open Go.Lib (index count replaceK replaceAll split splitK)
def rp (c:UInt8):Bool:=decide (97<=c.toNat)&&decide (c.toNat<=122)
def bT (s:Lz):Bool:=!s.isEmpty&&decide (s.length<=12)&&s.all rp
def aw (p:Lz):List Lz:=(ax p).1
def oh (p:Lz):Bool:=decide ((ax p).2=0)&&!(aw p).isEmpty
theorem mO{p b}(h:ax p=(b,0)):p.length<=2000/\aU b=p:=by
 refine⟨?_,zd p b h⟩;cases p with
 | nil=>simp
 | cons c r=>
  simp only[ax]at h;split at h
  ·simp at h
  ·rename_i h9;simp only[not_or]at h9;omega
theorem jh(s):s.length<=(dY s).length/\(dY s).length<=2 * s.length:=by
 rw[iR];refine⟨?_,GY s⟩;induction s with
 | nil=>simp
 | cons c r ih2=>
  simp only[List.flatMap_cons,Mx,My];have:1<=(iq c).length:=by unfold iq;split <;> (try split) <;> simp
  omega
theorem sL{b x}(h:x∈b):x.length<=(aU b).length:=by
 induction b with
 | nil=>cases h
 | cons y ys ih=>
  rw[kz];simp only[My,Mx];rcases List.mem_cons.1 h with rfl | h
  ·have:=(jh x).1;omega
  ·have:=ih h;omega
theorem uM{p}(h:oh p=true):ax p=(aw p,0)/\aw p≠[]/\aU (aw p)=p:=by
 unfold oh at h;rw[MJ,decide_eq_true_eq]at h;have e:ax p=(aw p,0):=by unfold aw;rw[<-h.1]
 refine⟨e,fun h9=>by rw[h9]at h;simp at h,(mO e).2⟩
theorem Kh{ns}(h:(aU ns).length<=2000)(hne:ns≠[]):oh (aU ns)=true/\aw (aU ns)=ns:=by
 have e:=yh ns h;have e2:aw (aU ns)=ns:=by unfold aw;rw[e]
 refine⟨?_,e2⟩;unfold oh;rw[e2,e];cases ns with
 | nil=>exact absurd rfl hne
 | cons a r=>rfl
def dg:List Lz->Bool
 | []=>true
 | [_]=>true
 | a :: b :: r=>Op.bytesLess a b&&dg (b :: r)
theorem gZ:∀ (l:List Lz),dg l=true↔bD l
 | []=>by simp[dg,bD]
 | [a]=>by simp[dg,bD]
 | a :: b :: r=>by
  rw[dg,MJ,gZ (b :: r)];unfold bD;rw[List.pairwise_cons (a:=a)];constructor
  ·rintro⟨h1,h2⟩;refine⟨fun x hx=>?_,h2⟩;rcases List.mem_cons.1 hx with rfl | hx
   ·exact h1
   ·exact cP _ _ _ h1 ((List.pairwise_cons.1 h2).1 x hx)
  ·rintro⟨h1,h2⟩;exact⟨h1 b (by simp),h2⟩
theorem lX:∀ (l:List Lz),dg l=true↔∀ i x y,l[i]?=some x->l[i+1]?=some y->Op.bytesLess x y=true
 | []=>by simp[dg]
 | [a]=>by
  simp only[dg,true_iff];intro i x y h1 h2;simp at h2
 | a :: b :: r=>by
  rw[dg,MJ,lX (b :: r)];constructor
  ·rintro⟨h1,h2⟩ i x y hx hy;cases i with
   | zero=>simp at hx hy;subst hx;subst hy;exact h1
   | succ i=>exact h2 i x y (by simpa using hx) (by simpa using hy)
  ·intro h;exact⟨h 0 a b rfl rfl,fun i x y hx hy=>h (i+1) x y (by simpa using hx) (by simpa using hy)⟩
def jj (l:List Lz):Bool:=!l.isEmpty&&l.all oh&&dg l
structure aL where
 name:Lz
 paths:List Lz
def ol (o:aL):Bool:=bT o.name&&jj o.paths
def TC (l:List aL):Bool:=decide (l.length<=6)&&l.all ol&&dg (l.map aL.name)
def yU (x:Lz):List Lz->List Lz
 | []=>[x]
 | y :: ys=>if Op.bytesLess y x then y :: yU x ys else x :: y :: ys
def ix (l:List Lz):List Lz:=l.foldr yU []
def xA (a b:Lz):Prop:=Op.bytesLess b a=false
theorem Hy{a b}(h1:xA a b)(h2:xA b a):a=b:=by
 apply Classical.byContradiction;intro h;have:=ez a b h2 h;rw[h1]at this;cases this
theorem pA{a b}(h:Op.bytesLess a b=true):xA a b:=by
 unfold xA;cases e:Op.bytesLess b a with
 | false=>rfl
 | true=>have:=cP _ _ _ h e;rw[TE]at this;cases this
theorem ln{a b}(h:xA a b)(hne:a≠b):Op.bytesLess a b=true:=ez b a h fun e=>hne e.symm
theorem rE{a b c}(h1:xA a b)(h2:xA b c):xA a c:=by
 by_cases e:a=b
 ·rw[e];exact h2
 by_cases e2:b=c
 ·rw[<-e2];exact h1
 exact pA (cP _ _ _ (ln h1 e) (ln h2 e2))
theorem oX(x):∀ (l:List Lz),(yU x l).Perm (x :: l)
 | []=>List.Perm.refl _
 | y :: ys=>by
  unfold yU;split
  ·exact((oX x ys).cons y).trans (List.Perm.swap x y ys)
  ·exact List.Perm.refl _
theorem fU:∀ (l:List Lz),(ix l).Perm l
 | []=>List.Perm.refl _
 | x :: l=>(oX x (ix l)).trans ((fU l).cons x)
theorem qH(x):∀ (l:List Lz),l.Pairwise xA->(yU x l).Pairwise xA
 | [],_=>by simp[yU]
 | y :: ys,h=>by
  rw[List.pairwise_cons]at h;unfold yU;split
  ·rename_i hl;rw[List.pairwise_cons];refine⟨fun z hz=>?_,qH x ys h.2⟩;rcases List.mem_cons.1 ((oX x ys).mem_iff.1 hz) with rfl | hz
   ·exact pA hl
   ·exact h.1 z hz
  ·rename_i hl;have hxy:xA x y:=by unfold xA;simpa using hl
   rw[List.pairwise_cons,List.pairwise_cons];refine⟨fun z hz=>?_,h⟩;rcases List.mem_cons.1 hz with rfl | hz
   ·exact hxy
   ·exact rE hxy (h.1 z hz)
theorem jR:∀ (l:List Lz),(ix l).Pairwise xA
 | []=>List.Pairwise.nil
 | x :: l=>qH x _ (jR l)
theorem Ig{l m}(hp:m.Perm l)(hs:m.Pairwise xA):m=ix l:=
 List.Perm.eq_of_pairwise (fun a b _ _ h1 h2=>Hy h1 h2) hs (jR l) (hp.trans (fU l).symm)
def au (t:V):List Lz:=if t.kind=5/\aE t=true then ix ((jK 12 t).map aU) else []
theorem qh(hs:ce t=true)(hk:t.kind=5):∀ k∈t.keys,k.length<=60:=by
 intro k h;have:=(rJ _ _ (gu hs hk).2.1).2.2 k h;simp only[eK,MJ,decide_eq_true_eq]at this;exact this.1
theorem tj:∀ (D:Nat) (t:V) (ns:List Lz),fO D t->t.kind=5->ns∈jK D t->(aU ns).length<=121 * D
 | 0,_,_,h,_,_=>h.elim
 | D+1,t,ns,h,hk,hn=>by
  have key:∀ k x,(k,x)∈t.keys.zip t.l->k.length<=60:=fun k x hp=>qh h.1 hk k (List.of_mem_zip hp).1;obtain⟨k,x,hp,⟨hc,r,hr,rfl⟩ | ⟨hl,rfl⟩⟩:=zm hn
  ·have:=tj D x r (h.2 x (List.of_mem_zip hp).2) hc.1 hr;have h1:=key k x hp;have h2:=(jh k).2;rw[kz];simp only[My,Mx];omega
  ·have h1:=key k x hp;have h2:=(jh k).2;rw[kz];simp only[My,Mx,aU,List.flatMap_nil,List.length_nil];omega
structure uq (t:V) (L:List Lz):Prop where
 rises:bD L
 good:∀ p∈L,oh p=true
 names:∀ ns,ns∈L.map aw↔ns∈jK 12 t
 apart:(L.map aw).Pairwise jF
theorem VL(hk:t.kind=5)(hg:aE t=true){ns}(h:ns∈jK 12 t):oh (aU ns)=true/\aw (aU ns)=ns:=
 Kh (by have:=tj 12 t ns (fh hg) hk h;omega) (Gt h)
theorem mM(hk:t.kind=5)(hg:aE t=true):uq t (au t):=by
 have ho:=(fh hg).ho;have e:au t=ix ((jK 12 t).map aU):=if_pos ⟨hk,hg⟩;have hp:=fU ((jK 12 t).map aU);have hmm:((jK 12 t).map aU).map aw=jK 12 t:=by
  rw[List.map_map];conv=>rhs;rw[<-List.map_id (jK 12 t)]
  exact List.map_congr_left fun ns hns=>(VL hk hg hns).2
 have hpn:((au t).map aw).Perm (jK 12 t):=by rw[e];have:=hp.map aw;rwa [hmm]at this
 have hap:=rS 12 t ho hk;have hap2:((au t).map aw).Pairwise jF:=(hpn.pairwise_iff (fun h=>h.symm)).2 hap;refine⟨?_,?_,fun ns=>hpn.mem_iff,hap2⟩
 ·have h1:(au t).Pairwise xA:=by rw[e];exact jR _
  have h2:(au t).Pairwise (·≠·):=by
   rw[List.pairwise_map]at hap2;exact hap2.imp fun h e=>h.1 (by rw[e];exact List.prefix_rfl)
  exact(h1.and h2).imp fun⟨h3,h4⟩=>ln h3 h4
 ·intro p h;rw[e]at h;obtain⟨ns,hn,rfl⟩:=List.mem_map.1 (hp.mem_iff.1 h);exact(VL hk hg hn).1
open Classical in
noncomputable def fK (LQ v:V) (p:Lz):Bool:=
 match dr (aw p) v with
 | none=>true
 | some x=>!decide (x=(dr (aw p) LQ).getD aM)&&!(decide (x.kind=5)&&decide (((dr (aw p) LQ).getD aM).kind=5))
noncomputable def aV (LQ v:V) (L:List Lz) (p:Lz):Bool:=
 if L.contains p then fK LQ v p else L.any fun q=>aboveP q p || aboveP p q
def dV (stays:Lz->Lz->Bool) (l:List aL):List aL:=
 (l.map fun o=>⟨o.name,o.paths.filter (stays o.name)⟩).filter fun o=>!o.paths.isEmpty
def eu (blk:Lz->Bool) (who:Lz) (l:List aL):List (Lz × Lz):=
 l.flatMap fun o=>(o.paths.filter fun p=>o.name != who&&blk p).map fun p=>(o.name,p)
def cq (l:List aL) (who:Lz):List Lz:=
 match l.find? (fun o=>o.name == who) with
 | some o=>o.paths
 | none=>[]
def concF (l:List aL) (p:Lz):Bool:=l.any fun o=>o.paths.any fun q=>q == p || aboveP q p || aboveP p q
def dj (L:List Lz) (LX:List aL) (had:List Lz) (v:V):V:=
 had.foldl (fun v p=>if (dr (aw p) v).isSome&&!(L.contains p || concF LX p) then gI (aw p) v else v) v
def ed (LQ:V) (L:List Lz) (v:V):V:=L.foldl (fun v p=>TF (aw p) v ((dr (aw p) LQ).getD aM)) v
def bB (l:List aL) (who:Lz):Nat:=l.countP fun o=>Op.bytesLess o.name who
def bP (LX:List aL) (o:aL):List aL:=
 if o.paths=[] then LX else LX.take (bB LX o.name)++o :: LX.drop (bB LX o.name)
noncomputable def cG (v LQ:V) (l:List aL) (who:Lz):List aL:=dV (fun n p=>n != who&&!aV LQ v (au LQ) p) l
noncomputable def gO (v LQ:V) (l:List aL) (who:Lz):V:=ed LQ (au LQ) (dj (au LQ) (cG v LQ l who) (cq l who) v)
noncomputable def eC (v:V) (l:List aL) (who:Lz) (LQ:V) (force:Bool):V × List aL × List (Lz × Lz) × Int:=
 if (v.kind=5/\aE v=true)/\(LQ.kind=5/\aE LQ=true)/\TC l=true/\bT who=true then
  if eu (aV LQ v (au LQ)) who l≠[]/\force=false then (v,l,eu (aV LQ v (au LQ)) who l,5)
  else if aE (gO v LQ l who)=true/\(bP (cG v LQ l who) ⟨who,au LQ⟩).length<=6 then
   (gO v LQ l who,bP (cG v LQ l who) ⟨who,au LQ⟩,[],0)
  else (v,l,[],2)
 else (v,l,[],1)
def ir (v:V) (l:List aL):List aL:=if aE v=true/\TC l=true then dV (fun _ p=>(dr (aw p) v).isSome) l else []
end
def aB (w:LC) (ok:Nat->Prop) (xs:List aL) (v:Value):Prop:=
 xs.length<=maxLen/\(xs=[]/\(∃ a,v=.slice a 0 0)\/∃ b off c,v=.slice (some ⟨b,off,none⟩) xs.length c/\xs.length<=c/\c<=maxLen /\
  ∀ i x,xs[i]?=some x->∃ a n c',x.name.length<=maxLen/\ok b/\w.cell? ⟨b,off+i * 2,none⟩=some (aR x.name)/\w.cell? ⟨b,off+i * 2+1,none⟩=some (.slice a n c')/\ao w ok x.paths (.slice a n c'))
theorem aB.imp{xs}(h:aB w ok xs v)(hc:∀ a x,ok a.block->w.cell? a=some x->ok' a.block/\w'.cell? a=some x):aB w' ok' xs v:=by
 refine⟨h.1,?_⟩;rcases h.2 with h | ⟨b,off,c,e,h1,h2,h3⟩
 ·exact .inl h
 ·refine .inr ⟨b,off,c,e,h1,h2,fun i x hx=>?_⟩;obtain⟨a,n,c',g1,g2,g3,g4,g5⟩:=h3 i x hx;exact⟨a,n,c',g1,(hc ⟨b,off+i * 2,none⟩ _ g2 g3).1,(hc ⟨b,off+i * 2,none⟩ _ g2 g3).2,(hc ⟨b,off+i * 2+1,none⟩ _ g2 g4).2,g5.imp hc⟩
theorem aB.bel{xs}(h:aB w ok xs v)(hb:La w w'):aB w' ok xs v:=
 h.imp fun a x h1 h2=>⟨h1,ah hb h2⟩
theorem aB.low{xs}(h:aB w ok xs v):aB w (Lj ok w) xs v:=
 h.imp fun a x h1 h2=>⟨⟨h1,World.block_lt_of_cell? w a h2⟩,h2⟩
theorem aB.weak{xs}(h:aB w ok xs v)(hk:∀ k,ok k->ok' k):aB w ok' xs v:=
 h.imp fun a x h1 h2=>⟨hk _ h1,h2⟩
theorem aB.form{xs}(h:aB w ok xs v):∃ a c,v=.slice a xs.length c:=by
 rcases h.2 with⟨rfl,a,rfl⟩ | ⟨b,off,c,rfl,-⟩
 ·exact⟨a,0,rfl⟩
 ·exact⟨_,_,rfl⟩
theorem aB.at{xs a}(h:aB w ok xs (.slice a n c))(hk:k < xs.length):∃ b off pa pc,a=some ⟨b,off,none⟩/\xs.length<=c/\c<=9223372036854775807/\w.cell? ⟨b,off+k * 2,none⟩=some (.string ⟨xs[k].name.toArray⟩)/\w.cell? ⟨b,off+k * 2+1,none⟩=some (.slice pa xs[k].paths.length pc) /\
 ao w ok xs[k].paths (.slice pa xs[k].paths.length pc)/\xs[k].name.length<=9223372036854775807:=by
 rcases h.2 with⟨e,_⟩ | ⟨b,off,c',e,h1,h2,h3⟩
 ·rw[e]at hk;simp at hk
 ·simp only[Value.slice.injEq]at e;obtain⟨rfl,-,rfl⟩:=e;obtain⟨a,n,c',g1,g2,g3,g4,g5⟩:=h3 k xs[k] (Mw hk);obtain⟨a9,c9,e9⟩:=g5.form;simp only[Value.slice.injEq]at e9;obtain⟨rfl,rfl,rfl⟩:=e9;exact⟨b,off,a,c',rfl,h1,h2,g3,g4,g5,g1⟩
theorem aB.nil(w ok):aB w ok [] (.slice none 0 0):=⟨by simp,.inl ⟨rfl,none,rfl⟩⟩
theorem rl{a b}{t:TypeId}(h:w.heap[g]?=some (.cells #[a,b] t)):w.cell? ⟨g,0,none⟩=some a/\w.cell? ⟨g,1,none⟩=some b:=by
 refine⟨?_,?_⟩ <;> simp[World.cell?,h]
theorem pR{xs:List Lz}{j:Nat}(h:j+1 < xs.length):dg (xs.take (j+2))=(dg (xs.take (j+1))&&Op.bytesLess xs[j] xs[j+1]):=by
 rw[Bool.eq_iff_iff,MJ,lX,lX];constructor
 ·intro h9;refine⟨fun i x y hx hy=>h9 i x y ?_ ?_,h9 j _ _ ?_ ?_⟩
  ·rw[List.getElem?_take]at hx ⊢;split at hx;rw[if_pos (by omega)];exact hx;cases hx
  ·rw[List.getElem?_take]at hy ⊢;split at hy;rw[if_pos (by omega)];exact hy;cases hy
  ·rw[List.getElem?_take,if_pos (by omega)];exact Mw (by omega)
  ·rw[List.getElem?_take,if_pos (by omega)];exact Mw h
 ·rintro⟨h1,h2⟩ i x y hx hy;by_cases e:i=j
  ·subst e;rw[List.getElem?_take,if_pos (by omega),Mw (by omega)]at hx;rw[List.getElem?_take,if_pos (by omega),Mw h]at hy;cases hx;cases hy;exact h2
  ·refine h1 i x y ?_ ?_
   ·rw[List.getElem?_take]at hx hy ⊢;split at hy <;> split at hx <;> (try cases hy) <;> (try cases hx);rw[if_pos (by omega)];assumption
   ·rw[List.getElem?_take]at hy ⊢;split at hy <;> (try cases hy);rw[if_pos (by omega)];assumption
theorem rB(xs:List Lz):dg (xs.take 1)=true:=by
 cases xs with
 | nil=>rfl
 | cons a r=>rfl
theorem EF{xs}(hk:k < xs.length)(h:oh xs[k]=false):jj xs=false:=by
 have:xs.all oh=false:=by rw[List.all_eq_false];exact⟨xs[k],List.getElem_mem _,by simp[h]⟩
 simp[jj,this]
theorem sm{xs j}(hj:j+1 < xs.length)(h:Op.bytesLess xs[j] xs[j+1]=false):dg xs=false:=by
 rw[Bool.eq_false_iff];intro h9;rw[lX]at h9;have:=h9 j _ _ (Mw (by omega)) (Mw hj);rw[h]at this;cases this
theorem ED{xs j}(hj:j+1 < xs.length)(h:Op.bytesLess xs[j] xs[j+1]=false):jj xs=false:=by
 simp[jj,sm hj h]
theorem vz{α:Type}{p:α->Bool}{xs:List α}(hk:k < xs.length)(h:(xs.take k).all p=true)(h2:p xs[k]=true):(xs.take (k+1)).all p=true:=by
 rw[List.take_succ_eq_append_getElem hk,List.all_append,h];simp[h2]
theorem Dc(p q):(Lib.hasPrefix q p&&Lib.hasPrefix (Lib.trimPrefix q p) [47])=(p++[47]).isPrefixOf q:=by
 unfold Lib.trimPrefix Lib.hasPrefix;by_cases h:p.isPrefixOf q=true
 ·obtain⟨r,rfl⟩:=List.isPrefixOf_iff_prefix.1 h;rw[h,if_pos rfl,List.drop_left,Bool.true_and];rw[Bool.eq_iff_iff,List.isPrefixOf_iff_prefix,List.isPrefixOf_iff_prefix,List.prefix_append_right_inj]
 ·have h2:p.isPrefixOf q=false:=Bool.eq_false_iff.2 h;have h3:(p++[47]).isPrefixOf q=false:=by
   rw[Bool.eq_false_iff];intro h9;obtain⟨r,rfl⟩:=List.isPrefixOf_iff_prefix.1 h9;exact h (List.isPrefixOf_iff_prefix.2 ⟨[47]++r,by simp⟩)
  rw[h2,h3];rfl
theorem FL(w:LC)(p q):Calls prog 62 #[aR p,aR q] w fun e w'=>e=.returned (.bool ((p++[47]).isPrefixOf q))/\w'=w:=by
 have CA:=aa (Dc p q);unfold aR;have hpx:=Tryz.strings_CutPrefix ⟨q.toArray⟩ ⟨p.toArray⟩ w;simp only[List.toList_toArray]at hpx;go_enter func62,ntmps62;go_wp2_with fail
 refine hpx.mono ?_;rintro e w1 ⟨rfl,hw1⟩;have hw2:=hw1.symm;subst hw2;clear hpx hw1;cases hb:Lib.hasPrefix q p with
 | false=>
  have R:Ll ((p++[47]).isPrefixOf q=false):=aa (by rw[<-CA.o,hb];rfl);clear hb;go_wp2_with fail
  go_ret;exact⟨by rw[R.o];first | done | rfl,rfl⟩
 | true=>
  have R:Ll ((p++[47]).isPrefixOf q=Lib.hasPrefix (Lib.trimPrefix q p) [47]):=aa (by rw[<-CA.o,hb];rfl);clear hb;have hpy:=Tryz.strings_HasPrefix ⟨(Lib.trimPrefix q p).toArray⟩ ⟨#[47]⟩ w;simp only[List.toList_toArray]at hpy;go_wp2_with fail
  refine hpy.mono ?_;rintro e w2 ⟨rfl,hw3⟩;have hw4:=hw3.symm;subst hw4;clear hpy hw3;go_wp2_with fail
  go_ret;exact⟨by rw[R.o];first | done | rfl,rfl⟩
theorem Kn(w:LC)(n:Nat)(h:n<=4000000):Calls prog 154 #[.slice none 0 0,.int .i64 n] w fun e w'=>∃ v,e=.returned v/\w'.ownsRow w.heap.size 9 1 v 0 []/\La w w':=by
 obtain⟨i0,hi,hz0,hz1,hz2⟩:=info_parts wG;rcases Nat.eq_zero_or_pos n with rfl | h0
 ·go_enter func154,ntmps154;go_wp2
  go_ret;exact⟨_,rfl,World.ownsRow_nil _ _ _ _,MK _ _⟩
 ·have hr:=Lib.run_append_nil_zeros (P:=prog) w 22 3 22 9 i0 _ .i64 .i64 underlying22 underlying3 hi hz0 n h0 (by rw[hz1];omega) (by omega) (by rw[hz2];omega);have hR:=aa hr;clear hr;have e1:¬((n:Int) < 0):=by omega
  have e2:(0:Int) < (n:Int):=by omega
  go_enter func154,ntmps154;go_wp2_with (at_builtin;go_must (refine Lib.wpList_append_run _ rfl _ _ _ _ rfl (.slice none 0 0) (.int .i64 n) rfl rfl _ _ hR.o ?_);refine Ll.o ?_)
  refine aa ?_;have hge:=grownCap_ge w n 0 9;have hle:=grownCap_le_maxLen w n 0 9 (by unfold maxLen;omega);generalize grownCap w n 0 9=cap at hge hle ⊢;clear hR;have O:Ll (∀ cur:Array Value,cur.size=cap * 1->(w.alloc (.cells cur 9)).drew.ownsRow w.heap.size 9 1 (.slice (some ⟨w.heap.size,0,none⟩) 0 cap) 0 []):=by
   intro cur hcur;exact(World.ownsRow_made w cur cap (MG _) hle hcur)
  have hcap:(0:Int)<=(cap:Int):=by omega
  unfold maxLen at hle;go_wp2
  go_ret;refine⟨_,rfl,O.o _ ?_,((MK _ w).alloc (MG _) _).drew⟩;rw[Array.size_append,size_zeroCells,size_zeroCells];simp only[List.size_toArray,My,List.length_nil];omega
def J5 (w:LC) (b off:Nat) (ps:List jY):Prop:=
 ∀ i p,ps[i]?=some p->w.cell? ⟨b,off+i,none⟩=some p.v/\du w 1 p.v p.n p.cells
theorem At(w b off c)(ps:List jY)(h:J5 w b off ps)(hn:dl ps<=1000000)(hl:ps.length<=10)(hlc:ps.length<=c):Calls prog 127 #[.slice (some ⟨b,off,none⟩) ps.length c] w fun e w'=>∃ v,e=.returned v/\w'.ownsRow w.heap.size 9 1 v (dl ps) (fQ ps)/\La w w':=by
 obtain⟨i0,hi,hz0,hz1,hz2⟩:=info_parts wG;have H:=aa h;clear h;go_enter func127,ntmps127;go_wp2_with fail
 go_loop [3,11] (fun n i=>∃ k:Nat,k<=ps.length/\i=.int .i64 k/\n=.int .i64 (dl (ps.take k))) (fun _ i=>ps.length - (intOf i).toNat)
 case atStart=>exact⟨0,Nat.zero_le _,rfl,rfl⟩
 case round=>
  obtain⟨k,hk,rfl,rfl⟩:=hrel;have hs1:=eU ps k;by_cases hlt:k < ps.length
  ·obtain⟨p,hp⟩:∃ p,ps[k]?=some p:=⟨ps[k],Mw hlt⟩
   have hs2:Ll (dl (ps.take (k+1))=dl (ps.take k)+p.n):=aa (by rw[js hp,kH]);have hpn:=(H.o k p hp).2.2.1;have LV:=(H.o k p hp).1;have hf:∃ a cc,p.v=.slice a p.n cc:=by
    rcases (H.o k p hp).2.2.2.2 with⟨e,e0⟩ | ⟨ad,cc,e,_⟩
    ·exact⟨_,_,by rw[e,e0]⟩
    ·exact⟨_,_,e⟩
   obtain⟨a,cc,hv⟩:=hf;rw[hv]at LV;have HP:=aa hp;have HV:=aa hv;clear hp hv;go_wp2_with fail
   go_round
   case rel=>exact⟨k+1,by omega,by go_num,by rw[hs2.o];go_num⟩
   case measure=>simp[intOf];omega
  ·have Mc:k=ps.length:=by omega
   subst Mc;rw[List.take_length];go_wp2_with fail
   refine(Kn _ (dl ps) (by omega)).mono ?_;rintro e w1 ⟨v1,rfl,ho1,hb1⟩;have O1:Ll (w1.ownsRow w.heap.size 9 1 v1 0 []/\La w w1):=⟨ho1,hb1⟩
   clear ho1 hb1 hs1 hlt hk;go_wp2_with fail
   go_loopg [6,27] ps.length (fun g nv i wr=>∃ k:Nat,k<=ps.length/\g=ps.length - k/\i=.int .i64 k/\wr.ownsRow w.heap.size 9 1 nv (dl (ps.take k)) (fQ (ps.take k))/\La w wr)
   case atStart=>exact⟨0,Nat.zero_le _,rfl,rfl,O1.o.1,O1.o.2⟩
   case round=>
    obtain⟨k,hk,hgk,rfl,ho,hb⟩:=hrel;have A:Ll (gk=ps.length - k/\wr.ownsRow w.heap.size 9 1 u6 (dl (ps.take k)) (fQ (ps.take k))/\La w wr):=⟨hgk,ho,hb⟩
    have L9:=hb.size;have hs1:=eU ps k;by_cases hlt:k < ps.length
    ·obtain⟨p,hp⟩:∃ p,ps[k]?=some p:=⟨ps[k],Mw hlt⟩
     have hsl:=(H.o k p hp).2.below hb;have LV:wr.cell? ⟨b,off+k,none⟩=some p.v:=by
      have:=(H.o k p hp).1;rw[World.cell?_of_block (hb.block _ (World.block_lt_of_cell? w _ this))];exact this
     have hs2:Ll (dl (ps.take (k+1))=dl (ps.take k)+p.n/\fQ (ps.take (k+1))=fQ (ps.take k)++p.cells):=aa (by rw[js hp,kH,sr];exact⟨rfl,rfl⟩);clear hgk ho hb hp;obtain⟨g1,g2,g3,g4⟩:=hsl;rcases g4 with⟨hv,h0⟩ | ⟨ad,cc,hv,Mb⟩
     ·rw[hv]at LV;have hc0:p.cells=[]:=List.eq_nil_of_length_eq_zero (by rw[g1,h0]);rw[h0,hc0]at hs2;clear g1 g2 g3 hv h0 hc0;go_wp2_with (at_builtin;go_must (refine wpList_append_own_none rfl _ _ 22 rfl w.heap.size 9 i0 1 underlying22 hi u6 (dl (ps.take k)) (fQ (ps.take k)) rfl A.o.2.1 rfl ?_);refine Ll.o ?_)
      refine aa ?_;go_wp2_with fail
      obtain⟨hgk,ho,hb⟩:=A.o;go_roundg (ps.length - (k+1))
      case measure=>omega
      case rel=>exact⟨k+1,by omega,rfl,by go_num,by rw[hs2.o.1,hs2.o.2,List.append_nil,Nat.add_zero];exact ho,hb⟩
     ·rw[hv]at LV;have C:Ll (p.cells.length=p.n * 1/\(∀ u∈p.cells,u.oneCell'=true)/\∀ j u,p.cells[j]?=some u->wr.cell? (ad.add j)=some u):=⟨g1,g3,Mb⟩
      have hs3:=hs2.o.1;have hs4:=eU ps (k+1);have hm:dl (ps.take k)+p.n<=1000000:=by omega
      clear g1 g3 Mb hv hs3 hs4;go_wp2_with (at_builtin;go_must (refine wpList_append_own _ rfl _ _ 22 rfl w.heap.size 9 i0 _ 1 16 underlying22 hi hz0 hz1 hz2 rfl (by decide) u6 (dl (ps.take k)) (fQ (ps.take k)) rfl A.o.2.1 ad p.n cc p.cells rfl C.o.1 C.o.2.2 C.o.2.1 (by unfold maxLen;omega) (by omega) L9 ?_);intro v2 w2 ho2 hg2 _;refine Ll.o ?_)
      refine aa ?_;have D:Ll (w2.ownsRow w.heap.size 9 1 v2 (dl (ps.take k)+p.n) (fQ (ps.take k)++p.cells)/\wr.grownBy w2 u6.ownBlock):=⟨ho2,hg2⟩
      clear ho2 hg2;go_wp2_with fail
      obtain⟨hgk,ho,hb⟩:=A.o;go_roundg (ps.length - (k+1))
      case measure=>omega
      case rel=>exact⟨k+1,by omega,rfl,by go_num,by rw[hs2.o.1,hs2.o.2];exact D.o.1,hb.grown D.o.2 L9 (fun j hj=>(ho.lt j hj).1)⟩
    ·have Mc:k=ps.length:=by omega
     subst Mc;clear hgk ho hb;go_wp2_with fail
     go_ret;obtain⟨hgk,ho,hb⟩:=A.o;rw[List.take_length]at ho;exact⟨u6,rfl,ho,hb⟩
theorem Ko(w:LC)(n:Nat)(h:n<=4000000):Calls prog 153 #[.slice none 0 0,.int .i64 n] w fun e w'=>∃ v,e=.returned v/\w'.ownsRow w.heap.size 25 5 v 0 []/\La w w':=by
 obtain⟨i0,hi,hz0,hz1,hz2⟩:=info_parts ye;rcases Nat.eq_zero_or_pos n with rfl | h0
 ·go_enter func153,ntmps153;go_wp2
  go_ret;exact⟨_,rfl,World.ownsRow_nil _ _ _ _,MK _ _⟩
 ·have hr:=Lib.run_append_nil_zeros (P:=prog) w 23 3 23 25 i0 _ .i64 .i64 underlying23 underlying3 hi hz0 n h0 (by rw[hz1];omega) (by omega) (by rw[hz2];omega);have hR:=aa hr;clear hr;have e1:¬((n:Int) < 0):=by omega
  have e2:(0:Int) < (n:Int):=by omega
  go_enter func153,ntmps153;go_wp2_with (at_builtin;go_must (refine Lib.wpList_append_run _ rfl _ _ _ _ rfl (.slice none 0 0) (.int .i64 n) rfl rfl _ _ hR.o ?_);refine Ll.o ?_)
  refine aa ?_;have hge:=grownCap_ge w n 0 25;have hle:=grownCap_le_maxLen w n 0 25 (by unfold maxLen;omega);generalize grownCap w n 0 25=cap at hge hle ⊢;clear hR;have O:Ll (∀ cur:Array Value,cur.size=cap * 5->(w.alloc (.cells cur 25)).drew.ownsRow w.heap.size 25 5 (.slice (some ⟨w.heap.size,0,none⟩) 0 cap) 0 []):=by
   intro cur hcur;exact(World.ownsRow_made w cur cap (MG _) hle hcur)
  have hcap:(0:Int)<=(cap:Int):=by omega
  unfold maxLen at hle;go_wp2
  go_ret;refine⟨_,rfl,O.o _ ?_,((MK _ w).alloc (MG _) _).drew⟩;rw[Array.size_append,size_zeroCells,size_zeroCells];simp only[List.size_toArray,My,List.length_nil];omega
def Kk (w:LC) (b off:Nat) (ps:List jY):Prop:=
 ∀ i p,ps[i]?=some p->w.cell? ⟨b,off+i,none⟩=some p.v/\du w 5 p.v p.n p.cells
theorem Av(w b off c)(ps:List jY)(h:Kk w b off ps)(hn:dl ps<=1000000)(hl:ps.length<=10)(hlc:ps.length<=c):Calls prog 126 #[.slice (some ⟨b,off,none⟩) ps.length c] w fun e w'=>∃ v,e=.returned v/\w'.ownsRow w.heap.size 25 5 v (dl ps) (fQ ps)/\La w w':=by
 obtain⟨i0,hi,hz0,hz1,hz2⟩:=info_parts ye;have H:=aa h;clear h;go_enter func126,ntmps126;go_wp2_with fail
 go_loop [3,11] (fun n i=>∃ k:Nat,k<=ps.length/\i=.int .i64 k/\n=.int .i64 (dl (ps.take k))) (fun _ i=>ps.length - (intOf i).toNat)
 case atStart=>exact⟨0,Nat.zero_le _,rfl,rfl⟩
 case round=>
  obtain⟨k,hk,rfl,rfl⟩:=hrel;have hs1:=eU ps k;by_cases hlt:k < ps.length
  ·obtain⟨p,hp⟩:∃ p,ps[k]?=some p:=⟨ps[k],Mw hlt⟩
   have hs2:Ll (dl (ps.take (k+1))=dl (ps.take k)+p.n):=aa (by rw[js hp,kH]);have hpn:=(H.o k p hp).2.2.1;have LV:=(H.o k p hp).1;have hf:∃ a cc,p.v=.slice a p.n cc:=by
    rcases (H.o k p hp).2.2.2.2 with⟨e,e0⟩ | ⟨ad,cc,e,_⟩
    ·exact⟨_,_,by rw[e,e0]⟩
    ·exact⟨_,_,e⟩
   obtain⟨a,cc,hv⟩:=hf;rw[hv]at LV;have HP:=aa hp;have HV:=aa hv;clear hp hv;go_wp2_with fail
   go_round
   case rel=>exact⟨k+1,by omega,by go_num,by rw[hs2.o];go_num⟩
   case measure=>simp[intOf];omega
  ·have Mc:k=ps.length:=by omega
   subst Mc;rw[List.take_length];go_wp2_with fail
   refine(Ko _ (dl ps) (by omega)).mono ?_;rintro e w1 ⟨v1,rfl,ho1,hb1⟩;have O1:Ll (w1.ownsRow w.heap.size 25 5 v1 0 []/\La w w1):=⟨ho1,hb1⟩
   clear ho1 hb1 hs1 hlt hk;go_wp2_with fail
   go_loopg [6,27] ps.length (fun g nv i wr=>∃ k:Nat,k<=ps.length/\g=ps.length - k/\i=.int .i64 k/\wr.ownsRow w.heap.size 25 5 nv (dl (ps.take k)) (fQ (ps.take k))/\La w wr)
   case atStart=>exact⟨0,Nat.zero_le _,rfl,rfl,O1.o.1,O1.o.2⟩
   case round=>
    obtain⟨k,hk,hgk,rfl,ho,hb⟩:=hrel;have A:Ll (gk=ps.length - k/\wr.ownsRow w.heap.size 25 5 u6 (dl (ps.take k)) (fQ (ps.take k))/\La w wr):=⟨hgk,ho,hb⟩
    have L9:=hb.size;have hs1:=eU ps k;by_cases hlt:k < ps.length
    ·obtain⟨p,hp⟩:∃ p,ps[k]?=some p:=⟨ps[k],Mw hlt⟩
     have hsl:=(H.o k p hp).2.below hb;have LV:wr.cell? ⟨b,off+k,none⟩=some p.v:=by
      have:=(H.o k p hp).1;rw[World.cell?_of_block (hb.block _ (World.block_lt_of_cell? w _ this))];exact this
     have hs2:Ll (dl (ps.take (k+1))=dl (ps.take k)+p.n/\fQ (ps.take (k+1))=fQ (ps.take k)++p.cells):=aa (by rw[js hp,kH,sr];exact⟨rfl,rfl⟩);clear hgk ho hb hp;obtain⟨g1,g2,g3,g4⟩:=hsl;rcases g4 with⟨hv,h0⟩ | ⟨ad,cc,hv,Mb⟩
     ·rw[hv]at LV;have hc0:p.cells=[]:=List.eq_nil_of_length_eq_zero (by rw[g1,h0]);rw[h0,hc0]at hs2;clear g1 g2 g3 hv h0 hc0;go_wp2_with (at_builtin;go_must (refine wpList_append_own_none rfl _ _ 23 rfl w.heap.size 25 i0 5 underlying23 hi u6 (dl (ps.take k)) (fQ (ps.take k)) rfl A.o.2.1 rfl ?_);refine Ll.o ?_)
      refine aa ?_;go_wp2_with fail
      obtain⟨hgk,ho,hb⟩:=A.o;go_roundg (ps.length - (k+1))
      case measure=>omega
      case rel=>exact⟨k+1,by omega,rfl,by go_num,by rw[hs2.o.1,hs2.o.2,List.append_nil,Nat.add_zero];exact ho,hb⟩
     ·rw[hv]at LV;have C:Ll (p.cells.length=p.n * 5/\(∀ u∈p.cells,u.oneCell'=true)/\∀ j u,p.cells[j]?=some u->wr.cell? (ad.add j)=some u):=⟨g1,g3,Mb⟩
      have hs3:=hs2.o.1;have hs4:=eU ps (k+1);have hm:dl (ps.take k)+p.n<=1000000:=by omega
      clear g1 g3 Mb hv hs3 hs4;go_wp2_with (at_builtin;go_must (refine wpList_append_own _ rfl _ _ 23 rfl w.heap.size 25 i0 _ 5 80 underlying23 hi hz0 hz1 hz2 rfl (by decide) u6 (dl (ps.take k)) (fQ (ps.take k)) rfl A.o.2.1 ad p.n cc p.cells rfl C.o.1 C.o.2.2 C.o.2.1 (by unfold maxLen;omega) (by omega) L9 ?_);intro v2 w2 ho2 hg2 _;refine Ll.o ?_)
      refine aa ?_;have D:Ll (w2.ownsRow w.heap.size 25 5 v2 (dl (ps.take k)+p.n) (fQ (ps.take k)++p.cells)/\wr.grownBy w2 u6.ownBlock):=⟨ho2,hg2⟩
      clear ho2 hg2;go_wp2_with fail
      obtain⟨hgk,ho,hb⟩:=A.o;go_roundg (ps.length - (k+1))
      case measure=>omega
      case rel=>exact⟨k+1,by omega,rfl,by go_num,by rw[hs2.o.1,hs2.o.2];exact D.o.1,hb.grown D.o.2 L9 (fun j hj=>(ho.lt j hj).1)⟩
    ·have Mc:k=ps.length:=by omega
     subst Mc;clear hgk ho hb;go_wp2_with fail
     go_ret;obtain⟨hgk,ho,hb⟩:=A.o;rw[List.take_length]at ho;exact⟨u6,rfl,ho,hb⟩
theorem vB(w b)(p1 p2 p3:jY)(q1:w.cell? ⟨b,0,none⟩=some p1.v)(q2:w.cell? ⟨b,1,none⟩=some p2.v)(q3:w.cell? ⟨b,2,none⟩=some p3.v)(s1:du w 5 p1.v p1.n p1.cells)(s2:du w 5 p2.v p2.n p2.cells)(s3:du w 5 p3.v p3.n p3.cells)(hn:p1.n+p2.n+p3.n<=1000000):Calls prog 126 #[.slice (some ⟨b,0,none⟩) 3 3] w fun e w'=>∃ v,e=.returned v/\w'.ownsRow w.heap.size 25 5 v (p1.n+p2.n+p3.n) (p1.cells++p2.cells++p3.cells)/\La w w':=by
 refine(Av w b 0 3 [p1,p2,p3] ?_ (by simp[dl];omega) (by simp) (by simp)).mono ?_
 ·intro i p hp;match i,hp with
  | 0,hp=>simp at hp;subst hp;exact⟨q1,s1⟩
  | 1,hp=>simp at hp;subst hp;exact⟨q2,s2⟩
  | 2,hp=>simp at hp;subst hp;exact⟨q3,s3⟩
 ·rintro e w' ⟨v,rfl,h1,h2⟩;refine⟨v,rfl,?_,h2⟩;have e1:dl [p1,p2,p3]=p1.n+p2.n+p3.n:=by simp[dl];omega
  have e2:fQ [p1,p2,p3]=p1.cells++p2.cells++p3.cells:=by simp[fQ]
  rw[e1,e2]at h1;exact h1
theorem Ew(w b)(p1 p2 p3:jY)(q1:w.cell? ⟨b,0,none⟩=some p1.v)(q2:w.cell? ⟨b,1,none⟩=some p2.v)(q3:w.cell? ⟨b,2,none⟩=some p3.v)(s1:du w 1 p1.v p1.n p1.cells)(s2:du w 1 p2.v p2.n p2.cells)(s3:du w 1 p3.v p3.n p3.cells)(hn:p1.n+p2.n+p3.n<=1000000):Calls prog 127 #[.slice (some ⟨b,0,none⟩) 3 3] w fun e w'=>∃ v,e=.returned v/\w'.ownsRow w.heap.size 9 1 v (p1.n+p2.n+p3.n) (p1.cells++p2.cells++p3.cells)/\La w w':=by
 refine(At w b 0 3 [p1,p2,p3] ?_ (by simp[dl];omega) (by simp) (by simp)).mono ?_
 ·intro i p hp;match i,hp with
  | 0,hp=>simp at hp;subst hp;exact⟨q1,s1⟩
  | 1,hp=>simp at hp;subst hp;exact⟨q2,s2⟩
  | 2,hp=>simp at hp;subst hp;exact⟨q3,s3⟩
 ·rintro e w' ⟨v,rfl,h1,h2⟩;refine⟨v,rfl,?_,h2⟩;have e1:dl [p1,p2,p3]=p1.n+p2.n+p3.n:=by simp[dl];omega
  have e2:fQ [p1,p2,p3]=p1.cells++p2.cells++p3.cells:=by simp[fQ]
  rw[e1,e2]at h1;exact h1
theorem yV(a s):∀ x∈Lib.split s [a],x.length<=s.length:=by
 induction s with
 | nil=>rw[gX];simp
 | cons b r ih=>
  by_cases h:b=a
  ·subst h;rw[hE];intro x hx;rcases List.mem_cons.1 hx with rfl | hx
   ·simp
   ·have:=ih x hx;simp only[My];omega
  ·rw[eM a b r h];cases hr:Lib.split r [a] with
   | nil=>exact absurd hr (iN a r)
   | cons y ys=>
    rw[hr]at ih;intro x hx;rcases List.mem_cons.1 hx with rfl | hx
    ·have:=ih y (by simp);simp only[My];omega
    ·have:=ih x (by simp[hx]);simp only[My];omega
theorem vM(a s):(Lib.split s [a]).length<=s.length+1:=by
 induction s with
 | nil=>rw[gX];simp
 | cons b r ih=>
  by_cases h:b=a
  ·subst h;rw[hE];simp only[My];omega
  ·rw[eM a b r h];cases hr:Lib.split r [a] with
   | nil=>exact absurd hr (iN a r)
   | cons y ys=>
    rw[hr]at ih;simp only[My]at ih ⊢;omega
theorem uR(X r)(h:X.data.toList=r):Lib.countB X ⟨#[47]⟩+1=(Lib.split r [47]).length/\(Lib.splitB ⟨#[47]⟩ 0 (Lib.countB X ⟨#[47]⟩) X).map Value.string=(Lib.split r [47]).map aR:=by
 have h1:=Lib.splitB_all ⟨#[47]⟩ (by decide) 0 _ X rfl;have h2:=Lib.splitB_data ⟨#[47]⟩ 0 (Lib.countB X ⟨#[47]⟩) X;have e:Lib.splitK ([47]:Lz) 0 (Lib.countB X ⟨#[47]⟩) X.data.toList=Lib.split r [47]:=by
  subst h;rfl
 have h3:(Lib.splitB ⟨#[47]⟩ 0 (Lib.countB X ⟨#[47]⟩) X).map (fun x=>x.data.toList)=Lib.split r [47]:=h2.trans e;refine⟨?_,?_⟩
 ·rw[<-h3,List.length_map,h1]
 ·rw[<-h3,List.map_map];apply List.map_congr_left;intro x _;simp only[Function.comp,aR]
def jP (ns:List Lz) (k:Nat):List Lz:=(ns.take k).map bK++ns.drop k
theorem EK{ns}(h:k < ns.length):(jP ns k)[k]?=some ns[k]:=by
 unfold jP;rw[List.getElem?_append_right (by simp;omega)];have:k - ((ns.take k).map bK).length=0:=by simp;omega
 rw[this,List.getElem?_drop,Nat.add_zero,Mw h]
theorem Hs{ns}(h:k < ns.length):(jP ns k).set k (bK ns[k])=jP ns (k+1):=by
 unfold jP;have hl:((ns.take k).map bK).length=k:=by simp;omega
 rw[List.set_append_right _ _ (by omega),hl,Nat.sub_self,ME h,Mu,List.take_add_one,Mw h];simp only[List.map_append,Option.toList_some,List.map_cons,List.map_nil,List.append_assoc,List.cons_append,List.nil_append]
theorem mU{l:List Lz}(h:w.heap[g]?=some (.cells (l.map aR).toArray 9)){x:Lz}(hk:l[k]?=some x):w.cell? ⟨g,k,none⟩=some (.string ⟨x.toArray⟩)/\w.frozen? ⟨g,k,none⟩=false:=by
 constructor
 ·simp[World.cell?,h,hk,aR]
 ·simp[World.frozen?,h]
theorem FE(w:LC)(c r)(hc:c=47)(hp:r.length+1<=2000)(hw:br (c :: r)=true)(hM:bj w):Calls prog 88 #[aR (c :: r)] w fun e w'=>∃ (a:Option Addr) (cap:Nat),e=.returned (.tuple #[.slice a ((Lib.split r [47]).map bK).length cap,.int .i64 0]) /\
 ao w' (fun k=>w.heap.size<=k) ((Lib.split r [47]).map bK) (.slice a ((Lib.split r [47]).map bK).length cap)/\La w w':=by
 subst hc;have HM:=aa hM;clear hM;have HW:=aa hw;clear hw;unfold aR;have hne:(ByteArray.mk (47 :: r).toArray == ByteArray.mk #[])=false:=Aq (by simp);have L9:0 < (ByteArray.mk (47 :: r).toArray).size:=by rw[eS];simp
 have hget:(ByteArray.mk (47 :: r).toArray)[0]=47:=rfl;have e0:¬(2000 < (r.length:Int)+1):=by omega
 go_enter func88,ntmps88;go_wp2_with fail
 refine(vV _ (47 :: r) (by simp;omega)).mono ?_;rintro e w1 ⟨rfl,hw1⟩;rw[HW.o,hw1];clear hw1;go_wp2_with fail
 obtain⟨m,hm⟩:=HM.o;obtain⟨X,hX⟩:∃ X,(ByteArray.mk (47 :: r).toArray).extract 1 (ByteArray.mk (47 :: r).toArray).size=X:=⟨_,rfl⟩
 have hXd:X.data.toList=r:=by
  rw[<-hX,Lib.extract_to_end];simp
 have hXs:X.size=r.length:=by rw[Lib.size_eq,hXd]
 have hX2:(ByteArray.mk (47 :: r).toArray).extract 1 (r.length+1)=X:=by rw[<-hX,eS];rfl
 rw[hX2];clear hX hX2;refine(Tryz.strings_Split X ⟨#[47]⟩ m w (by omega) hm (by decide)).mono ?_;rintro e w2 ⟨rfl,hw2⟩;obtain⟨hn,hcells⟩:=uR X r hXd;rw[hn];rw[hcells]at hw2;obtain⟨ns,hns⟩:∃ ns,Lib.split r [47]=ns:=⟨_,rfl⟩
 have NL:Ll (∀ x∈ns,x.length<=2000):=aa (by rw[<-hns];intro x hx;have:=yV 47 r x hx;omega);have nl:ns.length<=2000:=by rw[<-hns];have:=vM 47 r;omega
 rw[hns]at hw2 ⊢;have HNS:=aa hns;clear hns hcells hn hXd hXs hm m;have h2:w2.heap[w.heap.size]?=some (.cells ((jP ns 0).map aR).toArray 9):=by
  rw[hw2];have:jP ns 0=ns:=by simp[jP]
  rw[this];exact MN w _
 have b2:La w w2:=by rw[hw2];exact ae _ _
 have S2:Ll (w2.heap[w.heap.size]?=some (.cells ((jP ns 0).map aR).toArray 9)/\La w w2):=⟨h2,b2⟩
 clear h2 b2 hw2;go_wp2_with fail
 go_loopg [27] ns.length (fun gk i wr=>∃ k:Nat,k<=ns.length/\gk=ns.length - k/\i=.int .i64 k/\wr.heap[w.heap.size]?=some (.cells ((jP ns k).map aR).toArray 9)/\La w wr)
 case atStart=>exact⟨0,Nat.zero_le _,rfl,rfl,S2.o.1,S2.o.2⟩
 case round=>
  obtain⟨k,hk,hgk,rfl,hh,hbl⟩:=hrel;have GK:=aa hgk;have A:Ll (wr.heap[w.heap.size]?=some (.cells ((jP ns k).map aR).toArray 9)/\La w wr):=⟨hh,hbl⟩
  clear hgk hh hbl;by_cases hlt:k < ns.length
  ·obtain⟨c1,f1⟩:=mU A.o.1 (EK hlt);have hnk:ns[k].length<=2000:=NL.o _ (List.getElem_mem _);have HM1:=aa (HM.o.bel A.o.2);go_wp2_with fail
   refine Lk (wm _ ns[k] (by omega) (by exact HM1.o)) fun w3 hb3=>?_;have hb3':w3.heap[w.heap.size]?=some (.cells ((jP ns k).map aR).toArray 9):=by
    have hlt2:w.heap.size < wr.heap.size:=(MF.1 A.o.1).1;rw[hb3.block _ hlt2];exact A.o.1
   have B3:Ll (w3.heap[w.heap.size]?=some (.cells ((jP ns k).map aR).toArray 9)/\La w w3):=⟨hb3',ab A.o.2 hb3⟩
   obtain⟨c2,f2⟩:=mU B3.o.1 (EK hlt);clear hb3 hb3' c1 f1;unfold aR;go_wp2_with fail
   go_roundg (ns.length - (k+1))
   case measure=>rw[GK.o];omega
   case rel=>
    refine⟨k+1,by omega,rfl,by go_num,?_,?_⟩
    ·have:=ak B3.o.1 k (.string ⟨(bK ns[k]).toArray⟩);rw[this];have e9:((jP ns k).map aR).toArray.setIfInBounds k (.string ⟨(bK ns[k]).toArray⟩)=((jP ns (k+1)).map aR).toArray:=by
      rw[<-Hs hlt,List.map_set];simp[aR]
     rw[e9]
    ·exact bS (bi (aq B3.o.2) (MG _) _ _)
  ·have Mc:k=ns.length:=by omega
   subst Mc;have e3:jP ns ns.length=ns.map bK:=by simp[jP]
   go_wp2_with fail
   refine MM (v:=.tuple #[.slice (some ⟨w.heap.size,0,none⟩) ns.length ns.length,.int .i64 0]) (by simp[results,results88,go_sem] <;> rfl) rfl ?_;rw[HNS.o];refine⟨some ⟨w.heap.size,0,none⟩,ns.length,by rw[List.length_map],⟨by rw[List.length_map];unfold maxLen;omega,.inr ⟨w.heap.size,0,ns.length,by rw[List.length_map],by rw[List.length_map];exact MG _,by unfold maxLen;omega,?_⟩⟩,A.o.2⟩;intro i x hx;have h9:=A.o.1;rw[e3]at h9;refine⟨?_,MG _,?_⟩
   ·simp only[List.getElem?_map,Option.map_eq_some_iff]at hx;obtain⟨y,hy,rfl⟩:=hx;have h1:=NL.o y (List.mem_of_getElem? hy);have h2:(Lib.replaceAll y [126,49] [47]).length<=y.length:=qD (by simp) (by simp) (by simp) _ y (MG _);have h3:(bK y).length<=(Lib.replaceAll y [126,49] [47]).length:=qD (by simp) (by simp) (by simp) _ _ (MG _);unfold maxLen;omega
   ·have:=(mU h9 hx).1;rw[Nat.zero_add];exact this
theorem Uz(w:LC)(c r)(hl:r.length+1<=140737488351232)(hb:c≠47\/2000 < (c :: r).length\/br (c :: r)=false):Calls prog 88 #[aR (c :: r)] w fun e w'=>e=.returned (.tuple #[.slice none 0 0,.int .i64 1])/\La w w':=by
 unfold aR;have hne:(ByteArray.mk (c :: r).toArray == ByteArray.mk #[])=false:=Aq (by simp);have L9:0 < (ByteArray.mk (c :: r).toArray).size:=by rw[eS];simp
 have hget:(ByteArray.mk (c :: r).toArray)[0]=c:=rfl;have hbyte:(c.toNat:Int) < 256:=by have:=c.toNat_lt;omega
 by_cases hc:c=47
 ·have n1:((c.toNat:Int) != 47)=false:=by rw[hc];rfl
  have q1:((c.toNat:Int) == 47)=true:=by rw[hc];rfl
  by_cases h2:2000 < r.length+1
  ·have e0:2000 < (r.length:Int)+1:=by omega
   clear hc hb;go_enter func88,ntmps88;go_wp2_with fail
   refine MM (v:=.tuple #[.slice none 0 0,.int .i64 1]) (by simp[results,results88,go_sem] <;> rfl) rfl ?_;exact⟨rfl,MK _ _⟩
  ·have e0:¬(2000 < (r.length:Int)+1):=by omega
   have HW:Ll (br (c :: r)=false):=aa (by
    rcases hb with h | h | h
    ·exact absurd hc h
    ·simp only[My]at h;omega
    ·exact h)
   clear hc hb;go_enter func88,ntmps88;go_wp2_with fail
   refine(vV _ (c :: r) (by simp;omega)).mono ?_;rintro e w1 ⟨rfl,hw1⟩;rw[HW.o,hw1];clear hw1;go_wp2_with fail
   refine MM (v:=.tuple #[.slice none 0 0,.int .i64 1]) (by simp[results,results88,go_sem] <;> rfl) rfl ?_;exact⟨rfl,MK _ _⟩
 ·have n1:((c.toNat:Int) != 47)=true:=by
   have:c.toNat≠47:=fun e=>hc (UInt8.toNat_inj.1 e);simp only[bne_iff_ne,ne_eq];omega
  have q1:((c.toNat:Int) == 47)=false:=by
   have:c.toNat≠47:=fun e=>hc (UInt8.toNat_inj.1 e);rw[MO];omega
  clear hc hb;go_enter func88,ntmps88;go_wp2_with fail
  refine MM (v:=.tuple #[.slice none 0 0,.int .i64 1]) (by simp[results,results88,go_sem] <;> rfl) rfl ?_;exact⟨rfl,MK _ _⟩
theorem tM(w:LC):Calls prog 88 #[aR []] w fun e w'=>e=.returned (.tuple #[.slice none 0 0,.int .i64 0])/\La w w':=by
 unfold aR;have hne:(ByteArray.mk ([]:Lz).toArray == ByteArray.mk #[])=true:=zN (by simp);go_enter func88,ntmps88;go_wp2_with fail
 refine MM (v:=.tuple #[.slice none 0 0,.int .i64 0]) (by simp[results,results88,go_sem] <;> rfl) rfl ?_;exact⟨rfl,MK _ _⟩
theorem iO(w:LC)(p)(hp:p.length<=140737488351232)(hM:bj w):Calls prog 88 #[aR p] w fun e w'=>∃ (b:List Lz) (ee:Int) (a:Option Addr) (cap:Nat),e=.returned (.tuple #[.slice a b.length cap,.int .i64 ee])/\ax p=(b,ee) /\
 ao w' (fun k=>w.heap.size<=k) b (.slice a b.length cap)/\La w w':=by
 cases p with
 | nil=>
  refine Lk (tM w) fun w' hb=>?_;exact⟨[],0,none,0,rfl,rfl,⟨by simp[maxLen],.inl ⟨rfl,none,rfl⟩⟩,hb⟩
 | cons c r=>
  by_cases h:c≠47\/2000 < (c :: r).length\/br (c :: r)=false
  ·refine Lk (Uz w c r (by simpa using hp) h) fun w' hb=>?_;refine⟨[],1,none,0,rfl,?_,⟨by simp[maxLen],.inl ⟨rfl,none,rfl⟩⟩,hb⟩;simp only[ax];rw[if_pos h]
  ·have h':=h;simp only[not_or,Decidable.not_not,Bool.not_eq_false]at h';refine(FE w c r h'.1 (by have:=h'.2.1;simp only[My]at this;omega) h'.2.2 hM).mono ?_;rintro e w' ⟨a,cap,rfl,hs,hb⟩;refine⟨_,0,a,cap,rfl,?_,hs,hb⟩;simp only[ax];rw[if_neg h]
theorem lm{xs a}(h:ao w ok xs (.slice a n c))(hk:k < xs.length):∃ b off,a=some ⟨b,off,none⟩/\xs.length<=c/\c<=maxLen/\w.cell? ⟨b,off+k,none⟩=some (.string ⟨xs[k].toArray⟩):=by
 rcases h.2 with⟨e,_⟩ | ⟨b,off,c',e,h1,h2,Mb⟩
 ·rw[e]at hk;simp at hk
 ·simp only[Value.slice.injEq]at e;obtain⟨rfl,-,rfl⟩:=e;exact⟨b,off,rfl,h1,h2,(Mb k xs[k] (Mw hk)).2.2⟩
theorem lH(w:LC)(p)(hp:p.length<=140737488351232)(hM:bj w):Calls prog 64 #[aR p] w fun e w'=>∃ (a:Option Addr) (c:Nat),e=.returned (.slice a (aw p).length c)/\ao w' (fun k=>w.heap.size<=k) (aw p) (.slice a (aw p).length c)/\La w w':=by
 have HM:=aa hM;clear hM;go_enter func64,ntmps64;go_wp2_with fail
 refine(iO _ p hp (by exact HM.o)).mono ?_;rintro e w1 ⟨ns,ee,na,nc,rfl,hsp,hns,hb1⟩;have R:Ll (aw p=ns):=aa (by unfold aw;rw[hsp]);have K:=aa hns;have B:=aa hb1;clear hsp hns hb1;go_wp2_with fail
 go_ret;refine⟨na,nc,?_,?_,B.o⟩
 ·rw[R.o];rfl
 ·rw[R.o];exact K.o
def yE (w:LC) (ok:Nat->Prop) (t:V) (ns:List Lz) (na:Option Addr) (nc k:Nat) (wr:LC):Prop:=
 ∃ (y:V) (a5 a6:Option Addr) (c5 c6:Nat),dr ns t=dr (ns.drop k) y/\ag wr w.heap.size (.int .i64 y.kind) (.int .i64 y.n) (.string ⟨y.s.toArray⟩) (.slice a5 y.keys.length c5) (.slice a6 y.l.length c6)/\ag wr (w.heap.size+1) (.int .i64 0) (.int .i64 0) (.string ⟨#[]⟩) (.slice none 0 0) (.slice none 0 0)/\La w wr /\
  In wr (Lj ok w) y (.agg #[.int .i64 y.kind,.int .i64 y.n,.string ⟨y.s.toArray⟩,.slice a5 y.keys.length c5,.slice a6 y.l.length c6])/\ao wr (fun k=>w.heap.size+2<=k) ns (.slice na ns.length nc)
theorem gD(w:LC)(ok t v p)(h:In w ok t v)(hp:p.length<=140737488351232)(hM:bj w):Calls prog 56 #[v,aR p] w fun e w'=>∃ r,e=.returned (.tuple #[r,.bool (dr (aw p) t).isSome])/\La w w'/\In w' ok ((dr (aw p) t).getD aM) r:=by
 have H:=aa h.low;have HMM:=aa hM;obtain⟨l1,l2,l3⟩:=h.lens;obtain⟨a1,a2,c1,c2,rfl⟩:=h.form;clear h hM;go_enter func56,ntmps56;go_wp2_with fail
 refine(lH _ p hp (by exact HMM.o.bel (ab (ae _ _) (ae _ _)))).mono ?_;rintro e w1 ⟨na,nc,rfl,hns,hb1⟩;obtain⟨ns,hnp⟩:∃ ns,aw p=ns:=⟨_,rfl⟩
 rw[hnp]at hns ⊢;have NP:=aa hnp;clear hnp;have nlen:=hns.1;unfold maxLen at nlen;have S0:Ll (yE w ok t ns na nc 0 w1):=⟨t,a1,a2,c1,c2,rfl,af hb1 (fb w _ _),af hb1 (et w _ _),ab (ab (ae _ _) (ae _ _)) hb1,H.o.bel (ab (ab (ae _ _) (ae _ _)) hb1),hns.imp fun a x hx hc=>⟨by simpa using hx,hc⟩⟩
 clear hb1 hns;go_wp2_with fail
 go_loopg [13] ns.length (fun gk i wr=>∃ k:Nat,k<=ns.length/\gk=ns.length - k/\i=.int .i64 k/\yE w ok t ns na nc k wr)
 case atStart=>exact⟨0,Nat.zero_le _,rfl,rfl,S0.o⟩
 case round=>
  obtain⟨k,hk,hgk,rfl,y,a5,a6,c5,c6,i1,i2,i3,i4,i5,i6⟩:=hrel;have GK:=aa hgk;have I:Ll (dr ns t=dr (ns.drop k) y/\ag wr w.heap.size (.int .i64 y.kind) (.int .i64 y.n) (.string ⟨y.s.toArray⟩) (.slice a5 y.keys.length c5) (.slice a6 y.l.length c6)/\ag wr (w.heap.size+1) (.int .i64 0) (.int .i64 0) (.string ⟨#[]⟩) (.slice none 0 0) (.slice none 0 0)/\La w wr/\In wr (Lj ok w) y (.agg #[.int .i64 y.kind,.int .i64 y.n,.string ⟨y.s.toArray⟩,.slice a5 y.keys.length c5,.slice a6 y.l.length c6])/\ao wr (fun k=>w.heap.size+2<=k) ns (.slice na ns.length nc)):=⟨i1,i2,i3,i4,i5,i6⟩
  have p0_:=i2.c;clear hgk i1 i2 i3 i4 i5 i6;by_cases hlt:k < ns.length
  ·obtain⟨nb,no,rfl,hc1,hc2,hc⟩:=lm I.o.2.2.2.2.2 hlt;unfold maxLen at hc2;go_wp2_with fail
   refine(ig _ (Lj ok w) y _ ns[k] (by exact I.o.2.2.2.2.1)).mono ?_;rintro e w3 ⟨r,rfl,hb3,hu⟩;obtain⟨u,hu9⟩:∃ u,(aS y ns[k]).getD aM=u:=⟨_,rfl⟩
   rw[hu9]at hu;obtain⟨b5,b6,d5,d6,rfl⟩:=hu.form;have LW:=ab hb3 (ae w3 (.cells #[.int .i64 u.kind,.int .i64 u.n,.string ⟨u.s.toArray⟩,.slice b5 u.keys.length d5,.slice b6 u.l.length d6] 25));have K3:Ll (ag (w3.alloc (.cells #[.int .i64 u.kind,.int .i64 u.n,.string ⟨u.s.toArray⟩,.slice b5 u.keys.length d5,.slice b6 u.l.length d6] 25)) w.heap.size (.int .i64 y.kind) (.int .i64 y.n) (.string ⟨y.s.toArray⟩) (.slice a5 y.keys.length c5) (.slice a6 y.l.length c6)/\ag (w3.alloc (.cells #[.int .i64 u.kind,.int .i64 u.n,.string ⟨u.s.toArray⟩,.slice b5 u.keys.length d5,.slice b6 u.l.length d6] 25)) (w.heap.size+1) (.int .i64 0) (.int .i64 0) (.string ⟨#[]⟩) (.slice none 0 0) (.slice none 0 0)/\La w (w3.alloc (.cells #[.int .i64 u.kind,.int .i64 u.n,.string ⟨u.s.toArray⟩,.slice b5 u.keys.length d5,.slice b6 u.l.length d6] 25))/\ag (w3.alloc (.cells #[.int .i64 u.kind,.int .i64 u.n,.string ⟨u.s.toArray⟩,.slice b5 u.keys.length d5,.slice b6 u.l.length d6] 25)) w3.heap.size (.int .i64 u.kind) (.int .i64 u.n) (.string ⟨u.s.toArray⟩) (.slice b5 u.keys.length d5) (.slice b6 u.l.length d6)/\In (w3.alloc (.cells #[.int .i64 u.kind,.int .i64 u.n,.string ⟨u.s.toArray⟩,.slice b5 u.keys.length d5,.slice b6 u.l.length d6] 25)) (Lj ok w) u (.agg #[.int .i64 u.kind,.int .i64 u.n,.string ⟨u.s.toArray⟩,.slice b5 u.keys.length d5,.slice b6 u.l.length d6])/\ao (w3.alloc (.cells #[.int .i64 u.kind,.int .i64 u.n,.string ⟨u.s.toArray⟩,.slice b5 u.keys.length d5,.slice b6 u.l.length d6] 25)) (fun k=>w.heap.size+2<=k) ns (.slice (some ⟨nb,no,none⟩) ns.length nc)):=⟨af LW I.o.2.1,af LW I.o.2.2.1,ab I.o.2.2.2.1 LW,MN w3 _,hu.bel (ae _ _),I.o.2.2.2.2.2.bel LW⟩
   have GS:Ll (dr (ns.drop k) y=(aS y ns[k]).bind (dr (ns.drop (k+1)))):=aa (by rw[ME hlt,dr]);clear hb3 LW hu hc;have o0_:=K3.o.1.c;have q0_:=K3.o.2.2.2.1.c;cases hm:aS y ns[k] with
   | none=>
    have x0_:=(K3.o.2.1).c;have Z:=aa (aP K3.o.2.2.1 (Nat.le_succ w.heap.size) (.int .i64 0) (.int .i64 0) (.string ⟨#[]⟩) (.slice none 0 0) (.slice none 0 0));have ZB:=aa ((K3.o.2.1).set (.int .i64 0) (.int .i64 0) (.string ⟨#[]⟩) (.slice none 0 0) (.slice none 0 0));have HA:Ll (dr ns t=none):=aa (by rw[I.o.1,GS.o,hm];rfl);clear hm hu9;rw[Option.isSome_none];go_wp2_with fail
    have z0_:=ZB.o.c;refine MM (v:=.tuple #[.agg #[.int .i64 0,.int .i64 0,.string ⟨#[]⟩,.slice none 0 0,.slice none 0 0],.bool false]) ?_ rfl ?_
    ·simp only[ar]at z0_;simp[results,results56,go_sem,z0_]
    ·refine⟨_,by rw[NP.o,HA.o];rfl,Z.o,?_⟩;rw[NP.o,HA.o];exact fG _ _
   | some z9=>
    rw[hm,Option.getD_some]at hu9;subst hu9;have HM:=aa hm;have FIN:Ll (yE w ok t ns (some ⟨nb,no,none⟩) nc (k+1) (ar (w3.alloc (.cells #[.int .i64 z9.kind,.int .i64 z9.n,.string ⟨z9.s.toArray⟩,.slice b5 z9.keys.length d5,.slice b6 z9.l.length d6] 25)) w.heap.size (.int .i64 z9.kind) (.int .i64 z9.n) (.string ⟨z9.s.toArray⟩) (.slice b5 z9.keys.length d5) (.slice b6 z9.l.length d6))):=by
     have g1:=aI (w3.alloc (.cells #[.int .i64 z9.kind,.int .i64 z9.n,.string ⟨z9.s.toArray⟩,.slice b5 z9.keys.length d5,.slice b6 z9.l.length d6] 25)) w.heap.size (.int .i64 z9.kind) (.int .i64 z9.n) (.string ⟨z9.s.toArray⟩) (.slice b5 z9.keys.length d5) (.slice b6 z9.l.length d6);refine⟨z9,b5,b6,d5,d6,?_,K3.o.1.set _ _ _ _ _,K3.o.2.1.grown g1 (by simp),aP K3.o.2.2.1 (MG _) _ _ _ _ _,K3.o.2.2.2.2.1.grown g1 (fun k hk=>by omega),K3.o.2.2.2.2.2.imp (eJ g1 (fun k hk e=>by cases e;omega))⟩;rw[I.o.1,GS.o,HM.o];rfl
    clear hm K3;rw[Option.isSome_some];go_wp2_with fail
    go_roundg (ns.length - (k+1))
    case measure=>rw[GK.o];omega
    case rel=>exact⟨k+1,hlt,rfl,by go_num,FIN.o⟩
  ·have Mc:k=ns.length:=by omega
   subst Mc;have x0_:=I.o.2.2.1.c;have Z:=aa (aP I.o.2.2.2.1 (Nat.le_succ w.heap.size) (.int .i64 y.kind) (.int .i64 y.n) (.string ⟨y.s.toArray⟩) (.slice a5 y.keys.length c5) (.slice a6 y.l.length c6));have ZI:=aa ((I.o.2.2.2.2.1.grown (aI wr (w.heap.size+1) (.int .i64 y.kind) (.int .i64 y.n) (.string ⟨y.s.toArray⟩) (.slice a5 y.keys.length c5) (.slice a6 y.l.length c6)) (fun k hk=>by omega)).weak fun k hk=>hk.1);have ZB:=aa (I.o.2.2.1.set (.int .i64 y.kind) (.int .i64 y.n) (.string ⟨y.s.toArray⟩) (.slice a5 y.keys.length c5) (.slice a6 y.l.length c6));have HA:Ll (dr ns t=some y):=aa (by rw[I.o.1,List.drop_length];rfl);go_wp2_with fail
   have z0_:=ZB.o.c;refine MM (v:=.tuple #[.agg #[.int .i64 y.kind,.int .i64 y.n,.string ⟨y.s.toArray⟩,.slice a5 y.keys.length c5,.slice a6 y.l.length c6],.bool true]) ?_ rfl ?_
   ·simp only[ar]at z0_;simp[results,results56,go_sem,z0_]
   ·refine⟨_,by rw[NP.o,HA.o];rfl,Z.o,?_⟩;rw[NP.o,HA.o];exact ZI.o
section
open Go.Lib (index count replaceK replaceAll split splitK)
theorem zH(LQ L v):ed LQ L v=il LQ (L.map aw) v:=by
 unfold ed il;rw[List.foldl_map]
def pd (L:List Lz) (LX:List aL) (ns:List Lz):Bool:=L.contains (aU ns) || concF LX (aU ns)
theorem pp(L LX):∀ (had:List Lz) (v:V),(∀ p∈had,oh p=true)->dj L LX had v=iI (pd L LX) (had.map aw) v
 | [],v,_=>rfl
 | p :: had,v,h=>by
  have e1:dj L LX (p :: had) v=dj L LX had (if (dr (aw p) v).isSome&&!(L.contains p || concF LX p) then gI (aw p) v else v):=rfl;have e2:iI (pd L LX) ((p :: had).map aw) v=iI (pd L LX) (had.map aw) (if (dr (aw p) v).isSome&&!pd L LX (aw p) then gI (aw p) v else v):=rfl;have e3:pd L LX (aw p)=(L.contains p || concF LX p):=by unfold pd;rw[(uM (h p (by simp))).2.2]
  rw[e1,e2,e3];exact pp L LX had _ fun q hq=>h q (by simp[hq])
theorem gz{l}(h:TC l=true):l.length<=6/\(∀ o∈l,bT o.name=true/\jj o.paths=true)/\bD (l.map aL.name):=by
 unfold TC at h;rw[MJ,MJ,decide_eq_true_eq,List.all_eq_true,gZ]at h;exact⟨h.1.1,fun o ho=>by have:=h.1.2 o ho;unfold ol at this;rwa [MJ]at this,h.2⟩
theorem mT{l}(h:jj l=true):l≠[]/\(∀ p∈l,oh p=true)/\bD l:=by
 unfold jj at h;rw[MJ,MJ,List.all_eq_true,gZ]at h;exact⟨fun e=>by rw[e]at h;simp at h,h.1.2,h.2⟩
theorem EY{l}(h1:l≠[])(h2:∀ p∈l,oh p=true)(h3:bD l):jj l=true:=by
 unfold jj;rw[MJ,MJ,List.all_eq_true,gZ];exact⟨⟨by cases l with | nil=>exact absurd rfl h1 | cons a r=>rfl,h2⟩,h3⟩
theorem nr{a b}(h:a.Sublist b)(hb:bD b):bD a:=List.Pairwise.sublist h hb
theorem oE{stays:Lz->Lz->Bool}{l o}(h:o∈dV stays l):∃ x∈l,o=⟨x.name,x.paths.filter (stays x.name)⟩/\o.paths≠[]:=by
 unfold dV at h;rw[List.mem_filter,List.mem_map]at h;obtain⟨⟨x,hx,rfl⟩,h⟩:=h;exact⟨x,hx,rfl,fun e=>by simp only at e;simp[e]at h⟩
theorem r8(stays:Lz->Lz->Bool)(l):((dV stays l).map aL.name).Sublist (l.map aL.name):=by
 unfold dV;have h:=(List.filter_sublist (p:=fun o:aL=>!o.paths.isEmpty) (l:=l.map fun o=>(⟨o.name,o.paths.filter (stays o.name)⟩:aL))).map aL.name;rwa [List.map_map]at h
theorem kI{stays:Lz->Lz->Bool}{l}(h:TC l=true):(∀ o∈dV stays l,bT o.name=true/\jj o.paths=true)/\bD ((dV stays l).map aL.name):=by
 obtain⟨-,h2,h3⟩:=gz h;refine⟨fun o ho=>?_,nr (r8 stays l) h3⟩;obtain⟨x,hx,rfl,hne⟩:=oE ho;obtain⟨h4,h5⟩:=h2 x hx;obtain⟨-,h6,h7⟩:=mT h5;exact⟨h4,EY hne (fun p hp=>h6 p (List.mem_filter.1 hp).1) (nr List.filter_sublist h7)⟩
theorem kl:∀ (l:List aL) (n:Lz),bD (l.map aL.name)->(∀ o∈l.take (bB l n),Op.bytesLess o.name n=true)/\(∀ o∈l.drop (bB l n),Op.bytesLess o.name n=false)
 | [],n,_=>by simp
 | o :: l,n,h=>by
  unfold bD at h;rw[List.map_cons,List.pairwise_cons]at h;obtain⟨h1,h2⟩:=kl l n h.2;cases e:Op.bytesLess o.name n with
  | true=>
   have ec:bB (o :: l) n=bB l n+1:=by unfold bB;rw[List.countP_cons_of_pos (by exact e)]
   rw[ec,List.take_succ_cons,List.drop_succ_cons];refine⟨fun x hx=>?_,h2⟩;rcases List.mem_cons.1 hx with rfl | hx
   ·exact e
   ·exact h1 x hx
  | false=>
   have hz:bB (o :: l) n=0:=by
    unfold bB;rw[List.countP_eq_zero];intro x hx h9;rcases List.mem_cons.1 hx with rfl | hx
    ·rw[e]at h9;cases h9
    ·have:=cP _ _ _ (h.1 x.name (List.mem_map.2 ⟨x,hx,rfl⟩)) h9;rw[e]at this;cases this
   rw[hz,List.take_zero,List.drop_zero];refine⟨fun x hx=>(by cases hx),fun x hx=>?_⟩;rcases List.mem_cons.1 hx with rfl | hx
   ·exact e
   ·cases e9:Op.bytesLess x.name n with
    | false=>rfl
    | true=>
     have:=cP _ _ _ (h.1 x.name (List.mem_map.2 ⟨x,hx,rfl⟩)) e9;rw[e]at this;cases this
theorem DJ{l:List aL}(h:bD (l.map aL.name)){x y:aL}(hx:x∈l)(hy:y∈l)(e:x.name=y.name):x=y:=by
 induction l with
 | nil=>cases hx
 | cons o l ih=>
  unfold bD at h;rw[List.map_cons,List.pairwise_cons]at h;have no:∀ z∈l,o.name≠z.name:=fun z hz e9=>by
   have:=h.1 z.name (List.mem_map.2 ⟨z,hz,rfl⟩);rw[e9,TE]at this;cases this
  rcases List.mem_cons.1 hx with hx1 | hx1 <;> rcases List.mem_cons.1 hy with hy1 | hy1
  ·rw[hx1,hy1]
  ·rw[hx1]at e;exact absurd e (no y hy1)
  ·rw[hy1]at e;exact absurd e.symm (no x hx1)
  ·exact ih h.2 hx1 hy1
theorem wK{l}(h:bD (l.map aL.name)){o}(ho:o∈l):cq l o.name=o.paths:=by
 unfold cq;cases e:l.find? (fun x=>x.name == o.name) with
 | none=>
  rw[List.find?_eq_none]at e;exact absurd (e o ho) (by simp)
 | some y=>
  have h1:=List.mem_of_find?_eq_some e;have h2:=List.find?_some e;rw[beq_iff_eq]at h2;rw[DJ h h1 ho h2]
theorem pk{l who}(h:∀ o∈l,o.name≠who):cq l who=[]:=by
 unfold cq;cases e:l.find? (fun x=>x.name == who) with
 | none=>rfl
 | some y=>
  have h2:=List.find?_some e;rw[beq_iff_eq]at h2;exact absurd h2 (h y (List.mem_of_find?_eq_some e))
theorem mm{l}(h:TC l=true)(who):∀ p∈cq l who,oh p=true:=by
 intro p hp;unfold cq at hp;cases e:l.find? (fun x=>x.name == who) with
 | none=>rw[e]at hp;cases hp
 | some y=>
  rw[e]at hp;exact(mT ((gz h).2.1 y (List.mem_of_find?_eq_some e)).2).2.1 p hp
structure vh (v:V) (l:List aL) (who:Lz) (LQ:V):Prop where
 vk:v.kind=5
 vg:aE v=true
 wk:LQ.kind=5
 wg:aE LQ=true
 lg:TC l=true
 whog:bT who=true
theorem rF{v l who LQ}(h:vh v l who LQ):gO v LQ l who=il LQ ((au LQ).map aw) (iI (pd (au LQ) (cG v LQ l who)) ((cq l who).map aw) v):=by
 unfold gO;rw[zH,pp _ _ _ _ (mm h.lg who)]
theorem vh.cleared{v l who LQ}(h:vh v l who LQ)(keep:List Lz->Bool):fL (iI keep ((cq l who).map aw) v)/\(iI keep ((cq l who).map aw) v).kind=5:=
 mS _ _ (fun p hp=>by obtain⟨q,hq,rfl⟩:=List.mem_map.1 hp;exact(uM (mm h.lg who q hq)).2.1) (kg h.vg) h.vk
theorem vh.lv{v l who LQ}(h:vh v l who LQ):uq LQ (au LQ):=mM h.wk h.wg
theorem vh.at{v l who LQ}(h:vh v l who LQ){ns}(hn:ns∈(au LQ).map aw):∃ y,dr ns (gO v LQ l who)=some y/\(y=(dr ns LQ).getD aM\/y.kind=5/\((dr ns LQ).getD aM).kind=5):=by
 rw[rF h,rL (kg h.wg) _ _ h.lv.apart (h.cleared _).1 hn];refine⟨_,rfl,?_⟩;split
 ·rename_i hc;exact .inr hc
 ·exact .inl rfl
theorem FY{LQ v p}(h:dr (aw p) v=some y)(hy:y=(dr (aw p) LQ).getD aM\/y.kind=5/\((dr (aw p) LQ).getD aM).kind=5):fK LQ v p=false:=by
 unfold fK;rw[h];simp only;rcases hy with hy | hy
 ·simp[hy]
 ·rw[decide_eq_true hy.1,decide_eq_true hy.2];simp
theorem Ca{LQ v p}(h:fK LQ v p=false):∃ y,dr (aw p) v=some y/\(y=(dr (aw p) LQ).getD aM\/y.kind=5/\((dr (aw p) LQ).getD aM).kind=5):=by
 unfold fK at h;cases e:dr (aw p) v with
 | none=>rw[e]at h;cases h
 | some y=>
  rw[e]at h;simp only[Bool.and_eq_false_iff,Bool.not_eq_false',MJ,decide_eq_true_eq]at h;exact⟨y,rfl,h⟩
theorem vF(stays:Lz->Lz->Bool)(a b):dV stays (a++b)=dV stays a++dV stays b:=by simp[dV]
end
theorem Gi{e:TypeId}{size xs}(h:w.ownsRow B e size v n xs)(hb:La w w'):w'.ownsRow B e size v n xs:=h.kept (aq (r:=none) hb) (by cases v.ownBlock <;> simp)
def gq (w:LC) (ok:Nat->Prop) (ls:List (List V)) (cs:List Value):Prop:=cs.length=ls.length/\∀ (j:Nat) (l:List V) (c:Value),ls[j]?=some l->cs[j]?=some c->bJ w ok l c
theorem gq.imp{ls:List (List V)}{cs}(h:gq w ok ls cs)(hi:∀ l c,bJ w ok l c->bJ w' ok l c):gq w' ok ls cs:=
 ⟨h.1,fun j l c h1 h2=>hi l c (h.2 j l c h1 h2)⟩
theorem gq.push{ls:List (List V)}{cs}(h:gq w ok ls cs){l c}(hl:bJ w ok l c):gq w ok (ls++[l]) (cs++[c]):=by
 refine⟨by simp[h.1],fun j l' c' h1 h2=>?_⟩;by_cases hj:j < ls.length
 ·rw[List.getElem?_append_left hj]at h1;rw[List.getElem?_append_left (by rw[h.1];exact hj)]at h2;exact h.2 j l' c' h1 h2
 ·have:j < (ls++[l]).length:=(Mz.1 h1).1;simp only[Mx,My,List.length_nil]at this;have e:j=ls.length:=by omega
  subst e;rw[List.getElem?_append_right (by omega)]at h1;rw[List.getElem?_append_right (by rw[h.1];omega)]at h2;simp only[Nat.sub_self,List.getElem?_cons_zero,Option.some.injEq]at h1;rw[h.1]at h2;simp only[Nat.sub_self,List.getElem?_cons_zero,Option.some.injEq]at h2;rw[<-h1,<-h2];exact hl
theorem gq.pop{ls:List (List V)}{l cs}(h:gq w ok (ls++[l]) cs):∃ ds c,cs=ds++[c]/\gq w ok ls ds/\bJ w ok l c:=by
 have hl:cs.length=ls.length+1:=by simpa using h.1
 obtain⟨ds,c,rfl⟩:∃ ds c,cs=ds++[c]:=⟨cs.dropLast,cs.getLast (by intro e;rw[e]at hl;simp at hl),(List.dropLast_concat_getLast _).symm⟩
 have hd:ds.length=ls.length:=by simpa using hl
 refine⟨ds,c,rfl,⟨hd,fun j l' c' h1 h2=>?_⟩,?_⟩
 ·have h3:=(Mz.1 h1).1;exact h.2 j l' c' (by rw[List.getElem?_append_left h3];exact h1) (by rw[List.getElem?_append_left (by omega)];exact h2)
 ·exact h.2 ls.length l c (by simp) (by rw[<-hd];simp)
def ev (w:LC) (B:Nat) (ok:Nat->Prop) (ls:List (List V)) (g cap:Nat):Prop:=
 ∃ cs,w.ownsRow B 23 1 (.slice (some ⟨g,0,none⟩) ls.length cap) ls.length cs/\gq w ok ls cs/\∀ k,ok k->k≠g
theorem ev.lt{ls:List (List V)}{cap}(h:ev w B ok ls g cap):B<=g/\g < w.heap.size:=by
 obtain⟨cs,h,-,-⟩:=h;rcases h.2 with⟨e,_⟩ | ⟨g',cap',cur,e,h1,h2,_⟩
 ·cases e
 ·cases e;exact⟨h1,(MF.1 h2).1⟩
theorem ev.cap{ls:List (List V)}{cap}(h:ev w B ok ls g cap):ls.length<=cap/\cap<=9223372036854775807:=by
 obtain⟨cs,h,-,-⟩:=h;rcases h.2 with⟨e,_⟩ | ⟨g',cap',cur,e,h1,h2,h3,h4,_⟩
 ·cases e
 ·cases e;exact⟨h3,h4⟩
theorem ev.bel{ls:List (List V)}{cap}(h:ev w B ok ls g cap)(hb:La w w'):ev w' B ok ls g cap:=by
 obtain⟨cs,h1,h2,h3⟩:=h;exact⟨cs,Gi h1 hb,h2.imp fun _ _ h=>h.bel hb,h3⟩
theorem ev.far{ls:List (List V)}{cap g'}(h:ev w B ok ls g cap)(hg:w.grownBy w' (some g'))(hne:g≠g')(hok:∀ k,ok k->k≠g'):ev w' B ok ls g cap:=by
 obtain⟨cs,h1,h2,h3⟩:=h;exact⟨cs,h1.kept hg (by simp[Value.ownBlock,hne]),h2.imp fun _ _ h=>h.grown hg hok,h3⟩
theorem ev.pop{ls:List (List V)}{l cap}(h:ev w B ok (ls++[l]) g cap):∃ c,w.cell? ⟨g,ls.length,none⟩=some c/\bJ w ok l c/\ev w B ok ls g cap:=by
 obtain⟨cs,h1,h2,h3⟩:=h;obtain⟨ds,c,rfl,h4,h5⟩:=h2.pop;rcases h1.2 with⟨e,_⟩ | ⟨g',cap',cur,e,q1,q2,q3,q4,q5,q6⟩
 ·cases e
 ·cases e;have hl:ds.length=ls.length:=h4.1;simp only[Mx,My,List.length_nil,Nat.mul_one]at q3 q6;refine⟨c,?_,h5,ds,⟨by simp[hl],.inr ⟨g,cap,cur,rfl,q1,q2,by omega,q4,q5,?_⟩⟩,h4,h3⟩
  ·have:cur.toList[ls.length]?=some c:=by
    have e9:(cur.toList.take (ls.length+(0+1)))[ls.length]?=(ds++[c])[ls.length]?:=by rw[q6]
    rw[List.getElem?_take_of_lt (by omega)]at e9;rw[e9,<-hl];simp
   simp only[World.cell?,q2];simpa using this
  ·have:=congrArg (List.take ls.length) q6;rw[List.take_take,Nat.min_eq_left (by omega),List.take_append_of_le_length (by omega),MD (show ds.length<=ls.length by omega)]at this;simpa using this
theorem Tt:(prog.info? 23).map (fun i=>(i.zero,i.size,i.bytes))=some (some (.slice none 0 0),1,24):=by kernel_rfl
theorem Fm{ls:List (List V)}{cap nb l c}(hW:ev w B ok ls g cap)(hnb:w.heap[nb]?=some (.cells #[c] 23))(hv:bJ w ok l c)(hn:ls.length<=5000000000000)(hlow:∀ k,ok k->k < w.heap.size)(ty:TypeId):∃ g' cap' w',(Builtin.append_ #[95,95] ty #[.slice (some ⟨g,0,none⟩) ls.length cap,.slice (some ⟨nb,0,none⟩) 1 1]).run prog w=.ok (.slice (some ⟨g',0,none⟩) (ls.length+1) cap') w'/\ev w' B ok (ls++[l]) g' cap'/\w.grownBy w' (some g)/\(g'=g\/w.heap.size=g'):=by
 obtain⟨i0,hi,hz0,hz1,hz2⟩:=info_parts Tt;have hgl:=hW.lt;obtain⟨cs,h1,h2,h3⟩:=hW;obtain⟨a9,c9,rfl⟩:=hv.form;obtain⟨g',cap',w',hr,ho,hg,hat,hlt⟩:=run_append_lies (P:=prog) w 95 ty B 23 i0 _ 1 24 underlying95 hi hz0 hz1 hz2 rfl (by decide) _ ls.length cs h1 ⟨nb,0,none⟩ 1 1 [.slice a9 l.length c9] rfl
  (World.news_of_block (cs:=#[.slice a9 l.length c9]) hnb) (by intro u hu;simp only[List.mem_cons,List.not_mem_nil,or_false]at hu;subst hu;rfl) (by decide) (by unfold maxLen;omega) (by omega) (by omega) w.heap.size rfl
 have hgb:w.grownBy w' (some g):=by simpa [Value.ownBlock] using hg
 refine⟨g',cap',w',hr,⟨cs++[.slice a9 l.length c9],by simpa using ho,(h2.imp fun _ _ h=>h.grown hgb h3).push (hv.grown hgb h3),?_⟩,hgb,?_⟩
 ·intro k hk;rcases hat with hat | hat
  ·simp only[Value.ownBlock,Option.some.injEq]at hat;rw[<-hat];exact h3 k hk
  ·have:=hlow k hk;omega
 ·rcases hat with hat | hat
  ·simp only[Value.ownBlock,Option.some.injEq]at hat;exact .inl hat.symm
  ·exact .inr hat.symm
theorem Io{o:Oper}{a}{K:Act->LC->Prop}{Q:Exit->Act->LC->Prop}(s x:Operand)(ho:o.op=.call { callee:=.builtin .append,args:=#[s,x],argTypes:=#[95,95] }){ls:List (List V)}{cap nb l c}(hs:a.eval s=.slice (some ⟨g,0,none⟩) ls.length cap)(hx:a.eval x=.slice (some ⟨nb,0,none⟩) 1 1)(hW:ev w B ok ls g cap)(hnb:w.heap[nb]?=some (.cells #[c] 23))(hv:bJ w ok l c)(hn:ls.length<=5000000000000)(hlow:∀ k,ok k->k < w.heap.size)(hK:∀ g' cap' w',ev w' B ok (ls++[l]) g' cap'->w.grownBy w' (some g)->(g'=g\/w.heap.size=g')->K (a.put o.dst (.slice (some ⟨g',0,none⟩) (ls.length+1) cap')) w'):o.wp prog a w K Q:=by
 obtain⟨g',cap',w',hr,h2,h3,h4⟩:=Fm hW hnb hv hn hlow o.type;unfold Oper.wp execOp;simp only[ho,resolve,invoke,builtin,Sem.run_bind,Sem.run_pure,Result.andThen_ok,List.map_toArray,List.map_cons,List.map_nil,hs,hx,hr];exact hK g' cap' w' h2 h3 h4
theorem kG{ops:Array Oper}{o:Oper}{a}{K:Act->LC->Prop}{Q:Exit->Act->LC->Prop}{E:Prop}(hgd:o.guard=none)(s x:Operand)(ho:o.op=.call { callee:=.builtin .append,args:=#[s,x],argTypes:=#[95,95] }){ls:List (List V)}{cap nb l c}(hs:a.eval s=.slice (some ⟨g,0,none⟩) ls.length cap)(hx:a.eval x=.slice (some ⟨nb,0,none⟩) 1 1)(hW:ev w B ok ls g cap)(hnb:w.heap[nb]?=some (.cells #[c] 23))(hv:bJ w ok l c)(hn:ls.length<=5000000000000)(hlow:∀ k,ok k->k < w.heap.size)(hK:∀ g' cap' w',ev w' B ok (ls++[l]) g' cap'->w.grownBy w' (some g)->(g'=g\/w.heap.size=g')->K (a.put o.dst (.slice (some ⟨g',0,none⟩) (ls.length+1) cap')) w'):if Region.wanted o (yielded ops a.tmps)=true then Oper.wp prog o a w K Q else E:=by
 have hw:Region.wanted o (yielded ops a.tmps)=true:=by simp[Region.wanted,hgd]
 rw[if_pos hw];exact Io s x ho hs hx hW hnb hv hn hlow hK
variable {W:World}
def kw (ok:Nat->Prop) (B i:Nat):Nat->Prop:=fun k=>(ok k/\k < B)\/k=i
theorem JB{H}(h1:B<=H)(h2:i < H):∀ k,kw ok B i k->k < H:=by
 intro k hk;rcases hk with hk | hk <;> omega
theorem iL(h1:B<=g)(h2:i≠g):∀ k,kw ok B i k->k≠g:=by
 intro k hk;rcases hk with hk | hk <;> omega
theorem aj{a}(h:La a w)(o:Obj):La a (w.alloc o):=ab h (ae w o)
theorem ai{a}(h:La a w):La a w.drew:=h.drew
theorem IL{a}(h:La a w):a.heap.size<=w.heap.size:=h.size
theorem Gf{a g'}(h:La a w)(q:w.grownBy w' (some g))(o:g'=g\/w.heap.size=g'):a.grownBy w' (some g)/\(g'=g\/a.heap.size<=g'):=
 ⟨am (aq h) q,o.imp id fun e=>by have:=h.size;omega⟩
theorem dt{v:Obj}(h:w.heap[k]?=some v)(o:Obj):(w.alloc o).heap[k]?=some v:=
 ((World.grownBy_alloc w o none).block k (MF.1 h).1 (by simp)).trans h
theorem bI(w:LC)(o1 o2 o3 o4 o5 o6:Obj)(i)(hi:i < 6):((((((w.alloc o1).alloc o2).alloc o3).alloc o4).alloc o5).alloc o6).heap[w.heap.size+i]?=[o1,o2,o3,o4,o5,o6][i]?:=by
 rcases (show i=0\/i=1\/i=2\/i=3\/i=4\/i=5 by omega) with rfl | rfl | rfl | rfl | rfl | rfl
 ·exact dt (dt (dt (dt (dt (MN w o1) _) _) _) _) _
 ·exact dt (dt (dt (dt (by simpa using MN (w.alloc o1) o2) _) _) _) _
 ·exact dt (dt (dt (by simpa using MN ((w.alloc o1).alloc o2) o3) _) _) _
 ·exact dt (dt (by simpa using MN (((w.alloc o1).alloc o2).alloc o3) o4) _) _
 ·exact dt (by simpa using MN ((((w.alloc o1).alloc o2).alloc o3).alloc o4) o5) _
 ·simpa using MN (((((w.alloc o1).alloc o2).alloc o3).alloc o4).alloc o5) o6
def SE (w:LC) (ok ok':Nat->Prop) (ia ib:Nat) (ls rs:List (List V)) (gL gR cL cR:Nat) (wr:LC):Prop:=
 ev wr w.heap.size (kw ok w.heap.size ia) ls gL cL/\ev wr w.heap.size (kw ok' w.heap.size ib) rs gR cR/\gL≠gR/\ia≠gL/\ia≠gR/\ib≠gL/\ib≠gR/\ia < wr.heap.size/\ib < wr.heap.size/\La w wr
theorem SE.bel{wr':LC}{ia ib}{ls rs:List (List V)}{gL gR cL cR}(h:SE w ok ok' ia ib ls rs gL gR cL cR wr)(hb:La wr wr'):SE w ok ok' ia ib ls rs gL gR cL cR wr':=by
 obtain⟨h3,h4,h5,h6,h7,h8,h9,h10,h11,h12⟩:=h;exact⟨h3.bel hb,h4.bel hb,h5,h6,h7,h8,h9,MI h10 hb.size,MI h11 hb.size,ab h12 hb⟩
theorem SE.swap{ia ib}{ls rs:List (List V)}{gL gR cL cR}(h:SE w ok ok' ia ib ls rs gL gR cL cR wr):SE w ok' ok ib ia rs ls gR gL cR cL wr:=by
 obtain⟨h3,h4,h5,h6,h7,h8,h9,h10,h11,h12⟩:=h;exact⟨h4,h3,h5.symm,h9,h8,h7,h6,h11,h10,h12⟩
theorem SE.lows{ia ib}{ls rs:List (List V)}{gL gR cL cR}(h:SE w ok ok' ia ib ls rs gL gR cL cR wr):∀ k,kw ok w.heap.size ia k->k < wr.heap.size:=JB h.2.2.2.2.2.2.2.2.2.size h.2.2.2.2.2.2.2.1
theorem vJ{w4 w5 w6:LC}{ia ib}{ls rs:List (List V)}{gL gR cL cR g5 g6 c5 c6 lx ly}(h:SE w ok ok' ia ib ls rs gL gR cL cR w4)(q5:w4.grownBy w5 (some gL))(h5:ev w5 w.heap.size (kw ok w.heap.size ia) (ls++[lx]) g5 c5)(o5:g5=gL\/w4.heap.size<=g5)(q6:w5.grownBy w6 (some gR))(h6:ev w6 w.heap.size (kw ok' w.heap.size ib) (rs++[ly]) g6 c6)(o6:g6=gR\/w5.heap.size<=g6):SE w ok ok' ia ib (ls++[lx]) (rs++[ly]) g5 g6 c5 c6 w6:=by
 obtain⟨h3,h4,e1,e2,e3,e4,e5,e6,e7,hB⟩:=h;have l3:=h3.lt;have l4:=h4.lt;have l5:=h5.lt;have s5:=q5.size;have s6:=q6.size;have hn:g5≠gR:=by omega
 refine⟨h5.far q6 hn (iL l4.1 e3),h6,by omega,by omega,by omega,by omega,by omega,by omega,by omega,?_⟩;exact bS (lC (lC (aq hB) q5 l3.1) q6 l4.1)
def SI (w:LC) (ok ok':Nat->Prop) (ia ib:Nat) (ls rs:List (List V)) (lv rv:Value) (wr:LC):Prop:=
 ∃ gL gR cL cR,lv=.slice (some ⟨gL,0,none⟩) ls.length cL/\rv=.slice (some ⟨gR,0,none⟩) rs.length cR/\SE w ok ok' ia ib ls rs gL gR cL cR wr
theorem SI.bel{wr':LC}{ia ib}{ls rs:List (List V)}{lv rv}(h:SI w ok ok' ia ib ls rs lv rv wr)(hb:La wr wr'):SI w ok ok' ia ib ls rs lv rv wr':=by
 obtain⟨gL,gR,cL,cR,h1,h2,h3⟩:=h;exact⟨gL,gR,cL,cR,h1,h2,h3.bel hb⟩
theorem Iv{t:TypeId}(h:w.heap[g]?=some (.cells #[v] t))(hB:B<=g):w.ownsRow B t 1 (.slice (some ⟨g,0,none⟩) 1 1) 1 [v]:=
 ⟨rfl,.inr ⟨g,1,#[v],rfl,hB,h,MG _,by simp[maxLen],rfl,rfl⟩⟩
theorem uB{c0 c1 c2 c3 c4}(hx:In w (kw ok B i) t (.agg #[c0,c1,c2,c3,c4]))(h1:ag w i c0 c1 c2 c3 c4)(h2:w.heap[g]?=some (.cells #[.slice (some ⟨i,0,none⟩) 1 1] 23))(hB:B<=g)(hne:i≠g):ev w B (kw ok B i) [[t]] g 1:=by
 refine⟨[.slice (some ⟨i,0,none⟩) 1 1],Iv h2 hB,⟨rfl,?_⟩,iL hB hne⟩;intro j l c h3 h4;cases j with
 | zero=>
  simp only[List.getElem?_cons_zero,Option.some.injEq]at h3 h4;subst h3 h4;exact Fd hx h1 (.inr rfl)
 | succ j=>simp at h3
theorem iU{ia ib gL gR a b a0 a1 a2 a3 a4 b0 b1 b2 b3 b4}(ha:In w ok a (.agg #[a0,a1,a2,a3,a4]))(hb:In w ok' b (.agg #[b0,b1,b2,b3,b4]))(hB:La w W)(h1:W.heap[gL]?=some (.cells #[.slice (some ⟨ia,0,none⟩) 1 1] 23))(h2:W.heap[gR]?=some (.cells #[.slice (some ⟨ib,0,none⟩) 1 1] 23))(h3:ag W ia a0 a1 a2 a3 a4)(h4:ag W ib b0 b1 b2 b3 b4)(hn:gL≠gR/\ia≠gL/\ia≠gR/\ib≠gL/\ib≠gR/\w.heap.size<=gL/\w.heap.size<=gR):SI w ok ok' ia ib [[a]] [[b]] (.slice (some ⟨gL,0,none⟩) 1 1) (.slice (some ⟨gR,0,none⟩) 1 1) W:=by
 obtain⟨n1,n2,n3,n4,n5,n6,n7⟩:=hn;have k1:In W (kw ok w.heap.size ia) a (.agg #[a0,a1,a2,a3,a4]):=(ha.low.bel hB).weak fun k hk=>.inl hk;have k2:In W (kw ok' w.heap.size ib) b (.agg #[b0,b1,b2,b3,b4]):=(hb.low.bel hB).weak fun k hk=>.inl hk;exact⟨gL,gR,1,1,rfl,rfl,uB k1 h3 h1 n6 n2,uB k2 h4 h2 n7 n5,n1,n2,n3,n4,n5,h3.lt,h4.lt,hB⟩
def PL (ls rs:List (List V)):Prop:=rs.length=ls.length/\∀ (j:Nat) (l r:List V),ls[j]?=some l->rs[j]?=some r->r.length=l.length
theorem PL.push{ls rs:List (List V)}(h:PL ls rs){l r}(hl:r.length=l.length):PL (ls++[l]) (rs++[r]):=by
 refine⟨by simp[h.1],fun j l' r' h1 h2=>?_⟩;by_cases hj:j < ls.length
 ·rw[List.getElem?_append_left hj]at h1;rw[List.getElem?_append_left (by rw[h.1];exact hj)]at h2;exact h.2 j l' r' h1 h2
 ·have:j < (ls++[l]).length:=(Mz.1 h1).1;simp only[Mx,My,List.length_nil]at this;have e:j=ls.length:=by omega
  subst e;rw[List.getElem?_append_right (by omega)]at h1;rw[List.getElem?_append_right (by rw[h.1];omega)]at h2;simp only[Nat.sub_self,List.getElem?_cons_zero,Option.some.injEq]at h1;rw[h.1]at h2;simp only[Nat.sub_self,List.getElem?_cons_zero,Option.some.injEq]at h2;rw[<-h1,<-h2];exact hl
theorem PL.pop{ls rs:List (List V)}{l}(h:PL (ls++[l]) rs):∃ qs r,rs=qs++[r]/\PL ls qs/\r.length=l.length:=by
 have hl:rs.length=ls.length+1:=by simpa using h.1
 obtain⟨qs,r,rfl⟩:∃ qs r,rs=qs++[r]:=⟨rs.dropLast,rs.getLast (by intro e;rw[e]at hl;simp at hl),(List.dropLast_concat_getLast _).symm⟩
 have hd:qs.length=ls.length:=by simpa using hl
 refine⟨qs,r,rfl,⟨hd,fun j l' r' h1 h2=>?_⟩,?_⟩
 ·have h3:=(Mz.1 h1).1;exact h.2 j l' r' (by rw[List.getElem?_append_left h3];exact h1) (by rw[List.getElem?_append_left (by omega)];exact h2)
 ·exact h.2 ls.length l r (by simp) (by rw[<-hd];simp)
theorem Kx{α:Type}(ls:List α):ls=[]\/∃ ms l,ls=ms++[l]:=by
 cases ls with
 | nil=>exact .inl rfl
 | cons x xs=>exact .inr ⟨(x :: xs).dropLast,(x :: xs).getLast (by simp),(List.dropLast_concat_getLast _).symm⟩
theorem kK{xs ys:List V}(h1:k < xs.length)(h2:k < ys.length):(xs.drop k=ys.drop k↔xs[k]=ys[k]/\xs.drop (k+1)=ys.drop (k+1)):=by
 rw[ME h1,ME h2,List.cons.injEq]
theorem mZ{α:Type}{a b:List α}{x y:α}:(a++[x]=b++[y]↔a=b/\x=y):=by
 constructor
 ·intro h;exact List.append_inj' h rfl |>.imp id fun e=>List.cons.inj e |>.1
 ·rintro⟨rfl,rfl⟩;rfl
def Je (w:LC) (a b:V) (e:Ending) (w':LC):Prop:=∃ r,e=.returned (.bool r)/\(r=true↔a=b)/\La w w'
def SJ (w:LC) (ok ok':Nat->Prop) (ia ib:Nat) (a b:V) (xs ys:List V) (xv yv:Value) (M k:Nat) (lv rv:Value) (wr:LC):Prop:=
 ∃ ls rs,(a=b↔ls=rs/\xs.drop k=ys.drop k)/\PL ls rs/\mu ls+cnts (xs.drop k)+1<=M/\M<=2000000000001/\bJ wr (kw ok w.heap.size ia) xs xv/\bJ wr (kw ok' w.heap.size ib) ys yv/\SI w ok ok' ia ib ls rs lv rv wr
theorem SJ.bel{wr':LC}{ia ib a b xs ys xv yv M lv rv}(h:SJ w ok ok' ia ib a b xs ys xv yv M k lv rv wr)(hb:La wr wr'):SJ w ok ok' ia ib a b xs ys xv yv M k lv rv wr':=by
 obtain⟨ls,rs,h1,h2,h3,h4,h5,h6,h7⟩:=h;exact⟨ls,rs,h1,h2,h3,h4,h5.bel hb,h6.bel hb,h7.bel hb⟩
theorem Jg{w2 v1 v3 n1 n3 N cs1 cs3}(key)(s1:du w2 1 v1 n1 cs1)(s3:du w2 1 v3 n3 cs3)(hN:n1+1+n3=N)(hn:N<=1000000)(W)(e1:W.heap=((w2.alloc (.cells #[.string key] 9)).alloc (.cells #[v1,.slice (some ⟨w2.heap.size,0,none⟩) 1 1,v3] 22)).heap)(e2:W.os=w2.os)(e3:W.tape=w2.tape)(e4:W.output=w2.output):Calls prog 127 #[.slice (some ⟨w2.heap.size+1,0,none⟩) 3 3] W fun e w'=>∃ g cap,e=.returned (.slice (some ⟨g,0,none⟩) N cap)/\w'.ownsRow w2.heap.size 9 1 (.slice (some ⟨g,0,none⟩) N cap) N (cs1++[.string key]++cs3)/\La w2 w':=by
 have LY:La w2 W:=by
  have:=ab (ae w2 (.cells #[.string key] 9)) (ae _ (.cells #[v1,.slice (some ⟨w2.heap.size,0,none⟩) 1 1,v3] 22));exact⟨e2,e3,e4,by rw[e1];exact this.size,fun k hk=>by rw[e1];exact this.block k hk⟩
 have ha:=fb w2 (.cells #[.string key] 9) (.cells #[v1,.slice (some ⟨w2.heap.size,0,none⟩) 1 1,v3] 22);have hb:=et w2 (.cells #[.string key] 9) (.cells #[v1,.slice (some ⟨w2.heap.size,0,none⟩) 1 1,v3] 22);rw[<-e1]at ha hb;refine(Ew W (w2.heap.size+1) ⟨v1,n1,cs1⟩ ⟨_,1,_⟩ ⟨v3,n3,cs3⟩ (by simp[World.cell?,hb]) (by simp[World.cell?,hb]) (by simp[World.cell?,hb]) (s1.bel LY) (Kp ha rfl) (s3.bel LY) (by simp only;omega)).mono ?_;rintro e w' ⟨v,rfl,ho,hb9⟩;simp only at ho;rw[hN]at ho;have ho':=TP ho LY.size;rcases ho'.2 with⟨_,h0⟩ | ⟨g,cap,cur,e,rest⟩
 ·omega
 ·subst e;exact⟨g,cap,rfl,ho',ab LY hb9⟩
theorem EJ{w2 v1 v3 n1 n3 N cs1 cs3}(k n s a7 a8 l7 c7 l8 c8)(s1:du w2 5 v1 n1 cs1)(s3:du w2 5 v3 n3 cs3)(hN:n1+1+n3=N)(hn:N<=1000000)(W)(e1:W.heap=((w2.alloc (.cells #[.int .i64 k,.int .i64 n,.string s,.slice a7 l7 c7,.slice a8 l8 c8] 25)).alloc (.cells #[v1,.slice (some ⟨w2.heap.size,0,none⟩) 1 1,v3] 23)).heap)(e2:W.os=w2.os)(e3:W.tape=w2.tape)(e4:W.output=w2.output):Calls prog 126 #[.slice (some ⟨w2.heap.size+1,0,none⟩) 3 3] W fun e w'=>∃ g cap,e=.returned (.slice (some ⟨g,0,none⟩) N cap)/\w'.ownsRow w2.heap.size 25 5 (.slice (some ⟨g,0,none⟩) N cap) N (cs1++[.int .i64 k,.int .i64 n,.string s,.slice a7 l7 c7,.slice a8 l8 c8]++cs3)/\La w2 w':=by
 have LY:La w2 W:=by
  have:=ab (ae w2 (.cells #[.int .i64 k,.int .i64 n,.string s,.slice a7 l7 c7,.slice a8 l8 c8] 25)) (ae _ (.cells #[v1,.slice (some ⟨w2.heap.size,0,none⟩) 1 1,v3] 23));exact⟨e2,e3,e4,by rw[e1];exact this.size,fun k hk=>by rw[e1];exact this.block k hk⟩
 have ha:=fb w2 (.cells #[.int .i64 k,.int .i64 n,.string s,.slice a7 l7 c7,.slice a8 l8 c8] 25) (.cells #[v1,.slice (some ⟨w2.heap.size,0,none⟩) 1 1,v3] 23);have hb:=et w2 (.cells #[.int .i64 k,.int .i64 n,.string s,.slice a7 l7 c7,.slice a8 l8 c8] 25) (.cells #[v1,.slice (some ⟨w2.heap.size,0,none⟩) 1 1,v3] 23);rw[<-e1]at ha hb;refine(vB W (w2.heap.size+1) ⟨v1,n1,cs1⟩ ⟨_,1,_⟩ ⟨v3,n3,cs3⟩ (by simp[World.cell?,hb]) (by simp[World.cell?,hb]) (by simp[World.cell?,hb]) (s1.bel LY) (Gj ha (Ji _ _ _ _ _ _ _ _ _)) (s3.bel LY) (by simp only;omega)).mono ?_;rintro e w' ⟨v,rfl,ho,hb9⟩;simp only at ho;rw[hN]at ho;have ho':=TP ho LY.size;rcases ho'.2 with⟨_,h0⟩ | ⟨g,cap,cur,e,rest⟩
 ·omega
 ·subst e;exact⟨g,cap,rfl,ho',ab LY hb9⟩
def vW:Prop:=∀ (w:LC) (ok:Nat->Prop) (d:Nat) (t x:V) (v xv:Value) (key:Lz),bu w ok (d+1) t v->bu w ok d x xv->aK t=true->t.l.length<=100000->key.length<=maxLen ->
 Calls prog 87 #[v,aR key,xv] w fun e w'=>∃ r,e=.returned r/\bu w' (bQ ok w.heap.size) (d+1) (aG t key x) r/\La w w'
theorem C7{cs nb k}(ho:W.ownsRow B 9 1 v n cs)(hnb:W.heap[nb]?=some (.cells #[.string k] 9))(hn:n<=1000000)(hB:B<=W.heap.size)(ty:TypeId):∃ g cap W',(Builtin.append_ #[22,22] ty #[v,.slice (some ⟨nb,0,none⟩) 1 1]).run prog W=.ok (.slice (some ⟨g,0,none⟩) (n+1) cap) W'/\W'.ownsRow B 9 1 (.slice (some ⟨g,0,none⟩) (n+1) cap) (n+1) (cs++[.string k])/\W.grownBy W' v.ownBlock/\(v.ownBlock=some g\/W.heap.size=g):=by
 obtain⟨i0,hi,hz0,hz1,hz2⟩:=info_parts wG;obtain⟨g,cap,W',hr,h1,h2,h3,-⟩:=run_append_lies (P:=prog) W 22 ty B 9 i0 _ 1 16 underlying22 hi hz0 hz1 hz2 rfl (by decide) v n cs ho ⟨nb,0,none⟩ 1 1 [.string k] rfl
  (World.news_of_block (cs:=#[.string k]) hnb) (by intro u hu;simp only[List.mem_cons,List.not_mem_nil,or_false]at hu;subst hu;rfl) (by decide) (by unfold maxLen;omega) (by omega) hB W.heap.size rfl
 exact⟨g,cap,W',hr,h1,h2,h3.imp id Eq.symm⟩
theorem Jv{a r}(hb:La a w)(hg:w.grownBy w' r)(hr:∀ g,r=some g->a.heap.size<=g):La a w':=
 ⟨hg.os.trans hb.os,hg.tape.trans hb.tape,hg.output.trans hb.output,MH hb.size hg.size,fun k hk=>(hg.block k (MI hk hb.size) (fun e=>by have:=hr k e.symm;omega)).trans (hb.block k hk)⟩
structure kX (w w':LC) (gl:Nat) (r:Option Nat):Prop where
 os:w'.os=w.os
 tape:w'.tape=w.tape
 output:w'.output=w.output
 size:w.heap.size<=w'.heap.size
 block:∀ k,k < w.heap.size->k≠gl->some k≠r->w'.heap[k]?=w.heap[k]?
def nA (w:LC) (r r':Option Nat):Prop:=r'=r\/∃ g,r'=some g/\w.heap.size<=g
theorem sy{gl r}(h:La w w'):kX w w' gl r:=⟨h.os,h.tape,h.output,h.size,fun k hk _ _=>h.block k hk⟩
theorem kX.trans{a b c gl r r1}(h:kX a b gl r)(hf:nA a r r1)(k:kX b c gl r1):kX a c gl r:=
 ⟨k.os.trans h.os,k.tape.trans h.tape,k.output.trans h.output,MH h.size k.size,fun i hi h1 h2=>by
  rw[k.block i (MI hi h.size) h1 ?_,h.block i hi h1 h2];rcases hf with rfl | ⟨g,rfl,hg⟩
  ·exact h2
  ·simp;omega⟩
theorem nA.trans{a b r r1 r2}(h:nA a r r1)(hs:a.heap.size<=b.heap.size)(k:nA b r1 r2):nA a r r2:=by
 rcases k with rfl | ⟨g,rfl,hg⟩
 ·exact h
 ·exact .inr ⟨g,rfl,by omega⟩
theorem kX.low{gl r}(h:kX w w' gl r)(hg:gl < w.heap.size)(hr:∀ g,r=some g->gl < g):Below gl w w':=
 ⟨h.os,h.tape,h.output,h.size,fun k hk=>h.block k (by omega) (by omega) (fun e=>by have:=hr k e.symm;omega)⟩
theorem In.belB(h:In w ok t v)(hok:∀ k,ok k->k < B)(hb:Below B w w'):In w' ok t v:=by
 obtain⟨d,h⟩:=h;exact⟨d,bu.imp (fun a x h1 h2=>⟨h1,(World.cell?_of_block (hb.block _ (hok _ h1))).trans h2⟩) d h⟩
def pH (w:LC) (gl:Nat) (L:List Lz) (r:Option Nat):Prop:=
 ∃ sv,w.heap[gl]?=some (.cells #[sv] 22)/\w.ownsRow (gl+1) 9 1 sv L.length (L.map fun s=>.string ⟨s.toArray⟩)/\sv.ownBlock=r
theorem bY{e:TypeId}{size xs}(h:w.ownsRow B e size v n xs)(hg:v.ownBlock=some g):B<=g/\g < w.heap.size:=by
 rcases h.2 with⟨rfl,-⟩ | ⟨g',cap,cur,rfl,h1,h2,-⟩
 ·cases hg
 ·cases hg;exact⟨h1,(MF.1 h2).1⟩
theorem bM{e:TypeId}{size xs}(h:w.ownsRow B e size v n xs)(hk:∀ g,v.ownBlock=some g->w'.heap[g]?=w.heap[g]?):w'.ownsRow B e size v n xs:=by
 refine⟨h.1,?_⟩;rcases h.2 with h0 | ⟨g',cap,cur,rfl,h1,h2,h3⟩
 ·exact .inl h0
 ·exact .inr ⟨g',cap,cur,rfl,h1,by rw[hk g' rfl];exact h2,h3⟩
theorem pH.bel{gl L r}(h:pH w gl L r)(hb:La w w'):pH w' gl L r:=by
 obtain⟨sv,h1,h2,h3⟩:=h;refine⟨sv,(hb.block gl (MF.1 h1).1).trans h1,bM h2 fun g hg=>hb.block g (bY h2 hg).2,h3⟩
theorem pH.lt{gl L r}(h:pH w gl L r):gl < w.heap.size:=by
 obtain⟨sv,h1,-⟩:=h;exact(MF.1 h1).1
theorem pH.row{gl L r}(h:pH w gl L r)(hg:r=some g):gl < g/\g < w.heap.size:=by
 obtain⟨sv,-,h2,h3⟩:=h;have:=bY h2 (h3.trans hg);exact⟨by omega,this.2⟩
def Eh (w w':LC) (gl:Nat) (r:Option Nat) (L:List Lz):Prop:=∃ r',pH w' gl L r'/\kX w w' gl r/\nA w r r'
theorem Gk{wc W' gl L r sv p cap}(hb:wc.heap[gl]?=some (.cells #[sv] 22))(hr:sv.ownBlock=r)(hB:∀ g,r=some g->gl < g)(ho:W'.ownsRow (gl+1) 9 1 (.slice (some ⟨g,0,none⟩) (L.length+1) cap) (L.length+1) (L.map (fun s=>Value.string ⟨s.toArray⟩)++[.string ⟨p.toArray⟩]))(hg:(wc.alloc (.cells #[.string ⟨p.toArray⟩] 9)).grownBy W' sv.ownBlock)(hf:sv.ownBlock=some g\/(wc.alloc (.cells #[.string ⟨p.toArray⟩] 9)).heap.size=g)(hgl:gl < wc.heap.size):Eh wc (W'.setCell ⟨gl,0,none⟩ (.slice (some ⟨g,0,none⟩) (L.length+1) cap)) gl r (L++[p]):=by
 have ha:=ae wc (.cells #[.string ⟨p.toArray⟩] 9);have hgo:=(bY ho (g:=g) rfl).1;have hbox:W'.heap[gl]?=some (.cells #[sv] 22):=by
  rw[hg.block gl (MI hgl ha.size) ?_,ha.block gl hgl,hb];intro e;have:=hB gl (by rw[<-hr];exact e.symm);omega
 have hset:∀ k,k≠gl->(W'.setCell ⟨gl,0,none⟩ (.slice (some ⟨g,0,none⟩) (L.length+1) cap)).heap[k]?=W'.heap[k]?:=fun k hk=>Below.heap_setCell W' ⟨gl,0,none⟩ _ k hk;refine⟨some g,⟨_,ak hbox 0 _,?_,rfl⟩,⟨hg.os.trans ha.os,hg.tape.trans ha.tape,hg.output.trans ha.output,?_,fun k hk h1 h2=>?_⟩,?_⟩
 ·have:W'.ownsRow (gl+1) 9 1 (.slice (some ⟨g,0,none⟩) (L.length+1) cap) (L++[p]).length ((L++[p]).map fun s=>Value.string ⟨s.toArray⟩):=by simpa using ho
  refine bM this fun g' hg'=>hset g' ?_;have e9:g=g':=by simpa [Value.ownBlock] using hg'
  omega
 ·have h1:=ha.size;have h2:=hg.size;simp only[World.setCell,Array.size_modify];omega
 ·rw[hset k h1,hg.block k (MI hk ha.size) (by rw[hr];exact h2),ha.block k hk]
 ·rcases hf with hf | hf
  ·exact .inl (by rw[<-hr,hf])
  ·refine .inr ⟨g,rfl,?_⟩;have:=ha.size;omega
def jL (D:Nat) (t:V) (k:Nat):List (List Lz):=((t.keys.zip t.l).take k).flatMap fun p=>if p.2.kind=5/\p.2.l≠[] then (jK D p.2).map (p.1 :: ·) else [[p.1]]
theorem Dx(D t):jL D t 0=[]:=by simp[jL]
theorem D3{D}(h:t.keys.length=t.l.length):jL D t t.keys.length=jK (D+1) t:=by
 rw[jL,MD (by rw[List.length_zip];omega),jK]
theorem Ck{D}(hk:k < t.keys.length)(hl:k < t.l.length):jL D t (k+1)=jL D t k++(if t.l[k].kind=5/\t.l[k].l≠[] then (jK D t.l[k]).map (t.keys[k] :: ·) else [[t.keys[k]]]):=by
 unfold jL;rw[List.take_succ_eq_append_getElem (by rw[List.length_zip];omega),List.flatMap_append,List.getElem_zip];simp
def dC (at_:Lz) (l:List (List Lz)):List Lz:=l.map fun ns=>at_++aU ns
theorem vQ(at_ key)(l:List (List Lz)):dC at_ (l.map (key :: ·))=dC (at_++aU [key]) l:=by
 unfold dC;rw[List.map_map];refine List.map_congr_left fun ns _=>?_;have:aU (key :: ns)=aU [key]++aU ns:=by rw[<-vT];rfl
 simp[this]
theorem mB:∀ (D:Nat) (t:V),(jK D t).length<=cnts t.l
 | 0,t=>by simp[jK]
 | D+1,t=>by
  rw[jK];generalize t.keys=ks;generalize t.l=l;induction l generalizing ks with
  | nil=>simp
  | cons x l ih=>
   cases ks with
   | nil=>simp
   | cons k ks=>
    rw[List.zip_cons_cons,List.flatMap_cons,Mx,er];have h1:=ih ks;have h2:=mB D x;have h3:=df x;have h0:(if x.kind=5/\x.l≠[] then (jK D x).map (k :: ·) else [[k]]).length<=bN x:=by
     split
     ·rw[List.length_map];omega
     ·simp;omega
    exact Nat.add_le_add h0 h1
theorem Ei(D t k):(jL D t k).length<=cnts (t.l.take k):=by
 unfold jL;generalize t.keys=ks;generalize t.l=l;induction l generalizing ks k with
 | nil=>simp
 | cons x l ih=>
  cases ks with
  | nil=>simp
  | cons q ks=>
   cases k with
   | zero=>simp
   | succ k=>
    rw[List.zip_cons_cons,List.take_succ_cons,List.take_succ_cons,List.flatMap_cons,Mx,er];have h1:=ih k ks;have h2:=mB D x;have h3:=df x;have h0:(if x.kind=5/\x.l≠[] then (jK D x).map (q :: ·) else [[q]]).length<=bN x:=by
     split
     ·rw[List.length_map];omega
     ·simp;omega
    exact Nat.add_le_add h0 h1
theorem zI{l}(hk:k < l.length):cnts (l.take k)+bN l[k]<=cnts l:=by
 have h:=List.take_append_drop k l;have e:cnts l=cnts (l.take k)+cnts (l.drop k):=by
  rw[cnts,cnts,cnts,<-List.sum_append,<-List.map_append,h]
 rw[e,iV hk];omega
theorem IC(W:LC)(key:Lz)(hk:key.length<=maxLen):ao (W.alloc (.cells #[.string ⟨key.toArray⟩] 9)) (fun _=>True) [key] (.slice (some ⟨W.heap.size,0,none⟩) 1 1):=by
 refine⟨by simp[maxLen],.inr ⟨W.heap.size,0,1,rfl,by simp,by simp[maxLen],fun i x hx=>?_⟩⟩;cases i with
 | zero=>
  simp only[List.getElem?_cons_zero,Option.some.injEq]at hx;subst hx;refine⟨hk,trivial,?_⟩;have:=MN W (.cells #[.string ⟨key.toArray⟩] 9);generalize W.alloc (.cells #[.string ⟨key.toArray⟩] 9)=W2 at this;simp[World.cell?,this,aR]
 | succ i=>simp at hx
abbrev xB (B b:Nat) (l:Lz) (w:LC):Prop:=Lib.IsBuilderF 115 5 B b (Lib.byteCells l) w
theorem xB.bel{b l}(h:xB B b l w)(hb:La w w'):xB B b l w':=by
 rcases h with⟨h1,v,h2,h3,h4⟩ | ⟨h1,v,h2,h3,h4⟩
 ·exact .inl ⟨h1,v,(hb.block _ (MF.1 h2).1).trans h2,h3.kept (aq (r:=none) hb) (by cases v.ownBlock <;> simp),h4⟩
 ·exact .inr ⟨h1,v,(hb.block _ (MF.1 h2).1).trans h2,h3.kept (aq (r:=none) hb) (by cases v.ownBlock <;> simp),h4⟩
theorem tI(B b l w)(h:xB B b l w)(hl:l.length<=1000000000)(hB:B<=w.heap.size):Calls prog 107 #[.pointer (some ⟨b,0,none⟩),.int .u8 47] w fun e w'=>e=.returned .nilIface/\xB B b (l++[47]) w'/\Below B w w':=by
 have hl2:(Lib.byteCells l).length=l.length:=by simp[Lib.byteCells]
 refine(Any.Builder_WriteByte_k Tryz.laysB167 Tryz.laysB_extra B b (Lib.byteCells l) 47 w h (by omega) hB).mono ?_;rintro e w' ⟨rfl,h1,h2,-⟩;refine⟨rfl,.inr ?_,h2⟩;have e1:Lib.byteCells (l++[47])=Lib.byteCells l++[.int .u8 47]:=by simp[Lib.byteCells]
 rw[e1];exact h1
theorem oS(B b l s w)(h:xB B b l w)(hl:l.length<=1000000000)(hs:s.length<=1000000000)(hB:B<=w.heap.size):Calls prog 108 #[.pointer (some ⟨b,0,none⟩),.string ⟨s.toArray⟩] w fun e w'=>e=.returned (.tuple #[.int .i64 s.length,.nilIface])/\xB B b (l++s) w'/\Below B w w':=by
 have hl2:(Lib.byteCells l).length=l.length:=by simp[Lib.byteCells]
 refine(Any.Builder_WriteString_k Tryz.laysB166 Tryz.laysB_extra B b (Lib.byteCells l) ⟨s.toArray⟩ w h (by rw[eS];omega) hB).mono ?_;rintro e w' ⟨rfl,h1,h2,-⟩;refine⟨by rw[eS],.inr ?_,h2⟩;have e1:Lib.byteCells (l++s)=Lib.byteCells l++Lib.strCells ⟨s.toArray⟩:=by simp[Lib.byteCells,Lib.strCells]
 rw[e1];exact h1
theorem BR(B b l w)(h:xB B b l w)(hB:B<=w.heap.size):Calls prog 110 #[.pointer (some ⟨b,0,none⟩)] w fun e w'=>e=.returned (.string ⟨l.toArray⟩)/\Below B w w':=by
 refine(Any.Builder_String_any_k Tryz.laysB169 Tryz.laysB_extra B b l w h hB).mono ?_;rintro e w' ⟨rfl,-,h2,-⟩;exact⟨rfl,h2⟩
theorem CD(w:LC)(s)(hs:s.length<=10000000)(hM:bj w):Calls prog 109 #[aR s] w fun e w'=>e=.returned (aR (dY s))/\La w w':=by
 have HM:=aa hM;clear hM;unfold aR;go_enter func109,ntmps109;go_wp2_with fail
 refine Lk (oP _ s [126] [126,48] (by omega) (by simp) (by simp) (by exact HM.o)) fun w1 hb1=>?_;have HB1:=aa hb1;have HM1:=aa (HM.o.bel hb1);have hl:(Lib.replaceAll s [126] [126,48]).length<=2 * s.length:=by
  rw[IU];generalize s=s;induction s with
  | nil=>simp
  | cons c s ih=>
   have:(if c=126 then [126,48] else [c]:Lz).length<=2:=by split <;> simp
   simp only[List.flatMap_cons,Mx,My];omega
 clear hb1;go_wp2_with fail
 refine Lk (oP _ (Lib.replaceAll s [126] [126,48]) [47] [126,49] (by omega) (by simp) (by simp) (by exact HM1.o)) fun w2 hb2=>?_;have HB2:=aa hb2;clear hb2;go_wp2_with fail
 go_ret;exact⟨rfl,ab HB1.o HB2.o⟩
theorem Vq{l:List Lz}(h:k < l.length):aU (l.take (k+1))=aU (l.take k)++[47]++dY l[k]:=by
 unfold aU;rw[List.take_add_one,Mw h,List.flatMap_append];simp
theorem rZ(l k):(aU (l.take k)).length<=(aU l).length:=by
 have:aU l=aU (l.take k)++aU (l.drop k):=by
  unfold aU;rw[<-List.flatMap_append,List.take_append_drop]
 rw[this,Mx];omega
theorem Ij(w:LC)(o:Obj)(ho:o=.cells #[.pointer none,.slice none 0 0] 115):xB w.heap.size w.heap.size [] (w.alloc o):=by
 subst ho;exact .inl ⟨MG _,.slice none 0 0,MN w _,World.ownsRowF_of (World.ownsRow_nil _ _ _ _),by simp[Value.ownBlock]⟩
theorem M4(w:LC)(ok l v)(hl:ao w ok l v)(hn:∀ x∈l,x.length<=10000000)(hj:(aU l).length<=10000000)(hM:bj w):Calls prog 77 #[v] w fun e w'=>e=.returned (aR (aU l))/\La w w':=by
 obtain⟨a1,c1,rfl⟩:=hl.form;have HL:=aa hl;have HN:=aa hn;have HM:=aa hM;have hl1:=hl.1;unfold maxLen at hl1;clear hl hn hM;have S0:Ll (xB w.heap.size w.heap.size (aU (l.take 0)) (w.alloc (.cells #[.pointer none,.slice none 0 0] 115))/\La w (w.alloc (.cells #[.pointer none,.slice none 0 0] 115))):=⟨Ij w _ rfl,ae _ _⟩
 unfold aR;go_enter func77,ntmps77;go_wp2_with fail
 go_loopg [8] l.length (fun gk i wr=>∃ k:Nat,k<=l.length/\gk=l.length - k/\i=.int .i64 k/\xB w.heap.size w.heap.size (aU (l.take k)) wr/\La w wr)
 case atStart=>exact⟨0,Nat.zero_le _,rfl,rfl,S0.o.1,S0.o.2⟩
 case round=>
  obtain⟨k,hk,hgk,rfl,hh,hbl⟩:=hrel;have GK:=aa hgk;have A:Ll (xB w.heap.size w.heap.size (aU (l.take k)) wr/\La w wr):=⟨hh,hbl⟩
  clear hgk hh hbl;have hpart:=rZ l k;by_cases hlt:k < l.length
  ·obtain⟨kb,ko,rfl,hc1,hc2,hc⟩:=lm HL.o hlt;have c9:wr.cell? ⟨kb,ko+k,none⟩=some (.string ⟨l[k].toArray⟩):=ah A.o.2 hc;have hpart2:=rZ l (k+1);have JT:=aa (Vq hlt);have hlk:l[k].length<=10000000:=HN.o _ (List.getElem_mem _);have hmk:(dY l[k]).length<=10000000:=by
    have e:=congrArg List.length JT.o;simp only[Mx,My,List.length_nil]at e;omega
   clear hc;unfold maxLen at hc2;go_wp2_with fail
   refine(tI w.heap.size w.heap.size (aU (l.take k)) _ (by exact A.o.1) (by omega) (by exact A.o.2.size)).mono ?_;rintro e w1 ⟨rfl,hB1,hb1⟩;have A1:Ll (xB w.heap.size w.heap.size (aU (l.take k)++[47]) w1/\La w w1):=⟨hB1,A.o.2.trans hb1⟩
   clear hB1 hb1;have M1:=aa (HM.o.bel A1.o.2);go_wp2_with fail
   refine Lk (CD _ l[k] (by omega) (by exact M1.o)) fun w2 hb2=>?_;have A2:Ll (xB w.heap.size w.heap.size (aU (l.take k)++[47]) w2/\La w w2):=⟨A1.o.1.bel hb2,ab A1.o.2 hb2⟩
   clear hb2;unfold aR;go_wp2_with fail
   refine(oS w.heap.size w.heap.size (aU (l.take k)++[47]) (dY l[k]) _ (by exact A2.o.1) (by simp only[Mx,My,List.length_nil];omega) (by omega) (by exact A2.o.2.size)).mono ?_;rintro e w3 ⟨rfl,hB3,hb3⟩;have A3:Ll (xB w.heap.size w.heap.size (aU (l.take (k+1))) w3/\La w w3):=⟨by rw[JT.o];exact hB3,A2.o.2.trans hb3⟩
   clear hB3 hb3;go_wp2_with fail
   go_roundg (l.length - (k+1))
   case measure=>rw[GK.o];omega
   case rel=>exact⟨k+1,by omega,rfl,by go_num,A3.o.1,A3.o.2⟩
  ·have Mc:k=l.length:=by omega
   subst Mc;have A4:Ll (xB w.heap.size w.heap.size (aU l) wr/\La w wr):=⟨by have:=A.o.1;rwa [List.take_length]at this,A.o.2⟩
   clear A;go_wp2_with fail
   refine Lk (BR w.heap.size w.heap.size (aU l) _ (by exact A4.o.1) (by exact A4.o.2.size)) fun w1 hb1=>?_;have HB1:=aa hb1;clear hb1;go_wp2_with fail
   go_ret;exact⟨rfl,A4.o.2.trans HB1.o⟩
theorem xy(w:LC)(p)(hp:p.length<=140737488351232)(hM:bj w):Calls prog 76 #[aR p] w fun e w'=>e=.returned (.bool (oh p))/\La w w':=by
 have HM:=aa hM;clear hM;have pe:((ByteArray.mk p.toArray) == (ByteArray.mk p.toArray))=true:=zN rfl;unfold aR;go_enter func76,ntmps76;go_wp2_with fail
 refine(iO _ p hp (by exact HM.o)).mono ?_;rintro e w1 ⟨ns,ee,na,nc,rfl,hsp,hns,hb1⟩;have nlen:=hns.1;unfold maxLen at nlen;have K:=aa hns;have B:=aa hb1;have R:Ll (oh p=(decide (ee=0)&&!ns.isEmpty)):=aa (by unfold oh aw;rw[hsp]);clear hns hb1;by_cases he:ee=0
 ·subst he;obtain⟨h1,h2⟩:=mO hsp;have JN:Ll (∀ x∈ns,x.length<=10000000):=aa (fun x hx=>by have:=sL hx;rw[h2]at this;omega);have JP:=aa h2;have JL:Ll ((aU ns).length<=10000000):=aa (by rw[h2];omega);clear h1 h2 hsp;cases ns with
  | nil=>
   have RR:Ll (oh p=false):=aa (by rw[R.o];rfl);clear R;go_wp2_with fail
   go_ret;exact⟨by rw[RR.o];rfl,B.o⟩
  | cons x xs=>
   have RR:Ll (oh p=true):=aa (by rw[R.o];rfl);have g1:(0:Int) < (((x :: xs).length:Nat):Int):=by simp only[My];omega
   obtain⟨L,hL⟩:∃ L,(x :: xs).length=L:=⟨_,rfl⟩
   rw[hL]at g1 nlen ⊢;have K2:Ll (ao w1 (fun k=>w.heap.size<=k) (x :: xs) (.slice na L nc)):=aa (by rw[<-hL];exact K.o);clear hL K R;go_wp2_with (go_at_call 77;refine Lk (M4 _ _ (x :: xs) _ (by exact K2.o) (by exact JN.o) (by exact JL.o) (by exact HM.o.bel B.o)) fun w2 hb2=>?_;rw[JP.o];unfold aR;have B2:=aa (ab B.o hb2);clear hb2)
   go_ret;exact⟨by rw[RR.o];first | done | rfl | simp,B2.o⟩
 ·have e1:(ee == 0)=false:=by rw[MO];exact he
  have RR:Ll (oh p=false):=aa (by rw[R.o];simp[he]);clear he hsp R;go_wp2_with fail
  go_ret;exact⟨by rw[RR.o];rfl,B.o⟩
theorem lR(w:LC)(s)(hs:s.length<=9223372036854775807):Calls prog 13 #[aR s] w fun e w'=>e=.returned (.bool (bT s))/\w'=w:=by
 have bl:(ByteArray.mk s.toArray).size=s.length:=by simp[ByteArray.size]
 unfold aR;by_cases hsn:s=[]
 ·subst hsn;have R:Ll (bT []=false):=aa rfl;clear bl hs;go_enter func13,ntmps13;go_wp2
  go_ret;exact⟨by rw[R.o];first | done | rfl,rfl⟩
 ·have hne:s.isEmpty=false:=by cases s with | nil=>exact absurd rfl hsn | cons c r=>rfl
  have hne2:(s == [])=false:=by cases s with | nil=>exact absurd rfl hsn | cons c r=>rfl
  have NE:=aa hne;clear hsn;by_cases h12:s.length<=12
  ·have g12:¬(12:Int) < (s.length:Int):=by omega
   have g13:decide (12 < s.length)=false:=decide_eq_false (by omega);have H12:=aa h12;go_enter func13,ntmps13;go_wp2
   go_loopg [3] s.length (fun gk iv wr=>∃ k:Nat,k<=s.length/\gk=s.length - k/\iv=.int .i64 k/\Ll ((s.take k).all rp=true)/\wr=w)
   case atStart=>exact⟨0,Nat.zero_le _,rfl,rfl,aa rfl,rfl⟩
   case round=>
    obtain⟨k,hk,hgk,rfl,AL,hw⟩:=hrel;have hw':=hw.symm;subst hw';have GK:=aa hgk;clear hgk hw;by_cases hlt:k < s.length
    ·have hszm:k < (ByteArray.mk s.toArray).size:=by rw[bl];exact hlt
     have hgetm:(ByteArray.mk s.toArray)[k]=s[k]:=rfl;have v1:(0:Int)<=(k:Int):=by omega
     have v2:(k:Int) < (s.length:Int):=by omega
     have TK:Ll ((s.take (k+1)).all rp=(true&&rp s[k])):=aa (by rw[List.take_succ_eq_append_getElem hlt,List.all_append,AL.o];simp);have SK:Ll (rp s[k]=false->bT s=false):=fun h=>by
      unfold bT;have:s.all rp=false:=by rw[List.all_eq_false];exact⟨s[k],List.getElem_mem hlt,by rw[h];simp⟩
      rw[this];simp
     obtain⟨c,hc⟩:∃ c,s[k]=c:=⟨_,rfl⟩
     rw[hc]at hgetm TK SK;have hc256:(c.toNat:Int) < 256:=by have:=c.toNat_lt;omega
     clear hc;by_cases hlo:c.toNat < 97
     ·have e1:(c.toNat:Int) < 97:=by omega
      have R:=aa (SK.o (by simp[rp];omega));go_wp2
      go_ret;exact⟨by rw[R.o];first | done | rfl,rfl⟩
     ·have e1:¬(c.toNat:Int) < 97:=by omega
      by_cases hhi:122 < c.toNat
      ·have e2:(122:Int) < (c.toNat:Int):=by omega
       have R:=aa (SK.o (by simp[rp];omega));go_wp2
       go_ret;exact⟨by rw[R.o];first | done | rfl,rfl⟩
      ·have e2:¬(122:Int) < (c.toNat:Int):=by omega
       have NX:Ll ((s.take (k+1)).all rp=true):=aa (by rw[TK.o];simp[rp];omega);go_wp2
       go_roundg (s.length - (k+1))
       case measure=>rw[GK.o];omega
       case rel=>exact⟨k+1,by omega,rfl,by go_num,NX,rfl⟩
    ·have d1:¬(k:Int) < (s.length:Int):=by omega
     have R:Ll (bT s=true):=aa (by
      have h9:=AL.o;rw[MD (by omega)]at h9;simp[bT,NE.o,H12.o,h9])
     go_wp2
     go_ret;exact⟨by rw[R.o];first | done | rfl,rfl⟩
  ·have g12:(12:Int) < (s.length:Int):=by omega
   have g13:decide (12 < s.length)=true:=decide_eq_true (by omega);have R:Ll (bT s=false):=aa (by simp[bT,h12]);go_enter func13,ntmps13;go_wp2
   go_ret;exact⟨by rw[R.o];first | done | rfl,rfl⟩
def iW (wd l:Lz):Option Lz:=if wd.isPrefixOf l then some (l.drop wd.length) else none
theorem tW(w:LC)(b s)(st:Option Lz)(wd k n)(hk:dW k)(hn:dW n)(hwd:0 < wd.size)(hwd2:wd.size<=100)(h:bf w b s st):Calls prog 100 #[.pointer (some ⟨b,0,none⟩),.string wd,.agg #[.int .i64 k,.int .i64 n,.string ⟨#[]⟩,.slice none 0 0,.slice none 0 0]] w fun e w'=>∃ (t:V) (v:Value) (st':Option Lz),e=.returned v/\St t v /\
 (st.bind (iW wd.data.toList)).map (fun l=>(bC k n [],l))=st'.map (fun l=>(t,l))/\bf w' b s st'/\w.grownBy w' (some b):=by
 have H:=aa h;have hbl:=h.lt;obtain⟨i,h1,e1⟩:=h;have E1:=aa e1;have hi:=h1.2.1;have hs0:=h1.2.2;have R0:=aa h1;clear e1 h1;have hr1:Ll (qP ((w.alloc (.cells #[.int .i64 k,.int .i64 n,.string ⟨#[]⟩,.slice none 0 0,.slice none 0 0] 25)).alloc fi) b s i st.isNone):=
  ⟨by rw[(World.grownBy_alloc _ fi none).block b (by simp;omega) (by simp),(World.grownBy_alloc w _ none).block b hbl (by simp)];exact R0.o.1,R0.o.2⟩
 have i0:(0:Int)<=(i:Int):=by omega
 have i1:(i:Int)<=(s.size:Int):=by omega
 obtain⟨c0,c1,c2,f1,f2⟩:=hr1.o.c;unfold fi at c0 c1 c2 f1 f2;have hdr:Ll ((s.data.toList.drop i).take (s.size - i)=st.getD []):=by
  show _=_;rw[<-E1.o];exact MD (by simp only[MB,Array.length_toList];exact MG _)
 cases hpx:wd.data.toList.isPrefixOf (st.getD []) with
 | true=>
  have hp:Lib.hasPrefix ((s.data.toList.drop i).take (s.size - i)) wd.data.toList=true:=by rw[hdr.o];exact hpx
  have HP:=aa hpx;have LT:i+wd.size<=s.size:=by
   have:=List.IsPrefix.length_le (List.isPrefixOf_iff_prefix.1 hpx);rw[<-E1.o,MB,Array.length_toList,Array.length_toList]at this;have e:s.data.size=s.size:=rfl;have e':wd.data.size=wd.size:=rfl;omega
  clear hpx;go_enter func100,ntmps100;go_wp2_with fail
  go_quiet ((go_at_call 86;exact Calls.quiet_of_same (Tryz.strings_HasPrefix _ _ _)))
  go_wp2_with fail
  refine MM (v:=cz k n []) (by simp[results,results100,go_sem,cz,aR]) rfl ?_;refine⟨bC k n [],cz k n [],st.map (List.drop wd.data.toList.length),rfl,⟨_,_,rfl,rfl,hk,hn⟩,?_,?_,?_⟩
  ·cases st with
   | none=>exact absurd HP.o (by
    cases hw:wd.data.toList with
    | nil=>
     have e:wd.data.toList.length=wd.size:=by rw[Array.length_toList];rfl
     rw[hw]at e;simp at e;omega
    | cons c r=>simp)
   | some l=>exact congrArg _ (show iW wd.data.toList l=some _ by unfold iW;exact if_pos HP.o)
  ·have e9:((i:Int)+(wd.size:Int))=((i+wd.size:Nat):Int):=by omega
   refine⟨i+wd.size,⟨?_,LT,hs0⟩,?_⟩
   ·rw[e9];refine((aI _ (w.heap.size+1) _ _ _ _ _).block b ?_ (by simp;omega)).trans ?_
    ·simp[World.setCell];omega
    ·have:(st.map (List.drop wd.data.toList.length)).isNone=st.isNone:=by cases st <;> rfl
     rw[this];exact ak hr1.o.1 1 _
   ·have e8:wd.data.toList.length=wd.size:=by rw[Array.length_toList];rfl
    rw[<-List.drop_drop,E1.o,e8];cases st with
    | none=>simp
    | some l=>rfl
  ·exact dv (ap (cJ (bd (bd (az _ _) _) _) _) _ _) (aI _ (w.heap.size+1) _ _ _ _ _) (by intro k hk;cases hk;omega)
 | false=>
  have hp:Lib.hasPrefix ((s.data.toList.drop i).take (s.size - i)) wd.data.toList=false:=by rw[hdr.o];exact hpx
  have HP:=aa hpx;clear hpx;go_enter func100,ntmps100;go_wp2_with fail
  go_quiet ((go_at_call 86;exact Calls.quiet_of_same (Tryz.strings_HasPrefix _ _ _)))
  go_wp2_with fail
  refine(Ui _ b s (st.getD []) st.isNone (by exact⟨i,⟨hr1.o.1,hr1.o.2⟩,E1.o⟩)).mono ?_;rintro e w4 ⟨rfl,h4,hg4⟩;have hg5:=am (cJ (az ((w.alloc (.cells #[.int .i64 k,.int .i64 n,.string ⟨#[]⟩,.slice none 0 0,.slice none 0 0] 25)).alloc fi) (some b)) nq) hg4;have LU:ag w4 (w.heap.size+1) (.int .i64 0) (.int .i64 0) (.string ⟨#[]⟩) (.slice none 0 0) (.slice none 0 0):=ag.grown (et w _ fi) hg5 (by simp;omega);have R4:Ll (eA w4 b s [] true/\w.grownBy w4 (some b)):=⟨h4,am (bd (bd (az _ _) _) _) hg5⟩
  have x0_:=LU.c;obtain⟨z0,z1,z2,z3,z4,-⟩:=(LU.set (.int .i64 0) (.int .i64 0) (aR []) (.slice none 0 0) (.slice none 0 0)).c;have Z:Ll (_/\_/\_/\_/\_):=⟨z0,z1,z2,z3,z4⟩
  clear LU h4 hg4 hg5;go_wp2_with fail
  obtain⟨z0,z1,z2,z3,z4⟩:=Z.o;refine MM (v:=cz 0 0 []) ?_ rfl ?_
  ·simp only[ar,aR]at z0 z1 z2 z3 z4;simp[results,results100,go_sem,z0,z1,z2,z3,z4,cz,aR]
  ·refine⟨bC 0 0 [],cz 0 0 [],none,rfl,⟨_,_,rfl,rfl,(by unfold dW;omega),(by unfold dW;omega)⟩,?_,?_,?_⟩
   ·cases st with
    | none=>rfl
    | some l=>exact congrArg _ (show iW wd.data.toList l=none by unfold iW;rw[if_neg (by rw[show wd.data.toList.isPrefixOf l=false from HP.o];simp)])
   ·exact R4.o.1.of_heap ((aI w4 (w.heap.size+1) _ _ _ _ _).block b R4.o.1.lt (by simp;omega))
   ·exact dv R4.o.2 (aI w4 (w.heap.size+1) _ _ _ _ _) (by intro k hk;cases hk;omega)
def fH (g:Lz->Option (V × Lz)):Nat->List V->Lz->Option (V × Lz)
 | 0,_,_=>none
 | k+1,acc,l=>
  match aA 44 l with
  | some r=>(g r).bind fun p=>fH g k (acc++[p.1]) p.2
  | none=>(aA 93 (l.dropWhile cw)).map fun r=>(⟨4,0,[],[],acc⟩,r)
def jH (g:Lz->Option (V × Lz)) (l:Lz):Option (V × Lz):=
 (aA 91 l).bind fun l=>
  match aA 93 l with
  | some r=>some (⟨4,0,[],[],[]⟩,r)
  | none=>(g (l.dropWhile cw)).bind fun p=>fH g (p.2.length+1) [p.1] p.2
def lO (g:Lz->Option (V × Lz)) (v:V) (l:Lz):Option (V × Lz):=
 (iS l).bind fun q=>(aA 58 q.2).bind fun l=>(g l).bind fun p=>if (aS v q.1).isSome then none else some (aG v q.1 p.1,p.2)
def fC (g:Lz->Option (V × Lz)):Nat->V->Lz->Option (V × Lz)
 | 0,_,_=>none
 | k+1,v,l=>
  match aA 44 l with
  | some r=>(lO g v r).bind fun p=>fC g k p.1 p.2
  | none=>(aA 125 (l.dropWhile cw)).map fun r=>(v,r)
def oq (g:Lz->Option (V × Lz)) (l:Lz):Option (V × Lz):=
 (aA 123 l).bind fun l=>
  match aA 125 l with
  | some r=>some (⟨5,0,[],[],[]⟩,r)
  | none=>(lO g ⟨5,0,[],[],[]⟩ (l.dropWhile cw)).bind fun p=>fC g (p.2.length+1) p.1 p.2
def gy (g:Lz->Option (V × Lz)) (l:Lz):Option (V × Lz):=
 if cr l=110 then (iW [110,117,108,108] l).map fun r=>(bC 0 0 [],r)
 else if cr l=102 then (iW [102,97,108,115,101] l).map fun r=>(bC 1 0 [],r)
 else if cr l=116 then (iW [116,114,117,101] l).map fun r=>(bC 1 1 [],r)
 else if cr l=34 then (iS l).map fun p=>(bC 3 0 p.1,p.2)
 else if cr l=91 then jH g l
 else if cr l=123 then oq g l
 else (pO l).map fun p=>(bC 2 p.1 [],p.2)
def cH:Nat->Lz->Option (V × Lz)
 | 0,_=>none
 | f+1,l=>gy (cH f) (l.dropWhile cw)
def kT (g:Lz->Option (V × Lz)):Prop:=∀ l p,g l=some p->p.2.length < l.length
theorem xT{g:Lz->Option (V × Lz)}(hg:kT g)(k):∀ (acc:List V) (l:Lz) (p:V × Lz),fH g k acc l=some p->p.2.length < l.length:=by
 induction k with
 | zero=>intro acc l p h;cases h
 | succ k ih=>
  intro acc l p h;simp only[fH]at h;split at h
  ·rename_i r hr;simp only[Option.bind_eq_some_iff]at h;obtain⟨q,h1,h2⟩:=h;have:=hg _ _ h1;have:=ih _ _ _ h2;have:=bU hr;omega
  ·simp only[Option.map_eq_some_iff]at h;obtain⟨r,h1,rfl⟩:=h;have:=bU h1;have:=dX l;simp only;omega
theorem DM{g:Lz->Option (V × Lz)}(hg:kT g):kT (jH g):=by
 intro l p h;simp only[jH,Option.bind_eq_some_iff]at h;obtain⟨r,h1,h2⟩:=h;have:=bU h1;split at h2
 ·rename_i r2 hr2;cases h2;have:=bU hr2;simp only;omega
 ·simp only[Option.bind_eq_some_iff]at h2;obtain⟨q,h3,h4⟩:=h2;have:=hg _ _ h3;have:=xT hg _ _ _ _ h4;have:=dX r;omega
theorem iM{g:Lz->Option (V × Lz)}(hg:kT g)(v):kT (lO g v):=by
 intro l p h;simp only[lO,Option.bind_eq_some_iff]at h;obtain⟨q,h1,r,h2,y,h3,h4⟩:=h;split at h4
 ·cases h4
 ·cases h4;have:=mL h1;have:=bU h2;have:=hg _ _ h3;simp only;omega
theorem yt{g:Lz->Option (V × Lz)}(hg:kT g)(k):∀ (v:V) (l:Lz) (p:V × Lz),fC g k v l=some p->p.2.length < l.length:=by
 induction k with
 | zero=>intro acc l p h;cases h
 | succ k ih=>
  intro acc l p h;simp only[fC]at h;split at h
  ·rename_i r hr;simp only[Option.bind_eq_some_iff]at h;obtain⟨q,h1,h2⟩:=h;have:=iM hg _ _ _ h1;have:=ih _ _ _ h2;have:=bU hr;omega
  ·simp only[Option.map_eq_some_iff]at h;obtain⟨r,h1,rfl⟩:=h;have:=bU h1;have:=dX l;simp only;omega
theorem Fh{g:Lz->Option (V × Lz)}(hg:kT g):kT (oq g):=by
 intro l p h;simp only[oq,Option.bind_eq_some_iff]at h;obtain⟨r,h1,h2⟩:=h;have:=bU h1;split at h2
 ·rename_i r2 hr2;cases h2;have:=bU hr2;simp only;omega
 ·simp only[Option.bind_eq_some_iff]at h2;obtain⟨q,h3,h4⟩:=h2;have:=iM hg _ _ _ h3;have:=yt hg _ _ _ _ h4;have:=dX r;omega
theorem mP{wd l r}(hw:0 < wd.length)(h:iW wd l=some r):r.length < l.length:=by
 unfold iW at h;split at h
 ·rename_i hp;cases h;have:=List.IsPrefix.length_le (List.isPrefixOf_iff_prefix.1 hp);rw[MB];omega
 ·cases h
theorem DT{l}{p:Int × Lz}(h:pO l=some p):p.2.length < l.length:=by
 unfold pO at h;split at h
 ·rename_i v hv;split at h
  ·rename_i he;cases h;have e:l=l.takeWhile cB++l.dropWhile cB:=(List.takeWhile_append_dropWhile).symm;have e2:=congrArg List.length e;rw[Mx]at e2;have:0 < (l.takeWhile cB).length:=by
    cases ht:l.takeWhile cB with
    | nil=>rw[ht]at hv;exact absurd hv (xn v)
    | cons c r=>simp
   simp only;omega
  ·cases h
 ·cases h
theorem Fq{g:Lz->Option (V × Lz)}(hg:kT g):kT (gy g):=by
 intro l p h;unfold gy at h;split at h
 ·simp only[Option.map_eq_some_iff]at h;obtain⟨r,h1,rfl⟩:=h;exact mP (by simp) h1
 split at h
 ·simp only[Option.map_eq_some_iff]at h;obtain⟨r,h1,rfl⟩:=h;exact mP (by simp) h1
 split at h
 ·simp only[Option.map_eq_some_iff]at h;obtain⟨r,h1,rfl⟩:=h;exact mP (by simp) h1
 split at h
 ·simp only[Option.map_eq_some_iff]at h;obtain⟨r,h1,rfl⟩:=h;exact mL h1
 split at h
 ·exact DM hg _ _ h
 split at h
 ·exact Fh hg _ _ h
 ·simp only[Option.map_eq_some_iff]at h;obtain⟨r,h1,rfl⟩:=h;exact DT h1
theorem jd(f):kT (cH f):=by
 induction f with
 | zero=>intro l p h;cases h
 | succ f ih=>
  intro l p h;have:=Fq ih _ _ h;have:=dX l;omega
theorem D0(w:LC)(s:Lz)(hs:s.length<=9223372036854775807):∃ cap W2,(convert 9 67 (.string ⟨s.toArray⟩)).run prog w=.ok (.slice (some ⟨w.heap.size,0,none⟩) s.length cap) W2/\s.length<=cap/\cap<=9223372036854775807 /\
 (∀ (j:Nat) (h:j < s.length),W2.cell? ⟨w.heap.size,j,none⟩=some (.int .u8 (s[j].toNat:Int)))/\∃ os,W2=Go.Sort.grow (w.drewN 1) os:=by
 have h:=run_bytes_of_string (P:=prog) w 9 67 5 ⟨s.toArray⟩ underlying9 underlying67 underlying5;have hz:(ByteArray.mk s.toArray).size=s.length:=by simp[ByteArray.size]
 rw[hz]at h;refine⟨_,_,h,grownCap_ge _ _ _ _,grownCap_le_maxLen _ _ _ _ hs,?_,?_⟩
 ·intro j hj;have hb:(w.drew.alloc (.cells (bytesRow ⟨s.toArray⟩ (grownCap w s.length 0 5)) 5 ((bytesRow ⟨s.toArray⟩ (grownCap w s.length 0 5)).size,(bytesRow ⟨s.toArray⟩ (grownCap w s.length 0 5)).size+1))).heap[w.heap.size]?=some (.cells (bytesRow ⟨s.toArray⟩ (grownCap w s.length 0 5)) 5 ((bytesRow ⟨s.toArray⟩ (grownCap w s.length 0 5)).size,(bytesRow ⟨s.toArray⟩ (grownCap w s.length 0 5)).size+1)):=MN w.drew _;have hr:=bytesRow_at ⟨s.toArray⟩ (grownCap w s.length 0 5) j (by simpa using hj);simp only[World.cell?,hb];simpa using hr
 ·exact⟨_,Go.Sort.alloc_eq_grow w.drew _⟩
theorem d8(w:LC)(n:Nat)(os:Array Obj):La w (Go.Sort.grow (w.drewN n) os):=by
 refine⟨rfl,rfl,rfl,by simp[Go.Sort.grow,World.drewN],fun k hk=>?_⟩;show (w.heap++os)[k]?=w.heap[k]?;rw[Array.getElem?_append_left hk]
theorem tf(s:Lz):eK s=(decide (s.length<=60)&&s.all fun c=>decide (c.toNat < 128)):=rfl
theorem Bm(w:LC)(s:Lz)(hs:s.length<=9223372036854775807):Calls prog 81 #[aR s] w fun e w'=>e=.returned (.bool (eK s))/\∃ q os,w'=Go.Sort.grow (w.drewN q) os:=by
 unfold aR;obtain⟨cap,W2,hcv,h1,h2,h3,h4⟩:=D0 w s hs;have HC:=aa h3;have HB:Ll (∃ q os,W2=Go.Sort.grow (w.drewN q) os):=aa ⟨1,h4⟩;clear h3 h4;go_enter func81,ntmps81;go_wp2
 clear hcv;go_loop [8] (fun i=>∃ k:Nat,k<=s.length/\i=.int .i64 k/\Ll ((s.take k).all (fun c=>decide (c.toNat < 128))=true)) (fun i=>s.length - (intOf i).toNat)
 case atStart=>exact⟨0,Nat.zero_le _,rfl,aa rfl⟩
 case round=>
  obtain⟨k,hk,rfl,HA⟩:=hrel;by_cases hlt:k < s.length
  ·have c0:=HC.o k hlt;have w1:(0:Int)<=(k:Int):=by omega
   have w2:(k:Int) < (s.length:Int):=by omega
   by_cases hc:s[k].toNat < 128
   ·have c1:¬(127:Int) < (s[k].toNat:Int):=by omega
    have HN:Ll ((s.take (k+1)).all (fun c=>decide (c.toNat < 128))=true):=aa (by
     rw[List.take_succ_eq_append_getElem hlt,List.all_append,HA.o];simp[hc])
    clear hc;go_wp2
    go_round
    case rel=>exact⟨k+1,by omega,by go_num,HN⟩
    case measure=>simp[intOf];omega
   ·have c1:(127:Int) < (s[k].toNat:Int):=by omega
    have HF:Ll (eK s=false):=aa (by
     rw[tf,Bool.and_eq_false_iff];right;rw[List.all_eq_false];exact⟨s[k],List.getElem_mem hlt,by simp;omega⟩)
    clear hc;go_wp2
    go_ret;exact⟨by rw[HF.o];rfl,HB.o⟩
  ·have l1:s.take k=s:=MD (by omega);rw[l1]at HA;have d1:¬(k:Int) < (s.length:Int):=by omega
   by_cases h60:s.length<=60
   ·have h61:(s.length:Int)<=60:=by omega
    have HF:Ll (eK s=true):=aa (by rw[tf,HA.o];simp[h60]);clear l1 h60;go_wp2
    go_ret;exact⟨by rw[HF.o];rfl,HB.o⟩
   ·have h61:¬(s.length:Int)<=60:=by omega
    have HF:Ll (eK s=false):=aa (by rw[tf];simp[h60]);clear l1 h60;go_wp2
    go_ret;exact⟨by rw[HF.o];rfl,HB.o⟩
theorem m7(w:LC)(s:Lz)(hs:s.length<=9223372036854775807):Calls prog 81 #[aR s] w fun e w'=>e=.returned (.bool (eK s))/\La w w':=
 (Bm w s hs).mono fun e w' ⟨h1,q,os,h2⟩=>⟨h1,by rw[h2];exact d8 w q os⟩
def Ts (d:Nat):Prop:=∀ (w:LC) (ok:Nat->Prop) (t:V) (v:Value),bu w ok d t v->bN t<=1000000000000000 ->
 Calls prog 51 #[v] w fun e w'=>e=.returned (.tuple #[.int .i64 (AB t:Int),.int .i64 (bN t:Int)])/\La w w'
theorem UH(d:Nat)(ih:Ts d):Ts (d+1):=by
 intro w ok t v h hN;have IH:=aa ih;have H:=aa (h.is:In w ok t v);obtain⟨a1,a2,c1,c2,rfl⟩:=h.shape;have VV:Ll (cS w ok (bu w ok d) t.l (.slice a2 t.l.length c2)):=aa (by
  obtain⟨ks,ls,e,h1,h2,h3,h4,h5⟩:=h;simp only[Value.agg.injEq,Array.mk.injEq,List.cons.injEq,and_true]at e;obtain⟨-,-,-,-,rfl⟩:=e;exact h5)
 have ll:t.l.length<=9223372036854775807:=VV.o.1;have B1:=aa (ae w (.cells #[.int .i64 t.kind,.int .i64 t.n,.string ⟨t.s.toArray⟩,.slice a1 t.keys.length c1,.slice a2 t.l.length c2] 25));have HC:=aa (df t);have HDT:=aa (A7 t);have HN:=aa hN;clear h ih hN;go_enter func51,ntmps51;go_wp2_with fail
 go_loopg [4,5,13] t.l.length (fun gk dd n i wr=>∃ k:Nat,k<=t.l.length/\gk=t.l.length - k/\i=.int .i64 k/\dd=.int .i64 (Ug (t.l.take k):Int)/\n=.int .i64 ((1+cnts (t.l.take k):Nat):Int)/\La w wr)
 case atStart=>exact⟨0,Nat.zero_le _,rfl,rfl,rfl,rfl,B1.o⟩
 case round=>
  obtain⟨k,hk,hgk,rfl,rfl,rfl,hb⟩:=hrel;have GK:=aa hgk;have HB:=aa hb;have q1:=Uu (xs:=t.l) k;have q2:=Sl (t.l.take k);have q3:cnts t.l<=1000000000000000:=by have:=HC.o;have:=HN.o;omega
  clear hgk hb;by_cases hlt:k < t.l.length
  ·obtain⟨b,off,rfl,z1,z2,a5,c5,a6,c6,p0,p1,p2,p3,p4,p5⟩:=fz VV.o hlt;unfold maxLen at z2;replace p0:=ah HB.o p0;replace p1:=ah HB.o p1;replace p2:=ah HB.o p2;replace p3:=ah HB.o p3;replace p4:=ah HB.o p4;have P5:=aa (p5.bel HB.o);have w1:(0:Int)<=(k:Int):=by omega
   have w2:(k:Int) < (t.l.length:Int):=by omega
   have hx:=pC (List.getElem_mem hlt);have hxd:=rr t.l[k];have hxn:bN t.l[k]<=1000000000000000:=by omega
   have e1:Ll (Ug (t.l.take (k+1))=max (Ug (t.l.take k)) (AB t.l[k])):=aa (by rw[b8 hlt,x7]);have e2:Ll (cnts (t.l.take (k+1))=cnts (t.l.take k)+bN t.l[k]):=aa (by rw[b8 hlt,xq]);have q4:=Uu (xs:=t.l) (k+1);have q5:cnts (t.l.take k)+bN t.l[k]<=1000000000000000:=by have:=e2.o;omega
   clear p5 q4;obtain⟨x,hxe⟩:∃ x,AB t.l[k]=x:=⟨_,rfl⟩
   obtain⟨m,hme⟩:∃ m,bN t.l[k]=m:=⟨_,rfl⟩
   obtain⟨dd,hdd⟩:∃ m,Ug (t.l.take k)=m:=⟨_,rfl⟩
   obtain⟨nn,hnn⟩:∃ m,cnts (t.l.take k)=m:=⟨_,rfl⟩
   rw[hme]at q5 hx hxn hxd;rw[hxe]at hxd;rw[hdd]at q2 ⊢;rw[hnn]at q1 q2 q5 ⊢;have X1:=aa hxe;have X2:=aa hme;have X3:=aa hdd;have X4:=aa hnn;have XN:=aa hxn;clear hxe hme hdd hnn hxn;go_wp2_with fail
   refine Lk (IH.o _ ok t.l[k] _ (by exact P5.o.bel (ae _ _)) (by rw[X2.o];exact XN.o)) fun w4 hb4=>?_;rw[X1.o,X2.o];have HB4:=aa (ab HB.o (ab (ae _ _) hb4));clear hb4 p0 p1 p2 p3 p4;by_cases hmx:dd<=x
   ·have m1:max (dd:Int) (x:Int)=(x:Int):=by omega
    go_wp2_with fail
    go_roundg (t.l.length - (k+1))
    case measure=>rw[GK.o];omega
    case rel=>exact⟨k+1,hlt,rfl,by go_num,by rw[e1.o,X1.o,X3.o,Nat.max_eq_right hmx],by rw[e2.o,X2.o,X4.o];go_num,HB4.o⟩
   ·have m1:max (dd:Int) (x:Int)=(dd:Int):=by omega
    go_wp2_with fail
    go_roundg (t.l.length - (k+1))
    case measure=>rw[GK.o];omega
    case rel=>exact⟨k+1,hlt,rfl,by go_num,by rw[e1.o,X1.o,X3.o,Nat.max_eq_left (by omega)],by rw[e2.o,X2.o,X4.o];go_num,HB4.o⟩
  ·have l1:t.l.take k=t.l:=MD (by omega);have d1:¬(k:Int) < (t.l.length:Int):=by omega
   rw[l1]at q2 q1 ⊢;have F1:Ll (((Ug t.l:Int)+1)=(AB t:Int)):=aa (by rw[HDT.o];omega);have F2:Ll (((1+cnts t.l:Nat):Int)=(bN t:Int)):=aa (by rw[HC.o]);clear l1;go_wp2_with fail
   go_ret2
   exact⟨by rw[<-F1.o,<-F2.o];rfl,HB.o⟩
theorem Dr(d:Nat):Ts d:=by
 induction d with
 | zero=>exact fun _ _ _ _ h=>h.elim
 | succ d ih=>exact UH d ih
theorem IS(w:LC)(ok:Nat->Prop)(t:V)(v:Value)(h:In w ok t v)(hN:bN t<=1000000000000000):Calls prog 51 #[v] w fun e w'=>e=.returned (.tuple #[.int .i64 (AB t:Int),.int .i64 (bN t:Int)])/\La w w':=by
 obtain⟨d,h⟩:=h;exact Dr d w ok t v h hN
theorem Tf(s:Lz)(n:Nat):(ByteArray.mk s.toArray).extract 0 n=ByteArray.mk (s.take n).toArray:=by
 have e:((ByteArray.mk s.toArray).extract 0 n).data=(s.take n).toArray:=by
  rw[ByteArray.data_extract];apply Array.toList_inj.1;simp[List.extract_eq_take_drop]
 cases hx:(ByteArray.mk s.toArray).extract 0 n with
 | mk d=>rw[hx]at e;simp only at e;rw[e]
theorem Sm(s p:Lz)(h:p.length<=s.length):Lib.hasPrefix s p=(s.take p.length == p):=by
 unfold Lib.hasPrefix;by_cases hq:s.take p.length=p
 ·rw[hq];have:p.isPrefixOf s=true:=by rw[List.isPrefixOf_iff_prefix];exact⟨s.drop p.length,by rw[<-List.take_append_drop p.length s];simp[hq]⟩
  simp[this]
 ·have h1:(s.take p.length == p)=false:=by rw[MO];exact hq
  have h2:p.isPrefixOf s=false:=by
   rw[Bool.eq_false_iff];intro h9;obtain⟨r,rfl⟩:=List.isPrefixOf_iff_prefix.1 h9;exact hq (by simp)
  rw[h1,h2]
theorem P6(s p:Lz)(h:s.length < p.length):Lib.hasPrefix s p=false:=by
 unfold Lib.hasPrefix;rw[Bool.eq_false_iff];intro h9;obtain⟨r,rfl⟩:=List.isPrefixOf_iff_prefix.1 h9;simp at h;omega
theorem wF(w:LC)(s p:Lz)(hs:s.length<=140737488351232)(hp:p.length<=9223372036854775807):Calls prog 36 #[aR s,aR p] w fun e w'=>e=.returned (.bool (Lib.hasPrefix s p))/\w'=w:=by
 unfold aR;by_cases h:p.length<=s.length
 ·have HQ:=aa (Sm s p h);have g1:(p.length:Int)<=(s.length:Int):=by omega
  have g0:(0:Int)<=(p.length:Int):=by omega
  have g2:(p.length:Int)<=((ByteArray.mk s.toArray).size:Int):=by rw[eS];exact g1
  have g3:=Tf s p.length;clear h;go_enter func36,ntmps36;go_wp2
  go_ret;rw[HQ.o];first | rfl | exact⟨rfl,rfl⟩ | simp
 ·have HQ:=aa (P6 s p (by omega));have g1:¬(p.length:Int)<=(s.length:Int):=by omega
  clear h;go_enter func36,ntmps36;go_wp2
  go_ret;rw[HQ.o];first | rfl | exact⟨rfl,rfl⟩ | simp
section
attribute [local go_sem ↓] Go.wp_at_zero Go.wp_at_succ
theorem tE(w:LC)(ok ok':Nat->Prop)(a b:List Lz)(va vb:Value)(ha:ao w ok a va)(hb:ao w ok' b vb):Calls prog 17 #[va,vb] w fun e w'=>e=.returned (.bool (decide (a=b)))/\La w w':=by
 obtain⟨a1,c1,rfl⟩:=ha.form;obtain⟨b1,d1,rfl⟩:=hb.form;have HA:=aa ha;have HB:=aa hb;have la:=ha.1;have lb:=hb.1;unfold maxLen at la lb;clear ha hb;by_cases hl:a.length=b.length
 ·have e0:((a.length:Int) != (b.length:Int))=false:=by simp[hl]
  have HLn:=aa hl;clear hl;go_enter func17,ntmps17;go_wp2_with fail
  clear e0;go_loopg [13] a.length (fun gk i wr=>∃ k:Nat,k<=a.length/\gk=a.length - k/\i=.int .i64 k/\a.take k=b.take k/\La w wr)
  case atStart=>exact⟨0,Nat.zero_le _,rfl,rfl,rfl,MK _ _⟩
  case round=>
   obtain⟨k,hk,hgk,rfl,heq,hbl⟩:=hrel;have GK:=aa hgk;have EQ:=aa heq;have BL:=aa hbl;clear hgk heq hbl;by_cases hlt:k < a.length
   ·have hlt':k < b.length:=by have:=HLn.o;omega
    obtain⟨kb,ko,rfl,j1,j2,jk⟩:=gQ HA.o hlt;obtain⟨xb,xo,rfl,j3,j4,jx⟩:=gQ HB.o hlt';unfold maxLen at j2 j4;have w1:(0:Int)<=(k:Int):=by omega
    have w2:(k:Int) < (a.length:Int):=by omega
    have w3:(k:Int) < (b.length:Int):=by omega
    have c1':=ah (ab BL.o (aC wr 1)) jk;have c2':=ah (ab BL.o (aC wr 1)) jx;by_cases he:a[k]=b[k]
    ·have e3:(a[k] == b[k])=true:=by rw[beq_iff_eq];exact he
     have FIN:Ll (a.take (k+1)=b.take (k+1)):=aa (by rw[List.take_add_one,List.take_add_one,EQ.o,Mw hlt,Mw hlt',he]);clear he;go_upto_region 6 with fail
     refine aD (fun wS=>wS.cell? ⟨kb,ko+k,none⟩=some (.string ⟨a[k].toArray⟩)/\wS.cell? ⟨xb,xo+k,none⟩=some (.string ⟨b[k].toArray⟩)) [] (by kernel_rfl) ⟨c1',c2'⟩ (fun LI=>?_);refine WT.out ?_;clear c1' c2';iterate 9
      first
       | refine OJ 0 ?_ [] LI ?_ ?_
       | refine OJ 1 ?_ [] LI ?_ ?_
       | refine OJ 2 ?_ [] LI ?_ ?_
       | refine OJ 3 ?_ [] LI ?_ ?_
       | refine OJ 4 ?_ [] LI ?_ ?_
       | refine OJ 5 ?_ [] LI ?_ ?_
       | refine OJ 6 ?_ [] LI ?_ ?_
       | refine OJ 7 ?_ [] LI ?_ ?_
       | refine OJ 8 ?_ [] LI ?_ ?_
      rotate_left
      ·intro wS LN;obtain⟨s1,s2⟩:=LN;go_simp;all_goals with_reducible rfl
      simp only[av,List.set]
     refine dn (by kernel_rfl) ?_;go_wp2_with fail
     go_roundg (a.length - (k+1))
     case measure=>rw[GK.o];omega
     case rel=>exact⟨k+1,hlt,rfl,by go_num,FIN.o,ab BL.o (aC _ 1)⟩
    ·have e3:(a[k] == b[k])=false:=by rw[MO];exact he
     have FIN:Ll (decide (a=b)=false):=decide_eq_false fun e=>he (by simp only[e]);clear he;go_upto_region 6 with fail
     refine aD (fun wS=>wS.cell? ⟨kb,ko+k,none⟩=some (.string ⟨a[k].toArray⟩)/\wS.cell? ⟨xb,xo+k,none⟩=some (.string ⟨b[k].toArray⟩)) [] (by kernel_rfl) ⟨c1',c2'⟩ (fun LI=>?_);refine WT.out ?_;clear c1' c2';iterate 9
      first
       | refine OJ 0 ?_ [] LI ?_ ?_
       | refine OJ 1 ?_ [] LI ?_ ?_
       | refine OJ 2 ?_ [] LI ?_ ?_
       | refine OJ 3 ?_ [] LI ?_ ?_
       | refine OJ 4 ?_ [] LI ?_ ?_
       | refine OJ 5 ?_ [] LI ?_ ?_
       | refine OJ 6 ?_ [] LI ?_ ?_
       | refine OJ 7 ?_ [] LI ?_ ?_
       | refine OJ 8 ?_ [] LI ?_ ?_
      rotate_left
      ·intro wS LN;obtain⟨s1,s2⟩:=LN;go_simp;all_goals with_reducible rfl
      simp only[av,List.set]
     refine dn (by kernel_rfl) ?_;go_wp2_with fail
     go_ret;exact⟨by rw[FIN.o];rfl,ab BL.o (aC _ 1)⟩
   ·have Mc:k=a.length:=by omega
    have d1:¬(k:Int) < (a.length:Int):=by omega
    have FIN:Ll (decide (a=b)=true):=decide_eq_true (by
     have h:=EQ.o;rw[Mc,MD (MG _),MD (by have:=HLn.o;omega)]at h;exact h)
    clear Mc;go_wp2_with fail
    go_ret;exact⟨by rw[FIN.o];rfl,BL.o⟩
 ·have e0:((a.length:Int) != (b.length:Int))=true:=by rw[bne_iff_ne];omega
  have FIN:Ll (decide (a=b)=false):=decide_eq_false fun e=>hl (by rw[e]);clear hl;go_enter func17,ntmps17;go_wp2_with fail
  go_ret;exact⟨by rw[FIN.o];rfl,MK _ _⟩
end
end Go.Proofs.YtbdlfclnkpofaaaGreatDoor
