import Derived.Test.YtkjeiljdoljjgaaGreatDoorG15
set_option maxRecDepth 100000
set_option maxHeartbeats 40000000
set_option linter.unusedSimpArgs false
set_option linter.unusedVariables false
namespace Go.Proofs.YtkjeiljdoljjgaaGreatDoor
open Go.RowKit
open _root_.Go.Proofs.Tryz
variable {w:World}
variable {B:Nat}
theorem Cl(hG:cn w)(hB:7<=B):Lib.TabBelow prog B w "internal/strconv.uint64pow10" .u64 Lib.pow10Tab:=by
 intro w' hb;obtain⟨_,_,t3,f3,h3⟩:=hG;have h4:=(hb.block 1 (by omega)).trans h3;unfold Lib.TabIs World.var?;rw[show Program.globalNamed prog _=some 1 from by kernel_rfl];simp[h4]
theorem tU(w:LC)(B:Nat)(v)(acc:Lz)(n:Int)(hn:dW n)(h:dG w B v acc)(hB:B<=w.heap.size)(hl:acc.length<=1000000000)(hG:cn w)(hgB:7<=B):Calls prog 76 #[v,.int .i64 n,.int .i64 10] w fun e w'=>∃ v',e=.returned v'/\dG w' B v' (acc++Lib.itoa n)/\Fr B w w':=by
 refine(Tryz.strconv_AppendInt_10 B acc.length n hn.1 hn.2 v (Lib.byteCells acc) w h hB (by omega) (Cl hG hgB)).mono ?_;rintro e w' ⟨v',rfl,h1,h2,h3⟩;rw[jg,<-Mx]at h1;exact⟨v',rfl,h1,h2,h3⟩
theorem FW:Dp 0:=fun _ _ _ _ _ _ hv=>hv.elim
theorem Eu(d)(ih:Dp d):Dp (d+1):=by
 intro w B v acc t val hv hsm h hB hG hgB hl;have HV:=aa hv;have IH:=aa ih;have H:=aa h;have HG:=aa hG;have HS:=aa hsm;obtain⟨a7,a8,c7,c8,rfl⟩:=hv.shape;have hn:dW t.n:=by obtain⟨ks,ls,e,h1,h2,h3,h4,h5⟩:=hv;exact h2
 have HN:=aa hn;have hs6:=hsm.1;clear hv ih h hG hsm hn;have hB1:B<=(w.alloc (.cells (KV t a7 c7 a8 c8) 35)).heap.size:=by simp;omega
 have F1:Ll (Fr B w (w.alloc (.cells (KV t a7 c7 a8 c8) 35))):=eq _ _ _ hB;have hla:acc.length<=1000000000:=by omega
 by_cases k0:t.kind=0
 ·have e0:(t.kind == 0)=true:=by simp[k0]
  have P:Ll (aH (d+1) t=[110,117,108,108]):=aa (by simp[aH,k0]);rw[P.o]at hl;have K:=aa k0;clear k0;go_enter func61,ntmps61;go_wp2_with (at_builtin;go_must (refine jO rfl _ _ rfl B v acc [110,117,108,108] rfl rfl (by exact H.o.alloc _) hB1 hla (by decide) ?_);intro v4 w4 LS LR;refine Ll.o ?_)
  refine aa ?_;have D:=aa (And.intro LS (F1.o.trans LR));clear LS LR;go_wp2_with fail
  go_ret;exact⟨v4,rfl,by rw[P.o];exact D.o.1,D.o.2⟩
 by_cases k1:t.kind=1
 ·have e1:(t.kind == 1)=true:=by simp[k1]
  have f0:(t.kind == 0)=false:=by simp[k1]
  have P:Ll (aH (d+1) t=wT (t.n == 1)):=aa (by simp[aH,k1]);rw[P.o]at hl;have K:=aa k1;clear k1;go_enter func61,ntmps61;go_wp2_with fail
  refine(qV _ B v acc (t.n == 1) (by exact H.o.alloc _) (by exact hB1) hla).mono ?_;rintro e w4 ⟨v4,rfl,LS,LR⟩;have D:=aa (And.intro LS (F1.o.trans LR));clear LS LR;go_wp2_with fail
  go_ret;exact⟨v4,rfl,by rw[P.o];exact D.o.1,D.o.2⟩
 by_cases k2:t.kind=2
 ·have e2:(t.kind == 2)=true:=by simp[k2]
  have f0:(t.kind == 0)=false:=by simp[k2]
  have f1:(t.kind == 1)=false:=by simp[k2]
  have P:Ll (aH (d+1) t=Lib.itoa t.n):=aa (by simp[aH,k2]);rw[P.o]at hl;have K:=aa k2;clear k2;go_enter func61,ntmps61;go_wp2_with fail
  refine(tU _ B v acc t.n HN.o (by exact H.o.alloc _) (by exact hB1) hla (by exact HG.o.fr F1.o hgB) hgB).mono ?_;rintro e w4 ⟨v4,rfl,LS,LR⟩;have D:=aa (And.intro LS (F1.o.trans LR));clear LS LR;go_wp2_with fail
  go_ret;exact⟨v4,rfl,by rw[P.o];exact D.o.1,D.o.2⟩
 by_cases k3:t.kind=3
 ·have e3:(t.kind == 3)=true:=by simp[k3]
  have f0:(t.kind == 0)=false:=by simp[k3]
  have f1:(t.kind == 1)=false:=by simp[k3]
  have f2:(t.kind == 2)=false:=by simp[k3]
  have P:Ll (aH (d+1) t=fZ t.s):=aa (by simp[aH,k3]);rw[P.o]at hl;have K:=aa k3;clear k3;go_enter func61,ntmps61;go_wp2_with fail
  refine(gH _ B v acc t.s (by exact H.o.alloc _) (by exact hB1) (by omega) (by omega)).mono ?_;rintro e w4 ⟨v4,rfl,LS,LR⟩;have D:=aa (And.intro LS (F1.o.trans LR));clear LS LR;go_wp2_with fail
  go_ret;exact⟨v4,rfl,by rw[P.o];exact D.o.1,D.o.2⟩
 by_cases k4:t.kind=4
 ·have e4:(t.kind == 4)=true:=by simp[k4]
  have f0:(t.kind == 0)=false:=by simp[k4]
  have f1:(t.kind == 1)=false:=by simp[k4]
  have f2:(t.kind == 2)=false:=by simp[k4]
  have f3:(t.kind == 3)=false:=by simp[k4]
  have P:Ll (aH (d+1) t=91 :: aZ (t.l.map (aH d))++[93]):=aa (by simp[aH,k4]);rw[P.o]at hl;have K:=aa k4;clear k4;go_enter func61,ntmps61;go_wp2_with fail
  refine(qL d IH.o _ B v acc t _ (by exact HV.o.fr F1.o) HS.o (by exact H.o.alloc _) (by exact hB1) (by exact HG.o.fr F1.o hgB) hgB (by simp only[Mx,My,List.length_nil]at hl;omega)).mono ?_;rintro e w4 ⟨v4,rfl,LS,LR⟩;have D:=aa (And.intro LS (F1.o.trans LR));clear LS LR;go_wp2_with fail
  go_ret;exact⟨v4,rfl,by rw[P.o];exact D.o.1,D.o.2⟩
 have f0:(t.kind == 0)=false:=by rw[MO];exact k0
 have f1:(t.kind == 1)=false:=by rw[MO];exact k1
 have f2:(t.kind == 2)=false:=by rw[MO];exact k2
 have f3:(t.kind == 3)=false:=by rw[MO];exact k3
 have f4:(t.kind == 4)=false:=by rw[MO];exact k4
 have P:Ll (aH (d+1) t=123 :: aZ (dL (aH d) t.keys t.l)++[125]):=aa (by simp only[aH,if_neg k0,if_neg k1,if_neg k2,if_neg k3,if_neg k4]);rw[P.o]at hl;have K4:=aa k4;clear k0 k1 k2 k3 k4;go_enter func61,ntmps61;go_wp2_with fail
 refine(nZ d IH.o _ B v acc t _ (by exact HV.o.fr F1.o) HS.o (by exact H.o.alloc _) (by exact hB1) (by exact HG.o.fr F1.o hgB) hgB K4.o (by simp only[Mx,My,List.length_nil]at hl;omega)).mono ?_;rintro e w4 ⟨v4,rfl,LS,LR⟩;have D:=aa (And.intro LS (F1.o.trans LR));clear LS LR;go_wp2_with fail
 go_ret;exact⟨v4,rfl,by rw[P.o];exact D.o.1,D.o.2⟩
theorem II(d):Dp d:=by
 induction d with
 | zero=>exact FW
 | succ d ih=>exact Eu d ih
variable {t:V}
theorem uS:∀ (ks:List Lz) (p:Option Lz),el p ks=true->∀ k∈ks,k.length<=60
 | [],_,_,k,hk=>by simp at hk
 | x :: ks,p,h,k,hk=>by
  simp only[el,MJ]at h;rcases List.mem_cons.1 hk with rfl | hk
  ·have:=h.1.1;simp only[eK,MJ,decide_eq_true_eq]at this;exact this.1
  ·exact uS ks _ h.2 k hk
theorem ml(h:ce t=true):t.s.length<=60/\(t.kind≠4->t.l.length<=t.keys.length)/\(∀ k∈t.keys,k.length<=60)/\-9007199254740992<=t.n/\t.n<=9007199254740992:=by
 have nk:t.keys.length=0->∀ k∈t.keys,k.length<=60:=fun e k hk=>by rw[List.eq_nil_of_length_eq_zero e]at hk;simp at hk
 unfold ce at h;split at h
 ·simp only[cp,MJ,decide_eq_true_eq]at h;obtain⟨⟨h1,h2⟩,h3,h4⟩:=h;exact⟨by rw[h2];simp,fun _=>by omega,nk h3,by omega,by omega⟩
 split at h
 ·simp only[cp,MJ,Bool.or_eq_true,decide_eq_true_eq]at h;obtain⟨⟨h1,h2⟩,h3,h4⟩:=h;exact⟨by rw[h2];simp,fun _=>by omega,nk h3,by omega,by omega⟩
 split at h
 ·simp only[cp,MJ,decide_eq_true_eq]at h;obtain⟨⟨⟨h0,h1⟩,h2⟩,h3,h4⟩:=h;exact⟨by rw[h2];simp,fun _=>by omega,nk h3,by omega,by omega⟩
 split at h
 ·simp only[cp,eK,MJ,decide_eq_true_eq]at h;obtain⟨⟨h1,h2,_⟩,h3,h4⟩:=h;exact⟨h2,fun _=>by omega,nk h3,by omega,by omega⟩
 split at h
 ·rename_i hk;simp only[MJ,decide_eq_true_eq]at h;obtain⟨⟨h1,h2⟩,h3⟩:=h;exact⟨by rw[h2];simp,fun e=>absurd hk e,nk h3,by omega,by omega⟩
 split at h
 ·simp only[MJ,decide_eq_true_eq]at h;obtain⟨⟨⟨h1,h2⟩,h3⟩,h4⟩:=h;exact⟨by rw[h2];simp,fun _=>by omega,uS _ _ h4,by omega,by omega⟩
 ·cases h
theorem yq(d):∀ (D:Nat) (t:V) (r p:Int),bn D t r=(true,p)->jo d t:=by
 induction d with
 | zero=>intro D t r p _;trivial
 | succ d ih=>
  intro D t r p h;obtain⟨D',rfl,hs,h0,hf⟩:=io h;obtain⟨s1,s2,s3,-,-⟩:=ml hs;refine⟨by omega,s2,fun k hk=>MH (s3 k hk) (by decide),?_⟩;have:∀ (l:List V) (r p:Int),eb D' l r=(true,p)->∀ x∈l,jo d x:=by
   intro l;induction l with
   | nil=>intro r p _ x hx;simp at hx
   | cons y l ihl=>
    intro r p hf x hx;obtain⟨q,h1,h2⟩:=jv hf;rcases List.mem_cons.1 hx with rfl | hx
    ·exact ih D' _ r q h1
    ·exact ihl q p h2 x hx
  exact this t.l _ _ hf
theorem sG(x xs):(aZ (x :: xs)).length<=x.length+1+(aZ xs).length:=by
 cases xs with
 | nil=>simp[aZ]
 | cons y ys=>simp only[aZ,Mx,My];omega
theorem rX(s)(h:s.length<=60):(fZ s).length<=362:=by
 have:=uJ s;simp only[fZ,Mx,My,List.length_nil];omega
theorem Fj(d):∀ (D:Nat) (t:V) (r p:Int),0<=r->bn D t r=(true,p)->((aH d t).length:Int)+400<=1000 * (r - p):=by
 induction d with
 | zero=>
  intro D t r p hr h;obtain⟨D',rfl,hs,h0,hf⟩:=io h;have:=(nt (ic D') t.l (r - 1) h0).2.1;have e:(eb D' t.l (r - 1)).2=p:=by rw[hf]
  unfold eb at e;rw[e]at this;simp only[aH,List.length_nil];omega
 | succ d ih=>
  intro D t r p hr h;obtain⟨D',rfl,hs,h0,hf⟩:=io h;have hp:p<=r - 1:=by
   have:=(nt (ic D') t.l (r - 1) h0).2.1;have e:(eb D' t.l (r - 1)).2=p:=by rw[hf]
   unfold eb at e;rwa [e]at this
  obtain⟨s1,s2,s3,s4,s5⟩:=ml hs;have sums:∀ (l:List V) (ks:List Lz) (r p:Int),0<=r->(∀ k∈ks,k.length<=60)->eb D' l r=(true,p)->((aZ (l.map (aH d))).length:Int)<=1000 * (r - p)/\((aZ (dL (aH d) ks l)).length:Int)<=1000 * (r - p):=by
   intro l;induction l with
   | nil=>
    intro ks r p _ _ hf;have e:(true,r)=(true,p):=hf;cases e;simp[aZ,dL]
   | cons x l ihl=>
    intro ks r p hr hks hf;obtain⟨q,h1,h2⟩:=jv hf;have g1:=ih D' x r q hr h1;have hq:0<=q:=by have:=(ic D' x r hr).2.2;rw[h1]at this;exact this rfl
    constructor
    ·obtain⟨g2,-⟩:=ihl [] q p hq (by simp) h2;have:=sG (aH d x) (l.map (aH d));simp only[List.map_cons];omega
    ·cases ks with
     | nil=>
      obtain⟨-,g2⟩:=ihl [] q p hq (by simp) h2;simp only[dL,List.zipWith_nil_left,aZ,List.length_nil]at g2 ⊢;omega
     | cons k ks=>
      obtain⟨-,g2⟩:=ihl ks q p hq (fun j hj=>hks j (List.mem_cons_of_mem _ hj)) h2;have:=sG (fZ k++58 :: aH d x) (dL (aH d) ks l);have h9:=rX k (hks k (List.mem_cons_self ..));simp only[Mx,My]at this;simp only[dL,List.zipWith_cons_cons]at this g2 ⊢;omega
  obtain⟨m1,m2⟩:=sums t.l t.keys (r - 1) p h0 s3 hf;have hi:=Lib.itoa_length_le t.n (by omega) (by omega);have hq:=rX t.s s1;simp only[aH];split
  ·simp only[My,List.length_nil];omega
  split
  ·unfold wT;split <;> simp only[My,List.length_nil] <;> omega
  split
  ·omega
  split
  ·omega
  split
  ·simp only[Mx,My,List.length_nil];omega
  ·simp only[Mx,My,List.length_nil];omega
def eP (d:Nat) (t:V):Lz × Int:=if aE t then (if (aH d t).length<=2000 then (aH d t,0) else ([],2)) else ([],1)
theorem EU(w:LC)(ok d t v)(h:bu w ok d t v)(hG:cn w):Calls prog 46 #[v] w fun e w'=>∃ (l:Lz) (ee:Int),e=.returned (.tuple #[.string ⟨l.toArray⟩,.int .i64 ee])/\eP d t=(l,ee)/\La w w':=by
 obtain⟨a7,a8,c7,c8,rfl⟩:=h.shape;have HV:=aa h;have HG:=aa hG;clear h hG;cases hgd:aE t with
 | false=>
  have P:Ll (eP d t=([],1)):=aa (by simp[eP,hgd]);have HGD:=aa hgd;clear hgd;go_enter func46,ntmps46;go_wp2_with fail
  refine Lk (mr _ ok d t _ (by exact HV.o.bel (ae _ _))) fun w2 hb2=>?_;rw[HGD.o];have B2:=aa (ab (ae w _) hb2);clear hb2;go_wp2_with fail
  refine MM (v:=.tuple #[.string ⟨#[]⟩,.int .i64 1]) (by simp[results,results46,go_sem] <;> rfl) rfl ?_;exact⟨[],1,rfl,P.o,B2.o⟩
 | true=>
  have HGD:=aa hgd;have P:Ll (eP d t=if (aH d t).length<=2000 then (aH d t,0) else ([],2)):=aa (by simp[eP,hgd]);have hg:bn 12 t 120=(true,(bn 12 t 120).2):=by unfold aE at hgd;rw[<-hgd]
  have hln:((aH d t).length:Int)<=122000:=by
   have h1:=Fj d 12 t 120 _ (by decide) hg;have h2:=(ic 12 t 120 (by decide)).1;omega
  have SM:Ll (jo d t):=yq d 12 t 120 _ hg;clear hgd hg;go_enter func46,ntmps46;go_wp2_with fail
  refine Lk (mr _ ok d t _ (by exact HV.o.bel (ae _ _))) fun w2 hb2=>?_;rw[HGD.o];have p0_:=(af hb2 (MN w _)).c;have V2:=aa ((HV.o.bel (ab (ae w _) hb2)).below.weak (ok':=fun k=>k < w2.heap.size) fun k hk=>hk.2);have B2:=aa (ab (ae w _) hb2);have G2:Ll (cn w2):=HG.o.grown (aq (r:=none) B2.o) (by simp);have L9:=G2.o.size;clear hb2;go_wp2_with fail
  refine(II d w2 w2.heap.size (.slice none 0 0) [] t _ V2.o SM.o (dG.nil _ _) (MG _) G2.o L9 (by simp only[List.length_nil];omega)).mono ?_;rintro e w3 ⟨v3,rfl,h3,hb3⟩;rw[List.nil_append]at h3;have B3:Ll (La w w3):=ab B2.o hb3.1;clear hb3;rcases h3.2 with⟨hv,hn⟩ | ⟨g,cap,cur,hv,-,-,hn1,hn2,-,-⟩
  ·subst hv;have hnil:aH d t=[]:=List.eq_nil_of_length_eq_zero hn;have hcv:=run_convert_bytes_nil (P:=prog) (w:=w3) 108 5 underlying108 underlying5 0 0;have HN:=aa hnil;clear h3 hn hnil;go_wp2_with fail
   refine MM (v:=.tuple #[.string ⟨#[]⟩,.int .i64 0]) (by simp[results,results46,go_sem] <;> rfl) rfl ?_;exact⟨[],0,rfl,by rw[P.o,HN.o];rfl,B3.o⟩
  ·subst hv;unfold maxLen at hn2;have hcv:=run_convert_bytes_back (P:=prog) w3 108 9 5 ⟨g,0,none⟩ cap (aH d t) underlying108 underlying5 underlying9 (fun j hj=>World.ownsRow.cells h3 (g:=g) rfl j _ (by simp[Lib.byteCells,hj]));clear h3;by_cases hle:(aH d t).length<=2000
   ·have c1:¬(2000 < ((aH d t).length:Int)):=by omega
    go_wp2_with fail
    refine MM (v:=.tuple #[.string ⟨(aH d t).toArray⟩,.int .i64 0]) (by simp[results,results46,go_sem] <;> rfl) rfl ?_;exact⟨aH d t,0,rfl,by rw[P.o,if_pos hle],B3.o⟩
   ·have c1:2000 < ((aH d t).length:Int):=by omega
    clear hcv;go_wp2_with fail
    refine MM (v:=.tuple #[.string ⟨#[]⟩,.int .i64 2]) (by simp[results,results46,go_sem] <;> rfl) rfl ?_;exact⟨[],2,rfl,by rw[P.o,if_neg hle],B3.o⟩
theorem AY{f g:V->List UInt8}{ks:List (List UInt8)}{l:List V}(h:∀ x∈l,f x=g x):dL f ks l=dL g ks l:=by
 unfold dL;induction ks generalizing l with
 | nil=>rfl
 | cons k ks ih=>
  cases l with
  | nil=>rfl
  | cons x l=>
   rw[List.zipWith_cons_cons,List.zipWith_cons_cons,h x (by simp),ih fun y hy=>h y (by simp[hy])]
theorem uI(d:Nat):∀ (d':Nat) (t:V),Jd d t->Jd d' t->aH d t=aH d' t:=by
 induction d with
 | zero=>intro d' t h;exact h.elim
 | succ d ih=>
  intro d' t h h';cases d' with
  | zero=>exact h'.elim
  | succ d'=>
   have e:∀ x∈t.l,aH d x=aH d' x:=fun x hx=>ih d' x (h x hx) (h' x hx);simp only[aH];rw[List.map_congr_left e,AY e]
variable {ok:Nat->Prop}
variable {d:Nat}
theorem sW(hd:Jd d t):eP d t=eP 12 t:=by
 unfold eP;cases hg:aE t with
 | false=>rfl
 | true=>rw[uI d 12 t hd (fh hg).dep]
theorem H9(d):∀ {t:V} {v:Value},bu w ok d t v->Jd d t:=by
 induction d with
 | zero=>intro t v h;exact h
 | succ d ih=>
  intro t v h x hx;obtain⟨ks,ls,e,h1,h2,h3,h4,h5⟩:=h;obtain⟨y,hy⟩:=D2 h5 hx;exact ih hy
theorem EP(w:LC)(ok t v)(h:In w ok t v)(hG:cn w):Calls prog 46 #[v] w fun e w'=>e=.returned (.tuple #[.string ⟨(eP 12 t).1.toArray⟩,.int .i64 (eP 12 t).2])/\La w w':=by
 obtain⟨d,h⟩:=h;refine(EU w ok d t v h hG).mono ?_;rintro e w' ⟨l,ee,rfl,he,hb⟩;rw[sW (H9 d h)]at he;rw[he];exact⟨rfl,hb⟩
end Go.Proofs.YtkjeiljdoljjgaaGreatDoor
