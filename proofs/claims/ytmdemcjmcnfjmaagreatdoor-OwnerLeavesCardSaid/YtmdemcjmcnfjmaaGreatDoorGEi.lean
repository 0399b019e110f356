/- The walk of keep's OwnerLeaves. -/
import Derived.Test.YtmdemcjmcnfjmaaGreatDoorGXn
import Derived.Test.YtmdemcjmcnfjmaaGreatDoorGOi
import Derived.Test.YtmdemcjmcnfjmaaGreatDoorGXm
import Derived.Test.YtmdemcjmcnfjmaaGreatDoorGOr
set_option linter.unusedSimpArgs false
set_option linter.unusedVariables false
namespace Go.Proofs.YtmdemcjmcnfjmaaGreatDoor
open Go.RowKit
def LvW (w0:World) (g:Nat) (y:V) (a2 b2:Option Addr) (c2 d2:Nat) (wr:World):Prop:=BoxIs wr g (.int .i64 y.kind) (.int .i64 y.n) (.string ⟨y.s.toArray⟩) (.slice a2 y.keys.length c2) (.slice b2 y.l.length d2)/\w0.grownBy wr (some g)/\In wr (fun k=>k≠g) y (.agg #[.int .i64 y.kind,.int .i64 y.n,.string ⟨y.s.toArray⟩,.slice a2 y.keys.length c2,.slice b2 y.l.length d2])
theorem LvW.bel {w0 wr:World} {g:Nat} {y:V} {a2 b2:Option Addr} {c2 d2:Nat} {wr':World} (h:LvW w0 g y a2 b2 c2 d2 wr) (hb:Below wr.heap.size wr wr'):LvW w0 g y a2 b2 c2 d2 wr':=
 ⟨box_bel hb h.1,gb_trans h.2.1 (gb_below hb),h.2.2.bel hb⟩
theorem LvW.put {w0 wr:World} {g:Nat} {y:V} {a2 b2:Option Addr} {c2 d2:Nat} {z:V} {a4 b4:Option Addr} {c4 d4:Nat} (h:LvW w0 g y a2 b2 c2 d2 wr) (hz:In wr (fun k=>k≠g) z (.agg #[.int .i64 z.kind,.int .i64 z.n,.string ⟨z.s.toArray⟩,.slice a4 z.keys.length c4,.slice b4 z.l.length d4])):LvW w0 g z a4 b4 c4 d4 (set5 wr g (.int .i64 z.kind) (.int .i64 z.n) (.string ⟨z.s.toArray⟩) (.slice a4 z.keys.length c4) (.slice b4 z.l.length d4)):=
 ⟨h.1.set _ _ _ _ _,gb_trans h.2.1 (set5_gb wr g _ _ _ _ _),hz.grown (set5_gb wr g _ _ _ _ _) (fun _ hk=>hk)⟩
theorem LvW.new {w0 wr:World} {g:Nat} {y:V} {a2 b2:Option Addr} {c2 d2:Nat} {w1:World} (h:LvW w0 g y a2 b2 c2 d2 wr) (hb:Below wr.heap.size wr w1):LvW w1 g y a2 b2 c2 d2 w1:=⟨box_bel hb h.1,gb_refl _ _,h.2.2.bel hb⟩
theorem LvW.old {w0 wr:World} {g:Nat} {y:V} {a2 b2:Option Addr} {c2 d2:Nat} {w1:World} (h:LvW w0 g y a2 b2 c2 d2 wr) (hb:w1.grownBy w0 (some g)):LvW w1 g y a2 b2 c2 d2 wr:=⟨h.1,gb_trans hb h.2.1,h.2.2⟩
theorem ng_new {W:World} {g C:Nat} {z:V} {v:Value} (h:In W (okN (fun k=>k≠g) C) z v) (hC:g < C):In W (fun k=>k≠g) z v:=h.weak fun k hk=>by
 rcases hk with hk | hk
 ·exact hk
 ·intro e;omega
theorem strs_ng {w0 wr:World} {g:Nat} {xs:List (List UInt8)} {v:Value} (h:StrsAre w0 (fun k=>k≠g) xs v) (hg:w0.grownBy wr (some g)):StrsAre wr (fun k=>k≠g) xs v:=h.imp (cells_grown (ok:=(fun k=>k≠g)) hg fun k hk e=>hk (by cases e;rfl))
theorem bel_gb {w w0 wr:World} {g:Nat} (h:Below w.heap.size w w0) (hg:w0.grownBy wr (some g)) (hn:w.heap.size<=g):Below w.heap.size w wr:=
 ⟨hg.os.trans h.os,hg.tape.trans h.tape,hg.output.trans h.output,Nat.le_trans h.size hg.size,fun k hk=>(hg.block k (Nat.lt_of_lt_of_le hk h.size) (by intro e;cases e;omega)).trans (h.block k hk)⟩
theorem esc_ge (s:List UInt8):s.length<=(s.flatMap escP).length:=by
 induction s with
 | nil=>simp
 | cons c r ih=>
  have:1<=(escP c).length:=by
   unfold escP
   split
   ·simp
   ·split <;> simp
  rw[List.flatMap_cons,List.length_append,List.length_cons]
  omega
theorem strs_take {w:World} {ok:Nat->Prop} {xs:List (List UInt8)} {b off n c i:Nat} (h:StrsAre w ok xs (.slice (some ⟨b,off,none⟩) n c)) (hi:i<=xs.length) (h0:0 < xs.length):StrsAre w ok (xs.take i) (.slice (some ⟨b,off,none⟩) i c):=by
 have hl:(xs.take i).length=i:=by rw[List.length_take];omega
 refine⟨by rw[hl];exact Nat.le_trans hi h.1,?_⟩
 rcases h.2 with⟨e,-⟩ | ⟨b',off',c',e,h1,h2,h3⟩
 ·rw[e]at h0;simp at h0
 ·simp only[Value.slice.injEq,Option.some.injEq,Addr.mk.injEq]at e
  obtain⟨⟨rfl,rfl,-⟩,-,rfl⟩:=e
  refine .inr ⟨b,off,c,by rw[hl],by rw[hl];omega,h2,fun j x hx=>h3 j x ?_⟩
  rw[List.getElem?_take]at hx
  split at hx
  ·exact hx
  ·cases hx
theorem join_memE {x:List UInt8}:∀ {l:List (List UInt8)},x∈l->x.length<=(joinP l).length
 | y :: l,h=>by
  have e:joinP (y :: l)=47 :: (markedL y++joinP l):=by simp[joinP]
  have hm:y.length<=(markedL y).length:=by rw[marked_eq];exact esc_ge y
  rw[e]
  simp only[List.length_cons,List.length_append]
  rcases List.mem_cons.1 h with rfl | h
  ·omega
  ·have:=join_memE h;omega
attribute [local go_sem ↓] Go.wp_at_zero Go.wp_at_succ
set_option maxRecDepth 100000 in
set_option maxHeartbeats 8000000 in
theorem leavesK_at (w:World) (ok:Nat->Prop) (t:V) (vt:Value) (ht:In w ok t vt) (hG:Glob w) (hM:GlobM w) :
 Calls Tryz.prog 5 #[vt] w fun e w'=>e=.returned (.bool true)/\Below w.heap.size w w':=by
 have HT:=hidI ht.low
 have HM:=hidI hM
 have HG:=hidI hG
 obtain⟨a1,b1,c1,d1,rfl⟩:=ht.form
 obtain⟨W1,hW1⟩:∃ W,W=w.alloc (.cells #[.int .i64 t.kind,.int .i64 t.n,.string ⟨t.s.toArray⟩,.slice a1 t.keys.length c1,.slice b1 t.l.length d1] 25):=⟨_,rfl⟩
 have Y1:Hid (Below w.heap.size w W1):=hidI (by rw[hW1];exact bel_alloc _ _)
 have VB:Hid (BoxIs W1 w.heap.size (.int .i64 t.kind) (.int .i64 t.n) (.string ⟨t.s.toArray⟩) (.slice a1 t.keys.length c1) (.slice b1 t.l.length d1)):=hidI (by rw[hW1];exact heap_alloc_new _ _)
 have HW1:=hidI hW1
 have OWN:Hid (∀ W,Below w.heap.size w W->Calls Tryz.prog 7 #[] W fun e w'=>e=.returned (.bool true)/\Below W.heap.size W w'):=hidI (fun W hW=>owns_at W (HG.out.grown (r:=none) (gb_below hW) (by simp)) (HM.out.bel hW))
 have JG:Hid (∀ W,Below w.heap.size w W->Calls Tryz.prog 13 #[.agg #[.int .i64 t.kind,.int .i64 t.n,.string ⟨t.s.toArray⟩,.slice a1 t.keys.length c1,.slice b1 t.l.length d1]] W fun e w'=>e=.returned (.bool (goodV t))/\Below W.heap.size W w'):=hidI (fun W hW=>good_is W _ t _ (HT.out.bel hW))
 have LVA:Hid (∀ W,Below w.heap.size w W->Calls Tryz.prog 11 #[.agg #[.int .i64 t.kind,.int .i64 t.n,.string ⟨t.s.toArray⟩,.slice a1 t.keys.length c1,.slice b1 t.l.length d1]] W fun e w'=>∃ (a:Option Addr) (c:Nat),e=.returned (.slice a (leavesF t).length c)/\StrsAre w' (fun k=>W.heap.size<=k) (leavesF t) (.slice a (leavesF t).length c)/\Below W.heap.size W w'):=hidI (fun W hW=>leaves_at W _ t _ (HT.out.bel hW) (HM.out.bel hW))
 have LVN0:¬(t.kind=5/\goodV t=true)->∀ W,Below w.heap.size w W->Calls Tryz.prog 11 #[.agg #[.int .i64 t.kind,.int .i64 t.n,.string ⟨t.s.toArray⟩,.slice a1 t.keys.length c1,.slice b1 t.l.length d1]] W fun e w'=>∃ (a:Option Addr) (c:Nat),e=.returned (.slice a 0 c)/\Below W.heap.size W w':=fun h W hW=>(LVA.out W hW).mono fun e w' h9=>by
  obtain⟨a,c,rfl,-,hb⟩:=h9
  have e0:leavesF t=[]:=if_neg h
  exact⟨a,c,by rw[e0];rfl,hb⟩
 clear ht hG hM hW1
 obtain⟨v0,v1,v2,v3,v4,-⟩:=VB.out.c
 go_enter Tryz.func5,Tryz.ntmps5
 go_upto_region 1 with fail
 rw[<-HW1.out]
 cases hgv:goodV t with
 | false=>
  have LVN:=hidI (LVN0 (by rw[hgv];simp))
  rw[hgv]at JG
  clear LVN0 hgv
  go_wp2_with (first
   |(go_at_call 7;refine(OWN.out _ (bel_trans (bel_trans Y1.out B2.out) B3.out)).mono ?_;rintro e w4 ⟨rfl,hb⟩;have B4:=hidI hb;clear hb)
   |(go_at_call 11;refine(LVN.out _ (bel_trans Y1.out B2.out)).mono ?_;rintro e w3 ⟨qa,qc,rfl,hb⟩;have B3:=hidI hb;clear hb)
   |(go_at_call 13;refine(JG.out _ Y1.out).mono ?_;rintro e w2 ⟨rfl,hb⟩;have B2:=hidI hb;clear hb;clear v0 v1 v2 v3 v4;obtain⟨v0,v1,v2,v3,v4,-⟩:=(box_bel B2.out VB.out).c))
  go_ret
  exact⟨rfl,bel_trans (bel_trans (bel_trans Y1.out B2.out) B3.out) B4.out⟩
 | true=>
 rw[hgv]at JG
 by_cases hk5:t.kind=5
 rotate_left
 ·have e0:(t.kind != 5)=true:=by simpa using hk5
  have e1:(t.kind == 5)=false:=by rw[beq_eq_false_iff_ne];exact hk5
  have LVN:=hidI (LVN0 (fun h=>hk5 h.1))
  clear LVN0 hgv hk5
  go_wp2_with (first
   |(go_at_call 7;refine(OWN.out _ (bel_trans (bel_trans Y1.out B2.out) B3.out)).mono ?_;rintro e w4 ⟨rfl,hb⟩;have B4:=hidI hb;clear hb)
   |(go_at_call 11;refine(LVN.out _ (bel_trans Y1.out B2.out)).mono ?_;rintro e w3 ⟨qa,qc,rfl,hb⟩;have B3:=hidI hb;clear hb)
   |(go_at_call 13;refine(JG.out _ Y1.out).mono ?_;rintro e w2 ⟨rfl,hb⟩;have B2:=hidI hb;clear hb;clear v0 v1 v2 v3 v4;obtain⟨v0,v1,v2,v3,v4,-⟩:=(box_bel B2.out VB.out).c))
  go_ret
  exact⟨rfl,bel_trans (bel_trans (bel_trans Y1.out B2.out) B3.out) B4.out⟩
 have e0:(t.kind != 5)=false:=by simp[hk5]
 have e1:(t.kind == 5)=true:=by simp[hk5]
 have HK5:=hidI hk5
 have HGV:=hidI hgv
 clear LVN0 hgv hk5
 obtain⟨L,hL⟩:∃ L,leavesF t=L:=⟨_,rfl⟩
 rw[hL]at LVA
 have HLE:=hidI hL
 clear hL
 go_upto_region 3 with (go_at_call 13;refine(JG.out _ Y1.out).mono ?_;rintro e w2 ⟨rfl,hb⟩;have B2:=hidI hb;clear hb;clear v0 v1 v2 v3 v4;obtain⟨v0,v1,v2,v3,v4,-⟩:=(box_bel B2.out VB.out).c)
 clear v0 v1 v2 v3 v4
 go_upto_region 4 with fail
 obtain⟨W3,hW3⟩:∃ W,W=w2.alloc (.cells #[.int .i64 5,.int .i64 0,.string ⟨#[]⟩,.slice none 0 0,.slice none 0 0] 25):=⟨_,rfl⟩
 have A3:Hid (Below w2.heap.size w2 W3):=hidI (by rw[hW3];exact bel_alloc _ _)
 have OB3:Hid (BoxIs W3 w2.heap.size (.int .i64 5) (.int .i64 0) (.string ⟨#[]⟩) (.slice none 0 0) (.slice none 0 0)):=hidI (by rw[hW3];exact heap_alloc_new _ _)
 rw[<-hW3]
 clear hW3
 obtain⟨g,hg⟩:∃ g,w2.heap.size=g:=⟨_,rfl⟩
 have SG:Hid (w.heap.size<=g):=hidI (by rw[<-hg];exact Nat.le_trans Y1.out.size B2.out.size)
 have SNE:Hid (w.heap.size≠g):=hidI (by rw[<-hg];have:=VB.out.lt;have:=B2.out.size;omega)
 rw[hg]at OB3
 rw[hg]
 have BW3:=hidI (bel_trans (bel_trans Y1.out B2.out) A3.out)
 obtain⟨v0,v1,v2,v3,v4,-⟩:=(box_bel (bel_trans B2.out A3.out) VB.out).c
 go_upto_region 5 with (go_at_call 11;refine(LVA.out _ BW3.out).mono ?_;rintro e w4 ⟨qa,qc,rfl,hst,hb⟩;have LS0:=hidI hst;have B4:=hidI hb;clear hst hb)
 clear v0 v1 v2 v3 v4
 have BW4:=hidI (bel_trans BW3.out B4.out)
 have VB4:=hidI (box_bel (bel_trans (bel_trans B2.out A3.out) B4.out) VB.out)
 have LS:Hid (StrsAre w4 (fun k=>k≠g) L (.slice qa L.length qc)):=hidI (LS0.out.imp fun a v h1 h2=>⟨by intro e;have:=OB3.out.lt;omega,h2⟩)
 have K4:Hid (LvW w4 g objT none none 0 0 w4):=hidI ⟨box_bel B4.out OB3.out,gb_refl _ _,in_obj _ _⟩
 have ll:=LS.out.1
 unfold maxLen at ll
 clear hg
 go_loopg [32] L.length (fun gk iv wr=>∃ k:Nat,k<=L.length/\gk=L.length - k/\iv=.int .i64 k/\∃ (y:V) (a2 b2:Option Addr) (c2 d2:Nat),Hid (MadeK t L k y)/\Hid (LvW w4 g y a2 b2 c2 d2 wr))
 case atStart=>exact⟨0,Nat.zero_le _,rfl,rfl,objT,none,none,0,0,hidI (by have:=made_start HK5.out HGV.out;rw[HLE.out]at this;exact this),K4⟩
 case round=>
  obtain⟨k,hk,hgk,rfl,y,a2,b2,c2,d2,MK,KR0⟩:=hrel
  have GK:=hidI hgk
  clear hgk
  have BWR:=hidI (bel_gb BW4.out KR0.out.2.1 SG.out)
  by_cases hlt:k < L.length
  ·obtain⟨pb,po,rfl,hc1',hc2',hcell⟩:=strs_at (strs_ng LS.out KR0.out.2.1) hlt
   unfold maxLen at hc2'
   have j2:(k:Int) < (L.length:Int):=by omega
   have j3:(0:Int)<=(k:Int):=by omega
   have HLK:Hid (L[k]?=some L[k]):=hidI (List.getElem?_eq_getElem hlt)
   obtain⟨p,hp⟩:∃ p,L[k]=p:=⟨_,rfl⟩
   rw[hp]at hcell
   rw[show (some L[k]=some p) from by rw[hp]]at HLK
   have hpm:p∈leavesF t:=by rw[HLE.out,<-hp];exact List.getElem_mem hlt
   clear hp
   obtain⟨s1,s2,s3,x,g1,g2,g3⟩:=leaf_at HK5.out HGV.out hpm
   obtain⟨ns,hns⟩:∃ ns,namesP p=ns:=⟨_,rfl⟩
   rw[hns]at s1 s2 s3 g2
   have HPL:Hid (p.length<=2000):=hidI (split_len s1).1
   have HNS:=hidI hns
   have HSPP:=hidI s1
   have NNE:=hidI s2
   have HJP:=hidI s3
   have HTX:=hidI g2
   have LFX:Hid (LeafV x):=hidI g3
   have G1:=get_is wr _ t _ p (HT.out.bel BWR.out) (by have:=HPL.out;omega) (HM.out.bel BWR.out)
   rw[g1]at G1
   have GT:Hid (Calls Tryz.prog 14 #[.agg #[.int .i64 t.kind,.int .i64 t.n,.string ⟨t.s.toArray⟩,.slice a1 t.keys.length c1,.slice b1 t.l.length d1],.string ⟨p.toArray⟩] wr fun e w'=>∃ r,e=.returned (.tuple #[r,.int .i64 0])/\Below wr.heap.size wr w'/\In w' (fun k=>ok k/\k < w.heap.size) x r):=hidI G1
   clear G1 g1 g2 g3 s1 s2 s3 hns hpm
   obtain⟨v0,v1,v2,v3,v4,-⟩:=(VB4.out.grown KR0.out.2.1 (by intro e;cases e;exact absurd rfl SNE.out)).c
   go_upto_region 8 with (go_at_call 14;refine GT.out.mono ?_;rintro e w5 ⟨r,rfl,hb,hx⟩;obtain⟨a3,b3,c3,d3,rfl⟩:=hx.form;have B5:=hidI hb;have X5:=hidI hx;clear hb hx)
   clear v0 v1 v2 v3 v4 hcell
   obtain⟨W5,hW5⟩:∃ W,W=w5.alloc (.cells #[.int .i64 x.kind,.int .i64 x.n,.string ⟨x.s.toArray⟩,.slice a3 x.keys.length c3,.slice b3 x.l.length d3] 25):=⟨_,rfl⟩
   have A5:Hid (Below w5.heap.size w5 W5):=hidI (by rw[hW5];exact bel_alloc _ _)
   have XB5:Hid (BoxIs W5 w5.heap.size (.int .i64 x.kind) (.int .i64 x.n) (.string ⟨x.s.toArray⟩) (.slice a3 x.keys.length c3) (.slice b3 x.l.length d3)):=hidI (by rw[hW5];exact heap_alloc_new _ _)
   rw[<-hW5]
   clear hW5
   have BR5:=hidI (bel_trans B5.out A5.out)
   have BW5:=hidI (bel_trans BWR.out BR5.out)
   have SP:=split_all W5 p (by have:=HPL.out;omega) (HM.out.bel BW5.out)
   have SPC:Hid (Calls Tryz.prog 16 #[.string ⟨p.toArray⟩] W5 fun e w'=>∃ (na:Option Addr) (nc:Nat),e=.returned (.tuple #[.slice na ns.length nc,.int .i64 0])/\StrsAre w' (fun k=>W5.heap.size<=k) ns (.slice na ns.length nc)/\Below W5.heap.size W5 w'):=hidI (SP.mono fun e w' h=>by
    obtain⟨b,ee,a,c,rfl,h1,h2,h3⟩:=h
    rw[HSPP.out]at h1
    simp only[Prod.mk.injEq]at h1
    obtain⟨rfl,rfl⟩:=h1
    exact⟨a,c,rfl,h2,h3⟩)
   clear SP
   go_upto_region 9 with (go_at_call 16;refine SPC.out.mono ?_;rintro e w6 ⟨na,nc,rfl,hst,hb⟩;have NS0:=hidI hst;have B6:=hidI hb;clear hst hb)
   obtain⟨nb,no,rfl,-,-,-⟩:=strs_at NS0.out (List.length_pos_iff.2 NNE.out)
   have NS:Hid (StrsAre w6 (fun k=>k≠g) ns (.slice (some ⟨nb,no,none⟩) ns.length nc)):=hidI (NS0.out.imp fun a v h1 h2=>⟨by intro e;have:=KR0.out.1.lt;have:=BR5.out.size;omega,h2⟩)
   have BR6:=hidI (bel_trans BR5.out B6.out)
   have BW6:=hidI (bel_trans BWR.out BR6.out)
   have XB:=hidI (box_bel B6.out XB5.out)
   have XI:Hid (In w6 (fun k=>k≠g) x (.agg #[.int .i64 x.kind,.int .i64 x.n,.string ⟨x.s.toArray⟩,.slice a3 x.keys.length c3,.slice b3 x.l.length d3])):=hidI (((X5.out.bel A5.out).bel B6.out).weak fun k hk=>by have h1:=hk.2;have h2:=SG.out;omega)
   have XG:Hid (w5.heap.size≠g):=hidI (by have:=KR0.out.1.lt;have:=B5.out.size;omega)
   have K6:=hidI (KR0.out.new BR6.out)
   have G46:=hidI (gb_trans KR0.out.2.1 (gb_below (r:=some g) BR6.out))
   have ln:=NS.out.1
   unfold maxLen at ln
   obtain⟨x0,x1,x2,x3,x4,-⟩:=XB.out.c
   go_cut [63] (fun cv wc=>cv=.bool false/\wc=w6)
   case first=>
    by_cases hx5:x.kind=5
    ·have e5:(x.kind == 5)=true:=by simp[hx5]
     have e6:x.l.length=0:=by
      have:=LFX.out
      unfold LeafV at this
      apply Classical.byContradiction
      intro h9
      exact this ⟨hx5,fun e=>h9 (by rw[e];rfl)⟩
     have e7:¬(0:Int) < (x.l.length:Int):=by omega
     have e8:¬0 < x.l.length:=by omega
     clear hx5 e6
     go_wp2_with fail
     go_meet
     case rel=>exact⟨rfl,rfl⟩
    ·have e5:(x.kind == 5)=false:=by rw[beq_eq_false_iff_ne];exact hx5
     clear hx5
     go_wp2_with fail
     go_meet
     case rel=>exact⟨rfl,rfl⟩
   case rest=>
    obtain⟨rfl,hw6⟩:=hcut
    have h6:=hw6.symm
    subst h6
    clear x0 x1 x2 x3 x4
    go_upto_region 12 with fail
    go_loopg [10] (ns.length - 1) (fun gk iv wr=>∃ i:Nat,1<=i/\i<=ns.length/\gk=ns.length - i/\iv=.int .i64 i/\∃ (y:V) (a2 b2:Option Addr) (c2 d2:Nat),Hid (MadeI t L k ns i y)/\Hid (LvW w6 g y a2 b2 c2 d2 wr))
    case atStart=>exact⟨1,Nat.le_refl _,by have:=List.length_pos_iff.2 NNE.out;omega,rfl,rfl,y,a2,b2,c2,d2,hidI (made_begin HK5.out MK.out),K6⟩
    case round=>
     clear y a2 b2 c2 d2 MK KR0 K6
     obtain⟨i,hi1,hi2,hgi,rfl,y,a2,b2,c2,d2,MI,KR⟩:=hrel
     have GI:=hidI hgi
     clear hgi
     have BWR:=hidI (bel_gb BW6.out KR.out.2.1 SG.out)
     by_cases hit:i < ns.length
     ·have j2:(i:Int) < (ns.length:Int):=by omega
      have j3:(0:Int)<=(i:Int):=by omega
      have NT:=hidI (strs_take (strs_ng NS.out KR.out.2.1) (i:=i) (by omega) (by omega))
      have ST:=made_step HK5.out HGV.out (p:=p) (by rw[HLE.out];exact HLK.out) hi1 (by rw[HNS.out];exact hit) (by rw[HLE.out,HNS.out];exact MI.out)
      rw[HLE.out,HNS.out]at ST
      obtain⟨jp,hjp⟩:∃ jp,joinP (ns.take i)=jp:=⟨_,rfl⟩
      obtain⟨q,ge,hq⟩:∃ q ge,getR (ns.take i,0) y=(q,ge):=⟨_,_,rfl⟩
      rw[hjp,hq]at ST
      obtain⟨hsp,hst⟩:=ST
      simp only at hst
      have hjl:jp.length<=2000:=by rw[<-hjp];have:=join_take_len ns i;rw[HJP.out]at this;have:=HPL.out;omega
      have JN:Hid (∀ W,Below wr.heap.size wr W->Calls Tryz.prog 17 #[.slice (some ⟨nb,no,none⟩) i nc] W fun e w'=>e=.returned (.string ⟨jp.toArray⟩)/\Below W.heap.size W w'):=hidI (fun W hW=>by
       have:=join_at W _ (ns.take i) _ (NT.out.bel hW) (fun x hx=>by have:=join_memE hx;rw[hjp]at this;omega) (by rw[hjp];omega) (HM.out.bel (bel_trans BWR.out hW))
       rw[hjp]at this
       exact this)
      have GT:Hid (∀ W,Below wr.heap.size wr W->Calls Tryz.prog 14 #[.agg #[.int .i64 y.kind,.int .i64 y.n,.string ⟨y.s.toArray⟩,.slice a2 y.keys.length c2,.slice b2 y.l.length d2],.string ⟨jp.toArray⟩] W fun e w'=>∃ r,e=.returned (.tuple #[r,.int .i64 ge])/\In w' (fun k=>k≠g) q r/\Below W.heap.size W w'):=hidI (fun W hW=>by
       have:=get_is W _ y _ jp (KR.out.2.2.bel hW) (by omega) (HM.out.bel (bel_trans BWR.out hW))
       rw[hsp,hq]at this
       refine this.mono ?_
       rintro e w' ⟨r,rfl,h1,h2⟩
       exact⟨r,rfl,h2,h1⟩)
      have HST:=hidI hst
      have HSP:=hidI hsp
      have HJL:=hidI hjl
      clear hst hsp hq hjp hjl
      obtain⟨_,_,-,hcap1,hcap2,-⟩:=strs_at (strs_ng NS.out KR.out.2.1) hit
      unfold maxLen at hcap2
      have j4:i<=nc:=by omega
      have j5:(i:Int)<=(nc:Int):=by omega
      go_upto_region 14 with fail
      go_cut [11,12] (fun _ gv wc=>gv=.int .i64 ge/\Hid (Below wr.heap.size wr wc))
      case first=>
       refine wp_region_T (fun wS=>Below wr.heap.size wr wS) [10] (by kernel_rfl) (bel_drewN _ 1) (fun hHeld=>?_)
       refine WT.out ?_
       refine tk (i:=0) (d:=71) (v:=?_) [5,6,7,8,10,11] rfl rfl (by decide +kernel) rfl (fun _ _ _ h=>h) hHeld ?_ ?_
       rotate_left
       ·intro wS hSw
        obtain⟨u0,u1,u2,u3,u4,-⟩:=(KR.out.bel hSw).1.c
        go_simp
        all_goals with_reducible rfl
       simp only[aput,List.set]
       refine tk (i:=1) (d:=72) (v:=?_) [3,4,5,6,7,8,10,11] rfl rfl (by decide +kernel) rfl (fun _ _ _ h=>h) hHeld ?_ ?_
       rotate_left
       ·intro wS hSw
        go_simp
        all_goals with_reducible rfl
       simp only[aput,List.set]
       refine tk (i:=2) (d:=73) (v:=?_) [3,4,5,6,7,8,10,11] rfl rfl (by decide +kernel) rfl (fun _ _ _ h=>h) hHeld ?_ ?_
       rotate_left
       ·intro wS hSw
        go_simp
        all_goals with_reducible rfl
       simp only[aput,List.set]
       refine tk (i:=3) (d:=74) (v:=?_) [4,5,6,7,8,10,11] rfl rfl (by decide +kernel) rfl (fun _ _ _ h=>h) hHeld ?_ ?_
       rotate_left
       ·intro wS hSw
        go_simp
        all_goals with_reducible rfl
       simp only[aput,List.set]
       repeat' (first
        | exact nl
        |(refine cns (i:=4) (o:=_) rfl (fun K hK=>?_) ?_
          go_simp
          refine(JN.out _ hHeld).mono ?_
          rintro e w4q ⟨rfl,hb5⟩
          refine hK.out _ _ (bel_trans hHeld hb5) (fun hHeld2=>?_)
          try replace NB:=hidI (box_bel hb5 NB.out)
          clear hb5
          clear hK K
          replace hHeld:=hHeld2
          clear hHeld2
          try simp only[Act.put,List.setIfInBounds_toArray,List.set_cons_zero,List.set_cons_succ])
        |(refine cns (i:=5) (o:=_) rfl (fun K hK=>?_) ?_
          go_simp
          refine(GT.out _ hHeld).mono ?_
          rintro e w5q ⟨rv,rfl,hr5,hb5⟩
          obtain⟨a6,b6,c6,d6,rfl⟩:=hr5.form
          refine hK.out _ _ (bel_trans hHeld hb5) (fun hHeld2=>?_)
          try replace NB:=hidI (box_bel hb5 NB.out)
          have CALLED:Hid True:=hidI trivial
          clear hb5 hr5
          clear hK K
          replace hHeld:=hHeld2
          clear hHeld2
          try simp only[Act.put,List.setIfInBounds_toArray,List.set_cons_zero,List.set_cons_succ])
        |(refine cns (i:=9) (o:=_) rfl (fun K hK=>?_) ?_
          go_simp
          refine hK.out _ _ (bel_trans hHeld (bel_alloc _ _)) (fun hHeld2=>?_)
          have NB:=hidI (ap_znew hHeld)
          have HGS:=hidI hHeld.size
          first | (have c9:=CALLED.out;clear c9;have FINA:=hidI (bel_trans hHeld (bel_alloc _ (.cells #[.int .i64 q.kind,.int .i64 q.n,.string ⟨q.s.toArray⟩,.slice a6 q.keys.length c6,.slice b6 q.l.length d6] 25)))) | skip
          clear hK K
          replace hHeld:=hHeld2
          clear hHeld2
          try simp only[Act.put,List.setIfInBounds_toArray,List.set_cons_zero,List.set_cons_succ])
        |(refine lst (i:=10) (o:=_) (by decide +kernel) rfl (fun K hK=>?_)
          try rw[show (World.drew wr).heap.size=wr.heap.size from rfl]at NB
          obtain⟨n0,n1,n2,n3,n4,m0,m1,m2,m3,m4⟩:=NB.out.c
          first | (have c9:=FINA.out;clear c9) | (have FINB:=hidI (bel_set5 hHeld HGS.out (.int .i64 q.kind) (.int .i64 q.n) (.string ⟨q.s.toArray⟩) (.slice a6 q.keys.length c6) (.slice b6 q.l.length d6)))
          go_simp
          refine hK.out _ _ ?_
          clear hK K
          try simp only[Act.put,List.setIfInBounds_toArray,List.set_cons_zero,List.set_cons_succ])
        |(refine lst (i:=11) (o:=_) (by decide +kernel) rfl (fun K hK=>?_)
          go_simp
          refine hK.out _ _ ?_
          clear hK K
          try simp only[Act.put,List.setIfInBounds_toArray,List.set_cons_zero,List.set_cons_succ])
        |(refine tk (i:=6) (d:=70) (v:=?_) [7,8,10,11] rfl rfl (by decide +kernel) rfl (fun _ _ _ h=>h) (by exact hHeld) ?_ ?_
          rotate_left
          ·intro wS hSw
           go_simp
           all_goals with_reducible rfl
          simp only[aput,List.set])
        |(refine tk (i:=7) (d:=77) (v:=?_) [10,11] rfl rfl (by decide +kernel) rfl (fun _ _ _ h=>h) (by exact hHeld) ?_ ?_
          rotate_left
          ·intro wS hSw
           go_simp
           all_goals with_reducible rfl
          simp only[aput,List.set])
        |(refine tkY (i:=8) (d:=78) (v:=?_) rfl rfl (by decide +kernel) rfl (fun _ _ _ h=>h) (by exact hHeld) ?_ ?_
          rotate_left
          ·intro wS
           go_simp
           all_goals with_reducible rfl
          simp only[aput,List.set])
        | refine rdy [4,9] (by decide +kernel) ?_
        | refine rdy [5,9] (by decide +kernel) ?_
        | refine rdy [9] (by decide +kernel) ?_
        | refine rdy [5] (by decide +kernel) ?_
        | refine rdy [4] (by decide +kernel) ?_
        | fail)
       all_goals
        refine dn (by kernel_rfl) ?_
        go_wp2_with fail
        go_meet
        case rel=>first | exact⟨rfl,FINA⟩ | exact⟨rfl,FINB⟩
      case rest=>
       obtain⟨rfl,BC⟩:=hcut
       have KC:=hidI (KR.out.bel BC.out)
       by_cases hge:ge=0
       ·have e0:(ge != 0)=false:=by simp[hge]
        have e1:(ge == 0)=true:=by simp[hge]
        have HMY:Hid (MadeI t L k ns (i+1) y):=hidI (by
         rcases HST.out with⟨-,h⟩ | ⟨h,-⟩
         ·exact h
         ·exact absurd hge h)
        clear hge
        go_wp2_with fail
        go_roundg (ns.length - (i+1))
        case measure=>rw[GI.out];omega
        case rel=>exact⟨i+1,by omega,hit,rfl,by go_num,y,_,_,_,_,HMY,KC⟩
       ·have e0:(ge != 0)=true:=by simpa using hge
        have e1:(ge == 0)=false:=by rw[beq_eq_false_iff_ne];exact hge
        obtain⟨z,hz,hmz⟩:∃ z,layR addedV jp (ns.take i,0) y objT=(z,0)/\MadeI t L k ns (i+1) z:=by
         rcases HST.out with⟨h,-⟩ | ⟨-,h⟩
         ·exact absurd h hge
         ·exact h
        have HMZ:=hidI hmz
        have AD:Hid (∀ W,Below wc.heap.size wc W->Calls Tryz.prog 18 #[.agg #[.int .i64 y.kind,.int .i64 y.n,.string ⟨y.s.toArray⟩,.slice a2 y.keys.length c2,.slice b2 y.l.length d2],.string ⟨jp.toArray⟩,.agg #[.int .i64 5,.int .i64 0,.string ⟨#[]⟩,.slice none 0 0,.slice none 0 0]] W fun e w'=>∃ r,e=.returned (.tuple #[r,.int .i64 0])/\In w' (fun k=>k≠g) z r/\Below W.heap.size W w'):=hidI (fun W hW=>by
         have:=add_is W (fun k=>k≠g) y objT _ _ jp (KC.out.2.2.bel hW) (in_obj W _) (by have:=HJL.out;omega) (HM.out.bel (bel_trans BWR.out (bel_trans BC.out hW)))
         rw[HSP.out,hz]at this
         refine this.mono ?_
         rintro e w' ⟨r,rfl,h1,h2⟩
         exact⟨r,rfl,ng_new h2 (Nat.lt_of_lt_of_le KC.out.1.lt hW.size),h1⟩)
        clear hge hz hmz
        go_upto_region 16 with fail
        refine wp_region_T (fun wS=>Below wc.heap.size wc wS) [10] (by kernel_rfl) (bel_drewN _ 1) (fun hHeld=>?_)
        refine WT.out ?_
        refine tk (i:=0) (d:=82) (v:=?_) [6,7,8,9,10,11] rfl rfl (by decide +kernel) rfl (fun _ _ _ h=>h) hHeld ?_ ?_
        rotate_left
        ·intro wS hSw
         obtain⟨u0,u1,u2,u3,u4,-⟩:=(KC.out.bel hSw).1.c
         go_simp
         all_goals with_reducible rfl
        simp only[aput,List.set]
        refine tk (i:=1) (d:=83) (v:=?_) [3,4,6,7,8,9,10,11] rfl rfl (by decide +kernel) rfl (fun _ _ _ h=>h) hHeld ?_ ?_
        rotate_left
        ·intro wS hSw
         go_simp
         all_goals with_reducible rfl
        simp only[aput,List.set]
        refine tk (i:=2) (d:=84) (v:=?_) [3,4,6,7,8,9,10,11] rfl rfl (by decide +kernel) rfl (fun _ _ _ h=>h) hHeld ?_ ?_
        rotate_left
        ·intro wS hSw
         go_simp
         all_goals with_reducible rfl
        simp only[aput,List.set]
        refine tk (i:=3) (d:=85) (v:=?_) [4,6,7,8,9,10,11] rfl rfl (by decide +kernel) rfl (fun _ _ _ h=>h) hHeld ?_ ?_
        rotate_left
        ·intro wS hSw
         go_simp
         all_goals with_reducible rfl
        simp only[aput,List.set]
        refine tk (i:=5) (d:=87) (v:=?_) [6,7,8,9,10,11] rfl rfl (by decide +kernel) rfl (fun _ _ _ h=>h) hHeld ?_ ?_
        rotate_left
        ·intro wS hSw
         go_simp
         all_goals with_reducible rfl
        simp only[aput,List.set]
        repeat' (first
         | exact nl
         |(refine cns (i:=4) (o:=_) rfl (fun K hK=>?_) ?_
           go_simp
           refine(JN.out _ (bel_trans BC.out hHeld)).mono ?_
           rintro e w4q ⟨rfl,hb5⟩
           refine hK.out _ _ (bel_trans hHeld hb5) (fun hHeld2=>?_)
           clear hb5
           clear hK K
           replace hHeld:=hHeld2
           clear hHeld2
           try simp only[Act.put,List.setIfInBounds_toArray,List.set_cons_zero,List.set_cons_succ])
         |(refine cns (i:=6) (o:=_) rfl (fun K hK=>?_) ?_
           go_simp
           refine(AD.out _ hHeld).mono ?_
           rintro e w6q ⟨rv,rfl,hr5,hb5⟩
           obtain⟨a4,b4,c4,d4,rfl⟩:=hr5.form
           refine hK.out _ _ (bel_trans hHeld hb5) (fun hHeld2=>?_)
           have ZI:=hidI hr5
           clear hb5 hr5
           clear hK K
           replace hHeld:=hHeld2
           clear hHeld2
           try simp only[Act.put,List.setIfInBounds_toArray,List.set_cons_zero,List.set_cons_succ])
         |(refine lst (i:=10) (o:=_) (by decide +kernel) rfl (fun K hK=>?_)
           have K8:=hidI (KC.out.bel hHeld)
           obtain⟨n0,n1,n2,n3,n4,m0,m1,m2,m3,m4⟩:=K8.out.1.c
           have K9:=hidI (K8.out.put ZI.out)
           go_simp
           refine hK.out _ _ ?_
           clear hK K
           try simp only[Act.put,List.setIfInBounds_toArray,List.set_cons_zero,List.set_cons_succ])
         |(refine lst (i:=11) (o:=_) (by decide +kernel) rfl (fun K hK=>?_)
           go_simp
           refine hK.out _ _ ?_
           clear hK K
           try simp only[Act.put,List.setIfInBounds_toArray,List.set_cons_zero,List.set_cons_succ])
         |(refine tk (i:=7) (d:=81) (v:=?_) [8,9,10,11] rfl rfl (by decide +kernel) rfl (fun _ _ _ h=>h) (by exact hHeld) ?_ ?_
           rotate_left
           ·intro wS hSw
            go_simp
            all_goals with_reducible rfl
           simp only[aput,List.set])
         |(refine tk (i:=8) (d:=89) (v:=?_) [10,11] rfl rfl (by decide +kernel) rfl (fun _ _ _ h=>h) (by exact hHeld) ?_ ?_
           rotate_left
           ·intro wS hSw
            go_simp
            all_goals with_reducible rfl
           simp only[aput,List.set])
         |(refine tkY (i:=9) (d:=90) (v:=?_) rfl rfl (by decide +kernel) rfl (fun _ _ _ h=>h) (by exact hHeld) ?_ ?_
           rotate_left
           ·intro wS
            go_simp
            all_goals with_reducible rfl
           simp only[aput,List.set])
         | refine rdy [4] (by decide +kernel) ?_
         | refine rdy [6] (by decide +kernel) ?_
         | fail)
        all_goals
         refine dn (by kernel_rfl) ?_
         clear n0 n1 n2 n3 n4 m0 m1 m2 m3 m4
         go_wp2_with fail
         go_roundg (ns.length - (i+1))
         case measure=>rw[GI.out];omega
         case rel=>exact⟨i+1,by omega,hit,rfl,by go_num,z,_,_,_,_,HMZ,K9⟩
     ·have d9:¬(i:Int) < (ns.length:Int):=by omega
      have hie:i=ns.length:=by omega
      subst hie
      have HRW:Hid _:=hidI (made_leaf (x:=x) HK5.out HGV.out (p:=p) (by rw[HLE.out];exact HLK.out) (by rw[HNS.out];exact HTX.out) (by rw[HLE.out,HNS.out];exact MI.out))
      obtain⟨z,hz,hmz⟩:=HRW.out
      rw[HNS.out]at hz
      rw[HLE.out]at hmz
      have HMZ:=hidI hmz
      have AD:Hid (Calls Tryz.prog 18 #[.agg #[.int .i64 y.kind,.int .i64 y.n,.string ⟨y.s.toArray⟩,.slice a2 y.keys.length c2,.slice b2 y.l.length d2],.string ⟨p.toArray⟩,.agg #[.int .i64 x.kind,.int .i64 x.n,.string ⟨x.s.toArray⟩,.slice a3 x.keys.length c3,.slice b3 x.l.length d3]] wr fun e w'=>∃ r,e=.returned (.tuple #[r,.int .i64 0])/\In w' (fun k=>k≠g) z r/\Below wr.heap.size wr w'):=hidI (by
       have:=add_is wr (fun k=>k≠g) y x _ _ p KR.out.2.2 (XI.out.grown KR.out.2.1 (fun _ hk=>hk)) (by have:=HPL.out;omega) (HM.out.bel BWR.out)
       rw[HSPP.out,hz]at this
       refine this.mono ?_
       rintro e w' ⟨r,rfl,h1,h2⟩
       exact⟨r,rfl,ng_new h2 KR.out.1.lt,h1⟩)
      clear hz hmz HRW
      obtain⟨v0,v1,v2,v3,v4,-⟩:=KR.out.1.c
      obtain⟨x0,x1,x2,x3,x4,-⟩:=(XB.out.grown KR.out.2.1 (by intro e;cases e;exact absurd rfl XG.out)).c
      go_upto_region 20 with (go_at_call 18;refine AD.out.mono ?_;rintro e w8 ⟨rv,rfl,hr5,hb5⟩;obtain⟨a4,b4,c4,d4,rfl⟩:=hr5.form;have ZI:=hidI hr5;have K8:=hidI (KR.out.bel hb5);clear hb5 hr5 v0 v1 v2 v3 v4 x0 x1 x2 x3 x4;obtain⟨n0,n1,n2,n3,n4,m0,m1,m2,m3,m4⟩:=K8.out.1.c;have K9:=hidI ((K8.out.put ZI.out).old G46.out))
      clear n0 n1 n2 n3 n4 m0 m1 m2 m3 m4
      go_wp2_with fail
      go_roundg (L.length - (k+1))
      case measure=>rw[GK.out];omega
      case rel=>exact⟨k+1,hlt,rfl,by go_num,z,_,_,_,_,HMZ,K9⟩
  ·have d9:¬(k:Int) < (L.length:Int):=by omega
   have hkl:k=L.length:=by omega
   subst hkl
   have hy:t=y:=(made_end HK5.out HGV.out (by rw[HLE.out];exact MK.out)).symm
   obtain⟨v0,v1,v2,v3,v4,-⟩:=(VB4.out.grown KR0.out.2.1 (by intro e;cases e;exact absurd rfl SNE.out)).c
   obtain⟨x0,x1,x2,x3,x4,-⟩:=KR0.out.1.c
   have SM:Hid (Calls Tryz.prog 8 #[.agg #[.int .i64 t.kind,.int .i64 t.n,.string ⟨t.s.toArray⟩,.slice a1 t.keys.length c1,.slice b1 t.l.length d1],.agg #[.int .i64 y.kind,.int .i64 y.n,.string ⟨y.s.toArray⟩,.slice a2 y.keys.length c2,.slice b2 y.l.length d2]] wr fun e w'=>e=.returned (.bool true)/\Below wr.heap.size wr w'):=hidI (by
    subst hy
    exact same_is wr _ _ t _ _ (HT.out.bel BWR.out) KR0.out.2.2)
   clear hy
   go_wp2_with (first
    |(go_at_call 7;refine(OWN.out _ (bel_trans BWR.out B9.out)).mono ?_;rintro e w9 ⟨rfl,hb⟩;have BA:=hidI hb;clear hb)
    |(go_at_call 8;refine SM.out.mono ?_;rintro e w8 ⟨rfl,hb⟩;have B9:=hidI hb;clear hb))
   go_ret
   exact⟨rfl,bel_trans (bel_trans BWR.out B9.out) BA.out⟩
end Go.Proofs.YtmdemcjmcnfjmaaGreatDoor
