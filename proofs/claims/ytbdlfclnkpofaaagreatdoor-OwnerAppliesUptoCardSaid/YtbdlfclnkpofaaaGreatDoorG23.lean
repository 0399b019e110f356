/- Whatever it is handed, OwnerAppliesUpto answers true and leaves all as it was. Its conditions: a text or a list takes at most 2^47 - 4096 bytes; the listed package-level variables hold what the program's text lays (the card ties them, over a pruned copy of the project). -/
import Derived.Test.YtbdlfclnkpofaaaGreatDoorG21
import Derived.Test.YtbdlfclnkpofaaaGreatDoorG22
set_option maxRecDepth 100000
set_option maxHeartbeats 40000000
set_option linter.unusedSimpArgs false
set_option linter.unusedVariables false
namespace Go.Proofs.YtbdlfclnkpofaaaGreatDoor
open Go.RowKit
open _root_.Go.Proofs.Tryz
variable {W:World}
variable {ok:Nat->Prop}
variable {v:Value}
variable {t x:V}
variable {g B:Nat}
section
theorem Vf(w:LC)(ok:Nat->Prop)(t LQ:V)(l:List aL)(who:Lz)(force:Bool)(vt vl vw:Value)(ht:In w ok t vt)(hl:aB w ok l vl)(hw:In w ok LQ vw)(hM:bj w)(hN:(bA l).length<=4000000)(hP:∀ o∈l,∀ x∈o.paths,x.length<=140737488351232)(hwho:who.length<=9223372036854775807){m:List aL}{cf:List (Lz × Lz)}{cd:Int}(hA:eC t l who LQ force=(x,m,cf,cd)):Calls prog 7 #[vt,vl,.string ⟨who.toArray⟩,vw,.bool force] w fun e w'=>∃ (a3 b3:Option Addr) (c3 d3:Nat) (na:Option Addr) (nc:Nat) (rc:Value),e=.returned (.tuple #[.agg #[.int .i64 x.kind,.int .i64 x.n,.string ⟨x.s.toArray⟩,.slice a3 x.keys.length c3,.slice b3 x.l.length d3],.slice na m.length nc,rc,.int .i64 cd])/\In w' (bQ ok w.heap.size) x (.agg #[.int .i64 x.kind,.int .i64 x.n,.string ⟨x.s.toArray⟩,.slice a3 x.keys.length c3,.slice b3 x.l.length d3])/\aB w' (bQ ok w.heap.size) m (.slice na m.length nc)/\w'.ownsRow w.heap.size 64 2 rc cf.length (jV cf)/\La w w':=by
 refine(Fl w ok t LQ l who force vt vl vw ht hl hw hM hN hP hwho).mono ?_;rintro e w' ⟨r,ro,rc,rfl,h1,h2,h3,h4⟩;rw[hA]at h1 h2 h3 ⊢;obtain⟨a3,b3,c3,d3,rfl⟩:=h1.form;obtain⟨na,nc,rfl⟩:=h2.form;exact⟨a3,b3,c3,d3,na,nc,rc,rfl,h1,h2,h3,h4⟩
theorem VI(w:LC)(ok:Nat->Prop)(t LQ:V)(l:List aL)(who:Lz)(force:Bool)(vt vl vw:Value)(ht:In w ok t vt)(hl:aB w ok l vl)(hw:In w ok LQ vw)(hN:bN t<=1000000000000000)(hNW:bN LQ<=1000000000000000)(hA:(bA l).length<=4000000)(hP:∀ o∈l,∀ x∈o.paths,x.length<=140737488351232)(hwho:who.length<=9223372036854775807){m:List aL}{cf:List (Lz × Lz)}{cd:Int}(hAF:eC t l who LQ force=(x,m,cf,cd)):Calls prog 8 #[vt,vl,.string ⟨who.toArray⟩,vw,.bool force] w fun e w'=>∃ (a3 b3:Option Addr) (c3 d3:Nat) (na:Option Addr) (nc:Nat) (rc:Value),e=.returned (.tuple #[.agg #[.int .i64 x.kind,.int .i64 x.n,.string ⟨x.s.toArray⟩,.slice a3 x.keys.length c3,.slice b3 x.l.length d3],.slice na m.length nc,rc,.int .i64 cd])/\In w' (bQ ok w.heap.size) x (.agg #[.int .i64 x.kind,.int .i64 x.n,.string ⟨x.s.toArray⟩,.slice a3 x.keys.length c3,.slice b3 x.l.length d3])/\aB w' (bQ ok w.heap.size) m (.slice na m.length nc)/\w'.ownsRow w.heap.size 64 2 rc cf.length (jV cf)/\La w w':=by
 refine(Vv w ok t LQ l who force vt vl vw ht hl hw hN hNW hA hP hwho).mono ?_;rintro e w' ⟨r,ro,rc,rfl,h1,h2,h3,h4⟩;rw[hAF]at h1 h2 h3 ⊢;obtain⟨a3,b3,c3,d3,rfl⟩:=h1.form;obtain⟨na,nc,rfl⟩:=h2.form;exact⟨a3,b3,c3,d3,na,nc,rc,rfl,h1,h2,h3,h4⟩
theorem VE{LQ:V}{l:List aL}{who:Lz}{force:Bool}{m:List aL}{cf:List (Lz × Lz)}{cd:Int}(h:eC t l who LQ force=(x,m,cf,cd))(hA:(bA l).length<=4000000):cf.length<=4000000:=by
 have h9:=TZ (aV LQ t (au LQ)) who l;unfold eC at h;split at h
 ·split at h
  ·simp only[Prod.mk.injEq]at h;rw[<-h.2.2.1];omega
  ·split at h <;> (simp only[Prod.mk.injEq]at h;rw[<-h.2.2.1];simp)
 ·simp only[Prod.mk.injEq]at h;rw[<-h.2.2.1];simp
theorem Vw(h:In W ok t v)(o:Obj):In (W.alloc o) (fun k=>k≠W.heap.size) t v:=(h.low.bel (ae W o)).weak fun k hk=>Nat.ne_of_lt hk.2
theorem VG{l:List aL}(h:aB W ok l v)(o:Obj):aB (W.alloc o) (fun k=>k≠W.heap.size) l v:=(h.low.bel (ae W o)).weak fun k hk=>Nat.ne_of_lt hk.2
theorem V0{W':LC}{z0 z1 z2 z3 z4:Value}(h:In W' (fun k=>W.heap.size<=k) t v)(hb:ag W g z0 z1 z2 z3 z4):In W' (fun k=>k≠g) t v:=h.weak fun k hk=>by
 have:=(MF.1 hb).1;omega
def Wc (a W:LC) (g:Nat) (x:V) (m:List aL) (cf:List (Lz × Lz)) (mv rc e0 e1 e2 e3 e4:Value):Prop:=ag W g e0 e1 e2 e3 e4/\La a W/\In W (fun _=>True) x (.agg #[e0,e1,e2,e3,e4])/\aB W (fun _=>True) m mv/\f9 W cf rc
theorem V1{a:LC}{m:List aL}{cf:List (Lz × Lz)}{mv rc v0 v1 v2 v3 v4:Value}(h:La a W)(hx:In W ok x (.agg #[v0,v1,v2,v3,v4]))(hm:aB W ok m mv)(hc:W.ownsRow B 64 2 rc cf.length (jV cf))(e0 e1 e2 e3 e4:Value)(h0:v0=e0:=by rfl)(h1:v1=e1:=by rfl)(h2:v2=e2:=by rfl)(h3:v3=e3:=by rfl)(h4:v4=e4:=by rfl):Wc a (W.alloc (.cells #[e0,e1,e2,e3,e4] 25)) W.heap.size x m cf mv rc e0 e1 e2 e3 e4:=by
 subst h0 h1 h2 h3 h4;have hb:=ae W (.cells #[v0,v1,v2,v3,v4] 25);exact⟨MN _ _,ab h hb,(hx.bel hb).weak fun _ _=>trivial,(hm.bel hb).weak fun _ _=>trivial,_,bM hc fun g hg=>hb.block g (bY hc hg).2⟩
theorem Vx{a:LC}{m:List aL}{cf:List (Lz × Lz)}{mv rc z0 z1 z2 z3 z4 v0 v1 v2 v3 v4:Value}(h:La a W)(hb:ag W g z0 z1 z2 z3 z4)(hg:a.heap.size<=g)(hB:g < B)(hx:In W (bQ (fun k=>k≠g) B) x (.agg #[v0,v1,v2,v3,v4]))(hm:aB W (bQ (fun k=>k≠g) B) m mv)(hc:W.ownsRow B 64 2 rc cf.length (jV cf))(e0 e1 e2 e3 e4:Value)(h0:v0=e0:=by rfl)(h1:v1=e1:=by rfl)(h2:v2=e2:=by rfl)(h3:v3=e3:=by rfl)(h4:v4=e4:=by rfl):Wc a (ar W g e0 e1 e2 e3 e4) g x m cf mv rc e0 e1 e2 e3 e4:=by
 subst h0 h1 h2 h3 h4;have gb:=aI W g v0 v1 v2 v3 v4;have key:∀ k,bQ (fun k=>k≠g) B k->k≠g:=fun k hk=>by
  rcases hk with hk | hk
  ·exact hk
  ·omega
 exact⟨hb.set _ _ _ _ _,aP h hg _ _ _ _ _,(hx.grown gb key).weak fun _ _=>trivial,(hm.grownR gb fun k hk e=>key k hk (by cases e;rfl)).weak fun _ _=>trivial,_,bM hc fun k hk=>gb.block k (bY hc hk).2 (by have:=(bY hc hk).1;intro e;cases e;omega)⟩
theorem Uw(w:LC)(ok ok':Nat->Prop)(a:V)(va vb:Value)(ha:In w ok a va)(hb:In w ok' a vb):Calls prog 9 #[va,vb] w fun e w'=>e=.returned (.bool true)/\La w w':=
 (Sk w ok ok' a a va vb ha hb).mono fun e w' h=>⟨by rw[h.1];simp,h.2⟩
attribute [local go_sem ↓] Go.wp_at_zero Go.wp_at_succ
theorem applies_at(w:LC)(ok okl okw:Nat->Prop)(t LQ:V)(l:List aL)(who:Lz)(force:Bool)(vt vl vw:Value)(ht:In w ok t vt)(hl:aB w okl l vl)(hw:In w okw LQ vw)(hG:cn w)(hM:bj w)(hN:FV t<=1000000000000)(hNW:FV LQ<=1000000000000)(hL:l.length<=2000000)(hA:(bA l).length<=2000000)(hP:∀ o∈l,o.paths.length<=2000000/\∀ x∈o.paths,x.length<=140737488351232)(hwho:who.length<=9223372036854775807):Calls prog 3 #[vt,vl,.string ⟨who.toArray⟩,vw,.bool force] w fun e w'=>e=.returned (.bool true)/\La w w':=by
 have HT:Ll (In w (fun _=>True) t vt):=ht.weak fun _ _=>trivial;have HL:Ll (aB w (fun _=>True) l vl):=hl.weak fun _ _=>trivial;have HW:Ll (In w (fun _=>True) LQ vw):=hw.weak fun _ _=>trivial;have HM:=aa hM;have HG:=aa hG;have NTS:=aa hN;have NWS:=aa hNW;have NTC:Ll (bN t<=1000000000000000):=aa (by have:=Uk t;omega);have NWC:Ll (bN LQ<=1000000000000000):=aa (by have:=Uk LQ;omega);have HLL:=aa hL;have HA4:Ll ((bA l).length<=4000000):=aa (by omega);have HPC:=aa hP;have HPP:Ll (∀ o∈l,∀ x∈o.paths,x.length<=140737488351232):=fun o ho=>(hP o ho).2;have HWH:=aa hwho;obtain⟨A,hA0⟩:∃ A,eC t l who LQ force=A:=⟨_,rfl⟩
 obtain⟨x,m,cf,cd⟩:=A;have HAF:=aa hA0;have CFL:=aa (VE hA0 HA4.o);obtain⟨a1,b1,c1,d1,rfl⟩:=ht.form;obtain⟨a2,b2,c2,d2,rfl⟩:=hw.form;obtain⟨la,lc,rfl⟩:=hl.form;have ll:=hl.1;unfold maxLen at ll;clear ht hl hw hG hM hN hNW hL hA hP hwho hA0;obtain⟨W2,hW2⟩:∃ W,W=(w.alloc (.cells #[.int .i64 t.kind,.int .i64 t.n,.string ⟨t.s.toArray⟩,.slice a1 t.keys.length c1,.slice b1 t.l.length d1] 25)).alloc (.cells #[.int .i64 LQ.kind,.int .i64 LQ.n,.string ⟨LQ.s.toArray⟩,.slice a2 LQ.keys.length c2,.slice b2 LQ.l.length d2] 25):=⟨_,rfl⟩
 have B2:Ll (La w W2):=aa (by rw[hW2];exact ab (ae _ _) (ae _ _));have VB:Ll (ag W2 w.heap.size (.int .i64 t.kind) (.int .i64 t.n) (.string ⟨t.s.toArray⟩) (.slice a1 t.keys.length c1) (.slice b1 t.l.length d1)):=aa (by rw[hW2];exact fb _ _ _);have WB:Ll (ag W2 (w.heap.size+1) (.int .i64 LQ.kind) (.int .i64 LQ.n) (.string ⟨LQ.s.toArray⟩) (.slice a2 LQ.keys.length c2) (.slice b2 LQ.l.length d2)):=aa (by rw[hW2];exact et _ _ _);have HW2:=aa hW2;clear hW2;have CPV:=aa (UU W2 _ t _ (HT.o.bel B2.o) NTS.o);have CPO:Ll (∀ W,La W2 W->Calls prog 6 #[.slice la l.length lc] W fun e w'=>∃ a c,e=.returned (.slice a l.length c)/\aB w' (fun k=>W.heap.size<=k) l (.slice a l.length c)/\La W w'):=fun W hW=>T3 W _ l _ (HL.o.bel (ab B2.o hW)) HLL.o HPC.o;have o0_:=VB.o.c;go_enter func3,ntmps3;go_upto_region 1 with fail
 rw[<-HW2.o];go_upto_region 2 with (first
  |(go_at_call 6;refine(CPO.o _ B3.o).mono ?_;rintro e w4 ⟨la4,lc4,rfl,ho,hb⟩;have B4:=aa (ab B3.o hb);have CV4:=aa (CV3.o.bel hb);have CO4:=aa ho;clear hb ho)
  |(go_at_call 5;refine CPV.o.mono ?_;rintro e w3 ⟨rv,rfl,hb,hr⟩;obtain⟨a7,b7,c7,d7,rfl⟩:=hr.form;have B3:=aa hb;have CV3:=aa hr;clear hb hr))
 obtain⟨W5,hW5⟩:∃ W,W=w4.alloc (.cells #[.int .i64 t.kind,.int .i64 t.n,.string ⟨t.s.toArray⟩,.slice a7 t.keys.length c7,.slice b7 t.l.length d7] 25):=⟨_,rfl⟩
 have A5:Ll (La w4 W5):=aa (by rw[hW5];exact ae _ _);have CB:Ll (ag W5 w4.heap.size (.int .i64 t.kind) (.int .i64 t.n) (.string ⟨t.s.toArray⟩) (.slice a7 t.keys.length c7) (.slice b7 t.l.length d7)):=aa (by rw[hW5];exact MN _ _);have Y5:=aa (ab B4.o A5.o);have B5:=aa (ab B2.o Y5.o);have CI5:=aa (CV4.o.bel A5.o);have CO5:=aa (CO4.o.bel A5.o);have WB5:=aa (af Y5.o WB.o);have VB5:=aa (af Y5.o VB.o);have WI5:=aa (HW.o.bel B5.o);have HM5:=aa (HM.o.bel B5.o);rw[<-hW5];clear hW5 CV4 CO4 CPV CPO;go_cut [13,14,15,16] (fun pv mv cv kv wc=>∃ (g7:Nat) (a3 b3:Option Addr) (c3 d3:Nat) (na:Option Addr) (nc:Nat),pv=.pointer (some ⟨g7,0,none⟩)/\mv=.slice na m.length nc/\kv=.int .i64 cd/\Wc W5 wc g7 x m cf (.slice na m.length nc) cv (.int .i64 x.kind) (.int .i64 x.n) (.string ⟨x.s.toArray⟩) (.slice a3 x.keys.length c3) (.slice b3 x.l.length d3))
 case first=>
  refine aD (fun wS=>La W5 wS) [13] (by kernel_rfl) (aC _ 1) (fun LI=>?_);refine WT.out ?_;iterate 5
   first
    | refine OJ 0 ?_ [6,7,8,9,10,11,13,14,15,16] LI ?_ ?_
    | refine OJ 1 ?_ [6,7,8,9,10,11,13,14,15,16] LI ?_ ?_
    | refine OJ 2 ?_ [6,7,8,9,10,11,13,14,15,16] LI ?_ ?_
    | refine OJ 3 ?_ [4,6,7,8,9,10,11,13,14,15,16] LI ?_ ?_
    | refine OJ 5 ?_ [6,7,8,9,10,11,13,14,15,16] LI ?_ ?_
   rotate_left
   ·intro wS LN;have u0_:=(af LN CB.o).c;have v0_:=(af LN WB5.o).c;go_simp;all_goals with_reducible rfl
   simp only[av,List.set]
  repeat' (first
   | exact nl
   |(refine TD 4 (fun K hK=>?_) ?_
     go_simp;refine(UU _ _ LQ _ (by exact WI5.o.bel LI) NWS.o).mono ?_;rintro e w4q ⟨rv,rfl,hb5,hr5⟩;obtain⟨a4,b4,c4,d4,rfl⟩:=hr5.form;refine hK.out _ _ (ab LI hb5) (fun LJ=>?_);first | (have CWN:=aa (V0 hr5 NB.o)) | (have CW:=aa hr5)
     try replace NB:=aa (af hb5 NB.o)
     try replace CIN:=aa (CIN.o.bel hb5)
     try replace CON:=aa (CON.o.bel hb5)
     clear hb5 hr5;clear hK K;replace LI:=LJ;clear LJ;try simp only[Act.put,Mt,Mu,Mv])
   |(refine TD 6 (fun K hK=>?_) ?_
     go_simp;refine((by first | exact Vf _ (fun k=>k≠_) t LQ l who force _ _ _ CIN.o CON.o CWN.o (HM5.o.bel LI) HA4.o HPP.o HWH.o HAF.o | exact Vf _ (fun _=>True) t LQ l who force _ _ _ ((CI5.o.bel LI).weak fun _ _=>trivial) ((CO5.o.bel LI).weak fun _ _=>trivial) (CW.o.weak fun _ _=>trivial) (HM5.o.bel LI) HA4.o HPP.o HWH.o (HAF.o):Calls prog 7 _ _ _)).mono ?_;rintro e w6q ⟨a3,b3,c3,d3,na,nc,rc,rfl,hx,hm,hc,hb5⟩;refine hK.out _ _ (ab LI hb5) (fun LJ=>?_);have AX:=aa hx;have AM:=aa hm;have AC:=aa hc;try (have GB:=aa (MF.1 NB.o).1)
     try replace NB:=aa (af hb5 NB.o)
     have Ma:Ll True:=aa trivial;clear hb5 hx hm hc;clear hK K;replace LI:=LJ;clear LJ;try simp only[Act.put,Mt,Mu,Mv])
   |(refine TD 12 (fun K hK=>?_) ?_
     go_simp;refine hK.out _ _ (ab LI (ae _ _)) (fun LJ=>?_);have GEB:=aa LI.size;have NB:=aa (yl LI);try simp only[n9,vc,sk]at NB
     first | (have c9:=Ma.o;clear c9;have FINA:=aa (V1 LI AX.o AM.o AC.o (.int .i64 x.kind) (.int .i64 x.n) (.string ⟨x.s.toArray⟩) (.slice a3 x.keys.length c3) (.slice b3 x.l.length d3))) | (have CIN:=aa (Vw (CI5.o.bel LI) (.cells #[.int .i64 0,.int .i64 0,.string ⟨#[]⟩,.slice none 0 0,.slice none 0 0] 25));have CON:=aa (VG (CO5.o.bel LI) (.cells #[.int .i64 0,.int .i64 0,.string ⟨#[]⟩,.slice none 0 0,.slice none 0 0] 25));(try simp only[n9,vc,sk]at CIN CON);try (have CWN:=aa (Vw CW.o (.cells #[.int .i64 0,.int .i64 0,.string ⟨#[]⟩,.slice none 0 0,.slice none 0 0] 25));(try simp only[n9,vc,sk]at CWN)))
     clear hK K;replace LI:=LJ;clear LJ;try simp only[Act.put,Mt,Mu,Mv])
   |(refine OO 13 (fun K hK=>?_)
     have n0_:=NB.o.c;first | (have c9:=FINA.o;clear c9) | (have FINB:=aa (Vx LI NB.o GEB.o GB.o AX.o AM.o AC.o (.int .i64 x.kind) (.int .i64 x.n) (.string ⟨x.s.toArray⟩) (.slice a3 x.keys.length c3) (.slice b3 x.l.length d3)))
     go_simp;refine hK.out _ _ ?_;clear hK K;try simp only[Act.put,Mt,Mu,Mv])
   |(refine OO 14 (fun K hK=>?_)
     go_simp;refine hK.out _ _ ?_;clear hK K;try simp only[Act.put,Mt,Mu,Mv])
   |(refine OO 15 (fun K hK=>?_)
     go_simp;refine hK.out _ _ ?_;clear hK K;try simp only[Act.put,Mt,Mu,Mv])
   |(refine OO 16 (fun K hK=>?_)
     go_simp;refine hK.out _ _ ?_;clear hK K;try simp only[Act.put,Mt,Mu,Mv])
   |(first
      | refine OJ 7 ?_ [8,9,10,11,13,14,15,16] (by exact LI) ?_ ?_
      | refine OJ 8 ?_ [13,14,15,16] (by exact LI) ?_ ?_
     rotate_left
     ·intro wS LN;go_simp;all_goals with_reducible rfl
     simp only[av,List.set])
   |(first
      | refine Pm 9 ?_ (by exact LI) ?_ ?_
      | refine Pm 10 ?_ (by exact LI) ?_ ?_
      | refine Pm 11 ?_ (by exact LI) ?_ ?_
     rotate_left
     ·intro wS;go_simp;all_goals with_reducible rfl
     simp only[av,List.set])
   | refine OL [4,12] ?_
   | refine OL [6,12] ?_
   | refine OL [12] ?_
   | refine OL [6] ?_
   | refine OL [4] ?_
   | fail)
  all_goals
   refine dn (by kernel_rfl) ?_;go_wp2_with fail
   go_meet
   case rel=>first | exact⟨_,_,_,_,_,_,_,rfl,rfl,rfl,FINA.o⟩ | exact⟨_,_,_,_,_,_,_,rfl,rfl,rfl,FINB.o⟩
 case rest=>
  obtain⟨g7,a3,b3,c3,d3,na,nc,rfl,rfl,rfl,hR⟩:=hcut;obtain⟨w6,rfl⟩:∃ W,W=wc:=⟨_,rfl⟩
  have XB:=aa hR.1;have Y6:=aa hR.2.1;have XI:=aa hR.2.2.1;have MI:=aa hR.2.2.2.1;have CFI:=aa hR.2.2.2.2;clear hR;have B6:=aa (ab B5.o Y6.o);have o0_:=(af Y6.o VB5.o).c;have p0_:=(af Y6.o WB5.o).c;have RAP:=aa (VI w6 (fun _=>True) t LQ l who force _ _ _ (HT.o.bel B6.o) (HL.o.bel B6.o) (HW.o.bel B6.o) NTC.o NWC.o HA4.o HPP.o HWH.o HAF.o);go_upto_region 4 with (go_at_call 8;refine RAP.o.mono ?_;rintro e w7 ⟨a6,b6,c6,d6,nb,nd,rd,rfl,hx,hm,hc,hb⟩;have B7:=aa hb;have XI7:=aa hx;have MI7:=aa hm;have CF7:=aa hc;clear hb hx hm hc)
  obtain⟨W8,hW8⟩:∃ W,W=w7.alloc (.cells #[.int .i64 x.kind,.int .i64 x.n,.string ⟨x.s.toArray⟩,.slice a6 x.keys.length c6,.slice b6 x.l.length d6] 25):=⟨_,rfl⟩
  have A8:Ll (La w7 W8):=aa (by rw[hW8];exact ae _ _);have YB:Ll (ag W8 w7.heap.size (.int .i64 x.kind) (.int .i64 x.n) (.string ⟨x.s.toArray⟩) (.slice a6 x.keys.length c6) (.slice b6 x.l.length d6)):=aa (by rw[hW8];exact MN _ _);have Y8:=aa (ab B7.o A8.o);rw[<-hW8];clear hW8;have B8:Ll (La W8 W8):=MK _ _;have Z8:=aa (ab B6.o Y8.o);have SV1:Ll (∀ W,La W8 W->Calls prog 9 #[.agg #[.int .i64 x.kind,.int .i64 x.n,.string ⟨x.s.toArray⟩,.slice a3 x.keys.length c3,.slice b3 x.l.length d3],.agg #[.int .i64 x.kind,.int .i64 x.n,.string ⟨x.s.toArray⟩,.slice a6 x.keys.length c6,.slice b6 x.l.length d6]] W fun e w'=>e=.returned (.bool true)/\La W w'):=fun W hW=>Uw W _ _ x _ _ (XI.o.bel (ab Y8.o hW)) (XI7.o.bel (ab A8.o hW));have SO1:Ll (∀ W,La W8 W->Calls prog 10 #[.slice na m.length nc,.slice nb m.length nd] W fun e w'=>e=.returned (.bool true)/\La W w'):=fun W hW=>u7 W _ _ m _ _ (MI.o.bel (ab Y8.o hW)) (MI7.o.bel (ab A8.o hW));have SC1:Ll (∀ W,La W8 W->Calls prog 11 #[u15,rd] W fun e w'=>e=.returned (.bool true)/\La W w'):=fun W hW=>u5 W cf _ _ (CFI.o.bel (ab Y8.o hW)) (f9.bel ⟨_,CF7.o⟩ (ab A8.o hW)) CFL.o;have SV2:Ll (∀ W,La W8 W->Calls prog 9 #[.agg #[.int .i64 t.kind,.int .i64 t.n,.string ⟨t.s.toArray⟩,.slice a7 t.keys.length c7,.slice b7 t.l.length d7],.agg #[.int .i64 t.kind,.int .i64 t.n,.string ⟨t.s.toArray⟩,.slice a1 t.keys.length c1,.slice b1 t.l.length d1]] W fun e w'=>e=.returned (.bool true)/\La W w'):=fun W hW=>Uw W _ _ t _ _ (CI5.o.bel (ab (ab Y6.o Y8.o) hW)) (HT.o.bel (ab Z8.o hW));have SO2:Ll (∀ W,La W8 W->Calls prog 10 #[.slice la4 l.length lc4,.slice la l.length lc] W fun e w'=>e=.returned (.bool true)/\La W w'):=fun W hW=>u7 W _ _ l _ _ (CO5.o.bel (ab (ab Y6.o Y8.o) hW)) (HL.o.bel (ab Z8.o hW));have OW1:Ll (∀ W,La W8 W->Calls prog 12 #[] W fun e w'=>e=.returned (.bool true)/\La W w'):=fun W hW=>SL W (HG.o.grown (r:=none) (aq (ab Z8.o hW)) (by simp)) (HM.o.bel (ab Z8.o hW));have CB8:=aa (af (ab Y6.o Y8.o) CB.o);have VB8:=aa (af (ab Y6.o Y8.o) VB5.o);have XB8:=aa (af Y8.o XB.o);have o0_:=XB8.o.c;have p0_:=YB.o.c;have ecd:(cd == cd)=true:=by simp
  go_wp2_with (first
   |(go_at_call 12;refine(OW1.o _ B13.o).mono ?_;rintro e w14 ⟨rfl,hb⟩;have B14:=aa (ab B13.o hb);clear hb)
   |(go_at_call 10;refine(SO2.o _ B12.o).mono ?_;rintro e w13 ⟨rfl,hb⟩;have B13:=aa (ab B12.o hb);clear hb)
   |(go_at_call 9;refine(SV2.o _ B11.o).mono ?_;rintro e w12 ⟨rfl,hb⟩;have B12:=aa (ab B11.o hb);clear hb)
   |(go_at_call 11;refine(SC1.o _ B10.o).mono ?_;rintro e w11 ⟨rfl,hb⟩;have B11:=aa (ab B10.o hb);clear hb;have q0_:=(af B11.o CB8.o).c;have r0_:=(af B11.o VB8.o).c)
   |(go_at_call 10;refine(SO1.o _ B9.o).mono ?_;rintro e w10 ⟨rfl,hb⟩;have B10:=aa (ab B9.o hb);clear hb)
   |(go_at_call 9;refine(SV1.o _ B8.o).mono ?_;rintro e w9 ⟨rfl,hb⟩;have B9:=aa (ab B8.o hb);clear hb))
  go_ret;exact⟨rfl,ab Z8.o B14.o⟩
end
theorem Uj(w:World)(ok0:Nat->Prop)(d0:Nat)(t0:V)(v0:Value)(h0:bu w ok0 d0 t0 v0)(b0:FV t0<=2000000)(ok1:Nat->Prop)(l1:List aL)(v1:Value)(h1:aB w ok1 l1 v1)(hN:(bA l1).length<=2000000)(hP:∀ o∈l1,∀ x∈o.paths,x.length<=140737488351232)(hL:l1.length<=2000000)(who:List UInt8)(hwho:who.length<=140737488351232)(ok3:Nat->Prop)(d3:Nat)(t3:V)(v3:Value)(h3:bu w ok3 d3 t3 v3)(b3:FV t3<=2000000)(force:Bool)(hG:cn w)(hM:bj w):Calls Tryz.prog 3 #[v0,v1,aR who,v3,.bool force] w fun e w'=>e=.returned (.bool true)/\La w w':=
 applies_at w (fun _=>True) (fun _=>True) (fun _=>True) t0 t3 l1 who force v0 v1 v3 (h0.is.weak fun _ _=>trivial) (h1.weak fun _ _=>trivial) (h3.is.weak fun _ _=>trivial) hG hM (by omega) (by omega) hL hN (fun o ho=>⟨by have:=OP ho;omega,hP o ho⟩) (by omega)
end Go.Proofs.YtbdlfclnkpofaaaGreatDoor
namespace Go.Proofs.YtbdlfclnkpofaaaGreatDoor.ownerApplies
open Go.ChangeShapes Go.WideShapes Go.ChangeAt Go.RowKit
open Go.ChangeMaps (open_string shut_string)
theorem mf(H:Type)(enc:TypeId × Value->H)(W:World)(base:Nat)(args:Array Value)(ds gs:List (DataW H))(before:List MemPlace)(hval:∀ (j:Nat) t v,Tryz.f3.params[j]?=some t->args[j]?=some v->Value.okWide Tryz.prog W .any base t v)(hW:DataW.Whole enc Tryz.prog Tryz.f3.params.toList Rows.ownerAppliesSpec.vars false W args.toList ds gs before)(hk:Rows.uptoSmall H (ds++gs)=true)(hZ:(DataW.weightsEach Tryz.prog (Tryz.f3.params.toList++(OpenSpec.ofChange Rows.ownerAppliesSpec).bare.plain.varTypes Tryz.prog) (ds++gs)).all (·<=reachBytes)=true)(hL:laidMet Tryz.prog F9 W)(hS:W.ShapedOpen Tryz.prog):Calls Tryz.prog 3 args W fun e W'=>∃ v,e=.returned v/\Rows.ownerAppliesSpec.post enc Tryz.prog Tryz.f3 false true false false W args v W':=by
 have hW':=hW;obtain⟨p,q,hA0,hV,rfl,hfz,hnd⟩:=hW;have hA:DataW.TrodAll enc Tryz.prog W 0 (fun _=>true) true Tryz.f3.params.toList args.toList ds p:=hA0;rw[Tryz.params3]at hA hval;obtain⟨v0,vs0,d0,ds0,p0,q0,hargs0,rfl,rfl,h0,r0⟩:=trodAll_cons hA;obtain⟨v1,vs1,d1,ds1,p1,q1,hargs1,rfl,rfl,h1,r1⟩:=trodAll_cons r0;obtain⟨v2,vs2,d2,ds2,p2,q2,hargs2,rfl,rfl,h2,r2⟩:=trodAll_cons r1;obtain⟨v3,vs3,d3,ds3,p3,q3,hargs3,rfl,rfl,h3,r3⟩:=trodAll_cons r2;obtain⟨v4,vs4,d4,ds4,p4,q4,hargs4,rfl,rfl,h4,r4⟩:=trodAll_cons r3;obtain⟨rfl,rfl,rfl⟩:=trodAll_nil r4;subst hargs1;subst hargs2;subst hargs3;subst hargs4;have hargs:args=#[v0,v1,v2,v3,v4]:=by
  obtain⟨l⟩:=args;exact congrArg Array.mk hargs0
 subst hargs;obtain⟨rfl,rfl⟩:=trodVars_none hV;have k0:Value.okWide Tryz.prog W .any base 25 v0:=hval 0 _ _ (by simp) (by simp);have k1:Value.okWide Tryz.prog W .any base 26 v1:=hval 1 _ _ (by simp) (by simp);have k2:Value.okWide Tryz.prog W .any base 9 v2:=hval 2 _ _ (by simp) (by simp);have k3:Value.okWide Tryz.prog W .any base 25 v3:=hval 3 _ _ (by simp) (by simp);have k4:Value.okWide Tryz.prog W .any base 4 v4:=hval 4 _ _ (by simp) (by simp);obtain⟨f0,t0,hv0,hz0⟩:=DP k0 h0;obtain⟨os1,hv1,hz1⟩:=Sn k1 h1;obtain⟨s2,rfl,rfl,rfl,ws2⟩:=open_string Tryz.underlying9 k2 h2;obtain⟨f3,t3,hv3,hz3⟩:=DP k3 h3;obtain⟨n4,rfl,rfl,rfl⟩:=open_bool Tryz.underlying4 k4 h4;clear hA0;simp only[List.append_nil]at hW';have hb:=KT hk;simp only[List.append_nil,Rows.uptoBulkAll]at hb;have b0:FV t0<=2000000:=by omega
 have b3:FV t3<=2000000:=by omega
 have l2:s2.data.toList.length<=140737488351232:=sized_string (j:=2) hZ (by rw[Tryz.params3];rfl) rfl;have e2:Value.string s2=aR s2.data.toList:=by unfold aR;cases s2;simp
 have y1:(bA os1).length<=2000000:=by have:=O6 os1;omega
 have z1:∀ o∈os1,∀ x∈o.paths,x.length<=140737488351232:=fun o ho x hx=>by have:=Sx ho hx;omega
 have x1:os1.length<=2000000:=by have:=NO os1;omega
 have walk:=Uj W (fun _=>True) f0 t0 v0 hv0 b0 (fun _=>True) os1 v1 hv1 y1 z1 x1 s2.data.toList l2 (fun _=>True) f3 t3 v3 hv3 b3 n4 (Th hL) (zS hS);rw[<-e2]at walk;refine walk.mono fun e W' ⟨he,hg⟩=>?_;subst he;have ef:Rows.ownerAppliesSpec.fn H ([d0,d1,.lit (.string s2.data.toList),d3,.lit (.bool n4)]++[])={ results:=[.lit (.bool true)],args:=[d0,d1,.lit (.string s2.data.toList),d3,.lit (.bool n4)] }:=rfl;refine⟨_,rfl,_,_,_,[],(p0++(p1++([]++(p3++([]++[]))))),[],hW',?_,?_,?_,hg.frame _,fun h=>by cases h⟩
 ·rw[ef];exact trodAll_mk1 (shut_bool Tryz.underlying4 _)
 ·rw[ef,Tryz.params3];exact trodAll_cons_mk (Below.trod oI Uf SY h0 hg (lK h0)) (trodAll_cons_mk (Below.trod oI RS Tx h1 hg (lK h1)) (trodAll_cons_mk (shut_string Tryz.underlying9 ws2) (trodAll_cons_mk (Below.trod oI Uf SY h3 hg (lK h3)) (trodAll_cons_mk (shut_bool Tryz.underlying4 n4) (trodAll_mk0)))))
 ·rw[ef];rfl
theorem sd(os:Os){H:Type}(enc:TypeId × Value->H):∃ places,DataW.whole enc Tryz.prog ((yd os).forCall (fun _ _=>0) ⟨#[],#[.agg #[.int .i64 0,.int .i64 0,.string ⟨#[]⟩,.slice none 0 0,.slice none 0 0],.slice none 0 0,.string ⟨#[]⟩,.agg #[.int .i64 0,.int .i64 0,.string ⟨#[]⟩,.slice none 0 0,.slice none 0 0],.bool false],[]⟩).memory Tryz.f3.params.toList Rows.ownerAppliesSpec.vars false #[Value.agg #[.int .i64 0,.int .i64 0,.string ⟨#[]⟩,.slice none 0 0,.slice none 0 0],Value.slice none 0 0,Value.string ⟨#[]⟩,Value.agg #[.int .i64 0,.int .i64 0,.string ⟨#[]⟩,.slice none 0 0,.slice none 0 0],Value.bool false].toList 8=some ([.agg [.lit (.int .i64 0),.lit (.int .i64 0),.lit (.string []),.nil,.nil],.nil,.lit (.string []),.agg [.lit (.int .i64 0),.lit (.int .i64 0),.lit (.string []),.nil,.nil],.lit (.bool false)],[],places):=
 ⟨[],by kernel_rfl⟩
theorem xX(os:Os)(started:os.Started)(H:Type)(enc:TypeId × Value->H)(F:Stop.Interp):ReturnsInHanded {} Tryz.checked os 3 .any ((Rows.OpenSpec.upto Rows.ownerAppliesSpec).preRow enc Tryz.prog Tryz.f3 Rows.ownerAppliesUptoRow.domain false Rows.ownerAppliesUptoRow.laid) (((Rows.OpenSpec.upto Rows.ownerAppliesSpec).at F).post enc Tryz.prog Tryz.f3 false true false false):=by
 obtain⟨places,hx⟩:=sd os enc;refine returnsInHanded_of_row (C:=Tryz.checked) (s:=Rows.OpenSpec.upto Rows.ownerAppliesSpec) G9 started (by kernel_rfl) Tryz.func3
  (witness_row_at (enc:=enc) (C:=Tryz.checked) false (yd os) #[.agg #[.int .i64 0,.int .i64 0,.string ⟨#[]⟩,.slice none 0 0,.slice none 0 0],.slice none 0 0,.string ⟨#[]⟩,.agg #[.int .i64 0,.int .i64 0,.string ⟨#[]⟩,.slice none 0 0,.slice none 0 0],.bool false] rfl (by kernel_rfl) (by kernel_rfl) (by kernel_rfl)
   (OpenSpec.preRow_of_cond 8 hx (by kernel_rfl) (fun k hk=>by cases hk;kernel_rfl) (by kernel_rfl) (Tr os _))) ?_
 intro W base args ds gs before hval hW _ hc hZ hL hS _;exact mf H enc W base args ds gs before hval hW (hc _ rfl) hZ hL hS
theorem iZ:Rows.OwnerAppliesUptoSaid:=
 OpenClaim.holds_of_cond 3 Tryz.f3 rfl rfl rfl rfl rfl rfl rfl ⟨rfl,rfl,rfl,rfl,rfl⟩ rfl rfl rfl rfl rfl (by kernel_rfl) Tryz.func3 (by kernel_rfl)
  (of_decide_eq_true (by kernel_rfl)) (by unfold Func.isWrapper;first | (rw[if_pos (by decide +kernel)];kernel_rfl) | (rw[if_neg (by decide +kernel)];exact⟨rfl,rfl⟩))
  (fun os started H enc _ F=>by rw[OpenClaim.pre_eq_preRow];exact xX os started H enc F)
theorem nD(f:FuncId)(fn:Func)(hf:Tryz.pinned.checked.prog.funcNamed "stairwell/stairwelllaw.OwnerApplies"=some f)(hfn:Tryz.pinned.checked.prog.funcs[f]?=some fn):true=Tryz.pinned.checked.prog.looks []/\∀ (j:Nat) t,fn.params[j]?=some t->Tryz.pinned.checked.prog.wantsStandIn t=false:=by
 obtain rfl:f=3:=Option.some.inj ((show Tryz.prog.funcNamed "stairwell/stairwelllaw.OwnerApplies"=some 3 by kernel_rfl).symm.trans hf) |>.symm
 obtain rfl:fn=Tryz.f3:=(Option.some.inj (Tryz.func3.symm.trans hfn)).symm;refine⟨by kernel_rfl,fun j t ht=>?_⟩;rw[Tryz.params3]at ht;have hm:=Array.mem_of_getElem? ht;simp only[Array.mem_def,List.mem_cons,List.not_mem_nil,or_false]at hm;rcases hm with rfl | rfl | rfl | rfl | rfl
 ·exact(show Tryz.prog.wantsStandIn 25=false by kernel_rfl)
 ·exact(show Tryz.prog.wantsStandIn 26=false by kernel_rfl)
 ·exact(show Tryz.prog.wantsStandIn 9=false by kernel_rfl)
 ·exact(show Tryz.prog.wantsStandIn 25=false by kernel_rfl)
 ·exact(show Tryz.prog.wantsStandIn 4=false by kernel_rfl)
theorem card:Rows.OwnerAppliesUptoCardSaid:=
 Claim7.holds_tied_plain_at .later [] _ _ _ _ iZ (fun _ h=>by cases h) (by kernel_rfl) (fun _ h=>by cases h) ownerAppliesUpto_row_tie rfl ⟨rfl,rfl⟩ (by kernel_rfl) rfl nD (by kernel_rfl)
end Go.Proofs.YtbdlfclnkpofaaaGreatDoor.ownerApplies
