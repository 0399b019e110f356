import Derived.Test.YtlhejphddjdgkaaGreatDoorG2
import Derived.Test.YtlhejphddjdgkaaGreatDoorG4
import Derived.Test.YtlhejphddjdgkaaGreatDoorG5
set_option maxRecDepth 100000
set_option maxHeartbeats 40000000
set_option linter.unusedSimpArgs false
set_option linter.unusedVariables false
namespace Go.Proofs.YtlhejphddjdgkaaGreatDoor
open Go.RowKit
open _root_.Go.Proofs.Tryz
variable {w w':World}
variable {t:V}
variable {g:Nat}
section
def kt:Lz:=[112,97,117,115,101]
def aT (t:V):Option dN:=
 if t.kind=2 then (if tm t.n=true then some ⟨t.n,0⟩ else none)
 else match aS t kt with
  | some y=>if y.kind=2/\lp y.n=true then some ⟨-1,y.n⟩ else none
  | none=>none
def qZ (w:LC) (g:Nat) (x:dN):Prop:=w.heap[g]?=some (.cells #[.int .i64 x.w,.int .i64 x.p] 120)
theorem qZ.c{x}(h:qZ w g x):w.cell? ⟨g,0,none⟩=some (.int .i64 x.w)/\w.cell? ⟨g,1,none⟩=some (.int .i64 x.p)/\w.frozen? ⟨g,0,none⟩=false/\w.frozen? ⟨g,1,none⟩=false:=by
 unfold qZ at h;refine⟨?_,?_,?_,?_⟩ <;> simp[World.cell?,World.frozen?,h]
theorem qZ.bel{x}(h:qZ w g x)(hb:La w w'):qZ w' g x:=(hb.block g (MF.1 h).1).trans h
theorem qZ.set{x}(h:qZ w g x)(y):qZ ((w.setCell ⟨g,0,none⟩ (.int .i64 y.w)).setCell ⟨g,1,none⟩ (.int .i64 y.p)) g y:=ak (ak h 0 _) 1 _
def RS (w:LC) (b:Nat) (t:V) (a1 b1:Option Addr) (c1 d1:Nat) (wS:LC):Prop:=KY wS b t a1 c1 b1 d1/\qZ wS (w.heap.size+1) ⟨0,0⟩/\La w wS
theorem RS.bel{wS:LC}{b a1 b1 c1 d1}(h:RS w b t a1 b1 c1 d1 wS)(hb:La wS w'):RS w b t a1 b1 c1 d1 w':=⟨af hb h.1,h.2.1.bel hb,ab h.2.2 hb⟩
attribute [local go_sem ↓] Go.wp_at_zero Go.wp_at_succ
theorem tn(w:LC)(ok t v)(h:In w ok t v)(hk:t.kind=2):Calls prog 77 #[v] w fun e w'=>∃ x:dN,e=.returned (.tuple #[ju x,.bool (aT t).isSome])/\(∀ z,aT t=some z->x=z)/\La w w':=by
 have H:=aa h;obtain⟨a1,b1,c1,d1,rfl⟩:=h.form;have K0:Ll (RS w w.heap.size t a1 b1 c1 d1 ((w.alloc (.cells (KV t a1 c1 b1 d1) 32)).alloc (.cells #[.int .i64 0,.int .i64 0] 120))):=aa ⟨fb w _ _,et w _ _,ab (ae _ _) (ae _ _)⟩;clear h;have e1:(t.kind == 2)=true:=by simp[hk]
 have FS:aT t=if tm t.n=true then some ⟨t.n,0⟩ else none:=by rw[aT,if_pos hk]
 have FIN:Ll ((aT t).isSome=tm t.n):=aa (by rw[FS];cases tm t.n <;> rfl);have FV:Ll (∀ z,aT t=some z->(⟨t.n,0⟩:dN)=z):=aa (fun z hz=>by rw[FS]at hz;cases hw:tm t.n <;> simp[hw]at hz;exact hz);clear hk FS;go_enter func77,ntmps77;go_upto_region 2 with fail
 obtain⟨W,hW,KW⟩:∃ W:LC,W=((w.alloc (.cells (KV t a1 c1 b1 d1) 32)).alloc (.cells #[.int .i64 0,.int .i64 0] 120))/\RS w w.heap.size t a1 b1 c1 d1 W:=⟨_,rfl,K0.o⟩
 rw[<-hW];clear hW;refine aD (fun wS=>RS w w.heap.size t a1 b1 c1 d1 wS) [6] (by kernel_rfl) (KW.bel (aC W 1)) (fun LI=>?_);refine WT.out ?_;have KT:=aa KW;clear KW;iterate 5
  first
   | refine OJ 0 ?_ [1,2,6,7] LI ?_ ?_
   | refine OJ 1 ?_ [2,6,7] LI ?_ ?_
   | refine OJ 2 ?_ [6,7] LI ?_ ?_
   | refine OJ 3 ?_ [4,5,6,7] LI ?_ ?_
   | refine OJ 4 ?_ [5,6,7] LI ?_ ?_
  rotate_left
  ·intro wS LN;have v0_:=LN.1.c;go_simp;all_goals with_reducible rfl
  simp only[av,List.set]
 refine OL [5] ?_;refine ON 5 (fun K hK=>?_) ?_
 ·go_simp;refine LE (iu _ _) ?_;refine hK.out _ _ LI (fun LJ=>?_);clear hK K;replace LI:=LJ;clear LJ;try simp only[Act.put,Mt,Mu,Mv]
  have o0_:=KT.o.2.1.c;clear LI;refine OO 6 (fun K hK=>?_);go_simp;refine hK.out _ _ ?_;clear hK K;try simp only[Act.put,Mt,Mu,Mv]
  refine OO 7 (fun K hK=>?_);go_simp;refine hK.out _ _ ?_;clear hK K;try simp only[Act.put,Mt,Mu,Mv]
  refine dn (by kernel_rfl) ?_;go_wp2_with fail
  obtain⟨z0,z1,-⟩:=(KT.o.2.1.set (⟨t.n,0⟩)).c;refine MM (v:=.tuple #[ju (⟨t.n,0⟩),.bool (tm t.n)]) ?_ rfl ⟨⟨t.n,0⟩,by rw[FIN.o],FV.o,ab (aQ (aQ KT.o.2.2 (by omega) _ _) (by omega) _ _) ((MK _ _).drew)⟩;simp only at z0 z1;simp[results,results77,go_sem,z0,z1,ju]
 exact nl
theorem qX(w:LC)(ok t v)(h:In w ok t v)(hk:t.kind≠2)(hm:aS t kt=none):Calls prog 77 #[v] w fun e w'=>∃ x:dN,e=.returned (.tuple #[ju x,.bool (aT t).isSome])/\(∀ z,aT t=some z->x=z)/\La w w':=by
 have H:=aa h;obtain⟨a1,b1,c1,d1,rfl⟩:=h.form;have K0:Ll (RS w w.heap.size t a1 b1 c1 d1 ((w.alloc (.cells (KV t a1 c1 b1 d1) 32)).alloc (.cells #[.int .i64 0,.int .i64 0] 120))):=aa ⟨fb w _ _,et w _ _,ab (ae _ _) (ae _ _)⟩;clear h;have e1:(t.kind == 2)=false:=by simp[hk]
 have HM:=aa hm;have FIN:Ll ((aT t).isSome=false):=aa (by rw[aT,if_neg hk,hm];rfl);have FV:Ll (∀ z,aT t≠some z):=aa (fun z hz=>by rw[aT,if_neg hk,hm]at hz;cases hz);clear hk hm;go_enter func77,ntmps77;go_upto_region 3 with fail
 go_wp2_with fail
 refine(co _ ok t _ kt (by exact H.o.bel K0.o.2.2)).mono ?_;rintro e w1 ⟨x,b,rfl,hb1,hb2,y,hy,hyz⟩;obtain⟨a5,b5,c5,d5,rfl⟩:=hy.form;have K1:Ll (RS w w1.heap.size y a5 b5 c5 d5 (w1.alloc (.cells (KV y a5 c5 b5 d5) 32))):=aa ⟨MN w1 _,(K0.o.2.1.bel hb1).bel (ae _ _),ab (ab K0.o.2.2 hb1) (ae _ _)⟩;rw[HM.o]at hb2 hyz;simp only[Option.isSome]at hb2;subst hb2;clear hb1 hy hyz;go_upto_region 4 with fail
 obtain⟨W,hW,KW⟩:∃ W:LC,W=(w1.alloc (.cells (KV y a5 c5 b5 d5) 32))/\RS w w1.heap.size y a5 b5 c5 d5 W:=⟨_,rfl,K1.o⟩
 rw[<-hW];clear hW;refine aD (fun wS=>RS w w1.heap.size y a5 b5 c5 d5 wS) [14] (by kernel_rfl) (KW.bel (aC W 1)) (fun LI=>?_);refine WT.out ?_;have KT:=aa KW;clear KW;iterate 5
  first
   | refine OJ 0 ?_ [1,2,14,15] LI ?_ ?_
   | refine OJ 1 ?_ [2,14,15] LI ?_ ?_
   | refine OJ 2 ?_ [14,15] LI ?_ ?_
   | refine OJ 3 ?_ [4,5,6,7,8,9,10,11,12,13,14,15] LI ?_ ?_
   | refine OJ 4 ?_ [5,6,7,8,9,10,11,12,13,14,15] LI ?_ ?_
  rotate_left
  ·intro wS LN;have v0_:=LN.1.c;go_simp;all_goals with_reducible rfl
  simp only[av,List.set]
 iterate 3
  first
   | refine Lm (i:=5) [6,7,8,9,10,11,12,13,14,15] rfl rfl (by decide +kernel) rfl (fun _ _ _ h=>h) LI ?_
   | refine Lm (i:=6) [7,8,9,10,11,12,13,14,15] rfl rfl (by decide +kernel) rfl (fun _ _ _ h=>h) LI ?_
   | refine Lm (i:=7) [8,9,10,11,12,13,14,15] rfl rfl (by decide +kernel) rfl (fun _ _ _ h=>h) LI ?_
  simp only[av,List.set]
 iterate 2
  first
   | refine OJ 8 ?_ [9,10,11,12,13,14,15] LI ?_ ?_
   | refine OJ 9 ?_ [10,11,12,13,14,15] LI ?_ ?_
  rotate_left
  ·intro wS LN;go_simp;all_goals with_reducible rfl
  simp only[av,List.set]
 iterate 2
  first
   | refine Lm (i:=10) [11,12,13,14,15] rfl rfl (by decide +kernel) rfl (fun _ _ _ h=>h) LI ?_
   | refine Lm (i:=11) [12,13,14,15] rfl rfl (by decide +kernel) rfl (fun _ _ _ h=>h) LI ?_
  simp only[av,List.set]
 refine OL [12] ?_;refine ON 12 (fun K hK=>?_) ?_
 ·go_simp;refine hK.out _ _ LI (fun LJ=>?_);clear hK K;replace LI:=LJ;clear LJ;try simp only[Act.put,Mt,Mu,Mv]
  refine Pm 13 ?_ LI ?_ ?_;rotate_left
  ·intro wS;go_simp;all_goals with_reducible rfl
  simp only[av,List.set];have o0_:=KT.o.2.1.c;clear LI;refine OO 14 (fun K hK=>?_);go_simp;refine hK.out _ _ ?_;clear hK K;try simp only[Act.put,Mt,Mu,Mv]
  refine OO 15 (fun K hK=>?_);go_simp;refine hK.out _ _ ?_;clear hK K;try simp only[Act.put,Mt,Mu,Mv]
  refine dn (by kernel_rfl) ?_;go_wp2_with fail
  obtain⟨z0,z1,-⟩:=(KT.o.2.1.set (⟨-1,y.n⟩)).c;refine MM (v:=.tuple #[ju (⟨-1,y.n⟩),.bool false]) ?_ rfl ⟨⟨-1,y.n⟩,by rw[FIN.o],fun z hz=>absurd hz (FV.o z),ab (aQ (aQ KT.o.2.2 (by omega) _ _) (by omega) _ _) ((MK _ _).drew)⟩;simp only at z0 z1;simp[results,results77,go_sem,z0,z1,ju]
 exact nl
theorem ql(w:LC)(ok t v)(h:In w ok t v)(hk:t.kind≠2)(m)(hm:aS t kt=some m)(hn:m.kind≠2):Calls prog 77 #[v] w fun e w'=>∃ x:dN,e=.returned (.tuple #[ju x,.bool (aT t).isSome])/\(∀ z,aT t=some z->x=z)/\La w w':=by
 have H:=aa h;obtain⟨a1,b1,c1,d1,rfl⟩:=h.form;have K0:Ll (RS w w.heap.size t a1 b1 c1 d1 ((w.alloc (.cells (KV t a1 c1 b1 d1) 32)).alloc (.cells #[.int .i64 0,.int .i64 0] 120))):=aa ⟨fb w _ _,et w _ _,ab (ae _ _) (ae _ _)⟩;clear h;have e1:(t.kind == 2)=false:=by simp[hk]
 have HM:=aa hm;have FS:aT t=if m.kind=2/\lp m.n=true then some ⟨-1,m.n⟩ else none:=by rw[aT,if_neg hk,hm]
 have e2:(m.kind == 2)=false:=by simp[hn]
 have FIN:Ll ((aT t).isSome=false):=aa (by rw[FS,if_neg (fun e=>hn e.1)];rfl);have FV:Ll (∀ z,aT t≠some z):=aa (fun z hz=>by rw[FS,if_neg (fun e=>hn e.1)]at hz;cases hz);clear hk hm FS hn;go_enter func77,ntmps77;go_upto_region 3 with fail
 go_wp2_with fail
 refine(co _ ok t _ kt (by exact H.o.bel K0.o.2.2)).mono ?_;rintro e w1 ⟨x,b,rfl,hb1,hb2,y,hy,hyz⟩;obtain⟨a5,b5,c5,d5,rfl⟩:=hy.form;have K1:Ll (RS w w1.heap.size y a5 b5 c5 d5 (w1.alloc (.cells (KV y a5 c5 b5 d5) 32))):=aa ⟨MN w1 _,(K0.o.2.1.bel hb1).bel (ae _ _),ab (ab K0.o.2.2 hb1) (ae _ _)⟩;rw[HM.o]at hb2 hyz;simp only[Option.isSome]at hb2;subst hb2;obtain rfl:y=m:=hyz m rfl;clear hb1 hy hyz;go_upto_region 4 with fail
 obtain⟨W,hW,KW⟩:∃ W:LC,W=(w1.alloc (.cells (KV y a5 c5 b5 d5) 32))/\RS w w1.heap.size y a5 b5 c5 d5 W:=⟨_,rfl,K1.o⟩
 rw[<-hW];clear hW;refine aD (fun wS=>RS w w1.heap.size y a5 b5 c5 d5 wS) [14] (by kernel_rfl) (KW.bel (aC W 1)) (fun LI=>?_);refine WT.out ?_;have KT:=aa KW;clear KW;iterate 10
  first
   | refine OJ 0 ?_ [1,2,14,15] LI ?_ ?_
   | refine OJ 1 ?_ [2,14,15] LI ?_ ?_
   | refine OJ 2 ?_ [14,15] LI ?_ ?_
   | refine OJ 3 ?_ [4,5,6,7,8,9,10,11,12,13,14,15] LI ?_ ?_
   | refine OJ 4 ?_ [5,6,7,8,9,10,11,12,13,14,15] LI ?_ ?_
   | refine OJ 5 ?_ [6,7,8,9,10,11,12,13,14,15] LI ?_ ?_
   | refine OJ 6 ?_ [7,8,9,10,11,12,13,14,15] LI ?_ ?_
   | refine OJ 7 ?_ [8,9,10,11,12,13,14,15] LI ?_ ?_
   | refine OJ 8 ?_ [9,10,11,12,13,14,15] LI ?_ ?_
   | refine OJ 9 ?_ [10,11,12,13,14,15] LI ?_ ?_
  rotate_left
  ·intro wS LN;have v0_:=LN.1.c;go_simp;all_goals with_reducible rfl
  simp only[av,List.set]
 iterate 2
  first
   | refine Lm (i:=10) [11,12,13,14,15] rfl rfl (by decide +kernel) rfl (fun _ _ _ h=>h) LI ?_
   | refine Lm (i:=11) [12,13,14,15] rfl rfl (by decide +kernel) rfl (fun _ _ _ h=>h) LI ?_
  simp only[av,List.set]
 refine OL [12] ?_;refine ON 12 (fun K hK=>?_) ?_
 ·go_simp;refine hK.out _ _ LI (fun LJ=>?_);clear hK K;replace LI:=LJ;clear LJ;try simp only[Act.put,Mt,Mu,Mv]
  refine Pm 13 ?_ LI ?_ ?_;rotate_left
  ·intro wS;go_simp;all_goals with_reducible rfl
  simp only[av,List.set];have o0_:=KT.o.2.1.c;clear LI;refine OO 14 (fun K hK=>?_);go_simp;refine hK.out _ _ ?_;clear hK K;try simp only[Act.put,Mt,Mu,Mv]
  refine OO 15 (fun K hK=>?_);go_simp;refine hK.out _ _ ?_;clear hK K;try simp only[Act.put,Mt,Mu,Mv]
  refine dn (by kernel_rfl) ?_;go_wp2_with fail
  obtain⟨z0,z1,-⟩:=(KT.o.2.1.set (⟨-1,y.n⟩)).c;refine MM (v:=.tuple #[ju (⟨-1,y.n⟩),.bool false]) ?_ rfl ⟨⟨-1,y.n⟩,by rw[FIN.o],fun z hz=>absurd hz (FV.o z),ab (aQ (aQ KT.o.2.2 (by omega) _ _) (by omega) _ _) ((MK _ _).drew)⟩;simp only at z0 z1;simp[results,results77,go_sem,z0,z1,ju]
 exact nl
theorem pT(w:LC)(ok t v)(h:In w ok t v)(hk:t.kind≠2)(m)(hm:aS t kt=some m)(hn:m.kind=2):Calls prog 77 #[v] w fun e w'=>∃ x:dN,e=.returned (.tuple #[ju x,.bool (aT t).isSome])/\(∀ z,aT t=some z->x=z)/\La w w':=by
 have H:=aa h;obtain⟨a1,b1,c1,d1,rfl⟩:=h.form;have K0:Ll (RS w w.heap.size t a1 b1 c1 d1 ((w.alloc (.cells (KV t a1 c1 b1 d1) 32)).alloc (.cells #[.int .i64 0,.int .i64 0] 120))):=aa ⟨fb w _ _,et w _ _,ab (ae _ _) (ae _ _)⟩;clear h;have e1:(t.kind == 2)=false:=by simp[hk]
 have HM:=aa hm;have FS:aT t=if m.kind=2/\lp m.n=true then some ⟨-1,m.n⟩ else none:=by rw[aT,if_neg hk,hm]
 have e2:(m.kind == 2)=true:=by simp[hn]
 have FIN:Ll ((aT t).isSome=lp m.n):=aa (by rw[FS];cases hT:lp m.n <;> simp[hn]);have FV:Ll (∀ z,aT t=some z->(⟨-1,m.n⟩:dN)=z):=aa (fun z hz=>by rw[FS]at hz;cases hT:lp m.n <;> simp[hn,hT]at hz;exact hz);clear hk hm FS hn;go_enter func77,ntmps77;go_upto_region 3 with fail
 go_wp2_with fail
 refine(co _ ok t _ kt (by exact H.o.bel K0.o.2.2)).mono ?_;rintro e w1 ⟨x,b,rfl,hb1,hb2,y,hy,hyz⟩;obtain⟨a5,b5,c5,d5,rfl⟩:=hy.form;have K1:Ll (RS w w1.heap.size y a5 b5 c5 d5 (w1.alloc (.cells (KV y a5 c5 b5 d5) 32))):=aa ⟨MN w1 _,(K0.o.2.1.bel hb1).bel (ae _ _),ab (ab K0.o.2.2 hb1) (ae _ _)⟩;rw[HM.o]at hb2 hyz;simp only[Option.isSome]at hb2;subst hb2;obtain rfl:y=m:=hyz m rfl;clear hb1 hy hyz;go_upto_region 4 with fail
 obtain⟨W,hW,KW⟩:∃ W:LC,W=(w1.alloc (.cells (KV y a5 c5 b5 d5) 32))/\RS w w1.heap.size y a5 b5 c5 d5 W:=⟨_,rfl,K1.o⟩
 rw[<-hW];clear hW;refine aD (fun wS=>RS w w1.heap.size y a5 b5 c5 d5 wS) [14] (by kernel_rfl) (KW.bel (aC W 1)) (fun LI=>?_);refine WT.out ?_;have KT:=aa KW;clear KW;iterate 12
  first
   | refine OJ 0 ?_ [1,2,14,15] LI ?_ ?_
   | refine OJ 1 ?_ [2,14,15] LI ?_ ?_
   | refine OJ 2 ?_ [14,15] LI ?_ ?_
   | refine OJ 3 ?_ [4,5,6,7,8,9,10,11,12,13,14,15] LI ?_ ?_
   | refine OJ 4 ?_ [5,6,7,8,9,10,11,12,13,14,15] LI ?_ ?_
   | refine OJ 5 ?_ [6,7,8,9,10,11,12,13,14,15] LI ?_ ?_
   | refine OJ 6 ?_ [7,8,9,10,11,12,13,14,15] LI ?_ ?_
   | refine OJ 7 ?_ [8,9,10,11,12,13,14,15] LI ?_ ?_
   | refine OJ 8 ?_ [9,10,11,12,13,14,15] LI ?_ ?_
   | refine OJ 9 ?_ [10,11,12,13,14,15] LI ?_ ?_
   | refine OJ 10 ?_ [11,12,13,14,15] LI ?_ ?_
   | refine OJ 11 ?_ [12,13,14,15] LI ?_ ?_
  rotate_left
  ·intro wS LN;have v0_:=LN.1.c;go_simp;all_goals with_reducible rfl
  simp only[av,List.set]
 refine OL [12] ?_;refine ON 12 (fun K hK=>?_) ?_
 ·go_simp;refine LE (cN _ _) ?_;refine hK.out _ _ LI (fun LJ=>?_);clear hK K;replace LI:=LJ;clear LJ;try simp only[Act.put,Mt,Mu,Mv]
  refine Pm 13 ?_ LI ?_ ?_;rotate_left
  ·intro wS;go_simp;all_goals with_reducible rfl
  simp only[av,List.set];have o0_:=KT.o.2.1.c;clear LI;refine OO 14 (fun K hK=>?_);go_simp;refine hK.out _ _ ?_;clear hK K;try simp only[Act.put,Mt,Mu,Mv]
  refine OO 15 (fun K hK=>?_);go_simp;refine hK.out _ _ ?_;clear hK K;try simp only[Act.put,Mt,Mu,Mv]
  refine dn (by kernel_rfl) ?_;go_wp2_with fail
  obtain⟨z0,z1,-⟩:=(KT.o.2.1.set (⟨-1,y.n⟩)).c;refine MM (v:=.tuple #[ju (⟨-1,y.n⟩),.bool (lp y.n)]) ?_ rfl ⟨⟨-1,y.n⟩,by rw[FIN.o],FV.o,ab (aQ (aQ KT.o.2.2 (by omega) _ _) (by omega) _ _) ((MK _ _).drew)⟩;simp only at z0 z1;simp[results,results77,go_sem,z0,z1,ju]
 exact nl
theorem nN(w:LC)(ok t v)(h:In w ok t v):Calls prog 77 #[v] w fun e w'=>∃ x:dN,e=.returned (.tuple #[ju x,.bool (aT t).isSome])/\(∀ z,aT t=some z->x=z)/\La w w':=by
 by_cases hk:t.kind=2
 ·exact tn w ok t v h hk
 ·cases hm:aS t kt with
  | none=>exact qX w ok t v h hk hm
  | some m=>
   by_cases hn:m.kind=2
   ·exact pT w ok t v h hk m hm hn
   ·exact ql w ok t v h hk m hm hn
end
variable {wr:World}
variable {n k:Nat}
def kW:List V->Option (List dN)
 | []=>some []
 | x :: l=>match aT x,kW l with
  | some a,some b=>some (a :: b)
  | _,_=>none
theorem Ho:∃ j,prog.info? 120=some j/\j.zero=some (.agg #[.int .i64 0,.int .i64 0])/\j.size=2/\j.bytes=16:=by
 have h:(prog.info? 120).map (fun i=>(i.zero,i.size,i.bytes))=some (some (.agg #[.int .i64 0,.int .i64 0]),2,16):=by kernel_rfl
 cases e:prog.info? 120 with
 | none=>rw[e]at h;cases h
 | some j=>rw[e]at h;simp at h;exact⟨j,rfl,h.1,h.2.1,h.2.2⟩
def bZ (t:V):Option (List dN):=if t.kind≠4\/8 < t.l.length then none else kW t.l
theorem BH{l:List V}(h:k < l.length){xs:List dN}(hx:kW (l.take k)=some xs){x:dN}(hr:aT l[k]=some x):kW (l.take (k+1))=some (xs++[x]):=by
 induction l generalizing k xs with
 | nil=>simp at h
 | cons y l ih=>
  cases k with
  | zero=>
   simp at hr hx ⊢;simp[kW]at hx;subst hx;simp[kW,hr]
  | succ k=>
   simp only[List.take_succ_cons,kW]at hx ⊢;simp only[List.getElem_cons_succ]at hr;cases hy:aT y with
   | none=>rw[hy]at hx;simp at hx
   | some a=>
    rw[hy]at hx;cases hq:kW (l.take k) with
    | none=>rw[hq]at hx;simp at hx
    | some b=>
     rw[hq]at hx;simp at hx;subst hx;rw[ih (by simpa using h) hq hr];simp
theorem Bu{l}(h:k < l.length)(hr:aT l[k]=none):kW l=none:=by
 induction l generalizing k with
 | nil=>simp at h
 | cons y l ih=>
  cases k with
  | zero=>simp at hr;simp[kW,hr]
  | succ k=>
   have:=ih (k:=k) (by simpa using h) (by simpa using hr);simp only[kW,this];cases aT y <;> rfl
def pt (w:LC) (R n:Nat) (xs:List dN):Prop:=∃ cs:Array Value,w.heap[R]?=some (.cells cs 120)/\cs.size=n * 2/\∀ i x,xs[i]?=some x->cs[i * 2]?=some (.int .i64 x.w)/\cs[i * 2+1]?=some (.int .i64 x.p)
theorem pt.bel{R xs}(h:pt w R n xs)(hb:La w w'):pt w' R n xs:=by
 obtain⟨cs,h1,h2,h3⟩:=h;exact⟨cs,(hb.block R (MF.1 h1).1).trans h1,h2,h3⟩
theorem pt.at{R xs}(h:pt w R n xs)(hk:k < n):∃ u0 u1,w.cell? ⟨R,k * 2,none⟩=some u0/\w.cell? ⟨R,k * 2+1,none⟩=some u1/\w.frozen? ⟨R,k * 2,none⟩=false/\w.frozen? ⟨R,k * 2+1,none⟩=false:=by
 obtain⟨cs,h1,h2,h3⟩:=h;refine⟨cs[k * 2]'(by omega),cs[k * 2+1]'(by omega),?_,?_,?_,?_⟩
 ·simp[World.cell?,h1,Array.getElem?_eq_getElem (show k * 2 < cs.size by omega)]
 ·simp[World.cell?,h1,Array.getElem?_eq_getElem (show k * 2+1 < cs.size by omega)]
 ·simp[World.frozen?,h1]
 ·simp[World.frozen?,h1]
theorem pt.push{R xs}(h:pt w R n xs)(hk:xs.length < n)(x):pt ((w.setCell ⟨R,xs.length * 2,none⟩ (.int .i64 x.w)).setCell ⟨R,xs.length * 2+1,none⟩ (.int .i64 x.p)) R n (xs++[x]):=by
 obtain⟨cs,h1,h2,h3⟩:=h;refine⟨_,ak (ak h1 _ _) _ _,by simpa using h2,fun i y hy=>?_⟩;by_cases hi:i < xs.length
 ·rw[List.getElem?_append_left hi]at hy;obtain⟨q1,q2⟩:=h3 i y hy;rw[Array.getElem?_setIfInBounds_ne (by omega),Array.getElem?_setIfInBounds_ne (by omega),Array.getElem?_setIfInBounds_ne (by omega),Array.getElem?_setIfInBounds_ne (by omega)];exact⟨q1,q2⟩
 ·have hi2:i=xs.length:=by
   have:=(Mz.1 hy).1;simp at this;omega
  subst hi2;simp at hy;subst hy;refine⟨?_,?_⟩
  ·rw[Array.getElem?_setIfInBounds_ne (by omega)];simp[Array.getElem?_setIfInBounds,h2];omega
  ·simp[Array.getElem?_setIfInBounds,h2];omega
theorem pt.done{R xs}(h:pt w R n xs)(hn:xs.length=n)(h8:n<=8):bk w xs (.slice (some ⟨R,0,none⟩) n n):=by
 obtain⟨cs,h1,h2,h3⟩:=h;refine⟨by omega,.inr ⟨R,0,n,by rw[hn],by omega,by omega,fun i x hx=>?_⟩⟩;obtain⟨q1,q2⟩:=h3 i x hx;exact⟨by simp[World.cell?,h1,q1],by simp[World.cell?,h1,q2]⟩
def fg (w w':LC) (l:List dN) (v:Value):Prop:=bk w' l v/\∀ k,v.ownBlock=some k->w.heap.size<=k
def J1 (w wr:LC) (t:V) (a1 b1:Option Addr) (c1 d1:Nat) (xs:List dN):Prop:=KY wr w.heap.size t a1 c1 b1 d1/\pt wr (w.heap.size+1) t.l.length xs/\La w wr
theorem J1.bel{a1 b1 c1 d1 xs}(h:J1 w wr t a1 b1 c1 d1 xs)(hb:La wr w'):J1 w w' t a1 b1 c1 d1 xs:=⟨af hb h.1,h.2.1.bel hb,ab h.2.2 hb⟩
theorem oR(w:LC)(ok t v)(h:In w ok t v)(hk:t.kind=4)(h8:t.l.length<=8):Calls prog 56 #[v] w fun e w'=>∃ sl,e=.returned (.tuple #[sl,.bool (kW t.l).isSome])/\(∀ l,kW t.l=some l->fg w w' l sl)/\La w w':=by
 have H:=aa h;obtain⟨a1,b1,c1,d1,rfl⟩:=h.form;have e1:(t.kind == 4)=true:=by simp[hk]
 have e1n:(t.kind != 4)=false:=by simp[hk]
 have e2:¬8 < (t.l.length:Int):=by omega
 have e3:¬(t.l.length:Int) < 0:=by omega
 obtain⟨i0,hi,hz0,hz1,hz2⟩:=Ho;have hmk:(Instr.makeSlice 83 (.int .i64 (t.l.length:Int)) (.int .i64 (t.l.length:Int))).run prog (w.alloc (.cells (KV t a1 c1 b1 d1) 32))=.ok (.slice (some ⟨w.heap.size+1,0,none⟩) t.l.length t.l.length) ((w.alloc (.cells (KV t a1 c1 b1 d1) 32)).alloc (.cells (madeCells #[.int .i64 0,.int .i64 0] (t.l.length * 2)) 120)):=by
  have k:=run_make (P:=prog) (w.alloc (.cells (KV t a1 c1 b1 d1) 32)) 83 120 i0 _ underlying83 hi hz0 .i64 .i64 (t.l.length:Int) (t.l.length:Int) (by omega) (Int.le_refl _) (by rw[hz2];omega) (by omega);rw[hz1]at k;simpa [Value.cells] using k
 have K0:Ll (J1 w ((w.alloc (.cells (KV t a1 c1 b1 d1) 32)).alloc (.cells (madeCells #[.int .i64 0,.int .i64 0] (t.l.length * 2)) 120)) t a1 b1 c1 d1 []):=aa ⟨fb w _ _,⟨_,et w _ _,by simp[madeCells],fun i x hx=>by simp at hx⟩,ab (ae _ _) (ae _ _)⟩;have H8:=aa h8;clear h hk hi hz0 hz1 hz2;go_enter func56,ntmps56;go_wp2
 clear hmk;go_loopg [5,6,7,8,25] t.l.length (fun gk _ _ _ _ i wr=>∃ (k:Nat) (xs:List dN),k<=t.l.length/\Ll (gk=t.l.length - k)/\i=.int .i64 k/\Ll (kW (t.l.take k)=some xs/\xs.length=k)/\Ll (J1 w wr t a1 b1 c1 d1 xs))
 case atStart=>exact⟨0,[],Nat.zero_le _,aa rfl,rfl,aa ⟨rfl,rfl⟩,K0⟩
 case round=>
  obtain⟨k,xs,hk,GK,rfl,AX,K1⟩:=hrel;by_cases hlt:k < t.l.length
  ·obtain⟨b,off,a5,c5,a6,c6,rfl,j1,j2,g0,g1,g2,g3,g4,g5⟩:=(H.o.bel K1.o.2.2).item hlt;have w1:(k:Int) < (t.l.length:Int):=by omega
   have w2:(0:Int)<=(k:Int):=by omega
   have HI:=aa (g5.bel (ae wr (.cells #[.int .i64 t.l[k].kind,.int .i64 t.l[k].n,.string ⟨t.l[k].s.toArray⟩,.slice a5 t.l[k].keys.length c5,.slice a6 t.l[k].l.length c6] 32)));have K2:=aa (K1.o.bel (ae wr (.cells #[.int .i64 t.l[k].kind,.int .i64 t.l[k].n,.string ⟨t.l[k].s.toArray⟩,.slice a5 t.l[k].keys.length c5,.slice a6 t.l[k].l.length c6] 32)));have ST:=aa (fun x hx=>BH hlt AX.o.1 (x:=x) hx);have SN:=aa (fun hx=>Bu (l:=t.l) hlt hx);clear g5;cases hr:aT t.l[k] with
   | none=>
    go_wp2_with (go_at_call 77;refine(nN _ ok t.l[k] _ (by exact HI.o)).mono ?_;rintro e w5 ⟨st,rfl,hst,hb⟩;rw[hr];unfold ju;have K3:=aa (K2.o.bel (ab hb (ae w5 (.cells #[.int .i64 st.w,.int .i64 st.p] 120))));clear hb hst)
    refine MM (v:=.tuple #[.slice none 0 0,.bool false]) (by simp[results,results56,go_sem]) rfl ?_;exact⟨.slice none 0 0,by rw[SN.o hr];rfl,fun l hl=>(by rw[SN.o hr]at hl;cases hl),K3.o.2.2⟩
   | some z=>
    go_wp2_with (go_at_call 77;refine(nN _ ok t.l[k] _ (by exact HI.o)).mono ?_;rintro e w5 ⟨st,rfl,hst,hb⟩;rw[hr];unfold ju;have EZ:=aa (hst z hr);have K3:=aa (K2.o.bel (ab hb (ae w5 (.cells #[.int .i64 st.w,.int .i64 st.p] 120))));obtain⟨u0,u1,r0,r1,r2,r3⟩:=K3.o.2.1.at hlt;clear hb hst)
    go_roundg (t.l.length - (k+1))
    case measure=>rw[GK.o];omega
    case rel=>exact⟨k+1,xs++[z],hlt,aa rfl,by go_num,aa ⟨ST.o z hr,by simp[AX.o.2]⟩,aa ⟨K3.o.1.grown (ap (ap (az _ _) _ _) _ _) (by simp),(by
     have q:=K3.o.2.1.push (by have:=AX.o.2;omega) st;rw[AX.o.2]at q;rw[<-EZ.o];exact q),aQ (aQ K3.o.2.2 (by omega) _ _) (by omega) _ _⟩⟩
  ·have d1':¬(k:Int) < (t.l.length:Int):=by omega
   have Mc:k=t.l.length:=by omega
   have FIN:Ll (kW t.l=some xs/\xs.length=t.l.length):=aa (by have:=AX.o;rwa [Mc,MD (MG _)]at this);clear Mc;go_wp2
   refine MM (v:=.tuple #[.slice (some ⟨w.heap.size+1,0,none⟩) t.l.length t.l.length,.bool true]) (by simp[results,results56,go_sem]) rfl ?_;exact⟨.slice (some ⟨w.heap.size+1,0,none⟩) t.l.length t.l.length,by rw[FIN.o.1];rfl,fun l hl=>(by rw[FIN.o.1]at hl;cases hl;exact⟨K1.o.2.1.done FIN.o.2 H8.o,fun k hk=>by simp[Value.ownBlock]at hk;omega⟩),K1.o.2.2⟩
variable {v:Value}
variable {c:Nat}
theorem pW(w:LC)(ok t v)(h:In w ok t v)(hk:t.kind≠4):Calls prog 56 #[v] w fun e w'=>∃ sl,e=.returned (.tuple #[sl,.bool (bZ t).isSome])/\(∀ l,bZ t=some l->fg w w' l sl)/\La w w':=by
 obtain⟨a1,b1,c1,d1,rfl⟩:=h.form;have e1:(t.kind == 4)=false:=by simp[hk]
 have e1n:(t.kind != 4)=true:=by simp[hk]
 have FIN:Ll (bZ t=none):=aa (by rw[bZ,if_pos (.inl hk)]);clear h hk;go_enter func56,ntmps56;go_wp2
 refine MM (v:=.tuple #[.slice none 0 0,.bool false]) (by simp[results,results56,go_sem]) rfl ?_;exact⟨.slice none 0 0,by rw[FIN.o];rfl,fun l hl=>(by rw[FIN.o]at hl;cases hl),ae _ _⟩
theorem oV(w:LC)(ok t v)(h:In w ok t v)(hk:t.kind=4)(h8:8 < t.l.length):Calls prog 56 #[v] w fun e w'=>∃ sl,e=.returned (.tuple #[sl,.bool (bZ t).isSome])/\(∀ l,bZ t=some l->fg w w' l sl)/\La w w':=by
 obtain⟨a1,b1,c1,d1,rfl⟩:=h.form;have e1:(t.kind == 4)=true:=by simp[hk]
 have e1n:(t.kind != 4)=false:=by simp[hk]
 have e2:8 < (t.l.length:Int):=by omega
 have FIN:Ll (bZ t=none):=aa (by rw[bZ,if_pos (.inr h8)]);clear h hk h8;go_enter func56,ntmps56;go_wp2
 refine MM (v:=.tuple #[.slice none 0 0,.bool false]) (by simp[results,results56,go_sem]) rfl ?_;exact⟨.slice none 0 0,by rw[FIN.o];rfl,fun l hl=>(by rw[FIN.o]at hl;cases hl),ae _ _⟩
theorem lM(w:LC)(ok t v)(h:In w ok t v):Calls prog 56 #[v] w fun e w'=>∃ sl,e=.returned (.tuple #[sl,.bool (bZ t).isSome])/\(∀ l,bZ t=some l->fg w w' l sl)/\La w w':=by
 by_cases hk:t.kind=4
 ·by_cases h8:t.l.length<=8
  ·rw[show bZ t=kW t.l by rw[bZ,if_neg (by omega)]];exact oR w ok t v h hk h8
  ·exact oV w ok t v h hk (by omega)
 ·exact pW w ok t v h hk
def fI:Lz:=[105,109,97,103,101]
def jX:Lz:=[115,116,101,112,115]
def eY (t:V):Option (Lz × List dN):=
 if aE t=false then none
 else match aS t fI with
  | none=>none
  | some m=>if m.kind≠3\/m.s=[] then none
   else match aS t jX with
    | none=>some (m.s,[])
    | some q=>match bZ q with
     | none=>none
     | some l=>some (m.s,l)
def bE (t:V):Lz × List dN:=(eY t).getD ([],[])
def cI (t:V):Int:=if (eY t).isSome then 0 else 1
def Gw (w:LC) (t:V) (a1 b1:Option Addr) (c1 d1:Nat) (wS:LC):Prop:=KY wS w.heap.size t a1 c1 b1 d1/\fM wS (w.heap.size+1) [] (.slice none 0 0)/\La w wS
theorem Gw.bel{wS:LC}{a1 b1 c1 d1}(h:Gw w t a1 b1 c1 d1 wS)(hb:La wS w'):Gw w t a1 b1 c1 d1 w':=⟨af hb h.1,h.2.1.bel hb,ab h.2.2 hb⟩
theorem fM.cf{i}(h:fM w g i v):w.frozen? ⟨g,0,none⟩=false/\w.frozen? ⟨g,1,none⟩=false:=by
 unfold fM at h;refine⟨?_,?_⟩ <;> simp[World.frozen?,h]
theorem fM.set{i}(h:fM w g i v)(j u):fM ((w.setCell ⟨g,0,none⟩ (.string ⟨j.toArray⟩)).setCell ⟨g,1,none⟩ u) g j u:=ak (ak h 0 _) 1 _
theorem Gd{i a l sl x y}(h:bk w l sl)(p:fM w g i (.slice a n c)):bk ((w.setCell ⟨g,0,none⟩ x).setCell ⟨g,1,none⟩ y) l sl:=by
 refine⟨h.1,?_⟩;rcases h.2 with h | ⟨b,off,c,e,h1,h2,h3⟩
 ·exact .inl h
 ·have far:∀ (o:Nat) (m:Int),w.cell? ⟨b,o,none⟩=some (.int .i64 m)->((w.setCell ⟨g,0,none⟩ x).setCell ⟨g,1,none⟩ y).cell? ⟨b,o,none⟩=some (.int .i64 m):=by
   intro o m hc;have hne:b≠g:=by
    intro e;subst e;unfold fM at p;simp only[World.cell?,p]at hc;match o with
    | 0=>simp at hc
    | 1=>simp at hc
    | k+2=>simp at hc
   rw[World.cell?_of_block ((Below.heap_setCell _ ⟨g,1,none⟩ y b hne).trans (Below.heap_setCell w ⟨g,0,none⟩ x b hne))];exact hc
  exact .inr ⟨b,off,c,e,h1,h2,fun i z hz=>⟨far _ _ (h3 i z hz).1,far _ _ (h3 i z hz).2⟩⟩
theorem gU(w):bk w [] (.slice none 0 0):=⟨by simp,.inl ⟨rfl,none,rfl⟩⟩
theorem Ly(w ok t v)(h:In w ok t v)(hF:eY t=none)(hc:aE t=false\/(aE t=true/\aS t fI=none)\/(∃ mm,aE t=true/\aS t fI=some mm/\(mm.kind == 3)=false/\(mm.kind != 3)=true)\/(∃ mm,aE t=true/\aS t fI=some mm/\(mm.kind == 3)=true/\(mm.kind != 3)=false/\mm.s.isEmpty=true)):Calls prog 41 #[v] w fun e w'=>∃ sl,e=.returned (.tuple #[.agg #[.string ⟨(bE t).1.toArray⟩,sl],.int .i64 (cI t)])/\fg w w' (bE t).2 sl/\La w w':=by
 have H:=aa h;obtain⟨a1,b1,c1,d1,rfl⟩:=h.form;have K0:Ll (Gw w t a1 b1 c1 d1 ((w.alloc (.cells (KV t a1 c1 b1 d1) 32)).alloc (.cells #[.string ⟨#[]⟩,.slice none 0 0] 85))):=aa ⟨fb w _ _,et w _ _,ab (ae _ _) (ae _ _)⟩;clear h;have FG:Ll (bE t=([],[])):=aa (by simp[bE,hF]);have FE:Ll (cI t=1):=aa (by simp[cI,hF]);clear hF;rcases hc with hg | ⟨hg,hm⟩ | ⟨mm,hg,hm,e1,e1n⟩ | ⟨mm,hg,hm,e1,e1n,e2⟩
 all_goals
  try have HM:=aa hm
  try clear hm
  go_enter func41,ntmps41;go_wp2_with (first | (go_at_call 19;refine Lk (bG _ ok t _ (by exact H.o.bel K0.o.2.2)) fun w1 hb=>?_;rw[hg];have K1:=aa (K0.o.bel hb);have KQ:=K1;have t0_:=K1.o.1.c;have p0_:=K1.o.2.1.c;obtain⟨f0,f1⟩:=K1.o.2.1.cf;clear hb) | (go_at_call 55;refine(co _ ok t _ fI (by exact H.o.bel K1.o.2.2)).mono ?_;rintro e w2 ⟨xm,bm,rfl,hb,hb2,m,hy,hyz⟩;obtain⟨a5,b5,c5,d5,rfl⟩:=hy.form;rw[HM.o]at hb2 hyz;simp only[Option.isSome]at hb2;subst hb2;(first | obtain rfl:=hyz _ rfl | skip);have Im:=aa (hy.bel (ae w2 (.cells (KV m a5 c5 b5 d5) 32)));have Bm:=aa (show KY (w2.alloc (.cells (KV m a5 c5 b5 d5) 32)) w2.heap.size m a5 c5 b5 d5 from MN w2 _);have K2:=aa (K1.o.bel (ab hb (ae w2 (.cells (KV m a5 c5 b5 d5) 32))));have KQ:=K2;clear f0 f1;have t0_:=K2.o.1.c;have p0_:=K2.o.2.1.c;obtain⟨f0,f1⟩:=K2.o.2.1.cf;have m0_:=Bm.o.c;clear hb hy hyz))
  have z0_:=(KQ.o.2.1.set [] (.slice none 0 0)).c;refine MM (v:=.tuple #[.agg #[.string ⟨#[]⟩,.slice none 0 0],.int .i64 1]) ?_ rfl ⟨.slice none 0 0,by rw[FG.o,FE.o],by rw[FG.o];exact⟨gU _,fun k hk=>by simp[Value.ownBlock]at hk⟩,aQ (aQ KQ.o.2.2 (by omega) _ _) (by omega) _ _⟩;simp[results,results41,go_sem,z0_]
theorem zE(w:LC)(ok t v)(h:In w ok t v)(hg:aE t=true)(mm)(hm:aS t fI=some mm)(hk:mm.kind=3)(hs:mm.s≠[])(hq:aS t jX=none):Calls prog 41 #[v] w fun e w'=>∃ sl,e=.returned (.tuple #[.agg #[.string ⟨(bE t).1.toArray⟩,sl],.int .i64 (cI t)])/\fg w w' (bE t).2 sl/\La w w':=by
 have H:=aa h;obtain⟨a1,b1,c1,d1,rfl⟩:=h.form;have K0:Ll (Gw w t a1 b1 c1 d1 ((w.alloc (.cells (KV t a1 c1 b1 d1) 32)).alloc (.cells #[.string ⟨#[]⟩,.slice none 0 0] 85))):=aa ⟨fb w _ _,et w _ _,ab (ae _ _) (ae _ _)⟩;clear h;have hF:eY t=some (mm.s,[]):=by simp[eY,hg,hm,hk,hs,hq]
 have FG:Ll (bE t=(mm.s,[])):=aa (by simp[bE,hF]);have FE:Ll (cI t=0):=aa (by simp[cI,hF]);have HM:=aa hm;have HQ:=aa hq;have e1:(mm.kind == 3)=true:=by simp[hk]
 have e1n:(mm.kind != 3)=false:=by simp[hk]
 have e2:mm.s.isEmpty=false:=by simp[hs]
 clear hF hm hk hs hq;go_enter func41,ntmps41;go_upto_region 6 with (first | (go_at_call 19;refine Lk (bG _ ok t _ (by exact H.o.bel K0.o.2.2)) fun w1 hb=>?_;rw[hg];have K1:=aa (K0.o.bel hb);have t0_:=K1.o.1.c;have p0_:=K1.o.2.1.c;obtain⟨f0,f1⟩:=K1.o.2.1.cf;clear hb) | (go_at_call 55;refine(co _ ok t _ fI (by exact H.o.bel K1.o.2.2)).mono ?_;rintro e w2 ⟨xm,bm,rfl,hb,hb2,m,hy,hyz⟩;obtain⟨a5,b5,c5,d5,rfl⟩:=hy.form;rw[HM.o]at hb2 hyz;simp only[Option.isSome]at hb2;subst hb2;obtain rfl:=hyz _ rfl;have Im:=aa (hy.bel (ae w2 (.cells (KV m a5 c5 b5 d5) 32)));have Bm:=aa (show KY (w2.alloc (.cells (KV m a5 c5 b5 d5) 32)) w2.heap.size m a5 c5 b5 d5 from MN w2 _);have K2:=aa (K1.o.bel (ab hb (ae w2 (.cells (KV m a5 c5 b5 d5) 32))));clear f0 f1;have t0_:=K2.o.1.c;have p0_:=K2.o.2.1.c;obtain⟨f0,f1⟩:=K2.o.2.1.cf;have m0_:=Bm.o.c;clear hb hy hyz))
 go_wp2_with (first | (go_at_call 55;refine(co _ ok t _ jX (by exact H.o.bel K2.o.2.2)).mono ?_;rintro e w3 ⟨xq,bq,rfl,hb,hb2,q,hy,hyz⟩;obtain⟨a6,b6,c6,d6,rfl⟩:=hy.form;rw[HQ.o]at hb2 hyz;simp only[Option.isSome]at hb2;subst hb2;have Bq:=aa (show KY (w3.alloc (.cells (KV q a6 c6 b6 d6) 32)) w3.heap.size q a6 c6 b6 d6 from MN w3 _);have K3:=aa (K2.o.bel (ab hb (ae w3 (.cells (KV q a6 c6 b6 d6) 32))));have Bm3:=aa (af (ab hb (ae w3 (.cells (KV q a6 c6 b6 d6) 32))) Bm.o);have m0_:=Bm3.o.c;clear f0 f1;have t0_:=K3.o.1.c;have p0_:=K3.o.2.1.c;obtain⟨f0,f1⟩:=K3.o.2.1.cf;have q0_:=Bq.o.c;clear hb hy hyz))
 have z0_:=(K3.o.2.1.set (m.s) (.slice none 0 0)).c;refine MM (v:=.tuple #[.agg #[.string ⟨(m.s).toArray⟩,.slice none 0 0],.int .i64 0]) ?_ rfl ⟨.slice none 0 0,by rw[FG.o,FE.o],by rw[FG.o];exact⟨gU _,fun k hk=>by simp[Value.ownBlock]at hk⟩,aQ (aQ K3.o.2.2 (by omega) _ _) (by omega) _ _⟩;simp[results,results41,go_sem,z0_]
theorem xL(w:LC)(ok t v)(h:In w ok t v)(hg:aE t=true)(mm)(hm:aS t fI=some mm)(hk:mm.kind=3)(hs:mm.s≠[])(qq)(hq:aS t jX=some qq)(hl:bZ qq=none):Calls prog 41 #[v] w fun e w'=>∃ sl,e=.returned (.tuple #[.agg #[.string ⟨(bE t).1.toArray⟩,sl],.int .i64 (cI t)])/\fg w w' (bE t).2 sl/\La w w':=by
 have H:=aa h;obtain⟨a1,b1,c1,d1,rfl⟩:=h.form;have K0:Ll (Gw w t a1 b1 c1 d1 ((w.alloc (.cells (KV t a1 c1 b1 d1) 32)).alloc (.cells #[.string ⟨#[]⟩,.slice none 0 0] 85))):=aa ⟨fb w _ _,et w _ _,ab (ae _ _) (ae _ _)⟩;clear h;have hF:eY t=none:=by simp[eY,hg,hm,hk,hs,hq,hl]
 have FG:Ll (bE t=([],[])):=aa (by simp[bE,hF]);have FE:Ll (cI t=1):=aa (by simp[cI,hF]);have HM:=aa hm;have HQ:=aa hq;have e1:(mm.kind == 3)=true:=by simp[hk]
 have e1n:(mm.kind != 3)=false:=by simp[hk]
 have e2:mm.s.isEmpty=false:=by simp[hs]
 clear hF hm hk hs hq;go_enter func41,ntmps41;go_upto_region 6 with (first | (go_at_call 19;refine Lk (bG _ ok t _ (by exact H.o.bel K0.o.2.2)) fun w1 hb=>?_;rw[hg];have K1:=aa (K0.o.bel hb);have t0_:=K1.o.1.c;have p0_:=K1.o.2.1.c;obtain⟨f0,f1⟩:=K1.o.2.1.cf;clear hb) | (go_at_call 55;refine(co _ ok t _ fI (by exact H.o.bel K1.o.2.2)).mono ?_;rintro e w2 ⟨xm,bm,rfl,hb,hb2,m,hy,hyz⟩;obtain⟨a5,b5,c5,d5,rfl⟩:=hy.form;rw[HM.o]at hb2 hyz;simp only[Option.isSome]at hb2;subst hb2;obtain rfl:=hyz _ rfl;have Im:=aa (hy.bel (ae w2 (.cells (KV m a5 c5 b5 d5) 32)));have Bm:=aa (show KY (w2.alloc (.cells (KV m a5 c5 b5 d5) 32)) w2.heap.size m a5 c5 b5 d5 from MN w2 _);have K2:=aa (K1.o.bel (ab hb (ae w2 (.cells (KV m a5 c5 b5 d5) 32))));clear f0 f1;have t0_:=K2.o.1.c;have p0_:=K2.o.2.1.c;obtain⟨f0,f1⟩:=K2.o.2.1.cf;have m0_:=Bm.o.c;clear hb hy hyz))
 go_wp2_with (first | (go_at_call 56;refine(lM _ ok q _ (by exact Iq.o)).mono ?_;rintro e w4 ⟨sl,rfl,hsl,hb⟩;rw[hl];have K4:=aa (K3.o.bel hb);have Bm4:=aa (af hb Bm3.o);clear f0 f1;have t0_:=K4.o.1.c;have p0_:=K4.o.2.1.c;obtain⟨f0,f1⟩:=K4.o.2.1.cf;have m0_:=Bm4.o.c;clear hb) | (go_at_call 55;refine(co _ ok t _ jX (by exact H.o.bel K2.o.2.2)).mono ?_;rintro e w3 ⟨xq,bq,rfl,hb,hb2,q,hy,hyz⟩;obtain⟨a6,b6,c6,d6,rfl⟩:=hy.form;rw[HQ.o]at hb2 hyz;simp only[Option.isSome]at hb2;subst hb2;obtain rfl:=hyz _ rfl;have Iq:=aa (hy.bel (ae w3 (.cells (KV q a6 c6 b6 d6) 32)));have Bq:=aa (show KY (w3.alloc (.cells (KV q a6 c6 b6 d6) 32)) w3.heap.size q a6 c6 b6 d6 from MN w3 _);have K3:=aa (K2.o.bel (ab hb (ae w3 (.cells (KV q a6 c6 b6 d6) 32))));have Bm3:=aa (af (ab hb (ae w3 (.cells (KV q a6 c6 b6 d6) 32))) Bm.o);have m0_:=Bm3.o.c;clear f0 f1;have t0_:=K3.o.1.c;have p0_:=K3.o.2.1.c;obtain⟨f0,f1⟩:=K3.o.2.1.cf;have q0_:=Bq.o.c;clear hb hy hyz))
 have z0_:=(K4.o.2.1.set [] (.slice none 0 0)).c;refine MM (v:=.tuple #[.agg #[.string ⟨#[]⟩,.slice none 0 0],.int .i64 1]) ?_ rfl ⟨.slice none 0 0,by rw[FG.o,FE.o],by rw[FG.o];exact⟨gU _,fun k hk=>by simp[Value.ownBlock]at hk⟩,aQ (aQ K4.o.2.2 (by omega) _ _) (by omega) _ _⟩;simp[results,results41,go_sem,z0_]
theorem xI(w:LC)(ok t v)(h:In w ok t v)(hg:aE t=true)(mm)(hm:aS t fI=some mm)(hk:mm.kind=3)(hs:mm.s≠[])(qq)(hq:aS t jX=some qq)(l)(hl:bZ qq=some l):Calls prog 41 #[v] w fun e w'=>∃ sl,e=.returned (.tuple #[.agg #[.string ⟨(bE t).1.toArray⟩,sl],.int .i64 (cI t)])/\fg w w' (bE t).2 sl/\La w w':=by
 have H:=aa h;obtain⟨a1,b1,c1,d1,rfl⟩:=h.form;have K0:Ll (Gw w t a1 b1 c1 d1 ((w.alloc (.cells (KV t a1 c1 b1 d1) 32)).alloc (.cells #[.string ⟨#[]⟩,.slice none 0 0] 85))):=aa ⟨fb w _ _,et w _ _,ab (ae _ _) (ae _ _)⟩;clear h;have hF:eY t=some (mm.s,l):=by simp[eY,hg,hm,hk,hs,hq,hl]
 have FG:Ll (bE t=(mm.s,l)):=aa (by simp[bE,hF]);have FE:Ll (cI t=0):=aa (by simp[cI,hF]);have HM:=aa hm;have HQ:=aa hq;have e1:(mm.kind == 3)=true:=by simp[hk]
 have e1n:(mm.kind != 3)=false:=by simp[hk]
 have e2:mm.s.isEmpty=false:=by simp[hs]
 clear hF hm hk hs hq;go_enter func41,ntmps41;go_upto_region 6 with (first | (go_at_call 19;refine Lk (bG _ ok t _ (by exact H.o.bel K0.o.2.2)) fun w1 hb=>?_;rw[hg];have K1:=aa (K0.o.bel hb);have t0_:=K1.o.1.c;have p0_:=K1.o.2.1.c;obtain⟨f0,f1⟩:=K1.o.2.1.cf;clear hb) | (go_at_call 55;refine(co _ ok t _ fI (by exact H.o.bel K1.o.2.2)).mono ?_;rintro e w2 ⟨xm,bm,rfl,hb,hb2,m,hy,hyz⟩;obtain⟨a5,b5,c5,d5,rfl⟩:=hy.form;rw[HM.o]at hb2 hyz;simp only[Option.isSome]at hb2;subst hb2;obtain rfl:=hyz _ rfl;have Im:=aa (hy.bel (ae w2 (.cells (KV m a5 c5 b5 d5) 32)));have Bm:=aa (show KY (w2.alloc (.cells (KV m a5 c5 b5 d5) 32)) w2.heap.size m a5 c5 b5 d5 from MN w2 _);have K2:=aa (K1.o.bel (ab hb (ae w2 (.cells (KV m a5 c5 b5 d5) 32))));clear f0 f1;have t0_:=K2.o.1.c;have p0_:=K2.o.2.1.c;obtain⟨f0,f1⟩:=K2.o.2.1.cf;have m0_:=Bm.o.c;clear hb hy hyz))
 go_wp2_with (first | (go_at_call 56;refine(lM _ ok q _ (by exact Iq.o)).mono ?_;rintro e w4 ⟨sl,rfl,hsl,hb⟩;rw[hl];have K4:=aa (K3.o.bel hb);have Bm4:=aa (af hb Bm3.o);have SL:=aa (hsl l hl).1;have SN:=aa (fun k hk=>MH K3.o.2.2.size ((hsl l hl).2 k hk));obtain⟨a9,c9,rfl⟩:=SL.o.form;clear hsl;clear f0 f1;have t0_:=K4.o.1.c;have p0_:=K4.o.2.1.c;obtain⟨f0,f1⟩:=K4.o.2.1.cf;have m0_:=Bm4.o.c;clear hb) | (go_at_call 55;refine(co _ ok t _ jX (by exact H.o.bel K2.o.2.2)).mono ?_;rintro e w3 ⟨xq,bq,rfl,hb,hb2,q,hy,hyz⟩;obtain⟨a6,b6,c6,d6,rfl⟩:=hy.form;rw[HQ.o]at hb2 hyz;simp only[Option.isSome]at hb2;subst hb2;obtain rfl:=hyz _ rfl;have Iq:=aa (hy.bel (ae w3 (.cells (KV q a6 c6 b6 d6) 32)));have Bq:=aa (show KY (w3.alloc (.cells (KV q a6 c6 b6 d6) 32)) w3.heap.size q a6 c6 b6 d6 from MN w3 _);have K3:=aa (K2.o.bel (ab hb (ae w3 (.cells (KV q a6 c6 b6 d6) 32))));have Bm3:=aa (af (ab hb (ae w3 (.cells (KV q a6 c6 b6 d6) 32))) Bm.o);have m0_:=Bm3.o.c;clear f0 f1;have t0_:=K3.o.1.c;have p0_:=K3.o.2.1.c;obtain⟨f0,f1⟩:=K3.o.2.1.cf;have q0_:=Bq.o.c;clear hb hy hyz))
 have z0_:=(K4.o.2.1.set (m.s) (.slice a9 l.length c9)).c;refine MM (v:=.tuple #[.agg #[.string ⟨(m.s).toArray⟩,.slice a9 l.length c9],.int .i64 0]) ?_ rfl ⟨.slice a9 l.length c9,by rw[FG.o,FE.o],by rw[FG.o];exact⟨Gd SL.o K4.o.2.1,SN.o⟩,aQ (aQ K4.o.2.2 (by omega) _ _) (by omega) _ _⟩;simp[results,results41,go_sem,z0_]
theorem oY(w:LC)(ok t v)(h:In w ok t v):Calls prog 41 #[v] w fun e w'=>∃ sl,e=.returned (.tuple #[.agg #[.string ⟨(bE t).1.toArray⟩,sl],.int .i64 (cI t)])/\fg w w' (bE t).2 sl/\La w w':=by
 cases hg:aE t with
 | false=>exact Ly w ok t v h (by rw[eY,if_pos hg]) (.inl hg)
 | true=>
  cases hm:aS t fI with
  | none=>exact Ly w ok t v h (by simp[eY,hg,hm]) (.inr (.inl ⟨hg,hm⟩))
  | some m=>
   by_cases hk:m.kind=3
   ·by_cases hs:m.s=[]
    ·exact Ly w ok t v h (by simp[eY,hg,hm,hk,hs]) (.inr (.inr (.inr ⟨m,hg,hm,by simp[hk],by simp[hk],by simp[hs]⟩)))
    ·cases hq:aS t jX with
     | none=>exact zE w ok t v h hg m hm hk hs hq
     | some q=>
      cases hl:bZ q with
      | none=>exact xL w ok t v h hg m hm hk hs q hq hl
      | some l=>exact xI w ok t v h hg m hm hk hs q hq l hl
   ·exact Ly w ok t v h (by simp[eY,hg,hm,hk]) (.inr (.inr (.inl ⟨m,hg,hm,by simp[hk],by simp[hk]⟩)))
theorem Hx(w:LC)(ok t v)(h:In w ok t v):Calls prog 41 #[v] w fun e w'=>∃ sl,e=.returned (.tuple #[.agg #[.string ⟨(bE t).1.toArray⟩,sl],.int .i64 (cI t)])/\bk w' (bE t).2 sl/\La w w':=
 (oY w ok t v h).mono fun e w' h=>by
  obtain⟨sl,h1,h2,h3⟩:=h;exact⟨sl,h1,h2.1,h3⟩
end Go.Proofs.YtlhejphddjdgkaaGreatDoor
namespace Go.Proofs.YtlhejphddjdgkaaGreatDoor
open Go.RowKit
open _root_.Go.Proofs.Tryz
variable {w w' wr:World}
variable {v:Value}
def lU (w wr:LC) (g:Lz) (v:Value) (s:dI):Prop:=fM wr w.heap.size g v/\de wr (w.heap.size+1) s/\de wr (w.heap.size+2) iA/\La w wr
theorem lU.bel{g s}(h:lU w wr g v s)(hb:La wr w'):lU w w' g v s:=⟨h.1.bel hb,h.2.1.bel hb,h.2.2.1.bel hb,ab h.2.2.2 hb⟩
theorem lU.c{g s}(h:lU w wr g v s):wr.cell? ⟨w.heap.size,0,none⟩=some (.string ⟨g.toArray⟩)/\wr.cell? ⟨w.heap.size,1,none⟩=some v /\
 wr.cell? ⟨w.heap.size+1,0,none⟩=some (.string ⟨s.a.toArray⟩)/\wr.cell? ⟨w.heap.size+1,1,none⟩=some (.string ⟨s.c.toArray⟩)/\wr.cell? ⟨w.heap.size+1,2,none⟩=some (.int .i64 s.ph)/\wr.cell? ⟨w.heap.size+1,3,none⟩=some (.int .i64 s.st)/\wr.cell? ⟨w.heap.size+1,4,none⟩=some (.int .i64 s.we)/\wr.cell? ⟨w.heap.size+1,5,none⟩=some (.int .i64 s.si) /\
 wr.cell? ⟨w.heap.size+2,0,none⟩=some (.string ⟨#[]⟩)/\wr.cell? ⟨w.heap.size+2,1,none⟩=some (.string ⟨#[]⟩)/\wr.cell? ⟨w.heap.size+2,2,none⟩=some (.int .i64 0)/\wr.cell? ⟨w.heap.size+2,3,none⟩=some (.int .i64 0)/\wr.cell? ⟨w.heap.size+2,4,none⟩=some (.int .i64 0)/\wr.cell? ⟨w.heap.size+2,5,none⟩=some (.int .i64 0) /\
 wr.frozen? ⟨w.heap.size+2,0,none⟩=false/\wr.frozen? ⟨w.heap.size+2,1,none⟩=false/\wr.frozen? ⟨w.heap.size+2,2,none⟩=false/\wr.frozen? ⟨w.heap.size+2,3,none⟩=false/\wr.frozen? ⟨w.heap.size+2,4,none⟩=false/\wr.frozen? ⟨w.heap.size+2,5,none⟩=false /\
 wr.frozen? ⟨w.heap.size+1,0,none⟩=false/\wr.frozen? ⟨w.heap.size+1,1,none⟩=false/\wr.frozen? ⟨w.heap.size+1,2,none⟩=false/\wr.frozen? ⟨w.heap.size+1,3,none⟩=false/\wr.frozen? ⟨w.heap.size+1,4,none⟩=false/\wr.frozen? ⟨w.heap.size+1,5,none⟩=false:=by
 obtain⟨a0,a1⟩:=h.1.c;obtain⟨b0,b1,b2,b3,b4,b5,b6,b7,b8,b9,b10,b11⟩:=h.2.1.c;obtain⟨d0,d1,d2,d3,d4,d5,d6,d7,d8,d9,d10,d11⟩:=h.2.2.1.c;exact⟨a0,a1,b0,b1,b2,b3,b4,b5,d0,d1,d2,d3,d4,d5,d6,d7,d8,d9,d10,d11,b6,b7,b8,b9,b10,b11⟩
theorem lU.begun{g s}(h:lU w wr g v s)(t):lU w (fR wr (w.heap.size+1) t) g v t:=
 ⟨((((((Below.heap_setCell _ ⟨w.heap.size+1,5,none⟩ _ w.heap.size (by simp)).trans (Below.heap_setCell _ ⟨w.heap.size+1,4,none⟩ _ w.heap.size (by simp))).trans (Below.heap_setCell _ ⟨w.heap.size+1,3,none⟩ _ w.heap.size (by simp))).trans (Below.heap_setCell _ ⟨w.heap.size+1,2,none⟩ _ w.heap.size (by simp))).trans (Below.heap_setCell _ ⟨w.heap.size+1,1,none⟩ _ w.heap.size (by simp))).trans (Below.heap_setCell _ ⟨w.heap.size+1,0,none⟩ _ w.heap.size (by simp))).trans h.1,
  h.2.1.set t,(((((h.2.2.1.far (by omega)).far (by omega)).far (by omega)).far (by omega)).far (by omega)).far (by omega),bX h.2.2.2 (by omega) t⟩
theorem cF(w g v s):lU w (((w.alloc (.cells #[.string ⟨g.toArray⟩,v] 85)).alloc (.cells (Li s) 35)).alloc (.cells #[.string ⟨#[]⟩,.string ⟨#[]⟩,.int .i64 0,.int .i64 0,.int .i64 0,.int .i64 0] 35)) g v s:=by
 have e:de (((w.alloc (.cells #[.string ⟨g.toArray⟩,v] 85)).alloc (.cells (Li s) 35)).alloc (.cells #[.string ⟨#[]⟩,.string ⟨#[]⟩,.int .i64 0,.int .i64 0,.int .i64 0,.int .i64 0] 35)) (w.heap.size+1+1) iA:=by
  have e:=MN ((w.alloc (.cells #[.string ⟨g.toArray⟩,v] 85)).alloc (.cells (Li s) 35)) (.cells #[.string ⟨#[]⟩,.string ⟨#[]⟩,.int .i64 0,.int .i64 0,.int .i64 0,.int .i64 0] 35);have e2:((w.alloc (.cells #[.string ⟨g.toArray⟩,v] 85)).alloc (.cells (Li s) 35)).heap.size=w.heap.size+1+1:=by simp
  rw[e2]at e;exact e
 exact⟨(show fM _ _ g v from fb w _ _).bel (ae _ _),(show de _ _ s from et w _ _).bel (ae _ _),e,ab (ab (ae _ _) (ae _ _)) (ae _ _)⟩
theorem Lv(w g l v s now order)(h:bk w l v)(hg:g.length<=9223372036854775807)(n)(hc:((cM g l=false)/\n=1)\/((cM g l=true)/\(cC s=false)/\n=1)\/((cM g l=true)/\(cC s=true)/\(lp now=false)/\n=8)\/((cM g l=true)/\(cC s=true)/\(lp now=true)/\order < 0/\n=9)\/((cM g l=true)/\(cC s=true)/\(lp now=true)/\0<=order/\3 < order/\n=9)\/((cM g l=true)/\(cC s=true)/\(lp now=true)/\0<=order/\order<=3/\((g == s.c)=true)/\((s.ph == 1)=true)/\n=0)\/((cM g l=true)/\(cC s=true)/\(lp now=true)/\0<=order/\order<=3/\((g == s.c)=true)/\((s.ph == 1)=false)/\((s.ph == 4)=true)/\n=0)):Calls prog 42 #[.agg #[.string ⟨g.toArray⟩,v],bc s,.int .i64 now,.int .i64 order] w fun e w'=>e=.returned (.tuple #[bc (s),.int .i64 n])/\La w w':=by
 have E0:Ll (bc s=.agg (Li s)):=aa rfl;have E1:=E0.o;rw[E1];clear E0 E1;obtain⟨a,c,rfl⟩:=h.form;have H:=aa h;have G:=aa hg;have N0:=aa (cF w g (.slice a l.length c) s);clear h hg;rcases hc with⟨hs,rfl⟩ | ⟨hs,ht,rfl⟩ | ⟨hs,ht,hT,rfl⟩ | ⟨hs,ht,hT,ho,rfl⟩ | ⟨hs,ht,hT,ho,ho2,rfl⟩ | ⟨hs,ht,hT,ho,ho2,h1,h2,rfl⟩ | ⟨hs,ht,hT,ho,ho2,h1,h2,h3,rfl⟩
 all_goals
  go_enter func42,ntmps42;go_wp2_with (first | (go_at_call 57;refine Lk (bF _ g l _ (H.o.bel N0.o.2.2.2) G.o) fun w1 hb=>?_;rw[hs];have N1:=aa (N0.o.bel hb);have NQ:=N1;obtain⟨p0,p1,c0,c1,c2,c3,c4,c5,f0,f1,f2,f3,f4,f5,g0,g1,g2,g3,g4,g5,h0,h1,h2,h3,h4,h5⟩:=N1.o.c;clear hb) | (go_at_call 58;refine Lk (eV _ s) fun w2 hb=>?_;rw[ht];have N2:=aa (N1.o.bel hb);have NQ:=N2;obtain⟨p0,p1,c0,c1,c2,c3,c4,c5,f0,f1,f2,f3,f4,f5,g0,g1,g2,g3,g4,g5,h0,h1,h2,h3,h4,h5⟩:=N2.o.c;clear hb) | (go_at_call 59;refine LE (cN _ now) ?_;rw[hT]))
  have z0_:=(NQ.o.2.2.1.set (s)).c;refine MM (v:=.tuple #[bc (s),.int .i64 _]) ?_ rfl ⟨rfl,bX NQ.o.2.2.2 (by omega) (s)⟩;simp only[fR]at z0_;simp[results,results42,go_sem,z0_,bc]
theorem Bj(w g l v s now order)(h:bk w l v)(hg:g.length<=9223372036854775807)(hs:cM g l=true)(ht:cC s=true)(hT:lp now=true)(ho:0<=order)(ho2:order<=3)(h1:(g == s.c)=false)(h2:(g == s.a)=true):Calls prog 42 #[.agg #[.string ⟨g.toArray⟩,v],bc s,.int .i64 now,.int .i64 order] w fun e w'=>e=.returned (.tuple #[bc (aF s.a),.int .i64 0])/\La w w':=by
 have E0:Ll (bc s=.agg (Li s)):=aa rfl;have E1:=E0.o;rw[E1];clear E0 E1;obtain⟨a,c,rfl⟩:=h.form;have H:=aa h;have G:=aa hg;have N0:=aa (cF w g (.slice a l.length c) s);clear h hg;go_enter func42,ntmps42;go_wp2_with (first | (go_at_call 57;refine Lk (bF _ g l _ (H.o.bel N0.o.2.2.2) G.o) fun w1 hb=>?_;rw[hs];have N1:=aa (N0.o.bel hb);obtain⟨p0,p1,c0,c1,c2,c3,c4,c5,f0,f1,f2,f3,f4,f5,g0,g1,g2,g3,g4,g5,h0,h1,h2,h3,h4,h5⟩:=N1.o.c;clear hb) | (go_at_call 58;refine Lk (eV _ s) fun w2 hb=>?_;rw[ht];have N2:=aa (N1.o.bel hb);obtain⟨p0,p1,c0,c1,c2,c3,c4,c5,f0,f1,f2,f3,f4,f5,g0,g1,g2,g3,g4,g5,h0,h1,h2,h3,h4,h5⟩:=N2.o.c;clear hb) | (go_at_call 59;refine LE (cN _ now) ?_;rw[hT]) | (go_at_call 60;refine Lk (ja _ (s.a)) fun w5 hb=>?_;have N5:=aa (N2.o.bel hb);obtain⟨p0,p1,c0,c1,c2,c3,c4,c5,f0,f1,f2,f3,f4,f5,g0,g1,g2,g3,g4,g5,h0,h1,h2,h3,h4,h5⟩:=N5.o.c;clear hb))
 have z0_:=(N5.o.2.2.1.set (aF s.a)).c;refine MM (v:=.tuple #[bc (aF s.a),.int .i64 0]) ?_ rfl ⟨rfl,bX N5.o.2.2.2 (by omega) (aF s.a)⟩;simp only[fR,aF]at z0_;simp[results,results42,go_sem,z0_,bc,aF]
theorem Co(w g l v s now order)(h:bk w l v)(hg:g.length<=9223372036854775807)(hs:cM g l=true)(ht:cC s=true)(hT:lp now=true)(ho:0<=order)(ho2:order<=3)(h1:(g == s.c)=true)(h2:(s.ph == 1)=false)(h3:(s.ph == 4)=false)(h4:(order == 2)=true):Calls prog 42 #[.agg #[.string ⟨g.toArray⟩,v],bc s,.int .i64 now,.int .i64 order] w fun e w'=>e=.returned (.tuple #[bc (aF s.c),.int .i64 0])/\La w w':=by
 have E0:Ll (bc s=.agg (Li s)):=aa rfl;have E1:=E0.o;rw[E1];clear E0 E1;obtain⟨a,c,rfl⟩:=h.form;have H:=aa h;have G:=aa hg;have N0:=aa (cF w g (.slice a l.length c) s);clear h hg;go_enter func42,ntmps42;go_wp2_with (first | (go_at_call 57;refine Lk (bF _ g l _ (H.o.bel N0.o.2.2.2) G.o) fun w1 hb=>?_;rw[hs];have N1:=aa (N0.o.bel hb);obtain⟨p0,p1,c0,c1,c2,c3,c4,c5,f0,f1,f2,f3,f4,f5,g0,g1,g2,g3,g4,g5,h0,h1,h2,h3,h4,h5⟩:=N1.o.c;clear hb) | (go_at_call 58;refine Lk (eV _ s) fun w2 hb=>?_;rw[ht];have N2:=aa (N1.o.bel hb);obtain⟨p0,p1,c0,c1,c2,c3,c4,c5,f0,f1,f2,f3,f4,f5,g0,g1,g2,g3,g4,g5,h0,h1,h2,h3,h4,h5⟩:=N2.o.c;clear hb) | (go_at_call 59;refine LE (cN _ now) ?_;rw[hT]) | (go_at_call 60;refine Lk (ja _ (s.c)) fun w5 hb=>?_;have N5:=aa (N2.o.bel hb);obtain⟨p0,p1,c0,c1,c2,c3,c4,c5,f0,f1,f2,f3,f4,f5,g0,g1,g2,g3,g4,g5,h0,h1,h2,h3,h4,h5⟩:=N5.o.c;clear hb))
 have z0_:=(N5.o.2.2.1.set (aF s.c)).c;refine MM (v:=.tuple #[bc (aF s.c),.int .i64 0]) ?_ rfl ⟨rfl,bX N5.o.2.2.2 (by omega) (aF s.c)⟩;simp only[fR,aF]at z0_;simp[results,results42,go_sem,z0_,bc,aF]
theorem yn(w g l v s now order)(h:bk w l v)(hg:g.length<=9223372036854775807)(hs:cM g l=true)(ht:cC s=true)(hT:lp now=true)(ho:0<=order)(ho2:order<=3)(h1:(g == s.c)=true)(h2:(s.ph == 1)=false)(h3:(s.ph == 4)=false)(h4:(order == 2)=false)(h5:(order == 3)=true):Calls prog 42 #[.agg #[.string ⟨g.toArray⟩,v],bc s,.int .i64 now,.int .i64 order] w fun e w'=>e=.returned (.tuple #[bc (bw s.a s.c),.int .i64 0])/\La w w':=by
 have E0:Ll (bc s=.agg (Li s)):=aa rfl;have E1:=E0.o;rw[E1];clear E0 E1;obtain⟨a,c,rfl⟩:=h.form;have H:=aa h;have G:=aa hg;have N0:=aa (cF w g (.slice a l.length c) s);clear h hg;go_enter func42,ntmps42;go_wp2_with (first | (go_at_call 57;refine Lk (bF _ g l _ (H.o.bel N0.o.2.2.2) G.o) fun w1 hb=>?_;rw[hs];have N1:=aa (N0.o.bel hb);obtain⟨p0,p1,c0,c1,c2,c3,c4,c5,f0,f1,f2,f3,f4,f5,g0,g1,g2,g3,g4,g5,h0,h1,h2,h3,h4,h5⟩:=N1.o.c;clear hb) | (go_at_call 58;refine Lk (eV _ s) fun w2 hb=>?_;rw[ht];have N2:=aa (N1.o.bel hb);obtain⟨p0,p1,c0,c1,c2,c3,c4,c5,f0,f1,f2,f3,f4,f5,g0,g1,g2,g3,g4,g5,h0,h1,h2,h3,h4,h5⟩:=N2.o.c;clear hb) | (go_at_call 59;refine LE (cN _ now) ?_;rw[hT]) | (go_at_call 62;refine Lk (sw _ (s.a) (s.c)) fun w5 hb=>?_;have N5:=aa (N2.o.bel hb);obtain⟨p0,p1,c0,c1,c2,c3,c4,c5,f0,f1,f2,f3,f4,f5,g0,g1,g2,g3,g4,g5,h0,h1,h2,h3,h4,h5⟩:=N5.o.c;clear hb))
 have z0_:=(N5.o.2.2.1.set (bw s.a s.c)).c;refine MM (v:=.tuple #[bc (bw s.a s.c),.int .i64 0]) ?_ rfl ⟨rfl,bX N5.o.2.2.2 (by omega) (bw s.a s.c)⟩;simp only[fR,bw]at z0_;simp[results,results42,go_sem,z0_,bc,bw]
theorem Dn(w g l v s now order)(h:bk w l v)(hg:g.length<=9223372036854775807)(hs:cM g l=true)(ht:cC s=true)(hT:lp now=true)(ho:0<=order)(ho2:order<=3)(h1:(g == s.c)=true)(h2:(s.ph == 1)=false)(h3:(s.ph == 4)=false)(h4:(order == 2)=false)(h5:(order == 3)=false)(hw:0<=s.st/\0<=s.si/\s.si<=1099511627776):Calls prog 42 #[.agg #[.string ⟨g.toArray⟩,v],bc s,.int .i64 now,.int .i64 order] w fun e w'=>e=.returned (.tuple #[bc (gJ now (decide (order=1)) (l.drop s.st.toNat) s),.int .i64 0])/\La w w':=by
 have E0:Ll (bc s=.agg (Li s)):=aa rfl;have E1:=E0.o;rw[E1];clear E0 E1;obtain⟨a,c,rfl⟩:=h.form;have H:=aa h;have G:=aa hg;have N0:=aa (cF w g (.slice a l.length c) s);clear h hg;have RO:Ll (0<=(s).st/\0<=(s).si/\(s).si<=1099511627776/\0<=now/\now<=1099511627776):=⟨hw.1,hw.2.1,hw.2.2,Ak.1 hT⟩;obtain⟨r0,hr0⟩:∃ r,gJ now (decide (order=1)) (l.drop s.st.toNat) s=r:=⟨_,rfl⟩
 rw[hr0];have HR:=aa hr0;clear hr0 hw;go_enter func42,ntmps42;go_wp2_with (first | (go_at_call 57;refine Lk (bF _ g l _ (H.o.bel N0.o.2.2.2) G.o) fun w1 hb=>?_;rw[hs];have N1:=aa (N0.o.bel hb);obtain⟨p0,p1,c0,c1,c2,c3,c4,c5,f0,f1,f2,f3,f4,f5,g0,g1,g2,g3,g4,g5,h0,h1,h2,h3,h4,h5⟩:=N1.o.c;clear hb) | (go_at_call 58;refine Lk (eV _ s) fun w2 hb=>?_;rw[ht];have N2:=aa (N1.o.bel hb);obtain⟨p0,p1,c0,c1,c2,c3,c4,c5,f0,f1,f2,f3,f4,f5,g0,g1,g2,g3,g4,g5,h0,h1,h2,h3,h4,h5⟩:=N2.o.c;clear hb) | (go_at_call 59;refine LE (cN _ now) ?_;rw[hT]) | (go_at_call 63;refine Lk (Ag _ l _ (s) now (decide (order=1)) (by exact H.o.bel N2.o.2.2.2) RO.o.1 RO.o.2.1 RO.o.2.2.1 RO.o.2.2.2.1 RO.o.2.2.2.2) fun w5 hb=>?_;rw[HR.o];unfold bc;have N5:=aa (N2.o.bel hb);obtain⟨p0,p1,c0,c1,c2,c3,c4,c5,f0,f1,f2,f3,f4,f5,g0,g1,g2,g3,g4,g5,h0,h1,h2,h3,h4,h5⟩:=N5.o.c;clear hb))
 have z0_:=(N5.o.2.2.1.set (r0)).c;refine MM (v:=.tuple #[bc (r0),.int .i64 0]) ?_ rfl ⟨rfl,bX N5.o.2.2.2 (by omega) (r0)⟩;simp only[fR]at z0_;simp[results,results42,go_sem,z0_,bc]
theorem zp(w g l v s now order)(h:bk w l v)(hg:g.length<=9223372036854775807)(hs:cM g l=true)(ht:cC s=true)(hT:lp now=true)(ho:0<=order)(ho2:order<=3)(h1:(g == s.c)=false)(h2:(g == s.a)=false)(h4:(order == 2)=true):Calls prog 42 #[.agg #[.string ⟨g.toArray⟩,v],bc s,.int .i64 now,.int .i64 order] w fun e w'=>e=.returned (.tuple #[bc (aF g),.int .i64 0])/\La w w':=by
 have E0:Ll (bc s=.agg (Li s)):=aa rfl;have E1:=E0.o;rw[E1];clear E0 E1;obtain⟨a,c,rfl⟩:=h.form;have H:=aa h;have G:=aa hg;have N0:=aa (cF w g (.slice a l.length c) s);clear h hg;go_enter func42,ntmps42;go_wp2_with (first | (go_at_call 57;refine Lk (bF _ g l _ (H.o.bel N0.o.2.2.2) G.o) fun w1 hb=>?_;rw[hs];have N1:=aa (N0.o.bel hb);obtain⟨p0,p1,c0,c1,c2,c3,c4,c5,f0,f1,f2,f3,f4,f5,g0,g1,g2,g3,g4,g5,h0,h1,h2,h3,h4,h5⟩:=N1.o.c;clear hb) | (go_at_call 58;refine Lk (eV _ s) fun w2 hb=>?_;rw[ht];have N2:=aa (N1.o.bel hb);obtain⟨p0,p1,c0,c1,c2,c3,c4,c5,f0,f1,f2,f3,f4,f5,g0,g1,g2,g3,g4,g5,h0,h1,h2,h3,h4,h5⟩:=N2.o.c;clear hb) | (go_at_call 59;refine LE (cN _ now) ?_;rw[hT]) | (go_at_call 61;refine Lk (tb _ s.a g) fun w4 hb=>?_;have N4:=aa (N2.o.bel hb);have NB:=aa (N4.o.begun (da s.a g));obtain⟨p0,p1,c0,c1,c2,c3,c4,c5,f0,f1,f2,f3,f4,f5,g0,g1,g2,g3,g4,g5,h0,h1,h2,h3,h4,h5⟩:=N4.o.c;have p0'_:=NB.o.c;simp only[fR,da]at p0'_;clear hb) | (go_at_call 60;refine Lk (ja _ (g)) fun w5 hb=>?_;have N5:=aa (NB.o.bel hb);clear p0'_;obtain⟨p0,p1,c0,c1,c2,c3,c4,c5,f0,f1,f2,f3,f4,f5,g0,g1,g2,g3,g4,g5,h0,h1,h2,h3,h4,h5⟩:=N5.o.c;clear hb))
 have z0_:=(N5.o.2.2.1.set (aF g)).c;refine MM (v:=.tuple #[bc (aF g),.int .i64 0]) ?_ rfl ⟨rfl,bX N5.o.2.2.2 (by omega) (aF g)⟩;simp only[fR,aF]at z0_;simp[results,results42,go_sem,z0_,bc,aF]
theorem xh(w g l v s now order)(h:bk w l v)(hg:g.length<=9223372036854775807)(hs:cM g l=true)(ht:cC s=true)(hT:lp now=true)(ho:0<=order)(ho2:order<=3)(h1:(g == s.c)=false)(h2:(g == s.a)=false)(h4:(order == 2)=false)(h5:(order == 3)=true):Calls prog 42 #[.agg #[.string ⟨g.toArray⟩,v],bc s,.int .i64 now,.int .i64 order] w fun e w'=>e=.returned (.tuple #[bc (bw s.a g),.int .i64 0])/\La w w':=by
 have E0:Ll (bc s=.agg (Li s)):=aa rfl;have E1:=E0.o;rw[E1];clear E0 E1;obtain⟨a,c,rfl⟩:=h.form;have H:=aa h;have G:=aa hg;have N0:=aa (cF w g (.slice a l.length c) s);clear h hg;go_enter func42,ntmps42;go_wp2_with (first | (go_at_call 57;refine Lk (bF _ g l _ (H.o.bel N0.o.2.2.2) G.o) fun w1 hb=>?_;rw[hs];have N1:=aa (N0.o.bel hb);obtain⟨p0,p1,c0,c1,c2,c3,c4,c5,f0,f1,f2,f3,f4,f5,g0,g1,g2,g3,g4,g5,h0,h1,h2,h3,h4,h5⟩:=N1.o.c;clear hb) | (go_at_call 58;refine Lk (eV _ s) fun w2 hb=>?_;rw[ht];have N2:=aa (N1.o.bel hb);obtain⟨p0,p1,c0,c1,c2,c3,c4,c5,f0,f1,f2,f3,f4,f5,g0,g1,g2,g3,g4,g5,h0,h1,h2,h3,h4,h5⟩:=N2.o.c;clear hb) | (go_at_call 59;refine LE (cN _ now) ?_;rw[hT]) | (go_at_call 61;refine Lk (tb _ s.a g) fun w4 hb=>?_;have N4:=aa (N2.o.bel hb);have NB:=aa (N4.o.begun (da s.a g));obtain⟨p0,p1,c0,c1,c2,c3,c4,c5,f0,f1,f2,f3,f4,f5,g0,g1,g2,g3,g4,g5,h0,h1,h2,h3,h4,h5⟩:=N4.o.c;have p0'_:=NB.o.c;simp only[fR,da]at p0'_;clear hb) | (go_at_call 62;refine Lk (sw _ (s.a) (g)) fun w5 hb=>?_;have N5:=aa (NB.o.bel hb);clear p0'_;obtain⟨p0,p1,c0,c1,c2,c3,c4,c5,f0,f1,f2,f3,f4,f5,g0,g1,g2,g3,g4,g5,h0,h1,h2,h3,h4,h5⟩:=N5.o.c;clear hb))
 have z0_:=(N5.o.2.2.1.set (bw s.a g)).c;refine MM (v:=.tuple #[bc (bw s.a g),.int .i64 0]) ?_ rfl ⟨rfl,bX N5.o.2.2.2 (by omega) (bw s.a g)⟩;simp only[fR,bw]at z0_;simp[results,results42,go_sem,z0_,bc,bw]
theorem zr(w g l v s now order)(h:bk w l v)(hg:g.length<=9223372036854775807)(hs:cM g l=true)(ht:cC s=true)(hT:lp now=true)(ho:0<=order)(ho2:order<=3)(h1:(g == s.c)=false)(h2:(g == s.a)=false)(h4:(order == 2)=false)(h5:(order == 3)=false):Calls prog 42 #[.agg #[.string ⟨g.toArray⟩,v],bc s,.int .i64 now,.int .i64 order] w fun e w'=>e=.returned (.tuple #[bc (gJ now (decide (order=1)) (l.drop (da s.a g).st.toNat) (da s.a g)),.int .i64 0])/\La w w':=by
 have E0:Ll (bc s=.agg (Li s)):=aa rfl;have E1:=E0.o;rw[E1];clear E0 E1;obtain⟨a,c,rfl⟩:=h.form;have H:=aa h;have G:=aa hg;have N0:=aa (cF w g (.slice a l.length c) s);clear h hg;have RO:Ll (0<=(da s.a g).st/\0<=(da s.a g).si/\(da s.a g).si<=1099511627776/\0<=now/\now<=1099511627776):=aa (by have:=(Ak.1 hT);simp[da];omega);obtain⟨r0,hr0⟩:∃ r,gJ now (decide (order=1)) (l.drop (da s.a g).st.toNat) (da s.a g)=r:=⟨_,rfl⟩
 rw[hr0];have HR:=aa hr0;clear hr0;go_enter func42,ntmps42;go_wp2_with (first | (go_at_call 57;refine Lk (bF _ g l _ (H.o.bel N0.o.2.2.2) G.o) fun w1 hb=>?_;rw[hs];have N1:=aa (N0.o.bel hb);obtain⟨p0,p1,c0,c1,c2,c3,c4,c5,f0,f1,f2,f3,f4,f5,g0,g1,g2,g3,g4,g5,h0,h1,h2,h3,h4,h5⟩:=N1.o.c;clear hb) | (go_at_call 58;refine Lk (eV _ s) fun w2 hb=>?_;rw[ht];have N2:=aa (N1.o.bel hb);obtain⟨p0,p1,c0,c1,c2,c3,c4,c5,f0,f1,f2,f3,f4,f5,g0,g1,g2,g3,g4,g5,h0,h1,h2,h3,h4,h5⟩:=N2.o.c;clear hb) | (go_at_call 59;refine LE (cN _ now) ?_;rw[hT]) | (go_at_call 61;refine Lk (tb _ s.a g) fun w4 hb=>?_;have N4:=aa (N2.o.bel hb);have NB:=aa (N4.o.begun (da s.a g));obtain⟨p0,p1,c0,c1,c2,c3,c4,c5,f0,f1,f2,f3,f4,f5,g0,g1,g2,g3,g4,g5,h0,h1,h2,h3,h4,h5⟩:=N4.o.c;have p0'_:=NB.o.c;simp only[fR,da]at p0'_;clear hb) | (go_at_call 63;refine Lk (Ag _ l _ (da s.a g) now (decide (order=1)) (by exact H.o.bel NB.o.2.2.2) RO.o.1 RO.o.2.1 RO.o.2.2.1 RO.o.2.2.2.1 RO.o.2.2.2.2) fun w5 hb=>?_;rw[HR.o];unfold bc;have N5:=aa (NB.o.bel hb);clear p0'_;obtain⟨p0,p1,c0,c1,c2,c3,c4,c5,f0,f1,f2,f3,f4,f5,g0,g1,g2,g3,g4,g5,h0,h1,h2,h3,h4,h5⟩:=N5.o.c;clear hb))
 have z0_:=(N5.o.2.2.1.set (r0)).c;refine MM (v:=.tuple #[bc (r0),.int .i64 0]) ?_ rfl ⟨rfl,bX N5.o.2.2.2 (by omega) (r0)⟩;simp only[fR]at z0_;simp[results,results42,go_sem,z0_,bc]
theorem AK(w g l v s now order)(h:bk w l v)(hg:g.length<=9223372036854775807):Calls prog 42 #[.agg #[.string ⟨g.toArray⟩,v],bc s,.int .i64 now,.int .i64 order] w fun e w'=>e=.returned (.tuple #[bc (ij g l s now order).1,.int .i64 (ij g l s now order).2])/\La w w':=by
 rw[ij];cases hs:cM g l with
 | false=>rw[if_pos (by simp)];exact Lv w g l v s now order h hg _ (.inl ⟨hs,rfl⟩)
 | true=>
  cases ht:cC s with
  | false=>rw[if_pos (by simp)];exact Lv w g l v s now order h hg _ (.inr (.inl ⟨hs,ht,rfl⟩))
  | true=>
   rw[if_neg (by simp)];cases hT:lp now with
   | false=>rw[if_pos rfl];exact Lv w g l v s now order h hg _ (.inr (.inr (.inl ⟨hs,ht,hT,rfl⟩)))
   | true=>
    rw[if_neg (by simp)];by_cases o1:order < 0
    ·rw[if_pos (.inl o1)];exact Lv w g l v s now order h hg _ (.inr (.inr (.inr (.inl ⟨hs,ht,hT,o1,rfl⟩))))
    by_cases o2:3 < order
    ·rw[if_pos (.inr o2)];exact Lv w g l v s now order h hg _ (.inr (.inr (.inr (.inr (.inl ⟨hs,ht,hT,(by omega),o2,rfl⟩)))))
    rw[if_neg (by omega)];have k1:0<=order:=by omega
    have k2:order<=3:=by omega
    by_cases hc:g=s.c
    ·rw[if_neg (fun h=>h.1 hc),zq,if_pos hc,EH];have e1:(g == s.c)=true:=by simp[hc]
     by_cases p1:s.ph=1
     ·rw[if_pos (.inl p1)];exact Lv w g l v s now order h hg _ (.inr (.inr (.inr (.inr (.inr (.inl ⟨hs,ht,hT,k1,k2,e1,(by simp[p1]),rfl⟩))))))
     by_cases p4:s.ph=4
     ·rw[if_pos (.inr p4)];exact Lv w g l v s now order h hg _ (.inr (.inr (.inr (.inr (.inr (.inr ⟨hs,ht,hT,k1,k2,e1,(by simp[p1]),(by simp[p4]),rfl⟩))))))
     rw[if_neg (by omega)];by_cases q2:order=2
     ·rw[if_pos q2];exact Co w g l v s now order h hg hs ht hT k1 k2 e1 (by simp[p1]) (by simp[p4]) (by simp[q2])
     rw[if_neg q2];by_cases q3:order=3
     ·rw[if_pos q3];exact yn w g l v s now order h hg hs ht hT k1 k2 e1 (by simp[p1]) (by simp[p4]) (by simp[q2]) (by simp[q3])
     rw[if_neg q3];refine Dn w g l v s now order h hg hs ht hT k1 k2 e1 (by simp[p1]) (by simp[p4]) (by simp[q2]) (by simp[q3]) ?_;rcases Es ht with⟨k,_⟩ | ⟨k,_⟩ | k
     ·rw[k]at p1;exact absurd rfl p1
     ·rw[k]at p4;exact absurd rfl p4
     ·obtain⟨-,-,-,k3,-,-,-,k4⟩:=k;omega
    ·have e1:(g == s.c)=false:=by simp[hc]
     by_cases ha:g=s.a
     ·rw[if_pos ⟨hc,ha⟩];exact Bj w g l v s now order h hg hs ht hT k1 k2 e1 (by simp[ha])
     ·have e2:(g == s.a)=false:=by simp[ha]
      rw[if_neg (fun h=>ha h.2),zq,if_neg hc,EH,if_neg (by simp[da])];by_cases q2:order=2
      ·rw[if_pos q2];exact zp w g l v s now order h hg hs ht hT k1 k2 e1 e2 (by simp[q2])
      rw[if_neg q2];by_cases q3:order=3
      ·rw[if_pos q3];exact xh w g l v s now order h hg hs ht hT k1 k2 e1 e2 (by simp[q2]) (by simp[q3])
      rw[if_neg q3];exact zr w g l v s now order h hg hs ht hT k1 k2 e1 e2 (by simp[q2]) (by simp[q3])
end Go.Proofs.YtlhejphddjdgkaaGreatDoor
