import Derived.Test.YtkjeiljdoljjgaaGreatDoorG6
import Derived.Test.YtkjeiljdoljjgaaGreatDoorG13
set_option maxRecDepth 100000
set_option maxHeartbeats 40000000
set_option linter.unusedSimpArgs false
set_option linter.unusedVariables false
namespace Go.Proofs.YtkjeiljdoljjgaaGreatDoor
open Go.RowKit
open _root_.Go.Proofs.Tryz
variable {w w':World}
variable {k:Nat}
def nL:Lz:=[111,112]
def ea:Lz:=[112,97,116,104]
def Ec:Lz:=[102,114,111,109]
def yy:Lz:=[118,97,108,117,101]
def ew:List Lz:=[[97,100,100],[114,101,109,111,118,101],[114,101,112,108,97,99,101],[109,111,118,101],[99,111,112,121],[116,101,115,116]]
def ck (s:Lz):Int:=match dd s ew with | some i=>(i:Int)+1 | none=>0
def bt (t:V) (key:Lz):Option Lz:=match aS t key with | some x=>if x.kind=3 then some x.s else none | none=>none
def oF (t:V):Option jf:=
 match bt t nL,bt t ea with
 | some w,some p=>
  if ck w=0 then none
  else if ck w=1\/ck w=3\/ck w=6 then (aS t yy).map fun y=>⟨ck w,p,[],y⟩
  else if ck w=4\/ck w=5 then (bt t Ec).map fun f=>⟨ck w,p,f,aM⟩
  else some ⟨ck w,p,[],aM⟩
 | _,_=>none
theorem pm(s):ck s=0\/ck s=1\/ck s=2\/ck s=3\/ck s=4\/ck s=5\/ck s=6:=by
 unfold ck;cases h:dd s ew with
 | none=>exact .inl rfl
 | some i=>
  have hi:i < 6:=(iw h).1;simp only;omega
def di (w:LC):Prop:=∃ t f,w.heap[2]?=some (.cells #[.string ⟨#[97,100,100]⟩,.string ⟨#[114,101,109,111,118,101]⟩,.string ⟨#[114,101,112,108,97,99,101]⟩,.string ⟨#[109,111,118,101]⟩,.string ⟨#[99,111,112,121]⟩,.string ⟨#[116,101,115,116]⟩] t f)
theorem di.bel(h:di w)(hb:La w w'):di w':=by
 obtain⟨t,f,h⟩:=h;exact⟨t,f,(hb.block _ (MF.1 h).1).trans h⟩
theorem iT{key:Lz}{xs:List Lz}(h:k < xs.length)(hne:xs[k]≠key):(dd key (xs.drop k)).map (·+k)=(dd key (xs.drop (k+1))).map (·+(k+1)):=by
 rw[ME h,dd,if_neg hne];cases dd key (xs.drop (k+1)) with
 | none=>rfl
 | some i=>simp;omega
theorem jc{key:Lz}{xs:List Lz}(h:k < xs.length)(he:xs[k]=key):(dd key (xs.drop k)).map (·+k)=some k:=by
 rw[ME h,dd,if_pos he];simp
theorem gW(w:LC)(s)(hG:di w):Calls prog 175 #[aR s] w fun e w'=>e=.returned (.int .i64 (ck s))/\La w w':=by
 obtain⟨tt,ff,hG⟩:=hG;have c0:w.cell? ⟨2,0,none⟩=some (.string ⟨#[97,100,100]⟩):=by simp[World.cell?,hG]
 have c1:w.cell? ⟨2,1,none⟩=some (.string ⟨#[114,101,109,111,118,101]⟩):=by simp[World.cell?,hG]
 have c2:w.cell? ⟨2,2,none⟩=some (.string ⟨#[114,101,112,108,97,99,101]⟩):=by simp[World.cell?,hG]
 have c3:w.cell? ⟨2,3,none⟩=some (.string ⟨#[109,111,118,101]⟩):=by simp[World.cell?,hG]
 have c4:w.cell? ⟨2,4,none⟩=some (.string ⟨#[99,111,112,121]⟩):=by simp[World.cell?,hG]
 have c5:w.cell? ⟨2,5,none⟩=some (.string ⟨#[116,101,115,116]⟩):=by simp[World.cell?,hG]
 clear hG;unfold aR;go_enter func175,ntmps175;go_wp2_with fail
 clear c0 c1 c2 c3 c4 c5;have i0:∀ w,(Instr.index 232 (.agg #[.string ⟨#[97,100,100]⟩,.string ⟨#[114,101,109,111,118,101]⟩,.string ⟨#[114,101,112,108,97,99,101]⟩,.string ⟨#[109,111,118,101]⟩,.string ⟨#[99,111,112,121]⟩,.string ⟨#[116,101,115,116]⟩]) (.int .i64 0)).run prog w=.ok (.string ⟨#[97,100,100]⟩) w:=fun _=>by kernel_rfl
 have i1:∀ w,(Instr.index 232 (.agg #[.string ⟨#[97,100,100]⟩,.string ⟨#[114,101,109,111,118,101]⟩,.string ⟨#[114,101,112,108,97,99,101]⟩,.string ⟨#[109,111,118,101]⟩,.string ⟨#[99,111,112,121]⟩,.string ⟨#[116,101,115,116]⟩]) (.int .i64 1)).run prog w=.ok (.string ⟨#[114,101,109,111,118,101]⟩) w:=fun _=>by kernel_rfl
 have i2:∀ w,(Instr.index 232 (.agg #[.string ⟨#[97,100,100]⟩,.string ⟨#[114,101,109,111,118,101]⟩,.string ⟨#[114,101,112,108,97,99,101]⟩,.string ⟨#[109,111,118,101]⟩,.string ⟨#[99,111,112,121]⟩,.string ⟨#[116,101,115,116]⟩]) (.int .i64 2)).run prog w=.ok (.string ⟨#[114,101,112,108,97,99,101]⟩) w:=fun _=>by kernel_rfl
 have i3:∀ w,(Instr.index 232 (.agg #[.string ⟨#[97,100,100]⟩,.string ⟨#[114,101,109,111,118,101]⟩,.string ⟨#[114,101,112,108,97,99,101]⟩,.string ⟨#[109,111,118,101]⟩,.string ⟨#[99,111,112,121]⟩,.string ⟨#[116,101,115,116]⟩]) (.int .i64 3)).run prog w=.ok (.string ⟨#[109,111,118,101]⟩) w:=fun _=>by kernel_rfl
 have i4:∀ w,(Instr.index 232 (.agg #[.string ⟨#[97,100,100]⟩,.string ⟨#[114,101,109,111,118,101]⟩,.string ⟨#[114,101,112,108,97,99,101]⟩,.string ⟨#[109,111,118,101]⟩,.string ⟨#[99,111,112,121]⟩,.string ⟨#[116,101,115,116]⟩]) (.int .i64 4)).run prog w=.ok (.string ⟨#[99,111,112,121]⟩) w:=fun _=>by kernel_rfl
 have i5:∀ w,(Instr.index 232 (.agg #[.string ⟨#[97,100,100]⟩,.string ⟨#[114,101,109,111,118,101]⟩,.string ⟨#[114,101,112,108,97,99,101]⟩,.string ⟨#[109,111,118,101]⟩,.string ⟨#[99,111,112,121]⟩,.string ⟨#[116,101,115,116]⟩]) (.int .i64 5)).run prog w=.ok (.string ⟨#[116,101,115,116]⟩) w:=fun _=>by kernel_rfl
 go_loop [3,4,6] (fun _ _ i=>∃ k:Nat,k<=6/\i=.int .i64 k/\Ll (dd s ew=(dd s (ew.drop k)).map (·+k))) (fun _ _ i=>6 - (intOf i).toNat)
 case atStart=>exact⟨0,Nat.zero_le _,rfl,aa (by simp)⟩
 case round=>
  obtain⟨k,hk,rfl,HI⟩:=hrel;by_cases hlt:k < 6
  ·have hc:k=0\/k=1\/k=2\/k=3\/k=4\/k=5:=by omega
   clear hk hlt;rcases hc with rfl | rfl | rfl | rfl | rfl | rfl
   ·by_cases he:([97,100,100]:Lz)=s
    ·have e3:(([97,100,100]:Lz) == s)=true:=by rw[beq_iff_eq];exact he
     have HX:Ll (ck s=1):=aa (by unfold ck;rw[HI.o,jc (k:=0) (by decide) he];rfl);clear he HI;go_wp2_with fail
     go_ret;exact⟨by rw[HX.o];rfl,MK _ _⟩
    ·have e3:(([97,100,100]:Lz) == s)=false:=by rw[MO];exact he
     have HX:Ll (dd s ew=(dd s (ew.drop 1)).map (·+1)):=aa (by rw[HI.o];exact iT (k:=0) (by decide) he);clear he HI;go_wp2_with fail
     go_round
     case rel=>exact⟨1,by omega,by go_num,HX⟩
     case measure=>simp[intOf]
   ·by_cases he:([114,101,109,111,118,101]:Lz)=s
    ·have e3:(([114,101,109,111,118,101]:Lz) == s)=true:=by rw[beq_iff_eq];exact he
     have HX:Ll (ck s=2):=aa (by unfold ck;rw[HI.o,jc (k:=1) (by decide) he];rfl);clear he HI;go_wp2_with fail
     go_ret;exact⟨by rw[HX.o];rfl,MK _ _⟩
    ·have e3:(([114,101,109,111,118,101]:Lz) == s)=false:=by rw[MO];exact he
     have HX:Ll (dd s ew=(dd s (ew.drop 2)).map (·+2)):=aa (by rw[HI.o];exact iT (k:=1) (by decide) he);clear he HI;go_wp2_with fail
     go_round
     case rel=>exact⟨2,by omega,by go_num,HX⟩
     case measure=>simp[intOf]
   ·by_cases he:([114,101,112,108,97,99,101]:Lz)=s
    ·have e3:(([114,101,112,108,97,99,101]:Lz) == s)=true:=by rw[beq_iff_eq];exact he
     have HX:Ll (ck s=3):=aa (by unfold ck;rw[HI.o,jc (k:=2) (by decide) he];rfl);clear he HI;go_wp2_with fail
     go_ret;exact⟨by rw[HX.o];rfl,MK _ _⟩
    ·have e3:(([114,101,112,108,97,99,101]:Lz) == s)=false:=by rw[MO];exact he
     have HX:Ll (dd s ew=(dd s (ew.drop 3)).map (·+3)):=aa (by rw[HI.o];exact iT (k:=2) (by decide) he);clear he HI;go_wp2_with fail
     go_round
     case rel=>exact⟨3,by omega,by go_num,HX⟩
     case measure=>simp[intOf]
   ·by_cases he:([109,111,118,101]:Lz)=s
    ·have e3:(([109,111,118,101]:Lz) == s)=true:=by rw[beq_iff_eq];exact he
     have HX:Ll (ck s=4):=aa (by unfold ck;rw[HI.o,jc (k:=3) (by decide) he];rfl);clear he HI;go_wp2_with fail
     go_ret;exact⟨by rw[HX.o];rfl,MK _ _⟩
    ·have e3:(([109,111,118,101]:Lz) == s)=false:=by rw[MO];exact he
     have HX:Ll (dd s ew=(dd s (ew.drop 4)).map (·+4)):=aa (by rw[HI.o];exact iT (k:=3) (by decide) he);clear he HI;go_wp2_with fail
     go_round
     case rel=>exact⟨4,by omega,by go_num,HX⟩
     case measure=>simp[intOf]
   ·by_cases he:([99,111,112,121]:Lz)=s
    ·have e3:(([99,111,112,121]:Lz) == s)=true:=by rw[beq_iff_eq];exact he
     have HX:Ll (ck s=5):=aa (by unfold ck;rw[HI.o,jc (k:=4) (by decide) he];rfl);clear he HI;go_wp2_with fail
     go_ret;exact⟨by rw[HX.o];rfl,MK _ _⟩
    ·have e3:(([99,111,112,121]:Lz) == s)=false:=by rw[MO];exact he
     have HX:Ll (dd s ew=(dd s (ew.drop 5)).map (·+5)):=aa (by rw[HI.o];exact iT (k:=4) (by decide) he);clear he HI;go_wp2_with fail
     go_round
     case rel=>exact⟨5,by omega,by go_num,HX⟩
     case measure=>simp[intOf]
   ·by_cases he:([116,101,115,116]:Lz)=s
    ·have e3:(([116,101,115,116]:Lz) == s)=true:=by rw[beq_iff_eq];exact he
     have HX:Ll (ck s=6):=aa (by unfold ck;rw[HI.o,jc (k:=5) (by decide) he];rfl);clear he HI;go_wp2_with fail
     go_ret;exact⟨by rw[HX.o];rfl,MK _ _⟩
    ·have e3:(([116,101,115,116]:Lz) == s)=false:=by rw[MO];exact he
     have HX:Ll (dd s ew=(dd s (ew.drop 6)).map (·+6)):=aa (by rw[HI.o];exact iT (k:=5) (by decide) he);clear he HI;go_wp2_with fail
     go_round
     case rel=>exact⟨6,by omega,by go_num,HX⟩
     case measure=>simp[intOf]
  ·have hk6:k=6:=by omega
   subst hk6;have HX:Ll (ck s=0):=aa (by unfold ck;rw[HI.o];rfl);clear HI hk hlt;go_wp2_with fail
   go_ret;exact⟨by rw[HX.o];rfl,MK _ _⟩
theorem Bt(w:LC)(ok t v key)(h:In w ok t v)(hm:aS t key=none):Calls prog 174 #[v,aR key] w fun e w'=>e=.returned (.tuple #[aR ((bt t key).getD []),.bool (bt t key).isSome])/\La w w':=by
 have H:=aa h;obtain⟨a1,b1,c1,d1,rfl⟩:=h.form;have HM:=aa hm;have HA:Ll (bt t key=none):=aa (by simp[bt,hm]);clear hm;clear h;unfold aR;have B0:=aa (ae w (.cells (KV t a1 c1 b1 d1) 35));go_enter func174,ntmps174;go_wp2_with (go_at_call 51;refine(co _ ok t _ key (by exact H.o.bel B0.o)).mono ?_;rintro e w2 ⟨xm,bm,rfl,hb,hb2,m,hy,hyz⟩;obtain⟨a5,b5,c5,d5,rfl⟩:=hy.form;rw[HM.o]at hb2 hyz;simp only[Option.isSome]at hb2;subst hb2;have Bm:=aa (show KY (w2.alloc (.cells (KV m a5 c5 b5 d5) 35)) w2.heap.size m a5 c5 b5 d5 from MN w2 _);have HB:=aa (ab B0.o (ab hb (ae w2 (.cells (KV m a5 c5 b5 d5) 35))));have m0_:=Bm.o.c;clear hb hy hyz)
 refine MM (v:=.tuple #[.string ⟨#[]⟩,.bool false]) (by simp[results,results174,go_sem]) rfl ⟨by rw[HA.o];rfl,HB.o⟩
theorem xO(w:LC)(ok t v key)(h:In w ok t v)(mm)(hm:aS t key=some mm)(hk:mm.kind≠3):Calls prog 174 #[v,aR key] w fun e w'=>e=.returned (.tuple #[aR ((bt t key).getD []),.bool (bt t key).isSome])/\La w w':=by
 have H:=aa h;obtain⟨a1,b1,c1,d1,rfl⟩:=h.form;have HM:=aa hm;have HA:Ll (bt t key=none):=aa (by simp[bt,hm,hk]);have e1:(mm.kind == 3)=false:=by simp[hk]
 have e1n:(mm.kind != 3)=true:=by simp[hk]
 clear hm hk;clear h;unfold aR;have B0:=aa (ae w (.cells (KV t a1 c1 b1 d1) 35));go_enter func174,ntmps174;go_wp2_with (go_at_call 51;refine(co _ ok t _ key (by exact H.o.bel B0.o)).mono ?_;rintro e w2 ⟨xm,bm,rfl,hb,hb2,m,hy,hyz⟩;obtain⟨a5,b5,c5,d5,rfl⟩:=hy.form;rw[HM.o]at hb2 hyz;simp only[Option.isSome]at hb2;subst hb2;obtain rfl:=hyz _ rfl;have Bm:=aa (show KY (w2.alloc (.cells (KV m a5 c5 b5 d5) 35)) w2.heap.size m a5 c5 b5 d5 from MN w2 _);have HB:=aa (ab B0.o (ab hb (ae w2 (.cells (KV m a5 c5 b5 d5) 35))));have m0_:=Bm.o.c;clear hb hy hyz)
 refine MM (v:=.tuple #[.string ⟨#[]⟩,.bool false]) (by simp[results,results174,go_sem]) rfl ⟨by rw[HA.o];rfl,HB.o⟩
theorem Cm(w:LC)(ok t v key)(h:In w ok t v)(mm)(hm:aS t key=some mm)(hk:mm.kind=3):Calls prog 174 #[v,aR key] w fun e w'=>e=.returned (.tuple #[aR ((bt t key).getD []),.bool (bt t key).isSome])/\La w w':=by
 have H:=aa h;obtain⟨a1,b1,c1,d1,rfl⟩:=h.form;have HM:=aa hm;have HA:Ll (bt t key=some mm.s):=aa (by simp[bt,hm,hk]);have e1:(mm.kind == 3)=true:=by simp[hk]
 have e1n:(mm.kind != 3)=false:=by simp[hk]
 clear hm hk;clear h;unfold aR;have B0:=aa (ae w (.cells (KV t a1 c1 b1 d1) 35));go_enter func174,ntmps174;go_wp2_with (go_at_call 51;refine(co _ ok t _ key (by exact H.o.bel B0.o)).mono ?_;rintro e w2 ⟨xm,bm,rfl,hb,hb2,m,hy,hyz⟩;obtain⟨a5,b5,c5,d5,rfl⟩:=hy.form;rw[HM.o]at hb2 hyz;simp only[Option.isSome]at hb2;subst hb2;obtain rfl:=hyz _ rfl;have Bm:=aa (show KY (w2.alloc (.cells (KV m a5 c5 b5 d5) 35)) w2.heap.size m a5 c5 b5 d5 from MN w2 _);have HB:=aa (ab B0.o (ab hb (ae w2 (.cells (KV m a5 c5 b5 d5) 35))));have m0_:=Bm.o.c;clear hb hy hyz)
 refine MM (v:=.tuple #[.string ⟨m.s.toArray⟩,.bool true]) (by simp[results,results174,go_sem]) rfl ⟨by rw[HA.o];rfl,HB.o⟩
theorem eQ(w:LC)(ok t v key)(h:In w ok t v):Calls prog 174 #[v,aR key] w fun e w'=>e=.returned (.tuple #[aR ((bt t key).getD []),.bool (bt t key).isSome])/\La w w':=by
 cases hm:aS t key with
 | none=>exact Bt w ok t v key h hm
 | some m=>
  by_cases hk:m.kind=3
  ·exact Cm w ok t v key h m hm hk
  ·exact xO w ok t v key h m hm hk
variable {ok:Nat->Prop}
variable {t:V}
variable {g:Nat}
def iE (w:LC) (g:Nat) (u0 u1 u2 v0 v1 v2 v3 v4:Value):Prop:=w.heap[g]?=some (.cells #[u0,u1,u2,v0,v1,v2,v3,v4] 180)
theorem iE.c{u0 u1 u2 v0 v1 v2 v3 v4}(h:iE w g u0 u1 u2 v0 v1 v2 v3 v4):(w.cell? ⟨g,0,none⟩=some u0/\w.cell? ⟨g,1,none⟩=some u1/\w.cell? ⟨g,2,none⟩=some u2/\w.cell? ⟨g,3,none⟩=some v0/\w.cell? ⟨g,4,none⟩=some v1/\w.cell? ⟨g,5,none⟩=some v2/\w.cell? ⟨g,6,none⟩=some v3/\w.cell? ⟨g,7,none⟩=some v4)/\∀ i,w.frozen? ⟨g,i,none⟩=false:=by
 unfold iE at h;refine⟨⟨?_,?_,?_,?_,?_,?_,?_,?_⟩,fun i=>?_⟩ <;> simp[World.cell?,World.frozen?,h]
theorem iE.bel{u0 u1 u2 v0 v1 v2 v3 v4}(h:iE w g u0 u1 u2 v0 v1 v2 v3 v4)(hb:La w w'):iE w' g u0 u1 u2 v0 v1 v2 v3 v4:=(hb.block g (MF.1 h).1).trans h
def qM (w:LC) (g:Nat) (u0 u1 u2 v0 v1 v2 v3 v4:Value):LC:=
 (((((((w.setCell ⟨g,0,none⟩ u0).setCell ⟨g,1,none⟩ u1).setCell ⟨g,2,none⟩ u2).setCell ⟨g,3,none⟩ v0).setCell ⟨g,4,none⟩ v1).setCell ⟨g,5,none⟩ v2).setCell ⟨g,6,none⟩ v3).setCell ⟨g,7,none⟩ v4
theorem Ah(w:LC)(g u0 u1 u2 v0 v1 v2 v3 v4):w.grownBy (qM w g u0 u1 u2 v0 v1 v2 v3 v4) (some g):=ap (ap (ap (ap (ap (ap (ap (ap (az _ _) _ _) _ _) _ _) _ _) _ _) _ _) _ _) _ _
theorem iE.set{u0 u1 u2 v0 v1 v2 v3 v4}(h:iE w g u0 u1 u2 v0 v1 v2 v3 v4)(s0 s1 s2 x0 x1 x2 x3 x4):iE (qM w g s0 s1 s2 x0 x1 x2 x3 x4) g s0 s1 s2 x0 x1 x2 x3 x4:=by
 unfold iE at h ⊢;unfold qM;have e:=ak (ak (ak (ak (ak (ak (ak (ak h 0 s0) 1 s1) 2 s2) 3 x0) 4 x1) 5 x2) 6 x3) 7 x4;simpa using e
theorem iQ{a}(h:La a w)(hg:a.heap.size<=g)(u0 u1 u2 v0 v1 v2 v3 v4):La a (qM w g u0 u1 u2 v0 v1 v2 v3 v4):=bS (lC (aq h) (Ah w g u0 u1 u2 v0 v1 v2 v3 v4) hg)
theorem iE.grown{u0 u1 u2 v0 v1 v2 v3 v4 r}(h:iE w g u0 u1 u2 v0 v1 v2 v3 v4)(hg:w.grownBy w' r)(hr:some g≠r):iE w' g u0 u1 u2 v0 v1 v2 v3 v4:=(hg.block g (MF.1 h).1 hr).trans h
def OD (w:LC) (t:V) (a1 b1:Option Addr) (c1 d1:Nat) (wS:LC):Prop:=KY wS w.heap.size t a1 c1 b1 d1/\iE wS (w.heap.size+1) (.int .i64 0) (.string ⟨#[]⟩) (.string ⟨#[]⟩) (.int .i64 0) (.int .i64 0) (.string ⟨#[]⟩) (.slice none 0 0) (.slice none 0 0)/\La w wS
theorem OD.bel{wS:LC}{a1 b1 c1 d1}(h:OD w t a1 b1 c1 d1 wS)(hb:La wS w'):OD w t a1 b1 c1 d1 w':=⟨af hb h.1,h.2.1.bel hb,ab h.2.2 hb⟩
theorem OD.big{wS:LC}{a1 b1 c1 d1}(h:OD w t a1 b1 c1 d1 wS):w.heap.size+1 < wS.heap.size:=(MF.1 h.2.1).1
theorem OD.grown{wS:LC}{a1 b1 c1 d1}(h:OD w t a1 b1 c1 d1 wS)(hg:wS.grownBy w' (some g))(hr:w.heap.size+2<=g):OD w t a1 b1 c1 d1 w':=by
 have hbig:=h.big;refine⟨h.1.grown hg (by simp;omega),h.2.1.grown hg (by simp;omega),?_⟩;have hb:=h.2.2;exact⟨hg.os.trans hb.os,hg.tape.trans hb.tape,hg.output.trans hb.output,MH hb.size hg.size,fun j hj=>(hg.block j (by omega) (fun e=>by cases e;omega)).trans (hb.block j hj)⟩
def Iz (w:LC) (ok:Nat->Prop) (t:V) (e:Ending) (w':LC):Prop:=∃ (o:jf) (a7 a8:Option Addr) (c7 c8:Nat),e=.returned (.tuple #[.agg (Lg o a7 c7 a8 c8),.bool (oF t).isSome])/\In w' ok o.value (.agg (KV o.value a7 c7 a8 c8))/\(∀ z,oF t=some z->o=z)/\La w w'
theorem qr(hb:La w w')(h:oF t=none):Iz w ok t (.returned (.tuple #[.agg Lh,.bool false])) w':=
 ⟨⟨0,[],[],aM⟩,none,none,0,0,by rw[h];rfl,fG _ _,fun z hz=>(by rw[h]at hz;cases hz),hb⟩
theorem Lx(w ok t v)(h:In w ok t v)(h0:∀ k,ok k->k < w.heap.size)(hG:di w):Calls prog 142 #[v] w (Iz w ok t):=by
 have H:=aa h;have GG:=aa hG;have H0:=aa h0;obtain⟨a1,b1,c1,d1,rfl⟩:=h.form;have K0:Ll (OD w t a1 b1 c1 d1 ((w.alloc (.cells (KV t a1 c1 b1 d1) 35)).alloc (.cells Lh 180))):=aa ⟨fb w _ _,et w _ _,ab (ae _ _) (ae _ _)⟩;clear h hG h0;obtain⟨om,hom⟩:∃ o,aS t yy=o:=⟨_,rfl⟩
 obtain⟨og,hog⟩:∃ o,bt t Ec=o:=⟨_,rfl⟩
 obtain⟨i1,hi1⟩:∃ b,(bt t nL).isSome=b:=⟨_,rfl⟩
 obtain⟨i2,hi2⟩:∃ b,(bt t ea).isSome=b:=⟨_,rfl⟩
 obtain⟨u1,hu1⟩:∃ u,(bt t nL).getD []=u:=⟨_,rfl⟩
 obtain⟨u2,hu2⟩:∃ u,(bt t ea).getD []=u:=⟨_,rfl⟩
 obtain⟨kk,hkk⟩:∃ k,ck u1=k:=⟨_,rfl⟩
 obtain⟨fr,hfr⟩:∃ f,og.getD []=f:=⟨_,rfl⟩
 have cs:((i1=false\/i1=true/\i2=false\/i1=true/\i2=true/\(kk == 0)=true)/\Ll (oF t=none)) \/
  ((i1=true/\i2=true)/\(((kk == 0)=false/\(kk == 1)=true)\/((kk == 0)=false/\(kk == 1)=false/\(kk == 3)=true)\/((kk == 0)=false/\(kk == 1)=false/\(kk == 3)=false/\(kk == 6)=true))/\Ll (oF t=om.map fun y=>⟨kk,u2,[],y⟩)) \/
  ((i1=true/\i2=true)/\(((kk == 0)=false/\(kk == 1)=false/\(kk == 3)=false/\(kk == 6)=false/\(kk == 4)=true)\/((kk == 0)=false/\(kk == 1)=false/\(kk == 3)=false/\(kk == 6)=false/\(kk == 4)=false/\(kk == 5)=true))/\Ll (oF t=og.map fun y=>⟨kk,u2,y,aM⟩)) \/
  ((i1=true/\i2=true)/\((kk == 0)=false/\(kk == 1)=false/\(kk == 3)=false/\(kk == 6)=false/\(kk == 4)=false/\(kk == 5)=false)/\Ll (oF t=some ⟨kk,u2,[],aM⟩)):=by
  cases h1:bt t nL with
  | none=>exact .inl ⟨.inl (by rw[<-hi1,h1];rfl),aa (by simp[oF,h1])⟩
  | some wd=>
   have e1:i1=true:=by rw[<-hi1,h1];rfl
   cases h2:bt t ea with
   | none=>exact .inl ⟨.inr (.inl ⟨e1,by rw[<-hi2,h2];rfl⟩),aa (by simp[oF,h1,h2])⟩
   | some p=>
    have e2:i2=true:=by rw[<-hi2,h2];rfl
    have hw:u1=wd:=by rw[<-hu1,h1];rfl
    have hq:u2=p:=by rw[<-hu2,h2];rfl
    subst hw hq;rcases pm u1 with hk | hk | hk | hk | hk | hk | hk <;> rw[hkk]at hk <;> subst hk
    ·exact .inl ⟨.inr (.inr ⟨e1,e2,rfl⟩),aa (by simp[oF,h1,h2,hkk])⟩
    ·exact .inr (.inl ⟨⟨e1,e2⟩,.inl ⟨rfl,rfl⟩,aa (by rw[<-hom];cases hm:aS t yy <;> simp[oF,h1,h2,hkk,hm])⟩)
    ·exact .inr (.inr (.inr ⟨⟨e1,e2⟩,⟨rfl,rfl,rfl,rfl,rfl,rfl⟩,aa (by simp[oF,h1,h2,hkk])⟩))
    ·exact .inr (.inl ⟨⟨e1,e2⟩,.inr (.inl ⟨rfl,rfl,rfl⟩),aa (by rw[<-hom];cases hm:aS t yy <;> simp[oF,h1,h2,hkk,hm])⟩)
    ·exact .inr (.inr (.inl ⟨⟨e1,e2⟩,.inl ⟨rfl,rfl,rfl,rfl,rfl⟩,aa (by rw[<-hog];cases hm:bt t Ec <;> simp[oF,h1,h2,hkk,hm])⟩))
    ·exact .inr (.inr (.inl ⟨⟨e1,e2⟩,.inr ⟨rfl,rfl,rfl,rfl,rfl,rfl⟩,aa (by rw[<-hog];cases hm:bt t Ec <;> simp[oF,h1,h2,hkk,hm])⟩))
    ·exact .inr (.inl ⟨⟨e1,e2⟩,.inr (.inr ⟨rfl,rfl,rfl,rfl⟩),aa (by rw[<-hom];cases hm:aS t yy <;> simp[oF,h1,h2,hkk,hm])⟩)
 have HM:=aa hom;have HG:=aa hog;have T1:=aa hi1;have T2:=aa hi2;have U1:=aa hu1;have U2:=aa hu2;have UK:=aa hkk;have FR:=aa hfr;clear hom hog hi1 hi2 hu1 hu2 hkk hfr;go_enter func142,ntmps142;go_upto_region 2 with (go_at_call 174;refine Lk (eQ _ ok t _ nL (by exact H.o.bel K0.o.2.2)) fun w1 hb=>?_;unfold aR;have K1:=aa (K0.o.bel hb);have t0_:=K1.o.1.c;rw[U1.o,T1.o];clear hb)
 go_upto_region 3 with (go_at_call 174;refine Lk (eQ _ ok t _ ea (by exact H.o.bel K1.o.2.2)) fun w2 hb=>?_;unfold aR;have K2:=aa (K1.o.bel hb);have t0_:=K2.o.1.c;rw[U2.o,T2.o];clear hb)
 go_upto_region 4 with (go_at_call 175;refine Lk (gW _ _ (by exact GG.o.bel K2.o.2.2)) fun w3 hb=>?_;have K3:=aa (K2.o.bel hb);have t0_:=K3.o.1.c;rw[UK.o];clear hb)
 rcases cs with⟨cs,HA⟩ | ⟨⟨rfl,rfl⟩,gg,HA⟩ | ⟨⟨rfl,rfl⟩,gg,HA⟩ | ⟨⟨rfl,rfl⟩,⟨q0,q1,q2,q3,q4,q5⟩,HA⟩
 ·rcases cs with rfl | ⟨rfl,rfl⟩ | ⟨rfl,rfl,q0⟩
  all_goals
   obtain⟨⟨o0,o1,o2,o3,o4,o5,o6,o7⟩,of⟩:=K3.o.2.1.c;have f0:=of 0;have f1:=of 1;have f2:=of 2;have f3:=of 3;have f4:=of 4;have f5:=of 5;have f6:=of 6;have f7:=of 7;clear of;have ZB:=aa (K3.o.2.1.set (.int .i64 0) (.string ⟨#[]⟩) (.string ⟨#[]⟩) (.int .i64 0) (.int .i64 0) (.string ⟨#[]⟩) (.slice none 0 0) (.slice none 0 0));have ZL:=aa (iQ K3.o.2.2 (Nat.le_succ w.heap.size) (.int .i64 0) (.string ⟨#[]⟩) (.string ⟨#[]⟩) (.int .i64 0) (.int .i64 0) (.string ⟨#[]⟩) (.slice none 0 0) (.slice none 0 0));go_wp2_with fail
   obtain⟨⟨z0,z1,z2,z3,z4,z5,z6,z7⟩,-⟩:=ZB.o.c;refine MM (v:=.tuple #[.agg Lh,.bool false]) ?_ rfl (qr (by exact ZL.o) HA.o);simp only[qM]at z0 z1 z2 z3 z4 z5 z6 z7;simp[results,results142,go_sem,z0,z1,z2,z3,z4,z5,z6,z7]
 ·rcases gg with⟨q0,q1⟩ | ⟨q0,q1,q2⟩ | ⟨q0,q1,q2,q3⟩
  all_goals
   have N3:Ll (iE (w3.alloc (.cells #[.int .i64 kk,.string ⟨u2.toArray⟩,.string ⟨#[]⟩,.int .i64 0,.int .i64 0,.string ⟨#[]⟩,.slice none 0 0,.slice none 0 0] 180)) w3.heap.size (.int .i64 kk) (.string ⟨u2.toArray⟩) (.string ⟨#[]⟩) (.int .i64 0) (.int .i64 0) (.string ⟨#[]⟩) (.slice none 0 0) (.slice none 0 0)):=MN w3 _;have K4:=aa (K3.o.bel (ae w3 (.cells #[.int .i64 kk,.string ⟨u2.toArray⟩,.string ⟨#[]⟩,.int .i64 0,.int .i64 0,.string ⟨#[]⟩,.slice none 0 0,.slice none 0 0] 180)));have hbig:=K3.o.big;have t0_:=K4.o.1.c;go_upto_region 16 with (go_at_call 51;refine(co _ ok t _ yy (by exact H.o.bel K4.o.2.2)).mono ?_;rintro e w5 ⟨xm,bm,rfl,hb,hb2,y,hy,hyz⟩;obtain⟨a5,b5,c5,d5,rfl⟩:=hy.form;rw[HM.o]at hb2 hyz;subst hb2;have HY:=aa hyz;have Y5:=aa hy;have K5:=aa (K4.o.bel hb);have N5:=aa (N3.o.bel hb);obtain⟨⟨n0,n1,n2,n3,n4,n5,n6,n7⟩,nf⟩:=N5.o.c;have nf3:=nf 3;have nf4:=nf 4;have nf5:=nf 5;have nf6:=nf 6;have nf7:=nf 7;clear nf hb hy hyz)
   obtain⟨W6,hW6⟩:∃ W,(((((w5.setCell ⟨w3.heap.size,3,none⟩ (.int .i64 y.kind)).setCell ⟨w3.heap.size,4,none⟩ (.int .i64 y.n)).setCell ⟨w3.heap.size,5,none⟩ (.string ⟨y.s.toArray⟩)).setCell ⟨w3.heap.size,6,none⟩ (.slice a5 y.keys.length c5)).setCell ⟨w3.heap.size,7,none⟩ (.slice b5 y.l.length d5))=W:=⟨_,rfl⟩
   rw[hW6];have g6:w5.grownBy W6 (some w3.heap.size):=by rw[<-hW6];exact ap (ap (ap (ap (ap (az _ _) _ _) _ _) _ _) _ _) _ _
   have K6:=aa (K5.o.grown g6 (by omega));have N6:Ll (iE W6 w3.heap.size (.int .i64 kk) (.string ⟨u2.toArray⟩) (.string ⟨#[]⟩) (.int .i64 y.kind) (.int .i64 y.n) (.string ⟨y.s.toArray⟩) (.slice a5 y.keys.length c5) (.slice b5 y.l.length d5)):=aa (by
    rw[<-hW6];have e:=ak (ak (ak (ak (ak N5.o 3 (.int .i64 y.kind)) 4 (.int .i64 y.n)) 5 (.string ⟨y.s.toArray⟩)) 6 (.slice a5 y.keys.length c5)) 7 (.slice b5 y.l.length d5);unfold iE;simpa using e)
   have Y6:Ll (In W6 ok y (.agg (KV y a5 c5 b5 d5))):=Y5.o.grown g6 (fun k hk=>by have:=H0.o k hk;omega);clear hW6 g6 nf3 nf4 nf5 nf6 nf7;obtain⟨⟨n0,n1,n2,n3,n4,n5,n6,n7⟩,-⟩:=N6.o.c;obtain⟨⟨o0,o1,o2,o3,o4,o5,o6,o7⟩,of⟩:=K6.o.2.1.c;have f0:=of 0;have f1:=of 1;have f2:=of 2;have f3:=of 3;have f4:=of 4;have f5:=of 5;have f6:=of 6;have f7:=of 7;clear of;have ZB:=aa (LH (K6.o.2.1.set (.int .i64 kk) (.string ⟨u2.toArray⟩) (.string ⟨#[]⟩)) y a5 c5 b5 d5);have ZL:=aa (iQ K6.o.2.2 (Nat.le_succ w.heap.size) (.int .i64 kk) (.string ⟨u2.toArray⟩) (.string ⟨#[]⟩) (.int .i64 y.kind) (.int .i64 y.n) (.string ⟨y.s.toArray⟩) (.slice a5 y.keys.length c5) (.slice b5 y.l.length d5));go_wp2_with fail
   obtain⟨⟨z0,z1,z2,z3,z4,z5,z6,z7⟩,-⟩:=ZB.o.c;refine MM (v:=.tuple #[.agg #[.int .i64 kk,.string ⟨u2.toArray⟩,.string ⟨#[]⟩,.int .i64 y.kind,.int .i64 y.n,.string ⟨y.s.toArray⟩,.slice a5 y.keys.length c5,.slice b5 y.l.length d5],.bool om.isSome]) ?_ rfl ?_
   ·simp only[qM]at z0 z1 z2 z3 z4 z5 z6 z7;simp[results,results142,go_sem,z0,z1,z2,z3,z4,z5,z6,z7]
   ·exact⟨⟨kk,u2,[],y⟩,a5,b5,c5,d5,by rw[HA.o,Option.isSome_map],Y6.o.grown (Ah _ _ _ _ _ _ _ _ _ _) (fun k hk=>by have:=H0.o k hk;omega),fun z hz=>(by rw[HA.o]at hz;obtain⟨z1,e1,e2⟩:=Option.map_eq_some_iff.1 hz;rw[<-e2,HY.o z1 e1]),by exact ZL.o⟩
 ·rcases gg with⟨q0,q1,q2,q3,q4⟩ | ⟨q0,q1,q2,q3,q4,q5⟩
  all_goals
   have N3:Ll (iE (w3.alloc (.cells #[.int .i64 kk,.string ⟨u2.toArray⟩,.string ⟨#[]⟩,.int .i64 0,.int .i64 0,.string ⟨#[]⟩,.slice none 0 0,.slice none 0 0] 180)) w3.heap.size (.int .i64 kk) (.string ⟨u2.toArray⟩) (.string ⟨#[]⟩) (.int .i64 0) (.int .i64 0) (.string ⟨#[]⟩) (.slice none 0 0) (.slice none 0 0)):=MN w3 _;have K4:=aa (K3.o.bel (ae w3 (.cells #[.int .i64 kk,.string ⟨u2.toArray⟩,.string ⟨#[]⟩,.int .i64 0,.int .i64 0,.string ⟨#[]⟩,.slice none 0 0,.slice none 0 0] 180)));have hbig:=K3.o.big;have t0_:=K4.o.1.c;go_upto_region 16 with (go_at_call 174;refine Lk (eQ _ ok t _ Ec (by exact H.o.bel K4.o.2.2)) fun w5 hb=>?_;unfold aR;rw[HG.o];have K5:=aa (K4.o.bel hb);have N5:=aa (N3.o.bel hb);obtain⟨⟨n0,n1,n2,n3,n4,n5,n6,n7⟩,nf⟩:=N5.o.c;have nf2:=nf 2;rw[FR.o];clear nf hb)
   obtain⟨W6,hW6⟩:∃ W,(w5.setCell ⟨w3.heap.size,2,none⟩ (.string ⟨fr.toArray⟩))=W:=⟨_,rfl⟩
   rw[hW6];have g6:w5.grownBy W6 (some w3.heap.size):=by rw[<-hW6];exact ap (az _ _) _ _
   have K6:=aa (K5.o.grown g6 (by omega));have N6:Ll (iE W6 w3.heap.size (.int .i64 kk) (.string ⟨u2.toArray⟩) (.string ⟨fr.toArray⟩) (.int .i64 0) (.int .i64 0) (.string ⟨#[]⟩) (.slice none 0 0) (.slice none 0 0)):=aa (by rw[<-hW6];exact ak N5.o 2 _);clear hW6 g6 nf2;obtain⟨⟨n0,n1,n2,n3,n4,n5,n6,n7⟩,-⟩:=N6.o.c;obtain⟨⟨o0,o1,o2,o3,o4,o5,o6,o7⟩,of⟩:=K6.o.2.1.c;have f0:=of 0;have f1:=of 1;have f2:=of 2;have f3:=of 3;have f4:=of 4;have f5:=of 5;have f6:=of 6;have f7:=of 7;clear of;have ZB:=aa (K6.o.2.1.set (.int .i64 kk) (.string ⟨u2.toArray⟩) (.string ⟨fr.toArray⟩) (.int .i64 0) (.int .i64 0) (.string ⟨#[]⟩) (.slice none 0 0) (.slice none 0 0));have ZL:=aa (iQ K6.o.2.2 (Nat.le_succ w.heap.size) (.int .i64 kk) (.string ⟨u2.toArray⟩) (.string ⟨fr.toArray⟩) (.int .i64 0) (.int .i64 0) (.string ⟨#[]⟩) (.slice none 0 0) (.slice none 0 0));go_wp2_with fail
   obtain⟨⟨z0,z1,z2,z3,z4,z5,z6,z7⟩,-⟩:=ZB.o.c;refine MM (v:=.tuple #[.agg #[.int .i64 kk,.string ⟨u2.toArray⟩,.string ⟨fr.toArray⟩,.int .i64 0,.int .i64 0,.string ⟨#[]⟩,.slice none 0 0,.slice none 0 0],.bool og.isSome]) ?_ rfl ?_
   ·simp only[qM]at z0 z1 z2 z3 z4 z5 z6 z7;simp[results,results142,go_sem,z0,z1,z2,z3,z4,z5,z6,z7]
   ·exact⟨⟨kk,u2,fr,aM⟩,none,none,0,0,by rw[HA.o,Option.isSome_map];rfl,fG _ _,fun z hz=>(by rw[HA.o]at hz;obtain⟨z1,e1,e2⟩:=Option.map_eq_some_iff.1 hz;rw[<-e2,<-FR.o,e1];rfl),by exact ZL.o⟩
 ·have N3:Ll (iE (w3.alloc (.cells #[.int .i64 kk,.string ⟨u2.toArray⟩,.string ⟨#[]⟩,.int .i64 0,.int .i64 0,.string ⟨#[]⟩,.slice none 0 0,.slice none 0 0] 180)) w3.heap.size (.int .i64 kk) (.string ⟨u2.toArray⟩) (.string ⟨#[]⟩) (.int .i64 0) (.int .i64 0) (.string ⟨#[]⟩) (.slice none 0 0) (.slice none 0 0)):=MN w3 _;have K4:=aa (K3.o.bel (ae w3 (.cells #[.int .i64 kk,.string ⟨u2.toArray⟩,.string ⟨#[]⟩,.int .i64 0,.int .i64 0,.string ⟨#[]⟩,.slice none 0 0,.slice none 0 0] 180)));have hbig:=K3.o.big;go_upto_region 16 with fail
  obtain⟨W6,hW6⟩:∃ W,w3.alloc (.cells #[.int .i64 kk,.string ⟨u2.toArray⟩,.string ⟨#[]⟩,.int .i64 0,.int .i64 0,.string ⟨#[]⟩,.slice none 0 0,.slice none 0 0] 180)=W:=⟨_,rfl⟩
  rw[hW6]at N3 K4 ⊢;clear hW6;obtain⟨⟨n0,n1,n2,n3,n4,n5,n6,n7⟩,-⟩:=N3.o.c;obtain⟨⟨o0,o1,o2,o3,o4,o5,o6,o7⟩,of⟩:=K4.o.2.1.c;have f0:=of 0;have f1:=of 1;have f2:=of 2;have f3:=of 3;have f4:=of 4;have f5:=of 5;have f6:=of 6;have f7:=of 7;clear of;have ZB:=aa (K4.o.2.1.set (.int .i64 kk) (.string ⟨u2.toArray⟩) (.string ⟨#[]⟩) (.int .i64 0) (.int .i64 0) (.string ⟨#[]⟩) (.slice none 0 0) (.slice none 0 0));have ZL:=aa (iQ K4.o.2.2 (Nat.le_succ w.heap.size) (.int .i64 kk) (.string ⟨u2.toArray⟩) (.string ⟨#[]⟩) (.int .i64 0) (.int .i64 0) (.string ⟨#[]⟩) (.slice none 0 0) (.slice none 0 0));go_wp2_with fail
  obtain⟨⟨z0,z1,z2,z3,z4,z5,z6,z7⟩,-⟩:=ZB.o.c;refine MM (v:=.tuple #[.agg #[.int .i64 kk,.string ⟨u2.toArray⟩,.string ⟨#[]⟩,.int .i64 0,.int .i64 0,.string ⟨#[]⟩,.slice none 0 0,.slice none 0 0],.bool true]) ?_ rfl ?_
  ·simp only[qM]at z0 z1 z2 z3 z4 z5 z6 z7;simp[results,results142,go_sem,z0,z1,z2,z3,z4,z5,z6,z7]
  ·exact⟨⟨kk,u2,[],aM⟩,none,none,0,0,by rw[HA.o];rfl,fG _ _,fun z hz=>(by rw[HA.o]at hz;cases hz;rfl),by exact ZL.o⟩
theorem lZ(w:LC)(ok t v)(h:In w ok t v)(hG:di w):Calls prog 142 #[v] w (Iz w ok t):=by
 have key:Calls prog 142 #[v] w (Iz w (Lj ok w) t):=by
  replace h:=h.low;have h0:∀ k,(Lj ok w) k->k < w.heap.size:=fun k hk=>hk.2;exact Lx w _ t v h h0 hG
 refine key.mono ?_;rintro e w' ⟨o,a7,a8,c7,c8,e1,e2,e3,e4⟩;exact⟨o,a7,a8,c7,c8,e1,e2.weak fun k hk=>hk.1,e3,e4⟩
variable {ok':Nat->Prop}
variable {n i:Nat}
def kV {α:Type} (f:V->Option α):List V->Option (List α)
 | []=>some []
 | x :: l=>match f x,kV f l with
  | some a,some b=>some (a :: b)
  | _,_=>none
theorem Ch{α:Type}{f:V->Option α}{l:List V}(h:k < l.length){xs:List α}(hx:kV f (l.take k)=some xs){x:α}(hr:f l[k]=some x):kV f (l.take (k+1))=some (xs++[x]):=by
 induction l generalizing k xs with
 | nil=>simp at h
 | cons y l ih=>
  cases k with
  | zero=>
   simp at hr hx ⊢;simp[kV]at hx;subst hx;simp[kV,hr]
  | succ k=>
   simp only[List.take_succ_cons,kV]at hx ⊢;simp only[List.getElem_cons_succ]at hr;cases hy:f y with
   | none=>rw[hy]at hx;simp at hx
   | some a=>
    rw[hy]at hx;cases hq:kV f (l.take k) with
    | none=>rw[hq]at hx;simp at hx
    | some b=>
     rw[hq]at hx;simp at hx;subst hx;rw[ih (by simpa using h) hq hr];simp
theorem Bi{α:Type}{f:V->Option α}{l}(h:k < l.length)(hr:f l[k]=none):kV f l=none:=by
 induction l generalizing k with
 | nil=>simp at h
 | cons y l ih=>
  cases k with
  | zero=>simp at hr;simp[kV,hr]
  | succ k=>
   have:=ih (k:=k) (by simpa using h) (by simpa using hr);simp only[kV,this];cases f y <;> rfl
theorem Ez{α:Type}{f:V->Option α}{l}{xs:List α}(h:kV f (l.take k)=some xs)(hk:¬k < l.length):kV f l=some xs:=by rwa [MD (by omega)]at h
def cU (t:V):List jf × Int:=if t.kind≠4\/aE t=false then ([],1) else if 20 < t.l.length then ([],2) else match kV oF t.l with | some os=>(os,0) | none=>([],1)
theorem pf(h:dz t){key s}(hs:bt t key=some s):s.length<=140737488351232:=by
 unfold bt at hs;split at hs
 ·rename_i x hx;split at hs
  ·rename_i hk;cases hs;have hn:=fp (gC h (lG hx));unfold ce at hn;rw[hk]at hn;simp[eK]at hn;omega
  ·cases hs
 ·cases hs
theorem IM(h:dz t){o:jf}(ho:oF t=some o):dW o.kind/\o.path.length<=140737488351232/\o.frm.length<=140737488351232:=by
 unfold oF at ho;split at ho
 ·rename_i wd p h1 h2;have hp:=pf h h2;have hk:=pm wd;split at ho
  ·cases ho
  ·split at ho
   ·obtain⟨y,-,rfl⟩:=Option.map_eq_some_iff.1 ho;exact⟨by unfold dW;simp only;omega,hp,by simp⟩
   ·split at ho
    ·obtain⟨f,hf,rfl⟩:=Option.map_eq_some_iff.1 ho;exact⟨by unfold dW;simp only;omega,hp,pf h hf⟩
    ·cases ho;exact⟨by unfold dW;simp only;omega,hp,by simp⟩
 ·cases ho
def lQ (w:LC) (ok:Nat->Prop) (R n:Nat) (os:List jf):Prop:=∃ cs:Array Value,w.heap[R]?=some (.cells cs 180)/\cs.size=n * 8/\∀ i o,os[i]?=some o->(dW o.kind/\o.path.length<=140737488351232/\o.frm.length<=140737488351232)/\∃ (a7 a8:Option Addr) (c7 c8:Nat),(cs[i * 8]?=some (.int .i64 o.kind)/\cs[i * 8+1]?=some (.string ⟨o.path.toArray⟩)/\cs[i * 8+2]?=some (.string ⟨o.frm.toArray⟩)/\cs[i * 8+3]?=some (.int .i64 o.value.kind)/\cs[i * 8+4]?=some (.int .i64 o.value.n)/\cs[i * 8+5]?=some (.string ⟨o.value.s.toArray⟩)/\cs[i * 8+6]?=some (.slice a7 o.value.keys.length c7)/\cs[i * 8+7]?=some (.slice a8 o.value.l.length c8))/\In w ok o.value (.agg (KV o.value a7 c7 a8 c8))
theorem lQ.bel{R}{os:List jf}(h:lQ w ok R n os)(hb:La w w'):lQ w' ok R n os:=by
 obtain⟨cs,h1,h2,h3⟩:=h;refine⟨cs,(hb.block R (MF.1 h1).1).trans h1,h2,fun i o ho=>?_⟩;obtain⟨g,a7,a8,c7,c8,q,hi⟩:=h3 i o ho;exact⟨g,a7,a8,c7,c8,q,hi.bel hb⟩
theorem lQ.at{R}{os:List jf}(h:lQ w ok R n os)(hk:k < n):(∃ u,w.cell? ⟨R,k * 8,none⟩=some u)/\(∃ u,w.cell? ⟨R,k * 8+1,none⟩=some u)/\(∃ u,w.cell? ⟨R,k * 8+2,none⟩=some u)/\(∃ u,w.cell? ⟨R,k * 8+3,none⟩=some u)/\(∃ u,w.cell? ⟨R,k * 8+4,none⟩=some u)/\(∃ u,w.cell? ⟨R,k * 8+5,none⟩=some u)/\(∃ u,w.cell? ⟨R,k * 8+6,none⟩=some u)/\(∃ u,w.cell? ⟨R,k * 8+7,none⟩=some u)/\∀ i,w.frozen? ⟨R,i,none⟩=false:=by
 obtain⟨cs,h1,h2,h3⟩:=h;have key:∀ j,j < cs.size->∃ u,w.cell? ⟨R,j,none⟩=some u:=fun j hj=>⟨cs[j],by simp[World.cell?,h1,Array.getElem?_eq_getElem hj]⟩
 exact⟨key _ (by omega),key _ (by omega),key _ (by omega),key _ (by omega),key _ (by omega),key _ (by omega),key _ (by omega),key _ (by omega),fun i=>by simp[World.frozen?,h1]⟩
def wO (w:LC) (g i:Nat) (u0 u1 u2 v0 v1 v2 v3 v4:Value):LC:=
 (((((((w.setCell ⟨g,i,none⟩ u0).setCell ⟨g,i+1,none⟩ u1).setCell ⟨g,i+2,none⟩ u2).setCell ⟨g,i+3,none⟩ v0).setCell ⟨g,i+4,none⟩ v1).setCell ⟨g,i+5,none⟩ v2).setCell ⟨g,i+6,none⟩ v3).setCell ⟨g,i+7,none⟩ v4
theorem uW(w:LC)(g i u0 u1 u2 v0 v1 v2 v3 v4):w.grownBy (wO w g i u0 u1 u2 v0 v1 v2 v3 v4) (some g):=ap (ap (ap (ap (ap (ap (ap (ap (az _ _) _ _) _ _) _ _) _ _) _ _) _ _) _ _) _ _
theorem fm{cs:Array Value}{j u0 u1 u2 v0 v1 v2 v3 v4}(h:j < i\/i+8<=j):((((((((cs.setIfInBounds i u0).setIfInBounds (i+1) u1).setIfInBounds (i+2) u2).setIfInBounds (i+3) v0).setIfInBounds (i+4) v1).setIfInBounds (i+5) v2).setIfInBounds (i+6) v3).setIfInBounds (i+7) v4)[j]?=cs[j]?:=by
 rw[Array.getElem?_setIfInBounds_ne (by omega),Array.getElem?_setIfInBounds_ne (by omega),Array.getElem?_setIfInBounds_ne (by omega),Array.getElem?_setIfInBounds_ne (by omega),Array.getElem?_setIfInBounds_ne (by omega),Array.getElem?_setIfInBounds_ne (by omega),Array.getElem?_setIfInBounds_ne (by omega),Array.getElem?_setIfInBounds_ne (by omega)]
theorem tu{cs:Array Value}{u0 u1 u2 v0 v1 v2 v3 v4}(h:i+8<=cs.size):let c:=(((((((cs.setIfInBounds i u0).setIfInBounds (i+1) u1).setIfInBounds (i+2) u2).setIfInBounds (i+3) v0).setIfInBounds (i+4) v1).setIfInBounds (i+5) v2).setIfInBounds (i+6) v3).setIfInBounds (i+7) v4
 c[i]?=some u0/\c[i+1]?=some u1/\c[i+2]?=some u2/\c[i+3]?=some v0/\c[i+4]?=some v1/\c[i+5]?=some v2/\c[i+6]?=some v3/\c[i+7]?=some v4:=by
 refine⟨?_,?_,?_,?_,?_,?_,?_,?_⟩ <;> (simp[Array.getElem?_setIfInBounds];omega)
theorem lQ.push{R}{os:List jf}(h:lQ w ok R n os)(hk:os.length < n)(o:jf)(hg:dW o.kind/\o.path.length<=140737488351232/\o.frm.length<=140737488351232){a7 a8 c7 c8}(hi:In w ok o.value (.agg (KV o.value a7 c7 a8 c8)))(hR:∀ k,ok k->k≠R):lQ (wO w R (os.length * 8) (.int .i64 o.kind) (.string ⟨o.path.toArray⟩) (.string ⟨o.frm.toArray⟩) (.int .i64 o.value.kind) (.int .i64 o.value.n) (.string ⟨o.value.s.toArray⟩) (.slice a7 o.value.keys.length c7) (.slice a8 o.value.l.length c8)) ok R n (os++[o]):=by
 obtain⟨cs,h1,h2,h3⟩:=h;have gs:=uW w R (os.length * 8) (.int .i64 o.kind) (.string ⟨o.path.toArray⟩) (.string ⟨o.frm.toArray⟩) (.int .i64 o.value.kind) (.int .i64 o.value.n) (.string ⟨o.value.s.toArray⟩) (.slice a7 o.value.keys.length c7) (.slice a8 o.value.l.length c8);refine⟨_,ak (ak (ak (ak (ak (ak (ak (ak h1 _ _) _ _) _ _) _ _) _ _) _ _) _ _) _ _,by simpa using h2,fun i z hz=>?_⟩;by_cases hil:i < os.length
 ·rw[List.getElem?_append_left hil]at hz;obtain⟨g,b7,b8,e7,e8,q,hi2⟩:=h3 i z hz;refine⟨g,b7,b8,e7,e8,?_,hi2.grown gs hR⟩;rw[fm (by omega),fm (by omega),fm (by omega),fm (by omega),fm (by omega),fm (by omega),fm (by omega),fm (by omega)];exact q
 ·have hi2:i=os.length:=by
   have:=(Mz.1 hz).1;simp at this;omega
  subst hi2;simp at hz;subst hz;exact⟨hg,a7,a8,c7,c8,tu (by omega),hi.grown gs hR⟩
theorem lQ.done{R}{os:List jf}(h:lQ w ok R n os)(hn:os.length=n)(h20:n<=20)(hR:ok' R)(hk:∀ k,ok k->ok' k):eX w ok' os (.slice (some ⟨R,0,none⟩) n n):=by
 obtain⟨cs,h1,h2,h3⟩:=h;refine⟨by omega,.inr ⟨R,0,n,by rw[hn],by omega,by omega,fun i o ho=>?_⟩⟩;obtain⟨⟨g1,g2,g3⟩,a7,a8,c7,c8,⟨q0,q1,q2,q3,q4,q5,q6,q7⟩,hi⟩:=h3 i o ho;refine⟨_,_,_,_,_,_,_,_,hR,?_,?_,?_,?_,?_,?_,?_,?_,g1,g2,g3,a7,a8,c7,c8,rfl,hi.weak hk⟩
 ·simp[World.cell?,h1,q0]
 ·simp[World.cell?,h1,q1]
 ·simp[World.cell?,h1,q2]
 ·simp[World.cell?,h1,q3]
 ·simp[World.cell?,h1,q4]
 ·simp[World.cell?,h1,q5]
 ·simp[World.cell?,h1,q6]
 ·simp[World.cell?,h1,q7]
theorem JV:∃ j,prog.info? 180=some j/\j.zero=some (.agg Lh)/\j.size=8/\j.bytes=120:=by
 have h:(prog.info? 180).map (fun i=>(i.zero,i.size,i.bytes))=some (some (.agg Lh),8,120):=by kernel_rfl
 cases e:prog.info? 180 with
 | none=>rw[e]at h;cases h
 | some j=>rw[e]at h;simp at h;exact⟨j,rfl,h.1,h.2.1,h.2.2⟩
theorem zt(w:LC)(ok t v)(h:In w ok t v)(h0:∀ k,ok k->k < w.heap.size)(hG:di w)(hk:t.kind≠4):Calls prog 109 #[v] w fun e w'=>∃ sl,e=.returned (.tuple #[sl,.int .i64 (cU t).2])/\eX w' (bQ ok w.heap.size) (cU t).1 sl/\La w w':=by
 have H:=aa h;have GG:=aa hG;have H0:=aa h0;obtain⟨a1,b1,c1,d1,rfl⟩:=h.form;have K0:Ll (KY (w.alloc (.cells (KV t a1 c1 b1 d1) 35)) w.heap.size t a1 c1 b1 d1/\La w (w.alloc (.cells (KV t a1 c1 b1 d1) 35))):=aa ⟨MN w _,ae _ _⟩;have HA:Ll (cU t=([],1)):=aa (by rw[cU,if_pos (.inl hk)]);have e1:(t.kind == 4)=false:=by simp[hk]
 have e1n:(t.kind != 4)=true:=by simp[hk]
 clear h h0 hG hk;go_enter func109,ntmps109;go_wp2_with fail
 refine MM (v:=.tuple #[.slice none 0 0,.int .i64 1]) (by simp[results,results109,go_sem]) rfl ?_;exact⟨.slice none 0 0,by rw[HA.o],by rw[HA.o];exact⟨by simp,.inl ⟨rfl,none,rfl⟩⟩,K0.o.2⟩
theorem Cr(w:LC)(ok t v)(h:In w ok t v)(h0:∀ k,ok k->k < w.heap.size)(hG:di w)(hk:t.kind=4)(hg:aE t=false):Calls prog 109 #[v] w fun e w'=>∃ sl,e=.returned (.tuple #[sl,.int .i64 (cU t).2])/\eX w' (bQ ok w.heap.size) (cU t).1 sl/\La w w':=by
 have H:=aa h;have GG:=aa hG;have H0:=aa h0;obtain⟨a1,b1,c1,d1,rfl⟩:=h.form;have K0:Ll (KY (w.alloc (.cells (KV t a1 c1 b1 d1) 35)) w.heap.size t a1 c1 b1 d1/\La w (w.alloc (.cells (KV t a1 c1 b1 d1) 35))):=aa ⟨MN w _,ae _ _⟩;have HA:Ll (cU t=([],1)):=aa (by rw[cU,if_pos (.inr hg)]);have e1:(t.kind == 4)=true:=by simp[hk]
 have e1n:(t.kind != 4)=false:=by simp[hk]
 clear h h0 hG hk;go_enter func109,ntmps109;go_wp2_with (go_at_call 50;refine Lk (bG _ ok t _ (by exact H.o.bel K0.o.2)) fun w1 hb=>?_;rw[hg];have K1:Ll (KY w1 w.heap.size t a1 c1 b1 d1/\La w w1):=aa ⟨af hb K0.o.1,ab K0.o.2 hb⟩;have t0_:=K1.o.1.c;clear hb)
 refine MM (v:=.tuple #[.slice none 0 0,.int .i64 1]) (by simp[results,results109,go_sem]) rfl ?_;exact⟨.slice none 0 0,by rw[HA.o],by rw[HA.o];exact⟨by simp,.inl ⟨rfl,none,rfl⟩⟩,K1.o.2⟩
theorem yD(w:LC)(ok t v)(h:In w ok t v)(h0:∀ k,ok k->k < w.heap.size)(hG:di w)(hk:t.kind=4)(hg:aE t=true)(hl:20 < t.l.length):Calls prog 109 #[v] w fun e w'=>∃ sl,e=.returned (.tuple #[sl,.int .i64 (cU t).2])/\eX w' (bQ ok w.heap.size) (cU t).1 sl/\La w w':=by
 have H:=aa h;have GG:=aa hG;have H0:=aa h0;obtain⟨a1,b1,c1,d1,rfl⟩:=h.form;have K0:Ll (KY (w.alloc (.cells (KV t a1 c1 b1 d1) 35)) w.heap.size t a1 c1 b1 d1/\La w (w.alloc (.cells (KV t a1 c1 b1 d1) 35))):=aa ⟨MN w _,ae _ _⟩;have HA:Ll (cU t=([],2)):=aa (by rw[cU,if_neg (by simp[hk,hg]),if_pos hl]);have e1:(t.kind == 4)=true:=by simp[hk]
 have e1n:(t.kind != 4)=false:=by simp[hk]
 have e2:20 < (t.l.length:Int):=by omega
 clear h h0 hG hk hl;go_enter func109,ntmps109;go_wp2_with (go_at_call 50;refine Lk (bG _ ok t _ (by exact H.o.bel K0.o.2)) fun w1 hb=>?_;rw[hg];have K1:Ll (KY w1 w.heap.size t a1 c1 b1 d1/\La w w1):=aa ⟨af hb K0.o.1,ab K0.o.2 hb⟩;have t0_:=K1.o.1.c;clear hb)
 refine MM (v:=.tuple #[.slice none 0 0,.int .i64 2]) (by simp[results,results109,go_sem]) rfl ?_;exact⟨.slice none 0 0,by rw[HA.o],by rw[HA.o];exact⟨by simp,.inl ⟨rfl,none,rfl⟩⟩,K1.o.2⟩
theorem yI(w:LC)(ok t v)(h:In w ok t v)(h0:∀ k,ok k->k < w.heap.size)(hG:di w)(hk:t.kind=4)(hg:aE t=true)(hl:t.l.length<=20):Calls prog 109 #[v] w fun e w'=>∃ sl,e=.returned (.tuple #[sl,.int .i64 (cU t).2])/\eX w' (bQ ok w.heap.size) (cU t).1 sl/\La w w':=by
 have H:=aa h;have GG:=aa hG;have H0:=aa h0;obtain⟨a1,b1,c1,d1,rfl⟩:=h.form;have K0:Ll (KY (w.alloc (.cells (KV t a1 c1 b1 d1) 35)) w.heap.size t a1 c1 b1 d1/\La w (w.alloc (.cells (KV t a1 c1 b1 d1) 35))):=aa ⟨MN w _,ae _ _⟩;have e1:(t.kind == 4)=true:=by simp[hk]
 have e1n:(t.kind != 4)=false:=by simp[hk]
 have e2:¬20 < (t.l.length:Int):=by omega
 have e3:¬(t.l.length:Int) < 0:=by omega
 have NT:=aa (dQ hg);have FB:Ll (kV oF t.l=none->cU t=([],1)):=aa (fun hx=>by rw[cU,if_neg (by simp[hk,hg]),if_neg (by omega),hx]);have FO:Ll (∀ os,kV oF t.l=some os->cU t=(os,0)):=aa (fun os hx=>by rw[cU,if_neg (by simp[hk,hg]),if_neg (by omega),hx]);have HL:=aa hl;obtain⟨i0,hi,hz0,hz1,hz2⟩:=JV;have hmk:Ll (∀ W:LC,(Instr.makeSlice 154 (.int .i64 (t.l.length:Int)) (.int .i64 (t.l.length:Int))).run prog W=.ok (.slice (some ⟨W.heap.size,0,none⟩) t.l.length t.l.length) (W.alloc (.cells (madeCells Lh (t.l.length * 8)) 180))):=aa (fun W=>by
  have k:=run_make (P:=prog) W 154 180 i0 _ underlying154 hi hz0 .i64 .i64 (t.l.length:Int) (t.l.length:Int) (by omega) (Int.le_refl _) (by rw[hz2];omega) (by omega);rw[hz1]at k;simpa [Value.cells] using k)
 clear h h0 hG hk hi hz0 hz1 hz2;go_enter func109,ntmps109;go_upto_region 5 with (go_at_call 50;refine Lk (bG _ ok t _ (by exact H.o.bel K0.o.2)) fun w1 hb=>?_;rw[hg];have K1:Ll (KY w1 w.heap.size t a1 c1 b1 d1/\La w w1):=aa ⟨af hb K0.o.1,ab K0.o.2 hb⟩;have t0_:=K1.o.1.c;clear hb)
 have mk:=hmk.o w1;have K2:Ll (KY (w1.alloc (.cells (madeCells Lh (t.l.length * 8)) 180)) w.heap.size t a1 c1 b1 d1/\lQ (w1.alloc (.cells (madeCells Lh (t.l.length * 8)) 180)) ok w1.heap.size t.l.length []/\La w (w1.alloc (.cells (madeCells Lh (t.l.length * 8)) 180))/\w.heap.size < w1.heap.size):=aa ⟨af (ae _ _) K1.o.1,⟨_,MN w1 _,by simp[madeCells],fun i o ho=>by simp at ho⟩,ab K1.o.2 (ae _ _),K1.o.1.lt⟩;have t0_:=K1.o.1.c;have s0_:=K2.o.1.c;go_wp2_with fail
 clear mk hmk;go_loopg [5,6,7,8,28] t.l.length (fun gk _ _ _ _ i wr=>∃ (k:Nat) (os:List jf),k<=t.l.length/\Ll (gk=t.l.length - k)/\i=.int .i64 k/\Ll (kV oF (t.l.take k)=some os/\os.length=k)/\Ll (KY wr w.heap.size t a1 c1 b1 d1/\lQ wr ok w1.heap.size t.l.length os/\La w wr/\w.heap.size < w1.heap.size))
 case atStart=>exact⟨0,[],Nat.zero_le _,aa rfl,rfl,aa ⟨rfl,rfl⟩,K2⟩
 case round=>
  obtain⟨k,os,hk,GK,rfl,AX,K3⟩:=hrel;by_cases hlt:k < t.l.length
  ·obtain⟨b,off,a5,c5,a6,c6,rfl,j1,j2,g0,g1,g2,g3,g4,g5⟩:=(H.o.bel K3.o.2.2.1).item hlt;have w1':(k:Int) < (t.l.length:Int):=by omega
   have w2':(0:Int)<=(k:Int):=by omega
   have HI:=aa (g5.bel (ae wr (.cells #[.int .i64 t.l[k].kind,.int .i64 t.l[k].n,.string ⟨t.l[k].s.toArray⟩,.slice a5 t.l[k].keys.length c5,.slice a6 t.l[k].l.length c6] 35)));have B4:=aa (ae wr (.cells #[.int .i64 t.l[k].kind,.int .i64 t.l[k].n,.string ⟨t.l[k].s.toArray⟩,.slice a5 t.l[k].keys.length c5,.slice a6 t.l[k].l.length c6] 35));have ST:=aa (fun x hx=>Ch (f:=oF) hlt AX.o.1 (x:=x) hx);have SN:=aa (fun hx=>FB.o (Bi (f:=oF) (l:=t.l) hlt hx));have NK:=aa (fun o ho=>IM (o:=o) (gC NT.o (List.getElem_mem hlt)) ho);clear g5;cases hr:oF t.l[k] with
   | none=>
    have HA:=aa (SN.o hr);go_wp2_with (go_at_call 142;refine(lZ _ ok t.l[k] _ (by exact HI.o) (by exact GG.o.bel (ab K3.o.2.2.1 B4.o))).mono ?_;rintro e w5 ⟨o,a7,a8,c7,c8,rfl,hov,hoz,hb⟩;rw[hr];have K5:Ll (True/\La w (w5.alloc (.cells (Lg o a7 c7 a8 c8) 180))):=aa ⟨trivial,ab K3.o.2.2.1 (ab B4.o (ab hb (ae _ _)))⟩;clear hb hov hoz)
    refine MM (v:=.tuple #[.slice none 0 0,.int .i64 1]) (by simp[results,results109,go_sem]) rfl ?_;exact⟨.slice none 0 0,by rw[HA.o],by rw[HA.o];exact⟨by simp,.inl ⟨rfl,none,rfl⟩⟩,K5.o.2⟩
   | some z=>
    go_upto_region 12 with (go_at_call 142;refine(lZ _ ok t.l[k] _ (by exact HI.o) (by exact GG.o.bel (ab K3.o.2.2.1 B4.o))).mono ?_;rintro e w5 ⟨o,a7,a8,c7,c8,rfl,hov,hoz,hb⟩;rw[hr];obtain rfl:=hoz _ hr;have HV:=aa (hov.bel (ae w5 (.cells (Lg o a7 c7 a8 c8) 180)));have LW:=ab B4.o (ab hb (ae w5 (.cells (Lg o a7 c7 a8 c8) 180)));have K5:Ll (ag (w5.alloc (.cells (Lg o a7 c7 a8 c8) 180)) w.heap.size (.int .i64 t.kind) (.int .i64 t.n) (.string ⟨t.s.toArray⟩) (.slice a1 t.keys.length c1) (.slice (some ⟨b,off,none⟩) t.l.length d1)/\lQ (w5.alloc (.cells (Lg o a7 c7 a8 c8) 180)) ok w1.heap.size t.l.length os/\La w (w5.alloc (.cells (Lg o a7 c7 a8 c8) 180))/\w.heap.size < w1.heap.size):=aa ⟨af LW K3.o.1,K3.o.2.1.bel LW,ab K3.o.2.2.1 LW,K3.o.2.2.2⟩;have BO:Ll (iE (w5.alloc (.cells (Lg o a7 c7 a8 c8) 180)) w5.heap.size (.int .i64 o.kind) (.string ⟨o.path.toArray⟩) (.string ⟨o.frm.toArray⟩) (.int .i64 o.value.kind) (.int .i64 o.value.n) (.string ⟨o.value.s.toArray⟩) (.slice a7 o.value.keys.length c7) (.slice a8 o.value.l.length c8)):=aa (MN w5 _);clear hb hov hoz LW)
    obtain⟨W5,hW5⟩:∃ W,w5.alloc (.cells (Lg o a7 c7 a8 c8) 180)=W:=⟨_,rfl⟩
    rw[hW5]at HV K5 BO ⊢;clear hW5;obtain⟨⟨n0,n1,n2,n3,n4,n5,n6,n7⟩,-⟩:=BO.o.c;obtain⟨⟨u0,r0⟩,⟨u1,r1⟩,⟨u2,r2⟩,⟨u3,r3⟩,⟨u4,r4⟩,⟨u5,r5⟩,⟨u6,r6⟩,⟨u7,r7⟩,rf⟩:=K5.o.2.1.at hlt;have f0:=rf (k * 8);have f1:=rf (k * 8+1);have f2:=rf (k * 8+2);have f3:=rf (k * 8+3);have f4:=rf (k * 8+4);have f5:=rf (k * 8+5);have f6:=rf (k * 8+6);have f7:=rf (k * 8+7);have gs:=uW W5 w1.heap.size (k * 8) (.int .i64 o.kind) (.string ⟨o.path.toArray⟩) (.string ⟨o.frm.toArray⟩) (.int .i64 o.value.kind) (.int .i64 o.value.n) (.string ⟨o.value.s.toArray⟩) (.slice a7 o.value.keys.length c7) (.slice a8 o.value.l.length c8);have FIN:Ll (ag (wO W5 w1.heap.size (k * 8) (.int .i64 o.kind) (.string ⟨o.path.toArray⟩) (.string ⟨o.frm.toArray⟩) (.int .i64 o.value.kind) (.int .i64 o.value.n) (.string ⟨o.value.s.toArray⟩) (.slice a7 o.value.keys.length c7) (.slice a8 o.value.l.length c8)) w.heap.size (.int .i64 t.kind) (.int .i64 t.n) (.string ⟨t.s.toArray⟩) (.slice a1 t.keys.length c1) (.slice (some ⟨b,off,none⟩) t.l.length d1)/\lQ (wO W5 w1.heap.size (k * 8) (.int .i64 o.kind) (.string ⟨o.path.toArray⟩) (.string ⟨o.frm.toArray⟩) (.int .i64 o.value.kind) (.int .i64 o.value.n) (.string ⟨o.value.s.toArray⟩) (.slice a7 o.value.keys.length c7) (.slice a8 o.value.l.length c8)) ok w1.heap.size t.l.length (os++[o])/\La w (wO W5 w1.heap.size (k * 8) (.int .i64 o.kind) (.string ⟨o.path.toArray⟩) (.string ⟨o.frm.toArray⟩) (.int .i64 o.value.kind) (.int .i64 o.value.n) (.string ⟨o.value.s.toArray⟩) (.slice a7 o.value.keys.length c7) (.slice a8 o.value.l.length c8))/\w.heap.size < w1.heap.size):=aa ⟨K5.o.1.grown gs (by have:=K5.o.2.2.2;simp;omega),(by
     have q:=K5.o.2.1.push (by have:=AX.o.2;omega) o (NK.o o hr) HV.o (fun k hk=>by have:=H0.o k hk;have:=K5.o.2.2.2;omega);rw[AX.o.2]at q;exact q),bS (lC (aq K5.o.2.2.1) gs (by have:=K5.o.2.2.2;omega)),K5.o.2.2.2⟩
    clear gs rf;go_wp2_with fail
    go_roundg (t.l.length - (k+1))
    case measure=>rw[GK.o];omega
    case rel=>exact⟨k+1,os++[o],hlt,aa rfl,by go_num,aa ⟨ST.o o hr,by simp[AX.o.2]⟩,aa (by exact FIN.o)⟩
  ·have d1':¬(k:Int) < (t.l.length:Int):=by omega
   have Mc:k=t.l.length:=by omega
   have HA:=aa (FO.o os (Ez AX.o.1 hlt));have HE:Ll (os.length=t.l.length):=aa (by rw[AX.o.2,Mc]);clear Mc;go_wp2_with fail
   refine MM (v:=.tuple #[.slice (some ⟨w1.heap.size,0,none⟩) t.l.length t.l.length,.int .i64 0]) (by simp[results,results109,go_sem]) rfl ?_;exact⟨.slice (some ⟨w1.heap.size,0,none⟩) t.l.length t.l.length,by rw[HA.o],by rw[HA.o];exact K3.o.2.1.done HE.o HL.o (.inr (by have:=K3.o.2.2.2;omega)) (fun k hk=>.inl hk),K3.o.2.2.1⟩
theorem Gu(w:LC)(ok t v)(h:In w ok t v)(hG:di w):Calls prog 109 #[v] w fun e w'=>∃ sl,e=.returned (.tuple #[sl,.int .i64 (cU t).2])/\eX w' (bQ ok w.heap.size) (cU t).1 sl/\La w w':=by
 have key:Calls prog 109 #[v] w fun e w'=>∃ sl,e=.returned (.tuple #[sl,.int .i64 (cU t).2])/\eX w' (bQ (Lj ok w) w.heap.size) (cU t).1 sl/\La w w':=by
  replace h:=h.low;have h0:∀ k,(Lj ok w) k->k < w.heap.size:=fun k hk=>hk.2;by_cases hk:t.kind=4
  ·cases hg:aE t with
   | false=>exact Cr w _ t v h h0 hG hk hg
   | true=>
    by_cases hl:t.l.length<=20
    ·exact yI w _ t v h h0 hG hk hg hl
    ·exact yD w _ t v h h0 hG hk hg (by omega)
  ·exact zt w _ t v h h0 hG hk
 refine key.mono ?_;rintro e w' ⟨sl,e1,e2,e3⟩;refine⟨sl,e1,?_,e3⟩;refine⟨e2.1,?_⟩;rcases e2.2 with h | ⟨b,off,c,e,h1,h2,h3⟩
 ·exact .inl h
 ·refine .inr ⟨b,off,c,e,h1,h2,fun i o ho=>?_⟩;obtain⟨v0,v1,v2,v3,v4,v5,v6,v7,hk,g0,g1,g2,g3,g4,g5,g6,g7,g8⟩:=h3 i o ho;have imp:∀ k,bQ (Lj ok w) w.heap.size k->bQ ok w.heap.size k:=fun k hk=>hk.imp And.left id;exact⟨v0,v1,v2,v3,v4,v5,v6,v7,imp _ hk,g0,g1,g2,g3,g4,g5,g6,g7,g8.weak imp⟩
section
open Go.ChangeShapes Go.WideShapes Go.ChangeAt Go.RowKit
theorem wN:Tryz.prog.globalNamed "stairwell/patch.words"=some 2:=by kernel_rfl
theorem Fv:(Tryz.prog.globals[2]?).map (·.type)=some 232:=by kernel_rfl
theorem uZ:Tryz.prog.cellsOf 232=6:=by kernel_rfl
theorem tL{H:Type}{enc:TypeId × Value->H}{w:World}{base:Nat}{sp:Nat->Bool}{held:Bool}{fuel:Nat}{cs:List Value}{zs:List (List UInt8)}{p:List MemPlace}(hz:zs.length=6)(h:DataW.trod enc Tryz.prog w base sp held fuel 232 cs=some (.agg (zs.map fun z=>.lit (.string z)),p)):cs=zs.map fun z=>Value.string ⟨z.toArray⟩:=by
 obtain⟨xs,m,e,hx,hl,LT,hf⟩:=DataW.trod_array Tryz.underlying232 h;rw[uZ]at hl;have hxs:xs.map (·.1)=zs.map fun z=>(DataW.lit (.string z):DataW H):=by
  have:=congrArg Prod.fst hx;simpa using this.symm
 apply List.ext_getElem?;intro i;by_cases hi:i < 6
 ·have hfi:=hf i hi;rw[db,Nat.mul_one,Mw (by omega)]at hfi;obtain⟨s,e1,e2,-⟩:=DataW.trod_string Tryz.underlying9 hfi;have h1:cs[i]?=some (.string s):=by
   have:=congrArg (·[0]?) e1;simpa [List.getElem?_take,List.getElem?_drop] using this
  have h2:(xs.map (·.1))[i]?=some (DataW.lit (.string s.data.toList):DataW H):=by
   rw[List.getElem?_map,Mw (by omega),e2];rfl
  rw[hxs]at h2;simp only[List.getElem?_map,Option.map_eq_some_iff,DataW.lit.injEq,Lit.string.injEq]at h2;obtain⟨z',hz',e3⟩:=h2;rw[h1,List.getElem?_map,hz',e3];simp
 ·rw[List.getElem?_eq_none (by omega),List.getElem?_eq_none (by simp;omega)]
theorem um{W:World}(h:laidMet Tryz.prog lS W):cn W:=by
 have h3:=h.tail.tail;have h4:=h3.tail.tail;have h5:=h4.tail;rw[Hu]at h3;have hp:=Lib.tabIs_of_head J3 Fp Tryz.underlying220 Tryz.underlying160 FC Ej h3;obtain⟨a1,s1,hv1,-,-,-⟩:=laid_sentinel h4 Gp za Tryz.underlying193 Fg Tryz.underlying282 Tryz.underlying284 rfl rfl Tryz.underlying9 rH db;obtain⟨a2,s2,hv2,-,-,-⟩:=laid_sentinel h5 Ax vR Tryz.underlying193 Fg Tryz.underlying282 Tryz.underlying284 rfl rfl Tryz.underlying9 rH db;obtain⟨t1,f1,e1⟩:=kQ Gp hv1;obtain⟨t2,f2,e2⟩:=kQ Ax hv2;obtain⟨t3,f3,e3⟩:=kQ J3 hp;exact⟨⟨_,_,t2,f2,e2⟩,⟨_,_,t1,f1,e1⟩,t3,f3,e3⟩
theorem sf{W:World}(h:laidMet Tryz.prog lS W):di W:=by
 have h2:=h.tail.tail.tail.tail.tail.tail;obtain⟨ps,⟨g',t',cs,fuel,p,q,hg',ht',hvar,hd,_,_⟩,_⟩:=h2;obtain rfl:=Option.some.inj (wN.symm.trans hg');obtain rfl:=Option.some.inj (Fv.symm.trans ht');have hc:=tL (zs:=ew) rfl hd;obtain⟨t1,f1,e1⟩:=kQ wN hvar;refine⟨t1,f1,?_⟩;rw[e1];congr 2
 simpa [ew] using congrArg List.toArray hc
end
end Go.Proofs.YtkjeiljdoljjgaaGreatDoor
