import Derived.Test.YtkjeiljdoljjgaaGreatDoorG23
set_option maxRecDepth 100000
set_option maxHeartbeats 40000000
set_option linter.unusedSimpArgs false
set_option linter.unusedVariables false
namespace Go.Proofs.YtkjeiljdoljjgaaGreatDoor
open Go.RowKit
open _root_.Go.Proofs.Tryz
variable {w w':World}
variable {g d:Nat}
def fX (r:uf):Value:=.agg #[.int .i64 r.code,.int .i64 r.n,.string ⟨r.body.toArray⟩]
def pj (t:Th):uf:=if (eP 12 t.value).2≠0 then bz (eP 12 t.value).2 else ⟨0,t.ver,(eP 12 t.value).1⟩
def dK (w:LC) (g:Nat) (c n:Int) (b:Lz):Prop:=w.heap[g]?=some (.cells #[.int .i64 c,.int .i64 n,.string ⟨b.toArray⟩] 31)
theorem dK.c{c n b}(h:dK w g c n b):w.cell? ⟨g,0,none⟩=some (.int .i64 c)/\w.cell? ⟨g,1,none⟩=some (.int .i64 n)/\w.cell? ⟨g,2,none⟩=some (.string ⟨b.toArray⟩)/\w.frozen? ⟨g,0,none⟩=false/\w.frozen? ⟨g,1,none⟩=false/\w.frozen? ⟨g,2,none⟩=false:=by
 unfold dK at h;refine⟨?_,?_,?_,?_,?_,?_⟩ <;> simp[World.cell?,World.frozen?,h]
theorem dK.bel{c n b}(h:dK w g c n b)(hb:La w w'):dK w' g c n b:=(hb.block g (MF.1 h).1).trans h
def fE (w:LC) (g:Nat) (r:uf):LC:=((w.setCell ⟨g,0,none⟩ (.int .i64 r.code)).setCell ⟨g,1,none⟩ (.int .i64 r.n)).setCell ⟨g,2,none⟩ (.string ⟨r.body.toArray⟩)
theorem dK.set{c n b}(h:dK w g c n b)(r:uf):dK (fE w g r) g r.code r.n r.body:=ak (ak (ak h 0 _) 1 _) 2 _
theorem pJ{a}(h:La a w)(hg:a.heap.size<=g)(r:uf):La a (fE w g r):=aQ (aQ (aQ h hg _ _) hg _ _) hg _ _
theorem fN.ver{t a b c oa oc}(h:fN w g t a b c d oa oc)(n):fN (w.setCell ⟨g,7,none⟩ (.int .i64 n)) g { t with ver:=n } a b c d oa oc:=ak h 7 _
theorem fN.gen{t a b c oa oc}(h:fN w g t a b c d oa oc)(n):fN (w.setCell ⟨g,8,none⟩ (.int .i64 n)) g { t with gen:=n } a b c d oa oc:=ak h 8 _
def mV (w:LC) (g o:Nat) (s:dI):LC:=(((((w.setCell ⟨g,o,none⟩ (.string ⟨s.a.toArray⟩)).setCell ⟨g,o+1,none⟩ (.string ⟨s.c.toArray⟩)).setCell ⟨g,o+2,none⟩ (.int .i64 s.ph)).setCell ⟨g,o+3,none⟩ (.int .i64 s.st)).setCell ⟨g,o+4,none⟩ (.int .i64 s.we)).setCell ⟨g,o+5,none⟩ (.int .i64 s.si)
theorem fN.sta{t a b c oa oc}(h:fN w g t a b c d oa oc)(s):fN (mV w g 9 s) g { t with st:=s } a b c d oa oc:=ak (ak (ak (ak (ak (ak h 9 _) 10 _) 11 _) 12 _) 13 _) 14 _
theorem fN.putV{t a b c oa oc}(h:fN w g t a b c d oa oc)(x l a' b' c' d' oa' oc'):fN ((((((w.setCell ⟨g,1,none⟩ (.int .i64 x.kind)).setCell ⟨g,2,none⟩ (.int .i64 x.n)).setCell ⟨g,3,none⟩ (.string ⟨x.s.toArray⟩)).setCell ⟨g,4,none⟩ (.slice a' x.keys.length c')).setCell ⟨g,5,none⟩ (.slice b' x.l.length d')).setCell ⟨g,6,none⟩ (.slice oa' l.length oc')) g { t with value:=x,owners:=l } a' b' c' d' oa' oc':=
 ak (ak (ak (ak (ak (ak h 1 _) 2 _) 3 _) 4 _) 5 _) 6 _
theorem Hn(w:LC)(ok t a b c d oa oc)(ht:cQ w ok t a b c d oa oc)(hG:cn w):Calls prog 34 #[.agg (Ld t a c b d oa oc)] w fun e w'=>e=.returned (fX (pj t))/\La w w':=by
 obtain⟨W2,hW2⟩:∃ W,W=(w.alloc (.cells (Ld t a c b d oa oc) 40)).alloc (.cells #[.int .i64 0,.int .i64 0,.string ⟨#[]⟩] 31):=⟨_,rfl⟩
 have Y2:Ll (La w W2):=aa (by rw[hW2];exact ab (ae _ _) (ae _ _));have TB:Ll (fN W2 w.heap.size t a b c d oa oc):=aa (by rw[hW2];exact fb _ _ _);have ZB:Ll (dK W2 (w.heap.size+1) 0 0 []):=aa (by rw[hW2];exact et _ _ _);have HW2:=aa hW2;have PR:=EP W2 ok t.value _ (ht.val.bel Y2.o) (hG.grown (r:=none) (aq Y2.o) (by simp));obtain⟨l,pe,hl⟩:∃ l pe,eP 12 t.value=(l,pe):=⟨_,_,rfl⟩
 rw[hl]at PR;have PRC:=aa PR;have HL:=aa hl;clear PR hl hW2 ht hG;have t0_:=TB.o.c;go_enter func34,ntmps34;go_upto_region 1 with fail
 rw[<-HW2.o];go_upto_region 2 with (go_at_call 46;refine PRC.o.mono ?_;rintro e w3 ⟨rfl,hb⟩;have B3:=aa hb;clear hb)
 by_cases hpe:pe=0
 ·subst hpe;have R:Ll (pj t=⟨0,t.ver,l⟩):=aa (by unfold pj;rw[HL.o,if_neg (by simp)]);have t0_:=(TB.o.bel B3.o).c;have n0_:=(ZB.o.bel B3.o).c;have Z9:=aa ((ZB.o.bel B3.o).set ⟨0,t.ver,l⟩);have BZ:=aa (pJ (ab Y2.o B3.o) (show w.heap.size<=w.heap.size+1 by omega) ⟨0,t.ver,l⟩);go_wp2_with fail
  have z0_:=Z9.o.c;refine MM (v:=.agg #[.int .i64 0,.int .i64 t.ver,.string ⟨l.toArray⟩]) ?_ rfl ?_
  ·simp only[fE]at z0_;simp[results,results34,go_sem,z0_]
  ·rw[R.o];exact⟨rfl,BZ.o⟩
 ·have e0:(pe != 0)=true:=by simpa using hpe
  have e1:(pe == 0)=false:=by rw[MO];exact hpe
  have R:Ll (pj t=bz pe):=aa (by unfold pj;rw[HL.o,if_pos hpe]);have RF:=aa (dh w3 pe);clear hpe;go_wp2_with (go_at_call 20;refine RF.o.mono ?_;rintro e w4 ⟨rfl,hb⟩;have B4:=aa (ab B3.o hb);clear hb;have n0_:=(ZB.o.bel B4.o).c;have Z9:=aa ((ZB.o.bel B4.o).set (bz pe));have BZ:=aa (pJ (ab Y2.o B4.o) (show w.heap.size<=w.heap.size+1 by omega) (bz pe)))
  have z0_:=Z9.o.c;refine MM (v:=.agg #[.int .i64 pe,.int .i64 0,.string ⟨#[]⟩]) ?_ rfl ?_
  ·simp only[fE,bz]at z0_;simp[results,results34,go_sem,z0_]
  ·rw[R.o];exact⟨rfl,BZ.o⟩
end Go.Proofs.YtkjeiljdoljjgaaGreatDoor
