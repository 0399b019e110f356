/- What holds of Apply, plainly. -/
import Derived.Test.YtmdemcjmcnfjmaaGreatDoorGShp
import Derived.Test.YtmdemcjmcnfjmaaGreatDoorGFc
import Derived.Lib.SplitLaws
import Derived.Test.YtmdemcjmcnfjmaaGreatDoorGOc
import Derived.Shelf.Abstract
set_option linter.unusedSimpArgs false
set_option linter.unusedVariables false
namespace Go.Proofs.YtmdemcjmcnfjmaaGreatDoor
open Go.RowKit
set_option maxRecDepth 100000 in
set_option maxHeartbeats 1000000 in
theorem growS (w:World) (n:Nat) (h:n<=4000000) :
 Calls Tryz.prog 149 #[.slice none 0 0,.int .i64 n] w fun e w'=>∃ v,e=.returned v/\w'.ownsRow w.heap.size 9 1 v 0 []/\Below w.heap.size w w':=by
 obtain⟨i0,hi,hz0,hz1,hz2⟩:=info_parts info9
 rcases Nat.eq_zero_or_pos n with rfl | h0
 ·go_enter Tryz.func149,Tryz.ntmps149
  go_wp2
  go_ret
  exact⟨_,rfl,World.ownsRow_nil _ _ _ _,Below.refl _ _⟩
 ·have hr:=Lib.run_append_nil_zeros (P:=Tryz.prog) w 22 3 22 9 i0 _ .i64 .i64 Tryz.underlying22 Tryz.underlying3 hi hz0 n h0 (by rw[hz1];omega) (by omega) (by rw[hz2];omega)
  have hR:=hidI hr
  clear hr
  have e1:¬((n:Int) < 0):=by omega
  have e2:(0:Int) < (n:Int):=by omega
  go_enter Tryz.func149,Tryz.ntmps149
  go_wp2_with (at_builtin;go_must (refine Lib.wpList_append_run _ rfl _ _ _ _ rfl (.slice none 0 0) (.int .i64 n) rfl rfl _ _ hR.out ?_);refine Hid.out ?_)
  refine hidI ?_
  have hge:=grownCap_ge w n 0 9
  have hle:=grownCap_le_maxLen w n 0 9 (by unfold maxLen;omega)
  generalize grownCap w n 0 9=cap at hge hle ⊢
  clear hR
  have O:Hid (∀ cur:Array Value,cur.size=cap * 1->(w.alloc (.cells cur 9)).drew.ownsRow w.heap.size 9 1 (.slice (some ⟨w.heap.size,0,none⟩) 0 cap) 0 []):=by
   intro cur hcur
   exact(World.ownsRow_made w cur cap (Nat.le_refl _) hle hcur)
  have hcap:(0:Int)<=(cap:Int):=by omega
  unfold maxLen at hle
  go_wp2
  go_ret
  refine⟨_,rfl,O.out _ ?_,((Below.refl _ w).alloc (Nat.le_refl _) _).drew⟩
  rw[Array.size_append,size_zeroCells,size_zeroCells]
  simp only[List.size_toArray,List.length_cons,List.length_nil]
  omega
def ArgsS (w:World) (b off:Nat) (ps:List Part):Prop:=
 ∀ i p,ps[i]?=some p->w.cell? ⟨b,off+i,none⟩=some p.v/\SlIs w 1 p.v p.n p.cells
set_option maxRecDepth 100000 in
set_option maxHeartbeats 1000000 in
theorem concatS (w:World) (b off c:Nat) (ps:List Part) (h:ArgsS w b off ps) (hn:sumN ps<=1000000) (hl:ps.length<=10) (hlc:ps.length<=c) :
 Calls Tryz.prog 123 #[.slice (some ⟨b,off,none⟩) ps.length c] w fun e w'=>∃ v,e=.returned v/\w'.ownsRow w.heap.size 9 1 v (sumN ps) (allC ps)/\Below w.heap.size w w':=by
 obtain⟨i0,hi,hz0,hz1,hz2⟩:=info_parts info9
 have H:=hidI h
 clear h
 go_enter Tryz.func123,Tryz.ntmps123
 go_wp2_with fail
 go_loop [3,11] (fun n i=>∃ k:Nat,k<=ps.length/\i=.int .i64 k/\n=.int .i64 (sumN (ps.take k))) (fun _ i=>ps.length - (intOf i).toNat)
 case atStart=>exact⟨0,Nat.zero_le _,rfl,rfl⟩
 case round=>
  obtain⟨k,hk,rfl,rfl⟩:=hrel
  have hs1:=sumN_take_le ps k
  by_cases hlt:k < ps.length
  ·obtain⟨p,hp⟩:∃ p,ps[k]?=some p:=⟨ps[k],List.getElem?_eq_getElem hlt⟩
   have hs2:Hid (sumN (ps.take (k+1))=sumN (ps.take k)+p.n):=hidI (by rw[take_snoc' hp,sumN_snoc])
   have hpn:=(H.out k p hp).2.2.1
   have hcell:=(H.out k p hp).1
   have hf:∃ a cc,p.v=.slice a p.n cc:=by
    rcases (H.out k p hp).2.2.2.2 with⟨e,e0⟩ | ⟨ad,cc,e,_⟩
    ·exact⟨_,_,by rw[e,e0]⟩
    ·exact⟨_,_,e⟩
   obtain⟨a,cc,hv⟩:=hf
   rw[hv]at hcell
   have HP:=hidI hp
   have HV:=hidI hv
   clear hp hv
   go_wp2_with fail
   go_round
   case rel=>exact⟨k+1,by omega,by go_num,by rw[hs2.out];go_num⟩
   case measure=>simp[intOf];omega
  ·have hke:k=ps.length:=by omega
   subst hke
   rw[List.take_length]
   go_wp2_with fail
   refine(growS _ (sumN ps) (by omega)).mono ?_
   rintro e w1 ⟨v1,rfl,ho1,hb1⟩
   have O1:Hid (w1.ownsRow w.heap.size 9 1 v1 0 []/\Below w.heap.size w w1):=⟨ho1,hb1⟩
   clear ho1 hb1 hs1 hlt hk
   go_wp2_with fail
   go_loopg [6,27] ps.length (fun g nv i wr=>∃ k:Nat,k<=ps.length/\g=ps.length - k/\i=.int .i64 k/\wr.ownsRow w.heap.size 9 1 nv (sumN (ps.take k)) (allC (ps.take k))/\Below w.heap.size w wr)
   case atStart=>exact⟨0,Nat.zero_le _,rfl,rfl,O1.out.1,O1.out.2⟩
   case round=>
    obtain⟨k,hk,hgk,rfl,ho,hb⟩:=hrel
    have A:Hid (gk=ps.length - k/\wr.ownsRow w.heap.size 9 1 u6 (sumN (ps.take k)) (allC (ps.take k))/\Below w.heap.size w wr):=⟨hgk,ho,hb⟩
    have hsz:=hb.size
    have hs1:=sumN_take_le ps k
    by_cases hlt:k < ps.length
    ·obtain⟨p,hp⟩:∃ p,ps[k]?=some p:=⟨ps[k],List.getElem?_eq_getElem hlt⟩
     have hsl:=(H.out k p hp).2.below hb
     have hcell:wr.cell? ⟨b,off+k,none⟩=some p.v:=by
      have:=(H.out k p hp).1
      rw[World.cell?_of_block (hb.block _ (World.block_lt_of_cell? w _ this))];exact this
     have hs2:Hid (sumN (ps.take (k+1))=sumN (ps.take k)+p.n/\allC (ps.take (k+1))=allC (ps.take k)++p.cells):=hidI (by rw[take_snoc' hp,sumN_snoc,allC_snoc];exact⟨rfl,rfl⟩)
     clear hgk ho hb hp
     obtain⟨g1,g2,g3,g4⟩:=hsl
     rcases g4 with⟨hv,h0⟩ | ⟨ad,cc,hv,hcs⟩
     ·rw[hv]at hcell
      have hc0:p.cells=[]:=List.eq_nil_of_length_eq_zero (by rw[g1,h0])
      rw[h0,hc0]at hs2
      clear g1 g2 g3 hv h0 hc0
      go_wp2_with (at_builtin;go_must (refine wpList_append_own_none rfl _ _ 22 rfl w.heap.size 9 i0 1 Tryz.underlying22 hi u6 (sumN (ps.take k)) (allC (ps.take k)) rfl A.out.2.1 rfl ?_);refine Hid.out ?_)
      refine hidI ?_
      go_wp2_with fail
      obtain⟨hgk,ho,hb⟩:=A.out
      go_roundg (ps.length - (k+1))
      case measure=>omega
      case rel=>exact⟨k+1,by omega,rfl,by go_num,by rw[hs2.out.1,hs2.out.2,List.append_nil,Nat.add_zero];exact ho,hb⟩
     ·rw[hv]at hcell
      have C:Hid (p.cells.length=p.n * 1/\(∀ u∈p.cells,u.oneCell'=true)/\∀ j u,p.cells[j]?=some u->wr.cell? (ad.add j)=some u):=⟨g1,g3,hcs⟩
      have hs3:=hs2.out.1
      have hs4:=sumN_take_le ps (k+1)
      have hm:sumN (ps.take k)+p.n<=1000000:=by omega
      clear g1 g3 hcs hv hs3 hs4
      go_wp2_with (at_builtin;go_must (refine wpList_append_own _ rfl _ _ 22 rfl w.heap.size 9 i0 _ 1 16 Tryz.underlying22 hi hz0 hz1 hz2 rfl (by decide) u6 (sumN (ps.take k)) (allC (ps.take k)) rfl A.out.2.1 ad p.n cc p.cells rfl C.out.1 C.out.2.2 C.out.2.1 (by unfold maxLen;omega) (by omega) hsz ?_);intro v2 w2 ho2 hg2 _;refine Hid.out ?_)
      refine hidI ?_
      have D:Hid (w2.ownsRow w.heap.size 9 1 v2 (sumN (ps.take k)+p.n) (allC (ps.take k)++p.cells)/\wr.grownBy w2 u6.ownBlock):=⟨ho2,hg2⟩
      clear ho2 hg2
      go_wp2_with fail
      obtain⟨hgk,ho,hb⟩:=A.out
      go_roundg (ps.length - (k+1))
      case measure=>omega
      case rel=>exact⟨k+1,by omega,rfl,by go_num,by rw[hs2.out.1,hs2.out.2];exact D.out.1,hb.grown D.out.2 hsz (fun j hj=>(ho.lt j hj).1)⟩
    ·have hke:k=ps.length:=by omega
     subst hke
     clear hgk ho hb
     go_wp2_with fail
     go_ret
     obtain⟨hgk,ho,hb⟩:=A.out
     rw[List.take_length]at ho
     exact⟨u6,rfl,ho,hb⟩
set_option maxRecDepth 100000 in
set_option maxHeartbeats 1000000 in
theorem growV (w:World) (n:Nat) (h:n<=4000000) :
 Calls Tryz.prog 124 #[.slice none 0 0,.int .i64 n] w fun e w'=>∃ v,e=.returned v/\w'.ownsRow w.heap.size 25 5 v 0 []/\Below w.heap.size w w':=by
 obtain⟨i0,hi,hz0,hz1,hz2⟩:=info_parts info25
 rcases Nat.eq_zero_or_pos n with rfl | h0
 ·go_enter Tryz.func124,Tryz.ntmps124
  go_wp2
  go_ret
  exact⟨_,rfl,World.ownsRow_nil _ _ _ _,Below.refl _ _⟩
 ·have hr:=Lib.run_append_nil_zeros (P:=Tryz.prog) w 23 3 23 25 i0 _ .i64 .i64 Tryz.underlying23 Tryz.underlying3 hi hz0 n h0 (by rw[hz1];omega) (by omega) (by rw[hz2];omega)
  have hR:=hidI hr
  clear hr
  have e1:¬((n:Int) < 0):=by omega
  have e2:(0:Int) < (n:Int):=by omega
  go_enter Tryz.func124,Tryz.ntmps124
  go_wp2_with (at_builtin;go_must (refine Lib.wpList_append_run _ rfl _ _ _ _ rfl (.slice none 0 0) (.int .i64 n) rfl rfl _ _ hR.out ?_);refine Hid.out ?_)
  refine hidI ?_
  have hge:=grownCap_ge w n 0 25
  have hle:=grownCap_le_maxLen w n 0 25 (by unfold maxLen;omega)
  generalize grownCap w n 0 25=cap at hge hle ⊢
  clear hR
  have O:Hid (∀ cur:Array Value,cur.size=cap * 5->(w.alloc (.cells cur 25)).drew.ownsRow w.heap.size 25 5 (.slice (some ⟨w.heap.size,0,none⟩) 0 cap) 0 []):=by
   intro cur hcur
   exact(World.ownsRow_made w cur cap (Nat.le_refl _) hle hcur)
  have hcap:(0:Int)<=(cap:Int):=by omega
  unfold maxLen at hle
  go_wp2
  go_ret
  refine⟨_,rfl,O.out _ ?_,((Below.refl _ w).alloc (Nat.le_refl _) _).drew⟩
  rw[Array.size_append,size_zeroCells,size_zeroCells]
  simp only[List.size_toArray,List.length_cons,List.length_nil]
  omega
def ArgsV (w:World) (b off:Nat) (ps:List Part):Prop:=
 ∀ i p,ps[i]?=some p->w.cell? ⟨b,off+i,none⟩=some p.v/\SlIs w 5 p.v p.n p.cells
set_option maxRecDepth 100000 in
set_option maxHeartbeats 1000000 in
theorem concatV (w:World) (b off c:Nat) (ps:List Part) (h:ArgsV w b off ps) (hn:sumN ps<=1000000) (hl:ps.length<=10) (hlc:ps.length<=c) :
 Calls Tryz.prog 79 #[.slice (some ⟨b,off,none⟩) ps.length c] w fun e w'=>∃ v,e=.returned v/\w'.ownsRow w.heap.size 25 5 v (sumN ps) (allC ps)/\Below w.heap.size w w':=by
 obtain⟨i0,hi,hz0,hz1,hz2⟩:=info_parts info25
 have H:=hidI h
 clear h
 go_enter Tryz.func79,Tryz.ntmps79
 go_wp2_with fail
 go_loop [3,11] (fun n i=>∃ k:Nat,k<=ps.length/\i=.int .i64 k/\n=.int .i64 (sumN (ps.take k))) (fun _ i=>ps.length - (intOf i).toNat)
 case atStart=>exact⟨0,Nat.zero_le _,rfl,rfl⟩
 case round=>
  obtain⟨k,hk,rfl,rfl⟩:=hrel
  have hs1:=sumN_take_le ps k
  by_cases hlt:k < ps.length
  ·obtain⟨p,hp⟩:∃ p,ps[k]?=some p:=⟨ps[k],List.getElem?_eq_getElem hlt⟩
   have hs2:Hid (sumN (ps.take (k+1))=sumN (ps.take k)+p.n):=hidI (by rw[take_snoc' hp,sumN_snoc])
   have hpn:=(H.out k p hp).2.2.1
   have hcell:=(H.out k p hp).1
   have hf:∃ a cc,p.v=.slice a p.n cc:=by
    rcases (H.out k p hp).2.2.2.2 with⟨e,e0⟩ | ⟨ad,cc,e,_⟩
    ·exact⟨_,_,by rw[e,e0]⟩
    ·exact⟨_,_,e⟩
   obtain⟨a,cc,hv⟩:=hf
   rw[hv]at hcell
   have HP:=hidI hp
   have HV:=hidI hv
   clear hp hv
   go_wp2_with fail
   go_round
   case rel=>exact⟨k+1,by omega,by go_num,by rw[hs2.out];go_num⟩
   case measure=>simp[intOf];omega
  ·have hke:k=ps.length:=by omega
   subst hke
   rw[List.take_length]
   go_wp2_with fail
   refine(growV _ (sumN ps) (by omega)).mono ?_
   rintro e w1 ⟨v1,rfl,ho1,hb1⟩
   have O1:Hid (w1.ownsRow w.heap.size 25 5 v1 0 []/\Below w.heap.size w w1):=⟨ho1,hb1⟩
   clear ho1 hb1 hs1 hlt hk
   go_wp2_with fail
   go_loopg [6,27] ps.length (fun g nv i wr=>∃ k:Nat,k<=ps.length/\g=ps.length - k/\i=.int .i64 k/\wr.ownsRow w.heap.size 25 5 nv (sumN (ps.take k)) (allC (ps.take k))/\Below w.heap.size w wr)
   case atStart=>exact⟨0,Nat.zero_le _,rfl,rfl,O1.out.1,O1.out.2⟩
   case round=>
    obtain⟨k,hk,hgk,rfl,ho,hb⟩:=hrel
    have A:Hid (gk=ps.length - k/\wr.ownsRow w.heap.size 25 5 u6 (sumN (ps.take k)) (allC (ps.take k))/\Below w.heap.size w wr):=⟨hgk,ho,hb⟩
    have hsz:=hb.size
    have hs1:=sumN_take_le ps k
    by_cases hlt:k < ps.length
    ·obtain⟨p,hp⟩:∃ p,ps[k]?=some p:=⟨ps[k],List.getElem?_eq_getElem hlt⟩
     have hsl:=(H.out k p hp).2.below hb
     have hcell:wr.cell? ⟨b,off+k,none⟩=some p.v:=by
      have:=(H.out k p hp).1
      rw[World.cell?_of_block (hb.block _ (World.block_lt_of_cell? w _ this))];exact this
     have hs2:Hid (sumN (ps.take (k+1))=sumN (ps.take k)+p.n/\allC (ps.take (k+1))=allC (ps.take k)++p.cells):=hidI (by rw[take_snoc' hp,sumN_snoc,allC_snoc];exact⟨rfl,rfl⟩)
     clear hgk ho hb hp
     obtain⟨g1,g2,g3,g4⟩:=hsl
     rcases g4 with⟨hv,h0⟩ | ⟨ad,cc,hv,hcs⟩
     ·rw[hv]at hcell
      have hc0:p.cells=[]:=List.eq_nil_of_length_eq_zero (by rw[g1,h0])
      rw[h0,hc0]at hs2
      clear g1 g2 g3 hv h0 hc0
      go_wp2_with (at_builtin;go_must (refine wpList_append_own_none rfl _ _ 23 rfl w.heap.size 25 i0 5 Tryz.underlying23 hi u6 (sumN (ps.take k)) (allC (ps.take k)) rfl A.out.2.1 rfl ?_);refine Hid.out ?_)
      refine hidI ?_
      go_wp2_with fail
      obtain⟨hgk,ho,hb⟩:=A.out
      go_roundg (ps.length - (k+1))
      case measure=>omega
      case rel=>exact⟨k+1,by omega,rfl,by go_num,by rw[hs2.out.1,hs2.out.2,List.append_nil,Nat.add_zero];exact ho,hb⟩
     ·rw[hv]at hcell
      have C:Hid (p.cells.length=p.n * 5/\(∀ u∈p.cells,u.oneCell'=true)/\∀ j u,p.cells[j]?=some u->wr.cell? (ad.add j)=some u):=⟨g1,g3,hcs⟩
      have hs3:=hs2.out.1
      have hs4:=sumN_take_le ps (k+1)
      have hm:sumN (ps.take k)+p.n<=1000000:=by omega
      clear g1 g3 hcs hv hs3 hs4
      go_wp2_with (at_builtin;go_must (refine wpList_append_own _ rfl _ _ 23 rfl w.heap.size 25 i0 _ 5 80 Tryz.underlying23 hi hz0 hz1 hz2 rfl (by decide) u6 (sumN (ps.take k)) (allC (ps.take k)) rfl A.out.2.1 ad p.n cc p.cells rfl C.out.1 C.out.2.2 C.out.2.1 (by unfold maxLen;omega) (by omega) hsz ?_);intro v2 w2 ho2 hg2 _;refine Hid.out ?_)
      refine hidI ?_
      have D:Hid (w2.ownsRow w.heap.size 25 5 v2 (sumN (ps.take k)+p.n) (allC (ps.take k)++p.cells)/\wr.grownBy w2 u6.ownBlock):=⟨ho2,hg2⟩
      clear ho2 hg2
      go_wp2_with fail
      obtain⟨hgk,ho,hb⟩:=A.out
      go_roundg (ps.length - (k+1))
      case measure=>omega
      case rel=>exact⟨k+1,by omega,rfl,by go_num,by rw[hs2.out.1,hs2.out.2];exact D.out.1,hb.grown D.out.2 hsz (fun j hj=>(ho.lt j hj).1)⟩
    ·have hke:k=ps.length:=by omega
     subst hke
     clear hgk ho hb
     go_wp2_with fail
     go_ret
     obtain⟨hgk,ho,hb⟩:=A.out
     rw[List.take_length]at ho
     exact⟨u6,rfl,ho,hb⟩
end Go.Proofs.YtmdemcjmcnfjmaaGreatDoor
namespace Go.Proofs.YtmdemcjmcnfjmaaGreatDoor
open Go.RowKit
theorem concatV3 (w:World) (b:Nat) (p1 p2 p3:Part) (q1:w.cell? ⟨b,0,none⟩=some p1.v) (q2:w.cell? ⟨b,1,none⟩=some p2.v) (q3:w.cell? ⟨b,2,none⟩=some p3.v)
 (s1:SlIs w 5 p1.v p1.n p1.cells) (s2:SlIs w 5 p2.v p2.n p2.cells) (s3:SlIs w 5 p3.v p3.n p3.cells) (hn:p1.n+p2.n+p3.n<=1000000) :
 Calls Tryz.prog 79 #[.slice (some ⟨b,0,none⟩) 3 3] w fun e w'=>∃ v,e=.returned v/\w'.ownsRow w.heap.size 25 5 v (p1.n+p2.n+p3.n) (p1.cells++p2.cells++p3.cells)/\Below w.heap.size w w':=by
 refine(concatV w b 0 3 [p1,p2,p3] ?_ (by simp[sumN];omega) (by simp) (by simp)).mono ?_
 ·intro i p hp
  match i,hp with
  | 0,hp=>simp at hp;subst hp;exact⟨q1,s1⟩
  | 1,hp=>simp at hp;subst hp;exact⟨q2,s2⟩
  | 2,hp=>simp at hp;subst hp;exact⟨q3,s3⟩
 ·rintro e w' ⟨v,rfl,h1,h2⟩
  refine⟨v,rfl,?_,h2⟩
  have e1:sumN [p1,p2,p3]=p1.n+p2.n+p3.n:=by simp[sumN];omega
  have e2:allC [p1,p2,p3]=p1.cells++p2.cells++p3.cells:=by simp[allC]
  rw[e1,e2]at h1;exact h1
theorem concatS3 (w:World) (b:Nat) (p1 p2 p3:Part) (q1:w.cell? ⟨b,0,none⟩=some p1.v) (q2:w.cell? ⟨b,1,none⟩=some p2.v) (q3:w.cell? ⟨b,2,none⟩=some p3.v)
 (s1:SlIs w 1 p1.v p1.n p1.cells) (s2:SlIs w 1 p2.v p2.n p2.cells) (s3:SlIs w 1 p3.v p3.n p3.cells) (hn:p1.n+p2.n+p3.n<=1000000) :
 Calls Tryz.prog 123 #[.slice (some ⟨b,0,none⟩) 3 3] w fun e w'=>∃ v,e=.returned v/\w'.ownsRow w.heap.size 9 1 v (p1.n+p2.n+p3.n) (p1.cells++p2.cells++p3.cells)/\Below w.heap.size w w':=by
 refine(concatS w b 0 3 [p1,p2,p3] ?_ (by simp[sumN];omega) (by simp) (by simp)).mono ?_
 ·intro i p hp
  match i,hp with
  | 0,hp=>simp at hp;subst hp;exact⟨q1,s1⟩
  | 1,hp=>simp at hp;subst hp;exact⟨q2,s2⟩
  | 2,hp=>simp at hp;subst hp;exact⟨q3,s3⟩
 ·rintro e w' ⟨v,rfl,h1,h2⟩
  refine⟨v,rfl,?_,h2⟩
  have e1:sumN [p1,p2,p3]=p1.n+p2.n+p3.n:=by simp[sumN];omega
  have e2:allC [p1,p2,p3]=p1.cells++p2.cells++p3.cells:=by simp[allC]
  rw[e1,e2]at h1;exact h1
end Go.Proofs.YtmdemcjmcnfjmaaGreatDoor
namespace Go.Proofs.YtmdemcjmcnfjmaaGreatDoor
open Go.RowKit
theorem split_lens (a:UInt8) (s:List UInt8):∀ x∈Lib.split s [a],x.length<=s.length:=by
 induction s with
 | nil=>rw[split_nil];simp
 | cons b r ih=>
  by_cases h:b=a
  ·subst h
   rw[split_sep]
   intro x hx
   rcases List.mem_cons.1 hx with rfl | hx
   ·simp
   ·have:=ih x hx
    simp only[List.length_cons];omega
  ·rw[split_other a b r h]
   cases hr:Lib.split r [a] with
   | nil=>exact absurd hr (split_ne a r)
   | cons y ys=>
    rw[hr]at ih
    intro x hx
    rcases List.mem_cons.1 hx with rfl | hx
    ·have:=ih y (by simp)
     simp only[List.length_cons];omega
    ·have:=ih x (by simp[hx])
     simp only[List.length_cons];omega
theorem split_count (a:UInt8) (s:List UInt8):(Lib.split s [a]).length<=s.length+1:=by
 induction s with
 | nil=>rw[split_nil];simp
 | cons b r ih=>
  by_cases h:b=a
  ·subst h
   rw[split_sep];simp only[List.length_cons];omega
  ·rw[split_other a b r h]
   cases hr:Lib.split r [a] with
   | nil=>exact absurd hr (split_ne a r)
   | cons y ys=>
    rw[hr]at ih
    simp only[List.length_cons]at ih ⊢;omega
theorem split_cells (X:ByteArray) (r:List UInt8) (h:X.data.toList=r) :
 Lib.countB X ⟨#[47]⟩+1=(Lib.split r [47]).length/\(Lib.splitB ⟨#[47]⟩ 0 (Lib.countB X ⟨#[47]⟩) X).map Value.string=(Lib.split r [47]).map str:=by
 have h1:=Lib.splitB_all ⟨#[47]⟩ (by decide) 0 _ X rfl
 have h2:=Lib.splitB_data ⟨#[47]⟩ 0 (Lib.countB X ⟨#[47]⟩) X
 have e:Lib.splitK ([47]:List UInt8) 0 (Lib.countB X ⟨#[47]⟩) X.data.toList=Lib.split r [47]:=by
  subst h;rfl
 have h3:(Lib.splitB ⟨#[47]⟩ 0 (Lib.countB X ⟨#[47]⟩) X).map (fun x=>x.data.toList)=Lib.split r [47]:=h2.trans e
 refine⟨?_,?_⟩
 ·rw[<-h3,List.length_map,h1]
 ·rw[<-h3,List.map_map]
  apply List.map_congr_left
  intro x _
  simp only[Function.comp,str]
def midN (ns:List (List UInt8)) (k:Nat):List (List UInt8):=(ns.take k).map unmarkedL++ns.drop k
theorem mid_at {ns:List (List UInt8)} {k:Nat} (h:k < ns.length):(midN ns k)[k]?=some ns[k]:=by
 unfold midN
 rw[List.getElem?_append_right (by simp;omega)]
 have:k - ((ns.take k).map unmarkedL).length=0:=by simp;omega
 rw[this,List.getElem?_drop,Nat.add_zero,List.getElem?_eq_getElem h]
theorem mid_set {ns:List (List UInt8)} {k:Nat} (h:k < ns.length):(midN ns k).set k (unmarkedL ns[k])=midN ns (k+1):=by
 unfold midN
 have hl:((ns.take k).map unmarkedL).length=k:=by simp;omega
 rw[List.set_append_right _ _ (by omega),hl,Nat.sub_self,List.drop_eq_getElem_cons h,List.set_cons_zero,List.take_add_one,List.getElem?_eq_getElem h]
 simp only[List.map_append,Option.toList_some,List.map_cons,List.map_nil,List.append_assoc,List.cons_append,List.nil_append]
theorem strs_cell {w:World} {g:Nat} {l:List (List UInt8)} (h:w.heap[g]?=some (.cells (l.map str).toArray 9)) {k:Nat} {x:List UInt8} (hk:l[k]?=some x):w.cell? ⟨g,k,none⟩=some (.string ⟨x.toArray⟩)/\w.frozen? ⟨g,k,none⟩=false:=by
 constructor
 ·simp[World.cell?,h,hk,str]
 ·simp[World.frozen?,h]
set_option maxRecDepth 100000 in
set_option maxHeartbeats 4000000 in
theorem split_at_ok (w:World) (c:UInt8) (r:List UInt8) (hc:c=47) (hp:r.length+1<=2000) (hw:wholeP (c :: r)=true) (hM:GlobM w) :
 Calls Tryz.prog 16 #[str (c :: r)] w fun e w'=>∃ (a:Option Addr) (cap:Nat),e=.returned (.tuple #[.slice a ((Lib.split r [47]).map unmarkedL).length cap,.int .i64 0]) /\
  StrsAre w' (fun k=>w.heap.size<=k) ((Lib.split r [47]).map unmarkedL) (.slice a ((Lib.split r [47]).map unmarkedL).length cap)/\Below w.heap.size w w':=by
 subst hc
 have HM:=hidI hM
 clear hM
 have HW:=hidI hw
 clear hw
 unfold str
 have hne:(ByteArray.mk (47 :: r).toArray == ByteArray.mk #[])=false:=ba_ne (by simp)
 have hsz:0 < (ByteArray.mk (47 :: r).toArray).size:=by rw[ba_size];simp
 have hget:(ByteArray.mk (47 :: r).toArray)[0]=47:=rfl
 have e0:¬(2000 < (r.length:Int)+1):=by omega
 go_enter Tryz.func16,Tryz.ntmps16
 go_wp2_with fail
 refine(whole_at _ (47 :: r) (by simp;omega)).mono ?_
 rintro e w1 ⟨rfl,hw1⟩
 rw[HW.out,hw1]
 clear hw1
 go_wp2_with fail
 obtain⟨m,hm⟩:=HM.out
 obtain⟨X,hX⟩:∃ X,(ByteArray.mk (47 :: r).toArray).extract 1 (ByteArray.mk (47 :: r).toArray).size=X:=⟨_,rfl⟩
 have hXd:X.data.toList=r:=by
  rw[<-hX,Lib.extract_to_end];simp
 have hXs:X.size=r.length:=by rw[Lib.size_eq,hXd]
 have hX2:(ByteArray.mk (47 :: r).toArray).extract 1 (r.length+1)=X:=by rw[<-hX,ba_size];rfl
 rw[hX2]
 clear hX hX2
 refine(Tryz.strings_Split X ⟨#[47]⟩ m w (by omega) hm (by decide)).mono ?_
 rintro e w2 ⟨rfl,hw2⟩
 obtain⟨hn,hcells⟩:=split_cells X r hXd
 rw[hn]
 rw[hcells]at hw2
 obtain⟨ns,hns⟩:∃ ns,Lib.split r [47]=ns:=⟨_,rfl⟩
 have NL:Hid (∀ x∈ns,x.length<=2000):=hidI (by rw[<-hns];intro x hx;have:=split_lens 47 r x hx;omega)
 have nl:ns.length<=2000:=by rw[<-hns];have:=split_count 47 r;omega
 rw[hns]at hw2 ⊢
 have HNS:=hidI hns
 clear hns hcells hn hXd hXs hm m
 have h2:w2.heap[w.heap.size]?=some (.cells ((midN ns 0).map str).toArray 9):=by
  rw[hw2]
  have:midN ns 0=ns:=by simp[midN]
  rw[this];exact heap_alloc_new w _
 have b2:Below w.heap.size w w2:=by rw[hw2];exact bel_alloc _ _
 have S2:Hid (w2.heap[w.heap.size]?=some (.cells ((midN ns 0).map str).toArray 9)/\Below w.heap.size w w2):=⟨h2,b2⟩
 clear h2 b2 hw2
 go_wp2_with fail
 go_loopg [27] ns.length (fun gk i wr=>∃ k:Nat,k<=ns.length/\gk=ns.length - k/\i=.int .i64 k/\wr.heap[w.heap.size]?=some (.cells ((midN ns k).map str).toArray 9)/\Below w.heap.size w wr)
 case atStart=>exact⟨0,Nat.zero_le _,rfl,rfl,S2.out.1,S2.out.2⟩
 case round=>
  obtain⟨k,hk,hgk,rfl,hh,hbl⟩:=hrel
  have GK:=hidI hgk
  have A:Hid (wr.heap[w.heap.size]?=some (.cells ((midN ns k).map str).toArray 9)/\Below w.heap.size w wr):=⟨hh,hbl⟩
  clear hgk hh hbl
  by_cases hlt:k < ns.length
  ·obtain⟨c1,f1⟩:=strs_cell A.out.1 (mid_at hlt)
   have hnk:ns[k].length<=2000:=NL.out _ (List.getElem_mem _)
   have HM1:=hidI (HM.out.bel A.out.2)
   go_wp2_with fail
   refine(unmarked_at _ ns[k] (by omega) (by exact HM1.out)).mono ?_
   rintro e w3 ⟨rfl,hb3⟩
   have hb3':w3.heap[w.heap.size]?=some (.cells ((midN ns k).map str).toArray 9):=by
    have hlt2:w.heap.size < wr.heap.size:=(Array.getElem?_eq_some_iff.1 A.out.1).1
    rw[hb3.block _ hlt2];exact A.out.1
   have B3:Hid (w3.heap[w.heap.size]?=some (.cells ((midN ns k).map str).toArray 9)/\Below w.heap.size w w3):=⟨hb3',bel_trans A.out.2 hb3⟩
   obtain⟨c2,f2⟩:=strs_cell B3.out.1 (mid_at hlt)
   clear hb3 hb3' c1 f1
   unfold str
   go_wp2_with fail
   go_roundg (ns.length - (k+1))
   case measure=>rw[GK.out];omega
   case rel=>
    refine⟨k+1,by omega,rfl,by go_num,?_,?_⟩
    ·have:=heap_set B3.out.1 k (.string ⟨(unmarkedL ns[k]).toArray⟩)
     rw[this]
     have e9:((midN ns k).map str).toArray.setIfInBounds k (.string ⟨(unmarkedL ns[k]).toArray⟩)=((midN ns (k+1)).map str).toArray:=by
      rw[<-mid_set hlt,List.map_set]
      simp[str]
     rw[e9]
    ·exact gb_none (gb_setA (gb_below B3.out.2) (Nat.le_refl _) _ _)
  ·have hke:k=ns.length:=by omega
   subst hke
   have e3:midN ns ns.length=ns.map unmarkedL:=by simp[midN]
   go_wp2_with fail
   refine bodyPost_ret (v:=.tuple #[.slice (some ⟨w.heap.size,0,none⟩) ns.length ns.length,.int .i64 0]) (by simp[results,Tryz.results16,go_sem] <;> rfl) rfl ?_
   rw[HNS.out]
   refine⟨some ⟨w.heap.size,0,none⟩,ns.length,by rw[List.length_map],⟨by rw[List.length_map];unfold maxLen;omega,.inr ⟨w.heap.size,0,ns.length,by rw[List.length_map],by rw[List.length_map];exact Nat.le_refl _,by unfold maxLen;omega,?_⟩⟩,A.out.2⟩
   intro i x hx
   have h9:=A.out.1
   rw[e3]at h9
   refine⟨?_,Nat.le_refl _,?_⟩
   ·simp only[List.getElem?_map,Option.map_eq_some_iff]at hx
    obtain⟨y,hy,rfl⟩:=hx
    have h1:=NL.out y (List.mem_of_getElem? hy)
    have h2:(Lib.replaceAll y [126,49] [47]).length<=y.length:=repl_len (by simp) (by simp) (by simp) _ y (Nat.le_refl _)
    have h3:(unmarkedL y).length<=(Lib.replaceAll y [126,49] [47]).length:=repl_len (by simp) (by simp) (by simp) _ _ (Nat.le_refl _)
    unfold maxLen;omega
   ·have:=(strs_cell h9 hx).1
    rw[Nat.zero_add];exact this
set_option maxRecDepth 100000 in
set_option maxHeartbeats 4000000 in
theorem split_at_bad (w:World) (c:UInt8) (r:List UInt8) (hl:r.length+1<=140737488351232) (hb:c≠47\/2000 < (c :: r).length\/wholeP (c :: r)=false) :
 Calls Tryz.prog 16 #[str (c :: r)] w fun e w'=>e=.returned (.tuple #[.slice none 0 0,.int .i64 1])/\Below w.heap.size w w':=by
 unfold str
 have hne:(ByteArray.mk (c :: r).toArray == ByteArray.mk #[])=false:=ba_ne (by simp)
 have hsz:0 < (ByteArray.mk (c :: r).toArray).size:=by rw[ba_size];simp
 have hget:(ByteArray.mk (c :: r).toArray)[0]=c:=rfl
 have hbyte:(c.toNat:Int) < 256:=by have:=c.toNat_lt;omega
 by_cases hc:c=47
 ·have n1:((c.toNat:Int) != 47)=false:=by rw[hc];rfl
  have q1:((c.toNat:Int) == 47)=true:=by rw[hc];rfl
  by_cases h2:2000 < r.length+1
  ·have e0:2000 < (r.length:Int)+1:=by omega
   clear hc hb
   go_enter Tryz.func16,Tryz.ntmps16
   go_wp2_with fail
   refine bodyPost_ret (v:=.tuple #[.slice none 0 0,.int .i64 1]) (by simp[results,Tryz.results16,go_sem] <;> rfl) rfl ?_
   exact⟨rfl,Below.refl _ _⟩
  ·have e0:¬(2000 < (r.length:Int)+1):=by omega
   have HW:Hid (wholeP (c :: r)=false):=hidI (by
    rcases hb with h | h | h
    ·exact absurd hc h
    ·simp only[List.length_cons]at h;omega
    ·exact h)
   clear hc hb
   go_enter Tryz.func16,Tryz.ntmps16
   go_wp2_with fail
   refine(whole_at _ (c :: r) (by simp;omega)).mono ?_
   rintro e w1 ⟨rfl,hw1⟩
   rw[HW.out,hw1]
   clear hw1
   go_wp2_with fail
   refine bodyPost_ret (v:=.tuple #[.slice none 0 0,.int .i64 1]) (by simp[results,Tryz.results16,go_sem] <;> rfl) rfl ?_
   exact⟨rfl,Below.refl _ _⟩
 ·have n1:((c.toNat:Int) != 47)=true:=by
   have:c.toNat≠47:=fun e=>hc (UInt8.toNat_inj.1 e)
   simp only[bne_iff_ne,ne_eq];omega
  have q1:((c.toNat:Int) == 47)=false:=by
   have:c.toNat≠47:=fun e=>hc (UInt8.toNat_inj.1 e)
   rw[beq_eq_false_iff_ne];omega
  clear hc hb
  go_enter Tryz.func16,Tryz.ntmps16
  go_wp2_with fail
  refine bodyPost_ret (v:=.tuple #[.slice none 0 0,.int .i64 1]) (by simp[results,Tryz.results16,go_sem] <;> rfl) rfl ?_
  exact⟨rfl,Below.refl _ _⟩
set_option maxRecDepth 100000 in
set_option maxHeartbeats 4000000 in
theorem split_at_nil (w:World) :
 Calls Tryz.prog 16 #[str []] w fun e w'=>e=.returned (.tuple #[.slice none 0 0,.int .i64 0])/\Below w.heap.size w w':=by
 unfold str
 have hne:(ByteArray.mk ([]:List UInt8).toArray == ByteArray.mk #[])=true:=ba_eq (by simp)
 go_enter Tryz.func16,Tryz.ntmps16
 go_wp2_with fail
 refine bodyPost_ret (v:=.tuple #[.slice none 0 0,.int .i64 0]) (by simp[results,Tryz.results16,go_sem] <;> rfl) rfl ?_
 exact⟨rfl,Below.refl _ _⟩
theorem split_all (w:World) (p:List UInt8) (hp:p.length<=140737488351232) (hM:GlobM w) :
 Calls Tryz.prog 16 #[str p] w fun e w'=>∃ (b:List (List UInt8)) (ee:Int) (a:Option Addr) (cap:Nat),e=.returned (.tuple #[.slice a b.length cap,.int .i64 ee])/\splitP p=(b,ee) /\
  StrsAre w' (fun k=>w.heap.size<=k) b (.slice a b.length cap)/\Below w.heap.size w w':=by
 cases p with
 | nil=>
  refine(split_at_nil w).mono ?_
  rintro e w' ⟨rfl,hb⟩
  exact⟨[],0,none,0,rfl,rfl,⟨by simp[maxLen],.inl ⟨rfl,none,rfl⟩⟩,hb⟩
 | cons c r=>
  by_cases h:c≠47\/2000 < (c :: r).length\/wholeP (c :: r)=false
  ·refine(split_at_bad w c r (by simpa using hp) h).mono ?_
   rintro e w' ⟨rfl,hb⟩
   refine⟨[],1,none,0,rfl,?_,⟨by simp[maxLen],.inl ⟨rfl,none,rfl⟩⟩,hb⟩
   simp only[splitP];rw[if_pos h]
  ·have h':=h
   simp only[not_or,Decidable.not_not,Bool.not_eq_false]at h'
   refine(split_at_ok w c r h'.1 (by have:=h'.2.1;simp only[List.length_cons]at this;omega) h'.2.2 hM).mono ?_
   rintro e w' ⟨a,cap,rfl,hs,hb⟩
   refine⟨_,0,a,cap,rfl,?_,hs,hb⟩
   simp only[splitP];rw[if_neg h]
theorem strs_cells {w:World} {ok:Nat->Prop} {xs:List (List UInt8)} {a:Option Addr} {n c k:Nat} (h:StrsAre w ok xs (.slice a n c)) (hk:k < xs.length):∃ b off,a=some ⟨b,off,none⟩/\xs.length<=c/\c<=maxLen/\w.cell? ⟨b,off+k,none⟩=some (.string ⟨xs[k].toArray⟩):=by
 rcases h.2 with⟨e,_⟩ | ⟨b,off,c',e,h1,h2,hcs⟩
 ·rw[e]at hk;simp at hk
 ·simp only[Value.slice.injEq]at e
  obtain⟨rfl,-,rfl⟩:=e
  exact⟨b,off,rfl,h1,h2,(hcs k xs[k] (List.getElem?_eq_getElem hk)).2.2⟩
end Go.Proofs.YtmdemcjmcnfjmaaGreatDoor
namespace Go.Proofs.YtmdemcjmcnfjmaaGreatDoor
open Go.RowKit
set_option maxRecDepth 100000 in
set_option maxHeartbeats 4000000 in
theorem namesOf_at (w:World) (p:List UInt8) (hp:p.length<=140737488351232) (hM:GlobM w) :
 Calls Tryz.prog 58 #[str p] w fun e w'=>∃ (a:Option Addr) (c:Nat),e=.returned (.slice a (namesP p).length c)/\StrsAre w' (fun k=>w.heap.size<=k) (namesP p) (.slice a (namesP p).length c)/\Below w.heap.size w w':=by
 have HM:=hidI hM
 clear hM
 go_enter Tryz.func58,Tryz.ntmps58
 go_wp2_with fail
 refine(split_all _ p hp (by exact HM.out)).mono ?_
 rintro e w1 ⟨ns,ee,na,nc,rfl,hsp,hns,hb1⟩
 have R:Hid (namesP p=ns):=hidI (by unfold namesP;rw[hsp])
 have K:=hidI hns
 have B:=hidI hb1
 clear hsp hns hb1
 go_wp2_with fail
 go_ret
 refine⟨na,nc,?_,?_,B.out⟩
 ·rw[R.out];rfl
 ·rw[R.out];exact K.out
def StandI (w:World) (ok:Nat->Prop) (t:V) (ns:List (List UInt8)) (na:Option Addr) (nc k:Nat) (wr:World):Prop:=
 ∃ (y:V) (a5 a6:Option Addr) (c5 c6:Nat),thr ns t=thr (ns.drop k) y/\BoxIs wr w.heap.size (.int .i64 y.kind) (.int .i64 y.n) (.string ⟨y.s.toArray⟩) (.slice a5 y.keys.length c5) (.slice a6 y.l.length c6)/\BoxIs wr (w.heap.size+1) (.int .i64 0) (.int .i64 0) (.string ⟨#[]⟩) (.slice none 0 0) (.slice none 0 0)/\Below w.heap.size w wr /\
  In wr (fun k=>ok k/\k < w.heap.size) y (.agg #[.int .i64 y.kind,.int .i64 y.n,.string ⟨y.s.toArray⟩,.slice a5 y.keys.length c5,.slice a6 y.l.length c6])/\StrsAre wr (fun k=>w.heap.size+2<=k) ns (.slice na ns.length nc)
set_option maxRecDepth 100000 in
set_option maxHeartbeats 40000000 in
theorem standing_is (w:World) (ok:Nat->Prop) (t:V) (v:Value) (p:List UInt8) (h:In w ok t v) (hp:p.length<=140737488351232) (hM:GlobM w) :
 Calls Tryz.prog 56 #[v,str p] w fun e w'=>∃ r,e=.returned (.tuple #[r,.bool (thr (namesP p) t).isSome])/\Below w.heap.size w w'/\In w' ok ((thr (namesP p) t).getD zeroT) r:=by
 have H:=hidI h.low
 have HMM:=hidI hM
 obtain⟨l1,l2,l3⟩:=h.lens
 obtain⟨a1,a2,c1,c2,rfl⟩:=h.form
 clear h hM
 go_enter Tryz.func56,Tryz.ntmps56
 go_wp2_with fail
 refine(namesOf_at _ p hp (by exact HMM.out.bel (bel_trans (bel_alloc _ _) (bel_alloc _ _)))).mono ?_
 rintro e w1 ⟨na,nc,rfl,hns,hb1⟩
 obtain⟨ns,hnp⟩:∃ ns,namesP p=ns:=⟨_,rfl⟩
 rw[hnp]at hns ⊢
 have NP:=hidI hnp
 clear hnp
 have nlen:=hns.1
 unfold maxLen at nlen
 have S0:Hid (StandI w ok t ns na nc 0 w1):=⟨t,a1,a2,c1,c2,rfl,box_bel hb1 (h2a w _ _),box_bel hb1 (h2b w _ _),bel_trans (bel_trans (bel_alloc _ _) (bel_alloc _ _)) hb1,H.out.bel (bel_trans (bel_trans (bel_alloc _ _) (bel_alloc _ _)) hb1),hns.imp fun a x hx hc=>⟨by simpa using hx,hc⟩⟩
 clear hb1 hns
 go_wp2_with fail
 go_loopg [13] ns.length (fun gk i wr=>∃ k:Nat,k<=ns.length/\gk=ns.length - k/\i=.int .i64 k/\StandI w ok t ns na nc k wr)
 case atStart=>exact⟨0,Nat.zero_le _,rfl,rfl,S0.out⟩
 case round=>
  obtain⟨k,hk,hgk,rfl,y,a5,a6,c5,c6,i1,i2,i3,i4,i5,i6⟩:=hrel
  have GK:=hidI hgk
  have I:Hid (thr ns t=thr (ns.drop k) y/\BoxIs wr w.heap.size (.int .i64 y.kind) (.int .i64 y.n) (.string ⟨y.s.toArray⟩) (.slice a5 y.keys.length c5) (.slice a6 y.l.length c6)/\BoxIs wr (w.heap.size+1) (.int .i64 0) (.int .i64 0) (.string ⟨#[]⟩) (.slice none 0 0) (.slice none 0 0)/\Below w.heap.size w wr/\In wr (fun k=>ok k/\k < w.heap.size) y (.agg #[.int .i64 y.kind,.int .i64 y.n,.string ⟨y.s.toArray⟩,.slice a5 y.keys.length c5,.slice a6 y.l.length c6])/\StrsAre wr (fun k=>w.heap.size+2<=k) ns (.slice na ns.length nc)):=⟨i1,i2,i3,i4,i5,i6⟩
  obtain⟨p0,p1,p2,p3,p4,p5,p6,p7,p8,p9⟩:=i2.c
  clear hgk i1 i2 i3 i4 i5 i6
  by_cases hlt:k < ns.length
  ·obtain⟨nb,no,rfl,hc1,hc2,hc⟩:=strs_cells I.out.2.2.2.2.2 hlt
   unfold maxLen at hc2
   go_wp2_with fail
   refine(member_was _ (fun k=>ok k/\k < w.heap.size) y _ ns[k] (by exact I.out.2.2.2.2.1)).mono ?_
   rintro e w3 ⟨r,rfl,hb3,hu⟩
   obtain⟨u,hu9⟩:∃ u,(memV y ns[k]).getD zeroT=u:=⟨_,rfl⟩
   rw[hu9]at hu
   obtain⟨b5,b6,d5,d6,rfl⟩:=hu.form
   have hbb:=bel_trans hb3 (bel_alloc w3 (.cells #[.int .i64 u.kind,.int .i64 u.n,.string ⟨u.s.toArray⟩,.slice b5 u.keys.length d5,.slice b6 u.l.length d6] 25))
   have K3:Hid (BoxIs (w3.alloc (.cells #[.int .i64 u.kind,.int .i64 u.n,.string ⟨u.s.toArray⟩,.slice b5 u.keys.length d5,.slice b6 u.l.length d6] 25)) w.heap.size (.int .i64 y.kind) (.int .i64 y.n) (.string ⟨y.s.toArray⟩) (.slice a5 y.keys.length c5) (.slice a6 y.l.length c6)/\BoxIs (w3.alloc (.cells #[.int .i64 u.kind,.int .i64 u.n,.string ⟨u.s.toArray⟩,.slice b5 u.keys.length d5,.slice b6 u.l.length d6] 25)) (w.heap.size+1) (.int .i64 0) (.int .i64 0) (.string ⟨#[]⟩) (.slice none 0 0) (.slice none 0 0)/\Below w.heap.size w (w3.alloc (.cells #[.int .i64 u.kind,.int .i64 u.n,.string ⟨u.s.toArray⟩,.slice b5 u.keys.length d5,.slice b6 u.l.length d6] 25))/\BoxIs (w3.alloc (.cells #[.int .i64 u.kind,.int .i64 u.n,.string ⟨u.s.toArray⟩,.slice b5 u.keys.length d5,.slice b6 u.l.length d6] 25)) w3.heap.size (.int .i64 u.kind) (.int .i64 u.n) (.string ⟨u.s.toArray⟩) (.slice b5 u.keys.length d5) (.slice b6 u.l.length d6)/\In (w3.alloc (.cells #[.int .i64 u.kind,.int .i64 u.n,.string ⟨u.s.toArray⟩,.slice b5 u.keys.length d5,.slice b6 u.l.length d6] 25)) (fun k=>ok k/\k < w.heap.size) u (.agg #[.int .i64 u.kind,.int .i64 u.n,.string ⟨u.s.toArray⟩,.slice b5 u.keys.length d5,.slice b6 u.l.length d6])/\StrsAre (w3.alloc (.cells #[.int .i64 u.kind,.int .i64 u.n,.string ⟨u.s.toArray⟩,.slice b5 u.keys.length d5,.slice b6 u.l.length d6] 25)) (fun k=>w.heap.size+2<=k) ns (.slice (some ⟨nb,no,none⟩) ns.length nc)):=⟨box_bel hbb I.out.2.1,box_bel hbb I.out.2.2.1,bel_trans I.out.2.2.2.1 hbb,heap_alloc_new w3 _,hu.bel (bel_alloc _ _),I.out.2.2.2.2.2.bel hbb⟩
   have GS:Hid (thr (ns.drop k) y=(memV y ns[k]).bind (thr (ns.drop (k+1)))):=hidI (by rw[List.drop_eq_getElem_cons hlt,thr])
   clear hb3 hbb hu hc p0 p1 p2 p3 p4 p5 p6 p7 p8 p9
   obtain⟨o0,o1,o2,o3,o4,o5,o6,o7,o8,o9⟩:=K3.out.1.c
   obtain⟨q0,q1,q2,q3,q4,-⟩:=K3.out.2.2.2.1.c
   cases hm:memV y ns[k] with
   | none=>
    obtain⟨x0,x1,x2,x3,x4,y0,y1,y2,y3,y4⟩:=(K3.out.2.1).c
    have Z:=hidI (bel_set5 K3.out.2.2.1 (Nat.le_succ w.heap.size) (.int .i64 0) (.int .i64 0) (.string ⟨#[]⟩) (.slice none 0 0) (.slice none 0 0))
    have ZB:=hidI ((K3.out.2.1).set (.int .i64 0) (.int .i64 0) (.string ⟨#[]⟩) (.slice none 0 0) (.slice none 0 0))
    have HA:Hid (thr ns t=none):=hidI (by rw[I.out.1,GS.out,hm];rfl)
    clear hm hu9 o0 o1 o2 o3 o4 o5 o6 o7 o8 o9 q0 q1 q2 q3 q4
    rw[Option.isSome_none]
    go_wp2_with fail
    obtain⟨z0,z1,z2,z3,z4,-⟩:=ZB.out.c
    refine bodyPost_ret (v:=.tuple #[.agg #[.int .i64 0,.int .i64 0,.string ⟨#[]⟩,.slice none 0 0,.slice none 0 0],.bool false]) ?_ rfl ?_
    ·simp only[set5]at z0 z1 z2 z3 z4
     simp[results,Tryz.results56,go_sem,z0,z1,z2,z3,z4]
    ·refine⟨_,by rw[NP.out,HA.out];rfl,Z.out,?_⟩
     rw[NP.out,HA.out]
     exact in_zero _ _
   | some z9=>
    rw[hm,Option.getD_some]at hu9
    subst hu9
    have HM:=hidI hm
    have FIN:Hid (StandI w ok t ns (some ⟨nb,no,none⟩) nc (k+1) (set5 (w3.alloc (.cells #[.int .i64 z9.kind,.int .i64 z9.n,.string ⟨z9.s.toArray⟩,.slice b5 z9.keys.length d5,.slice b6 z9.l.length d6] 25)) w.heap.size (.int .i64 z9.kind) (.int .i64 z9.n) (.string ⟨z9.s.toArray⟩) (.slice b5 z9.keys.length d5) (.slice b6 z9.l.length d6))):=by
     have g1:=set5_gb (w3.alloc (.cells #[.int .i64 z9.kind,.int .i64 z9.n,.string ⟨z9.s.toArray⟩,.slice b5 z9.keys.length d5,.slice b6 z9.l.length d6] 25)) w.heap.size (.int .i64 z9.kind) (.int .i64 z9.n) (.string ⟨z9.s.toArray⟩) (.slice b5 z9.keys.length d5) (.slice b6 z9.l.length d6)
     refine⟨z9,b5,b6,d5,d6,?_,K3.out.1.set _ _ _ _ _,K3.out.2.1.grown g1 (by simp),bel_set5 K3.out.2.2.1 (Nat.le_refl _) _ _ _ _ _,K3.out.2.2.2.2.1.grown g1 (fun k hk=>by omega),K3.out.2.2.2.2.2.imp (cells_grown g1 (fun k hk e=>by cases e;omega))⟩
     rw[I.out.1,GS.out,HM.out];rfl
    clear hm K3
    rw[Option.isSome_some]
    go_wp2_with fail
    go_roundg (ns.length - (k+1))
    case measure=>rw[GK.out];omega
    case rel=>exact⟨k+1,hlt,rfl,by go_num,FIN.out⟩
  ·have hke:k=ns.length:=by omega
   subst hke
   obtain⟨x0,x1,x2,x3,x4,y0,y1,y2,y3,y4⟩:=I.out.2.2.1.c
   have Z:=hidI (bel_set5 I.out.2.2.2.1 (Nat.le_succ w.heap.size) (.int .i64 y.kind) (.int .i64 y.n) (.string ⟨y.s.toArray⟩) (.slice a5 y.keys.length c5) (.slice a6 y.l.length c6))
   have ZI:=hidI ((I.out.2.2.2.2.1.grown (set5_gb wr (w.heap.size+1) (.int .i64 y.kind) (.int .i64 y.n) (.string ⟨y.s.toArray⟩) (.slice a5 y.keys.length c5) (.slice a6 y.l.length c6)) (fun k hk=>by omega)).weak fun k hk=>hk.1)
   have ZB:=hidI (I.out.2.2.1.set (.int .i64 y.kind) (.int .i64 y.n) (.string ⟨y.s.toArray⟩) (.slice a5 y.keys.length c5) (.slice a6 y.l.length c6))
   have HA:Hid (thr ns t=some y):=hidI (by rw[I.out.1,List.drop_length];rfl)
   go_wp2_with fail
   obtain⟨z0,z1,z2,z3,z4,-⟩:=ZB.out.c
   refine bodyPost_ret (v:=.tuple #[.agg #[.int .i64 y.kind,.int .i64 y.n,.string ⟨y.s.toArray⟩,.slice a5 y.keys.length c5,.slice a6 y.l.length c6],.bool true]) ?_ rfl ?_
   ·simp only[set5]at z0 z1 z2 z3 z4
    simp[results,Tryz.results56,go_sem,z0,z1,z2,z3,z4]
   ·refine⟨_,by rw[NP.out,HA.out];rfl,Z.out,?_⟩
    rw[NP.out,HA.out]
    exact ZI.out
end Go.Proofs.YtmdemcjmcnfjmaaGreatDoor
namespace Go.Proofs.YtmdemcjmcnfjmaaGreatDoor
open Go.RowKit
def PredS (w:World) (g:Nat) (lb:Array Value) (xs:List (List UInt8)) (p:List UInt8->Bool):Prop:=
 ∀ (W:World) (x:List UInt8),Below w.heap.size w W->x∈xs->Calls Tryz.prog g (#[.string ⟨x.toArray⟩]++lb) W fun e w'=>e=.returned (.bool (p x))/\Below W.heap.size W w'
theorem any_take {α:Type} {p:α->Bool} {xs:List α} {k:Nat} (hk:k < xs.length) (h:(xs.take k).any p=false) (h2:p xs[k]=false):(xs.take (k+1)).any p=false:=by
 rw[List.take_succ_eq_append_getElem hk,List.any_append,h];simp[h2]
theorem any_here {α:Type} {p:α->Bool} {xs:List α} {k:Nat} (hk:k < xs.length) (h2:p xs[k]=true):xs.any p=true:=by
 rw[List.any_eq_true];exact⟨xs[k],List.getElem_mem _,h2⟩
set_option maxRecDepth 100000 in
set_option maxHeartbeats 4000000 in
theorem findS_at (w:World) (ok:Nat->Prop) (xs:List (List UInt8)) (v:Value) (g:Nat) (lb:Array Value) (p:List UInt8->Bool) (h:StrsAre w ok xs v) (eg:∀ args w,(callFunc g args).run Tryz.prog w=.ok (.enter g args) w) (hp:PredS w g lb xs p) :
 Calls Tryz.prog 81 #[v,.func (.func g) #[] lb] w fun e w'=>(∃ r:Int,e=.returned (.int .i64 r)/\(decide (0<=r)=xs.any p))/\Below w.heap.size w w':=by
 obtain⟨a,c,rfl⟩:=h.form
 have H:=hidI h
 have HP:=hidI hp
 have ll:=h.1
 unfold maxLen at ll
 clear h hp
 go_enter Tryz.func81,Tryz.ntmps81
 go_wp2_with fail
 go_loopg [5,8] xs.length (fun gk _ i wr=>∃ k:Nat,k<=xs.length/\gk=xs.length - k/\i=.int .i64 k/\Hid ((xs.take k).any p=false)/\Hid (Below w.heap.size w wr))
 case atStart=>exact⟨0,Nat.zero_le _,rfl,rfl,rfl,Below.refl _ _⟩
 case round=>
  obtain⟨k,hk,hgk,rfl,HA,BL⟩:=hrel
  have GK:=hidI hgk
  clear hgk
  by_cases hlt:k < xs.length
  ·obtain⟨b,off,rfl,j1,j2,k1⟩:=strs_at H.out hlt
   unfold maxLen at j2
   have c1:=cell_bel BL.out k1
   have w2:(k:Int) < (xs.length:Int):=by omega
   clear k1
   have CALL:=HP.out wr xs[k] BL.out (List.getElem_mem _)
   have T0:Hid (p xs[k]=false->(xs.take (k+1)).any p=false):=hidI (fun h9=>any_take hlt HA.out h9)
   have T1:Hid (p xs[k]=true->xs.any p=true):=hidI (fun h9=>any_here hlt h9)
   obtain⟨o,ho⟩:∃ o,p xs[k]=o:=⟨_,rfl⟩
   rw[ho]at CALL T0 T1
   clear ho
   cases o with
   | false=>
    go_wp2_with (go_at_fn g;refine CALL.mono ?_;rintro e w1 ⟨rfl,hb⟩)
    go_roundg (xs.length - (k+1))
    case measure=>rw[GK.out];omega
    case rel=>exact⟨k+1,hlt,rfl,by go_num,hidI (T0.out (by simp)),hidI (bel_trans BL.out hb)⟩
   | true=>
    go_wp2_with (go_at_fn g;refine CALL.mono ?_;rintro e w1 ⟨rfl,hb⟩)
    go_ret
    refine⟨⟨k,rfl,?_⟩,bel_trans BL.out hb⟩
    rw[T1.out (by simp)];simp
  ·have d1:¬(k:Int) < (xs.length:Int):=by omega
   have hke:k=xs.length:=by omega
   have R:Hid (xs.any p=false):=hidI (by have:=HA.out;rwa [hke,List.take_length]at this)
   clear hke
   go_wp2_with fail
   go_ret
   exact⟨⟨-1,rfl,by rw[R.out];rfl⟩,BL.out⟩
set_option maxRecDepth 100000 in
theorem containsS_at (w:World) (ok:Nat->Prop) (xs:List (List UInt8)) (v:Value) (g:Nat) (lb:Array Value) (p:List UInt8->Bool) (h:StrsAre w ok xs v) (eg:∀ args w,(callFunc g args).run Tryz.prog w=.ok (.enter g args) w) (hp:PredS w g lb xs p) :
 Calls Tryz.prog 53 #[v,.func (.func g) #[] lb] w fun e w'=>e=.returned (.bool (xs.any p))/\Below w.heap.size w w':=by
 obtain⟨a,c,rfl⟩:=h.form
 have C:=findS_at w ok xs _ g lb p h eg hp
 clear h hp
 go_enter Tryz.func53,Tryz.ntmps53
 go_wp2_with (go_at_call 81;refine C.mono ?_;rintro e w1 ⟨⟨r,rfl,hr⟩,hb⟩)
 go_ret
 exact⟨by rw[<-hr];rfl,hb⟩
def PredO (w:World) (ok:Nat->Prop) (g:Nat) (lb:Array Value) (xs:List Own) (p:Own->Bool):Prop:=
 ∀ (W:World) (x:Own) (pa:Option Addr) (pc:Nat),Below w.heap.size w W->x∈xs->StrsAre W ok x.paths (.slice pa x.paths.length pc)->Calls Tryz.prog g (#[.agg #[.string ⟨x.name.toArray⟩,.slice pa x.paths.length pc]]++lb) W fun e w'=>e=.returned (.bool (p x))/\Below W.heap.size W w'
set_option maxRecDepth 100000 in
set_option maxHeartbeats 4000000 in
theorem findO_at (w:World) (ok:Nat->Prop) (xs:List Own) (v:Value) (g:Nat) (lb:Array Value) (p:Own->Bool) (h:OwnsAre w ok xs v) (eg:∀ args w,(callFunc g args).run Tryz.prog w=.ok (.enter g args) w) (hp:PredO w ok g lb xs p) :
 Calls Tryz.prog 127 #[v,.func (.func g) #[] lb] w fun e w'=>(∃ r:Int,e=.returned (.int .i64 r)/\(decide (0<=r)=xs.any p))/\Below w.heap.size w w':=by
 obtain⟨a,c,rfl⟩:=h.form
 have H:=hidI h
 have HP:=hidI hp
 have ll:=h.1
 unfold maxLen at ll
 clear h hp
 go_enter Tryz.func127,Tryz.ntmps127
 go_wp2_with fail
 go_loopg [5,8] xs.length (fun gk _ i wr=>∃ k:Nat,k<=xs.length/\gk=xs.length - k/\i=.int .i64 k/\Hid ((xs.take k).any p=false)/\Hid (Below w.heap.size w wr))
 case atStart=>exact⟨0,Nat.zero_le _,rfl,rfl,rfl,Below.refl _ _⟩
 case round=>
  obtain⟨k,hk,hgk,rfl,HA,BL⟩:=hrel
  have GK:=hidI hgk
  clear hgk
  by_cases hlt:k < xs.length
  ·obtain⟨b,off,pa,pc,rfl,j1,j2,k1,k2,k3,k4⟩:=H.out.at hlt
   have c1:=cell_bel BL.out k1
   have c2:=cell_bel BL.out k2
   have w2:(k:Int) < (xs.length:Int):=by omega
   have CALL:=HP.out wr xs[k] pa pc BL.out (List.getElem_mem _) (k3.imp fun a x h1 h2=>⟨h1,cell_bel BL.out h2⟩)
   clear k1 k2 k3
   have T0:Hid (p xs[k]=false->(xs.take (k+1)).any p=false):=hidI (fun h9=>any_take hlt HA.out h9)
   have T1:Hid (p xs[k]=true->xs.any p=true):=hidI (fun h9=>any_here hlt h9)
   obtain⟨o,ho⟩:∃ o,p xs[k]=o:=⟨_,rfl⟩
   rw[ho]at CALL T0 T1
   clear ho
   cases o with
   | false=>
    go_wp2_with (go_at_fn g;refine CALL.mono ?_;rintro e w1 ⟨rfl,hb⟩)
    go_roundg (xs.length - (k+1))
    case measure=>rw[GK.out];omega
    case rel=>exact⟨k+1,hlt,rfl,by go_num,hidI (T0.out (by simp)),hidI (bel_trans BL.out hb)⟩
   | true=>
    go_wp2_with (go_at_fn g;refine CALL.mono ?_;rintro e w1 ⟨rfl,hb⟩)
    go_ret
    refine⟨⟨k,rfl,?_⟩,bel_trans BL.out hb⟩
    rw[T1.out (by simp)];simp
  ·have d1:¬(k:Int) < (xs.length:Int):=by omega
   have hke:k=xs.length:=by omega
   have R:Hid (xs.any p=false):=hidI (by have:=HA.out;rwa [hke,List.take_length]at this)
   clear hke
   go_wp2_with fail
   go_ret
   exact⟨⟨-1,rfl,by rw[R.out];rfl⟩,BL.out⟩
set_option maxRecDepth 100000 in
theorem containsO_at (w:World) (ok:Nat->Prop) (xs:List Own) (v:Value) (g:Nat) (lb:Array Value) (p:Own->Bool) (h:OwnsAre w ok xs v) (eg:∀ args w,(callFunc g args).run Tryz.prog w=.ok (.enter g args) w) (hp:PredO w ok g lb xs p) :
 Calls Tryz.prog 84 #[v,.func (.func g) #[] lb] w fun e w'=>e=.returned (.bool (xs.any p))/\Below w.heap.size w w':=by
 obtain⟨a,c,rfl⟩:=h.form
 have C:=findO_at w ok xs _ g lb p h eg hp
 clear h hp
 go_enter Tryz.func84,Tryz.ntmps84
 go_wp2_with (go_at_call 127;refine C.mono ?_;rintro e w1 ⟨⟨r,rfl,hr⟩,hb⟩)
 go_ret
 exact⟨by rw[<-hr];rfl,hb⟩
end Go.Proofs.YtmdemcjmcnfjmaaGreatDoor
namespace Go.Proofs.YtmdemcjmcnfjmaaGreatDoor
open Go.RowKit
theorem cmp_lt:∀ (a b:List UInt8),Lib.compareBytes a b < 0↔Op.bytesLess a b=true
 | [],[]=>by simp[Lib.compareBytes,Op.bytesLess]
 | [],_ :: _=>by simp[Lib.compareBytes,Op.bytesLess]
 | _ :: _,[]=>by simp[Lib.compareBytes,Op.bytesLess]
 | x :: a,y :: b=>by
  have ih:=cmp_lt a b
  simp only[Lib.compareBytes,Op.bytesLess,Bool.or_eq_true,Bool.and_eq_true,decide_eq_true_eq,beq_iff_eq]
  by_cases h1:x < y
  ·simp[h1]
  ·by_cases h2:y < x
   ·have:x≠y:=fun e=>by subst e;exact h1 h2
    simp[h1,h2,this]
   ·have:x=y:=by
     rw[UInt8.lt_iff_toNat_lt]at h1 h2
     exact UInt8.toNat_inj.1 (by omega)
    simp[h1,h2,this,ih]
theorem cmp_eq0:∀ (a b:List UInt8),Lib.compareBytes a b=0↔a=b
 | [],[]=>by simp[Lib.compareBytes]
 | [],_ :: _=>by simp[Lib.compareBytes]
 | _ :: _,[]=>by simp[Lib.compareBytes]
 | x :: a,y :: b=>by
  have ih:=cmp_eq0 a b
  simp only[Lib.compareBytes,List.cons.injEq]
  by_cases h1:x < y
  ·have:x≠y:=fun e=>by subst e;exact UInt8.lt_irrefl _ h1
   simp[h1,this]
  ·by_cases h2:y < x
   ·have:x≠y:=fun e=>by subst e;exact h1 h2
    simp[h1,h2,this]
   ·have:x=y:=by
     rw[UInt8.lt_iff_toNat_lt]at h1 h2
     exact UInt8.toNat_inj.1 (by omega)
    simp[h1,h2,this,ih]
def SrchI (ks:List (List UInt8)) (p:List UInt8) (lo hi:Nat):Prop:=(∀ t x,t < lo->ks[t]?=some x->Op.bytesLess x p=true)/\(∀ t x,hi<=t->ks[t]?=some x->Op.bytesLess x p=false)
theorem srch_up {ks:List (List UInt8)} {p:List UInt8} {lo hi m:Nat} (hr:Rises ks) (h:SrchI ks p lo hi) (hm:m < ks.length) (hl:Op.bytesLess ks[m] p=true):SrchI ks p (m+1) hi:=by
 refine⟨fun t x ht hx=>?_,h.2⟩
 by_cases e:t=m
 ·subst e;rw[List.getElem?_eq_getElem hm]at hx;cases hx;exact hl
 ·obtain⟨ht2,rfl⟩:=List.getElem?_eq_some_iff.1 hx
  exact less_trans _ _ _ (List.pairwise_iff_getElem.1 hr t m ht2 hm (by omega)) hl
theorem srch_down {ks:List (List UInt8)} {p:List UInt8} {lo hi m:Nat} (hr:Rises ks) (h:SrchI ks p lo hi) (hm:m < ks.length) (hl:Op.bytesLess ks[m] p=false):SrchI ks p lo m:=by
 refine⟨h.1,fun t x ht hx=>?_⟩
 by_cases e:t=m
 ·subst e;rw[List.getElem?_eq_getElem hm]at hx;cases hx;exact hl
 ·obtain⟨ht2,rfl⟩:=List.getElem?_eq_some_iff.1 hx
  cases h9:Op.bytesLess ks[t] p with
  | false=>rfl
  | true=>
   have:=less_trans _ _ _ (List.pairwise_iff_getElem.1 hr m t hm ht2 (by omega)) h9
   rw[hl]at this;cases this
theorem srch_count:∀ (ks:List (List UInt8)) (p:List UInt8) (i:Nat),i<=ks.length->SrchI ks p i i->ks.countP (fun x=>Op.bytesLess x p)=i
 | [],p,i,hi,_=>by simp at hi;simp[hi]
 | a :: r,p,0,_,h=>by
  rw[List.countP_eq_zero]
  intro x hx
  obtain⟨t,ht,rfl⟩:=List.getElem_of_mem hx
  rw[h.2 t _ (Nat.zero_le _) (List.getElem?_eq_getElem ht)];simp
 | a :: r,p,i+1,hi,h=>by
  rw[List.countP_cons_of_pos (p:=fun x=>Op.bytesLess x p) (h.1 0 a (by omega) rfl),srch_count r p i (by simpa using hi) ⟨fun t x ht hx=>h.1 (t+1) x (by omega) (by simpa using hx),fun t x ht hx=>h.2 (t+1) x (by omega) (by simpa using hx)⟩]
theorem srch_has {ks:List (List UInt8)} {p:List UInt8} {i:Nat} (h:SrchI ks p i i) (hi:i < ks.length) (hr:Rises ks):ks.contains p=decide (ks[i]=p):=by
 rw[Bool.eq_iff_iff,List.contains_iff_mem,decide_eq_true_eq]
 constructor
 ·intro hm
  obtain⟨t,ht,e⟩:=List.getElem_of_mem hm
  have h1:i<=t:=by
   apply Classical.byContradiction
   intro h9
   have:=h.1 t _ (by omega) (List.getElem?_eq_getElem ht)
   rw[e,less_irrefl]at this;cases this
  by_cases e2:t=i
  ·subst e2;exact e
  ·have h3:=List.pairwise_iff_getElem.1 hr i t hi ht (by omega)
   rw[e,h.2 i _ (Nat.le_refl _) (List.getElem?_eq_getElem hi)]at h3;cases h3
 ·intro e;rw[<-e];exact List.getElem_mem _
theorem srch_none {ks:List (List UInt8)} {p:List UInt8} {i:Nat} (h:SrchI ks p i i) (hi:ks.length<=i):ks.contains p=false:=by
 rw[Bool.eq_false_iff]
 intro hm
 rw[List.contains_iff_mem]at hm
 obtain⟨t,ht,e⟩:=List.getElem_of_mem hm
 have:=h.1 t _ (by omega) (List.getElem?_eq_getElem ht)
 rw[e,less_irrefl]at this;cases this
set_option maxRecDepth 100000 in
set_option maxHeartbeats 4000000 in
theorem searchS_at (w:World) (ok:Nat->Prop) (xs:List (List UInt8)) (v:Value) (p:List UInt8) (h:StrsAre w ok xs v) (hr:Rises xs) (hn:xs.length < 4611686018427387904) :
 Calls Tryz.prog 80 #[v,.string ⟨p.toArray⟩,.func (.func 34) #[] #[]] w fun e w'=>e=.returned (.tuple #[.int .i64 (xs.countP (fun x=>Op.bytesLess x p):Nat),.bool (xs.contains p)])/\Below w.heap.size w w':=by
 obtain⟨a,c,rfl⟩:=h.form
 have H:=hidI h
 have HR:=hidI hr
 clear h hr
 go_enter Tryz.func80,Tryz.ntmps80
 go_wp2_with fail
 go_loopg [9,10] xs.length (fun kx s9 s10 wr=>∃ lo hi:Nat,s9=.int .i64 lo/\s10=.int .i64 hi/\lo<=hi/\hi<=xs.length/\hi - lo<=kx/\Hid (SrchI xs p lo hi)/\Hid (Below w.heap.size w wr))
 case atStart=>exact⟨0,xs.length,rfl,rfl,Nat.zero_le _,Nat.le_refl _,by omega,hidI ⟨fun t x ht=>absurd ht (Nat.not_lt_zero _),fun t x ht hx=>by rw[List.getElem?_eq_none ht]at hx;cases hx⟩,Below.refl _ _⟩
 case round=>
  obtain⟨lo,hi,rfl,rfl,hlh,hin,hg,I,BL⟩:=hrel
  by_cases hlt:lo < hi
  ·have hm:(lo+hi) / 2 < xs.length:=by omega
   obtain⟨b,off,rfl,j1,j2,k1⟩:=strs_at H.out hm
   unfold maxLen at j2
   have c1:=cell_bel BL.out k1
   clear k1
   have UP:Hid (Lib.compareBytes xs[(lo+hi) / 2] p < 0->SrchI xs p ((lo+hi) / 2+1) hi):=hidI (fun h9=>srch_up HR.out I.out hm ((cmp_lt _ _).1 h9))
   have DN:Hid (¬Lib.compareBytes xs[(lo+hi) / 2] p < 0->SrchI xs p lo ((lo+hi) / 2)):=hidI (fun h9=>srch_down HR.out I.out hm (by rw[Bool.eq_false_iff];exact fun h8=>h9 ((cmp_lt _ _).2 h8)))
   have CALL:=Tryz.strCompare ⟨xs[(lo+hi) / 2].toArray⟩ ⟨p.toArray⟩ wr
   simp only[List.toList_toArray]at CALL
   obtain⟨r,hr⟩:∃ r,Lib.compareBytes xs[(lo+hi) / 2] p=r:=⟨_,rfl⟩
   rw[hr]at CALL UP DN
   clear hr
   by_cases hyx:r < 0
   ·go_wp2_with (go_at_call 34;refine CALL.mono ?_;rintro e w' ⟨rfl,hw1⟩;have hw2:=hw1.symm;subst hw2;clear hw1)
    go_roundg (hi - ((lo+hi) / 2+1))
    case measure=>omega
    case rel=>exact⟨(lo+hi) / 2+1,hi,by rw[show ((lo:Int)+(hi:Int)) / 2+1=(((lo+hi) / 2+1:Nat):Int) by omega],rfl,by omega,hin,Nat.le_refl _,hidI (UP.out hyx),BL⟩
   ·go_wp2_with (go_at_call 34;refine CALL.mono ?_;rintro e w' ⟨rfl,hw1⟩;have hw2:=hw1.symm;subst hw2;clear hw1)
    go_roundg ((lo+hi) / 2 - lo)
    case measure=>omega
    case rel=>exact⟨lo,(lo+hi) / 2,rfl,by rw[show ((lo:Int)+(hi:Int)) / 2=(((lo+hi) / 2:Nat):Int) by omega],by omega,by omega,Nat.le_refl _,hidI (DN.out hyx),BL⟩
  ·obtain rfl:hi=lo:=by omega
   have CN:=hidI (srch_count xs p hi hin I.out)
   by_cases hn:hi < xs.length
   ·obtain⟨b,off,rfl,j1,j2,k1⟩:=strs_at H.out hn
    unfold maxLen at j2
    have c1:=cell_bel BL.out k1
    clear k1
    have HS:=hidI (srch_has I.out hn HR.out)
    have E0:Hid (Lib.compareBytes xs[hi] p=0↔xs[hi]=p):=hidI (cmp_eq0 _ _)
    have CALL:=Tryz.strCompare ⟨xs[hi].toArray⟩ ⟨p.toArray⟩ wr
    simp only[List.toList_toArray]at CALL
    obtain⟨r,hr⟩:∃ r,Lib.compareBytes xs[hi] p=r:=⟨_,rfl⟩
    rw[hr]at CALL E0
    clear hr
    by_cases hyx:r=0
    ·have R:Hid (xs.contains p=true):=hidI (by rw[HS.out];exact decide_eq_true (E0.out.1 hyx))
     subst hyx
     go_wp2_with (go_at_call 34;refine CALL.mono ?_;rintro e w' ⟨rfl,hw1⟩;have hw2:=hw1.symm;subst hw2;clear hw1)
     go_ret2
     exact⟨by rw[R.out,CN.out];first | done | rfl | simp,BL.out⟩
    ·have R:Hid (xs.contains p=false):=hidI (by rw[HS.out];exact decide_eq_false (fun h9=>hyx (E0.out.2 h9)))
     have e9:(r == 0)=false:=by rw[beq_eq_false_iff_ne];exact hyx
     clear hyx
     go_wp2_with (go_at_call 34;refine CALL.mono ?_;rintro e w' ⟨rfl,hw1⟩;have hw2:=hw1.symm;subst hw2;clear hw1)
     go_ret2
     exact⟨by rw[R.out,CN.out];first | done | rfl | simp,BL.out⟩
   ·have R:=hidI (srch_none I.out (by omega))
    go_wp2_with fail
    go_ret2
    exact⟨by rw[R.out,CN.out];first | done | rfl | simp,BL.out⟩
set_option maxRecDepth 100000 in
theorem cmpOwner_at (w:World) (n p:List UInt8) (v:Value) :
 Calls Tryz.prog 89 #[.agg #[.string ⟨n.toArray⟩,v],.string ⟨p.toArray⟩] w fun e w'=>e=.returned (.int .i64 (Lib.compareBytes n p))/\Below w.heap.size w w':=by
 have CALL:Hid (∀ W,Calls Tryz.prog 34 #[.string ⟨n.toArray⟩,.string ⟨p.toArray⟩] W fun e w'=>e=.returned (.int .i64 (Lib.compareBytes n p))/\w'=W):=hidI (fun W=>by
  have:=Tryz.strCompare ⟨n.toArray⟩ ⟨p.toArray⟩ W
  simpa only[List.toList_toArray] using this)
 obtain⟨r,hr⟩:∃ r,Lib.compareBytes n p=r:=⟨_,rfl⟩
 rw[hr]at CALL ⊢
 clear hr
 go_enter Tryz.func89,Tryz.ntmps89
 go_wp2_with (go_at_call 34;refine(CALL.out _).mono ?_;rintro e w' ⟨rfl,hw1⟩;have hw2:=hw1.symm;subst hw2;clear hw1)
 go_ret
 exact⟨rfl,bel_alloc _ _⟩
set_option maxRecDepth 100000 in
set_option maxHeartbeats 4000000 in
theorem searchO_at (w:World) (ok:Nat->Prop) (xs:List Own) (v:Value) (p:List UInt8) (h:OwnsAre w ok xs v) (hr:Rises (xs.map Own.name)) (hn:xs.length < 4611686018427387904) :
 Calls Tryz.prog 88 #[v,.string ⟨p.toArray⟩,.func (.func 89) #[] #[]] w fun e w'=>e=.returned (.tuple #[.int .i64 (placeO xs p:Nat),.bool ((xs.map Own.name).contains p)])/\Below w.heap.size w w':=by
 obtain⟨a,c,rfl⟩:=h.form
 have H:=hidI h
 have HR:=hidI hr
 have LM:(xs.map Own.name).length=xs.length:=List.length_map _
 have PL:Hid (placeO xs p=(xs.map Own.name).countP (fun x=>Op.bytesLess x p)):=hidI (by unfold placeO;rw[List.countP_map];rfl)
 have LMH:=hidI LM
 clear h hr LM
 go_enter Tryz.func88,Tryz.ntmps88
 go_wp2_with fail
 go_loopg [9,10] xs.length (fun kx s9 s10 wr=>∃ lo hi:Nat,s9=.int .i64 lo/\s10=.int .i64 hi/\lo<=hi/\hi<=xs.length/\hi - lo<=kx/\Hid (SrchI (xs.map Own.name) p lo hi)/\Hid (Below w.heap.size w wr))
 case atStart=>exact⟨0,xs.length,rfl,rfl,Nat.zero_le _,Nat.le_refl _,by omega,hidI ⟨fun t x ht=>absurd ht (Nat.not_lt_zero _),fun t x ht hx=>by rw[List.getElem?_eq_none (by rw[LMH.out];exact ht)]at hx;cases hx⟩,Below.refl _ _⟩
 case round=>
  obtain⟨lo,hi,rfl,rfl,hlh,hin,hg,I,BL⟩:=hrel
  by_cases hlt:lo < hi
  ·have hm:(lo+hi) / 2 < xs.length:=by omega
   obtain⟨b,off,pa,pc,rfl,j1,j2,k1,k2,-,-⟩:=H.out.at hm
   have c1:=cell_bel BL.out k1
   have c2:=cell_bel BL.out k2
   clear k1 k2
   have UP:Hid (Lib.compareBytes xs[(lo+hi) / 2].name p < 0->SrchI (xs.map Own.name) p ((lo+hi) / 2+1) hi):=hidI (fun h9=>srch_up HR.out I.out (by rw[LMH.out];exact hm) (by rw[List.getElem_map];exact(cmp_lt _ _).1 h9))
   have DN:Hid (¬Lib.compareBytes xs[(lo+hi) / 2].name p < 0->SrchI (xs.map Own.name) p lo ((lo+hi) / 2)):=hidI (fun h9=>srch_down HR.out I.out (by rw[LMH.out];exact hm) (by rw[List.getElem_map,Bool.eq_false_iff];exact fun h8=>h9 ((cmp_lt _ _).2 h8)))
   have CALL:Hid (∀ W,Calls Tryz.prog 89 #[.agg #[.string ⟨xs[(lo+hi) / 2].name.toArray⟩,.slice pa xs[(lo+hi) / 2].paths.length pc],.string ⟨p.toArray⟩] W fun e w'=>e=.returned (.int .i64 (Lib.compareBytes xs[(lo+hi) / 2].name p))/\Below W.heap.size W w'):=hidI (fun W=>cmpOwner_at W _ p _)
   obtain⟨r,hr⟩:∃ r,Lib.compareBytes xs[(lo+hi) / 2].name p=r:=⟨_,rfl⟩
   rw[hr]at CALL UP DN
   clear hr
   by_cases hyx:r < 0
   ·go_wp2_with (go_at_call 89;refine(CALL.out _).mono ?_;rintro e w' ⟨rfl,hb⟩)
    go_roundg (hi - ((lo+hi) / 2+1))
    case measure=>omega
    case rel=>exact⟨(lo+hi) / 2+1,hi,by rw[show ((lo:Int)+(hi:Int)) / 2+1=(((lo+hi) / 2+1:Nat):Int) by omega],rfl,by omega,hin,Nat.le_refl _,hidI (UP.out hyx),hidI (bel_trans BL.out hb)⟩
   ·go_wp2_with (go_at_call 89;refine(CALL.out _).mono ?_;rintro e w' ⟨rfl,hb⟩)
    go_roundg ((lo+hi) / 2 - lo)
    case measure=>omega
    case rel=>exact⟨lo,(lo+hi) / 2,rfl,by rw[show ((lo:Int)+(hi:Int)) / 2=(((lo+hi) / 2:Nat):Int) by omega],by omega,by omega,Nat.le_refl _,hidI (DN.out hyx),hidI (bel_trans BL.out hb)⟩
  ·obtain rfl:hi=lo:=by omega
   have CN:Hid (placeO xs p=hi):=hidI (by rw[PL.out];exact srch_count _ p hi (by rw[LMH.out];exact hin) I.out)
   by_cases hn:hi < xs.length
   ·obtain⟨b,off,pa,pc,rfl,j1,j2,k1,k2,-,-⟩:=H.out.at hn
    have c1:=cell_bel BL.out k1
    have c2:=cell_bel BL.out k2
    clear k1 k2
    have HS:Hid ((xs.map Own.name).contains p=decide (xs[hi].name=p)):=hidI (by have:=srch_has I.out (by rw[LMH.out];exact hn) HR.out;rwa [List.getElem_map]at this)
    have E0:Hid (Lib.compareBytes xs[hi].name p=0↔xs[hi].name=p):=hidI (cmp_eq0 _ _)
    have CALL:Hid (∀ W,Calls Tryz.prog 89 #[.agg #[.string ⟨xs[hi].name.toArray⟩,.slice pa xs[hi].paths.length pc],.string ⟨p.toArray⟩] W fun e w'=>e=.returned (.int .i64 (Lib.compareBytes xs[hi].name p))/\Below W.heap.size W w'):=hidI (fun W=>cmpOwner_at W _ p _)
    obtain⟨r,hr⟩:∃ r,Lib.compareBytes xs[hi].name p=r:=⟨_,rfl⟩
    rw[hr]at CALL E0
    clear hr
    by_cases hyx:r=0
    ·have R:Hid ((xs.map Own.name).contains p=true):=hidI (by rw[HS.out];exact decide_eq_true (E0.out.1 hyx))
     subst hyx
     go_wp2_with (go_at_call 89;refine(CALL.out _).mono ?_;rintro e w' ⟨rfl,hb⟩)
     go_ret2
     exact⟨by rw[R.out,CN.out];first | done | rfl | simp,bel_trans BL.out hb⟩
    ·have R:Hid ((xs.map Own.name).contains p=false):=hidI (by rw[HS.out];exact decide_eq_false (fun h9=>hyx (E0.out.2 h9)))
     have e9:(r == 0)=false:=by rw[beq_eq_false_iff_ne];exact hyx
     clear hyx
     go_wp2_with (go_at_call 89;refine(CALL.out _).mono ?_;rintro e w' ⟨rfl,hb⟩)
     go_ret2
     exact⟨by rw[R.out,CN.out];first | done | rfl | simp,bel_trans BL.out hb⟩
   ·have R:Hid ((xs.map Own.name).contains p=false):=hidI (srch_none I.out (by rw[LMH.out];omega))
    go_wp2_with fail
    go_ret2
    exact⟨by rw[R.out,CN.out];first | done | rfl | simp,BL.out⟩
set_option maxRecDepth 100000 in
theorem find_owner (w:World) (ok:Nat->Prop) (xs:List Own) (v:Value) (p:List UInt8) (h:OwnsAre w ok xs v) (hr:Rises (xs.map Own.name)) (hn:xs.length < 4611686018427387904) :
 Calls Tryz.prog 61 #[v,.string ⟨p.toArray⟩] w fun e w'=>e=.returned (.tuple #[.int .i64 (placeO xs p:Nat),.bool ((xs.map Own.name).contains p)])/\Below w.heap.size w w':=by
 have C:=searchO_at w ok xs v p h hr hn
 obtain⟨a,c,rfl⟩:=h.form
 generalize (xs.map Own.name).contains p=o at C ⊢
 clear h hr
 go_enter Tryz.func61,Tryz.ntmps61
 go_wp2_with (go_at_call 88;refine C.mono ?_;rintro e w1 ⟨rfl,hb⟩)
 go_ret2
 exact⟨rfl,hb⟩
end Go.Proofs.YtmdemcjmcnfjmaaGreatDoor
namespace Go.Proofs.YtmdemcjmcnfjmaaGreatDoor
open Go.RowKit
open Go.Lib (index count replaceK replaceAll split splitK)
theorem thr_get:∀ (ns:List (List UInt8)) (v y:V),thr ns v=some y->getV ns v=some y
 | [],v,y,h=>h
 | n :: ns,v,y,h=>by
  obtain⟨hk,z,hm,hz⟩:=thr_kind h
  unfold getV meantV
  rw[hk,if_neg (by decide),hm]
  exact thr_get ns z y hz
theorem laidAll_eq (want:V) (L:List (List UInt8)) (v:V):laidAllF want L v=layAll want (L.map namesP) v:=by
 unfold laidAllF layAll
 rw[List.foldl_map]
def keepN (L:List (List UInt8)) (others:List Own) (ns:List (List UInt8)):Bool:=L.contains (joinP ns) || concF others (joinP ns)
theorem cleared_eq (L:List (List UInt8)) (others:List Own):∀ (had:List (List UInt8)) (v:V),(∀ p∈had,gpB p=true)->clearedF L others had v=clearF (keepN L others) (had.map namesP) v
 | [],v,_=>rfl
 | p :: had,v,h=>by
  have e1:clearedF L others (p :: had) v=clearedF L others had (if (thr (namesP p) v).isSome&&!(L.contains p || concF others p) then outF (namesP p) v else v):=rfl
  have e2:clearF (keepN L others) ((p :: had).map namesP) v=clearF (keepN L others) (had.map namesP) (if (thr (namesP p) v).isSome&&!keepN L others (namesP p) then outF (namesP p) v else v):=rfl
  have e3:keepN L others (namesP p)=(L.contains p || concF others p):=by unfold keepN;rw[(gp_names (h p (by simp))).2.2]
  rw[e1,e2,e3]
  exact cleared_eq L others had _ fun q hq=>h q (by simp[hq])
theorem good_own {l:List Own} (h:goodOs l=true):l.length<=6/\(∀ o∈l,namedB o.name=true/\gpsB o.paths=true)/\Rises (l.map Own.name):=by
 unfold goodOs at h
 rw[Bool.and_eq_true,Bool.and_eq_true,decide_eq_true_eq,List.all_eq_true,rises_iff]at h
 exact⟨h.1.1,fun o ho=>by have:=h.1.2 o ho;unfold ownB at this;rwa [Bool.and_eq_true]at this,h.2⟩
theorem own_good {l:List Own} (h1:l.length<=6) (h2:∀ o∈l,namedB o.name=true/\gpsB o.paths=true) (h3:Rises (l.map Own.name)):goodOs l=true:=by
 unfold goodOs
 rw[Bool.and_eq_true,Bool.and_eq_true,decide_eq_true_eq,List.all_eq_true,rises_iff]
 exact⟨⟨h1,fun o ho=>by unfold ownB;rw[Bool.and_eq_true];exact h2 o ho⟩,h3⟩
theorem gps_parts {l:List (List UInt8)} (h:gpsB l=true):l≠[]/\(∀ p∈l,gpB p=true)/\Rises l:=by
 unfold gpsB at h
 rw[Bool.and_eq_true,Bool.and_eq_true,List.all_eq_true,rises_iff]at h
 exact⟨fun e=>by rw[e]at h;simp at h,h.1.2,h.2⟩
theorem gps_of {l:List (List UInt8)} (h1:l≠[]) (h2:∀ p∈l,gpB p=true) (h3:Rises l):gpsB l=true:=by
 unfold gpsB
 rw[Bool.and_eq_true,Bool.and_eq_true,List.all_eq_true,rises_iff]
 exact⟨⟨by cases l with | nil=>exact absurd rfl h1 | cons a r=>rfl,h2⟩,h3⟩
theorem rises_sub {a b:List (List UInt8)} (h:a.Sublist b) (hb:Rises b):Rises a:=List.Pairwise.sublist h hb
theorem kept_in {stays:List UInt8->List UInt8->Bool} {l:List Own} {o:Own} (h:o∈keptF stays l):∃ x∈l,o=⟨x.name,x.paths.filter (stays x.name)⟩/\o.paths≠[]:=by
 unfold keptF at h
 rw[List.mem_filter,List.mem_map]at h
 obtain⟨⟨x,hx,rfl⟩,h⟩:=h
 exact⟨x,hx,rfl,fun e=>by simp only at e;simp[e]at h⟩
theorem kept_names (stays:List UInt8->List UInt8->Bool) (l:List Own):((keptF stays l).map Own.name).Sublist (l.map Own.name):=by
 unfold keptF
 have h:=(List.filter_sublist (p:=fun o:Own=>!o.paths.isEmpty) (l:=l.map fun o=>(⟨o.name,o.paths.filter (stays o.name)⟩:Own))).map Own.name
 rwa [List.map_map]at h
theorem kept_good {stays:List UInt8->List UInt8->Bool} {l:List Own} (h:goodOs l=true):(∀ o∈keptF stays l,namedB o.name=true/\gpsB o.paths=true)/\Rises ((keptF stays l).map Own.name):=by
 obtain⟨-,h2,h3⟩:=good_own h
 refine⟨fun o ho=>?_,rises_sub (kept_names stays l) h3⟩
 obtain⟨x,hx,rfl,hne⟩:=kept_in ho
 obtain⟨h4,h5⟩:=h2 x hx
 obtain⟨-,h6,h7⟩:=gps_parts h5
 exact⟨h4,gps_of hne (fun p hp=>h6 p (List.mem_filter.1 hp).1) (rises_sub List.filter_sublist h7)⟩
theorem count_split:∀ (l:List Own) (n:List UInt8),Rises (l.map Own.name)->(∀ o∈l.take (placeO l n),Op.bytesLess o.name n=true)/\(∀ o∈l.drop (placeO l n),Op.bytesLess o.name n=false)
 | [],n,_=>by simp
 | o :: l,n,h=>by
  unfold Rises at h
  rw[List.map_cons,List.pairwise_cons]at h
  obtain⟨h1,h2⟩:=count_split l n h.2
  cases e:Op.bytesLess o.name n with
  | true=>
   have ec:placeO (o :: l) n=placeO l n+1:=by unfold placeO;rw[List.countP_cons_of_pos (by exact e)]
   rw[ec,List.take_succ_cons,List.drop_succ_cons]
   refine⟨fun x hx=>?_,h2⟩
   rcases List.mem_cons.1 hx with rfl | hx
   ·exact e
   ·exact h1 x hx
  | false=>
   have hz:placeO (o :: l) n=0:=by
    unfold placeO
    rw[List.countP_eq_zero]
    intro x hx h9
    rcases List.mem_cons.1 hx with rfl | hx
    ·rw[e]at h9;cases h9
    ·have:=less_trans _ _ _ (h.1 x.name (List.mem_map.2 ⟨x,hx,rfl⟩)) h9
     rw[e]at this;cases this
   rw[hz,List.take_zero,List.drop_zero]
   refine⟨fun x hx=>(by cases hx),fun x hx=>?_⟩
   rcases List.mem_cons.1 hx with rfl | hx
   ·exact e
   ·cases e9:Op.bytesLess x.name n with
    | false=>rfl
    | true=>
     have:=less_trans _ _ _ (h.1 x.name (List.mem_map.2 ⟨x,hx,rfl⟩)) e9
     rw[e]at this;cases this
theorem with_rises {l:List Own} {o:Own} (h:Rises (l.map Own.name)) (hn:∀ x∈l,x.name≠o.name):Rises ((withOwnF l o).map Own.name):=by
 unfold withOwnF
 split
 ·exact h
 ·obtain⟨h1,h2⟩:=count_split l o.name h
  have hl:l=l.take (placeO l o.name)++l.drop (placeO l o.name):=(List.take_append_drop _ _).symm
  unfold Rises at h ⊢
  rw[hl,List.map_append,List.pairwise_append]at h
  rw[List.map_append,List.map_cons,List.pairwise_append,List.pairwise_cons]
  obtain⟨g1,g2,g3⟩:=h
  have hle:∀ b∈(l.drop (placeO l o.name)).map Own.name,Op.bytesLess o.name b=true:=by
   intro b hb
   obtain⟨x,hx,rfl⟩:=List.mem_map.1 hb
   exact less_total _ _ (h2 x hx) (hn x (List.mem_of_mem_drop hx))
  refine⟨g1,⟨hle,g2⟩,?_⟩
  intro a ha b hb
  rcases List.mem_cons.1 hb with rfl | hb
  ·obtain⟨x,hx,rfl⟩:=List.mem_map.1 ha;exact h1 x hx
  ·exact g3 a ha b hb
theorem with_mem {l:List Own} {o x:Own}:x∈withOwnF l o↔x∈l\/o.paths≠[]/\x=o:=by
 unfold withOwnF
 split
 ·rename_i h;simp[h]
 ·rename_i h
  rw[List.mem_append,List.mem_cons]
  conv=>rhs;rw[<-List.take_append_drop (placeO l o.name) l,List.mem_append]
  constructor
  ·rintro (h1 | h1 | h1)
   ·exact .inl (.inl h1)
   ·exact .inr ⟨h,h1⟩
   ·exact .inl (.inr h1)
  ·rintro ((h1 | h1) | ⟨-,h1⟩)
   ·exact .inl h1
   ·exact .inr (.inr h1)
   ·exact .inr (.inl h1)
theorem rises_inj {l:List Own} (h:Rises (l.map Own.name)) {x y:Own} (hx:x∈l) (hy:y∈l) (e:x.name=y.name):x=y:=by
 induction l with
 | nil=>cases hx
 | cons o l ih=>
  unfold Rises at h
  rw[List.map_cons,List.pairwise_cons]at h
  have no:∀ z∈l,o.name≠z.name:=fun z hz e9=>by
   have:=h.1 z.name (List.mem_map.2 ⟨z,hz,rfl⟩);rw[e9,less_irrefl]at this;cases this
  rcases List.mem_cons.1 hx with hx1 | hx1 <;> rcases List.mem_cons.1 hy with hy1 | hy1
  ·rw[hx1,hy1]
  ·rw[hx1]at e;exact absurd e (no y hy1)
  ·rw[hy1]at e;exact absurd e.symm (no x hx1)
  ·exact ih h.2 hx1 hy1
theorem paths_of {l:List Own} (h:Rises (l.map Own.name)) {o:Own} (ho:o∈l):pathsOfF l o.name=o.paths:=by
 unfold pathsOfF
 cases e:l.find? (fun x=>x.name == o.name) with
 | none=>
  rw[List.find?_eq_none]at e
  exact absurd (e o ho) (by simp)
 | some y=>
  have h1:=List.mem_of_find?_eq_some e
  have h2:=List.find?_some e
  rw[beq_iff_eq]at h2
  rw[rises_inj h h1 ho h2]
theorem paths_none {l:List Own} {who:List UInt8} (h:∀ o∈l,o.name≠who):pathsOfF l who=[]:=by
 unfold pathsOfF
 cases e:l.find? (fun x=>x.name == who) with
 | none=>rfl
 | some y=>
  have h2:=List.find?_some e
  rw[beq_iff_eq]at h2
  exact absurd h2 (h y (List.mem_of_find?_eq_some e))
theorem paths_good {l:List Own} (h:goodOs l=true) (who:List UInt8):∀ p∈pathsOfF l who,gpB p=true:=by
 intro p hp
 unfold pathsOfF at hp
 cases e:l.find? (fun x=>x.name == who) with
 | none=>rw[e]at hp;cases hp
 | some y=>
  rw[e]at hp
  exact(gps_parts ((good_own h).2.1 y (List.mem_of_find?_eq_some e)).2).2.1 p hp
structure ApOk (v:V) (l:List Own) (who:List UInt8) (want:V):Prop where
 vk:v.kind=5
 vg:goodV v=true
 wk:want.kind=5
 wg:goodV want=true
 lg:goodOs l=true
 whog:namedB who=true
theorem others_names {v want:V} {l:List Own} {who:List UInt8}:∀ o∈othersF v want l who,o.name≠who:=by
 intro o ho e
 obtain⟨x,hx,rfl,hne⟩:=kept_in ho
 apply hne
 simp only at e ⊢
 rw[List.filter_eq_nil_iff]
 intro p _
 simp[e]
theorem result_eq {v:V} {l:List Own} {who:List UInt8} {want:V} (h:ApOk v l who want) :
 resultF v want l who=layAll want ((leavesF want).map namesP) (clearF (keepN (leavesF want) (othersF v want l who)) ((pathsOfF l who).map namesP) v):=by
 unfold resultF
 rw[laidAll_eq,cleared_eq _ _ _ _ (paths_good h.lg who)]
theorem ApOk.cleared {v:V} {l:List Own} {who:List UInt8} {want:V} (h:ApOk v l who want) (keep:List (List UInt8)->Bool) :
 Obs (clearF keep ((pathsOfF l who).map namesP) v)/\(clearF keep ((pathsOfF l who).map namesP) v).kind=5:=
 clear_obs _ _ (fun p hp=>by obtain⟨q,hq,rfl⟩:=List.mem_map.1 hp;exact(gp_names (paths_good h.lg who q hq)).2.1) (obs_good h.vg) h.vk
theorem ApOk.lv {v:V} {l:List Own} {who:List UInt8} {want:V} (h:ApOk v l who want):LeavesOk want (leavesF want):=leaves_ok h.wk h.wg
theorem ApOk.leaf {v:V} {l:List Own} {who:List UInt8} {want:V} (h:ApOk v l who want) {ns:List (List UInt8)} (hn:ns∈(leavesF want).map namesP):∃ x,thr ns want=some x/\LeafV x:=
 lvs_thr 12 want ns ((goodV_tree h.wg).ho) h.wk ((h.lv.names ns).1 hn)
theorem ApOk.at {v:V} {l:List Own} {who:List UInt8} {want:V} (h:ApOk v l who want) {ns:List (List UInt8)} (hn:ns∈(leavesF want).map namesP) :
 ∃ y,thr ns (resultF v want l who)=some y/\(y=(thr ns want).getD zeroT\/y.kind=5/\((thr ns want).getD zeroT).kind=5):=by
 rw[result_eq h,layAll_at (obs_good h.wg) _ _ h.lv.apart (h.cleared _).1 hn]
 refine⟨_,rfl,?_⟩
 split
 ·rename_i hc;exact .inr hc
 ·exact .inl rfl
theorem other_no {want v:V} {p:List UInt8} {y:V} (h:thr (namesP p) v=some y) (hy:y=(thr (namesP p) want).getD zeroT\/y.kind=5/\((thr (namesP p) want).getD zeroT).kind=5):otherF want v p=false:=by
 unfold otherF
 rw[h]
 simp only
 rcases hy with hy | hy
 ·simp[hy]
 ·rw[decide_eq_true hy.1,decide_eq_true hy.2];simp
theorem other_not {want v:V} {p:List UInt8} (h:otherF want v p=false):∃ y,thr (namesP p) v=some y/\(y=(thr (namesP p) want).getD zeroT\/y.kind=5/\((thr (namesP p) want).getD zeroT).kind=5):=by
 unfold otherF at h
 cases e:thr (namesP p) v with
 | none=>rw[e]at h;cases h
 | some y=>
  rw[e]at h
  simp only[Bool.and_eq_false_iff,Bool.not_eq_false',Bool.and_eq_true,decide_eq_true_eq]at h
  exact⟨y,rfl,h⟩
theorem found_none {blk:List UInt8->Bool} {who:List UInt8} {l:List Own}:foundF blk who l=[]↔∀ o∈l,o.name≠who->∀ p∈o.paths,blk p=false:=by
 unfold foundF
 rw[List.flatMap_eq_nil_iff]
 constructor
 ·intro h o ho hne p hp
  have:=h o ho
  rw[List.map_eq_nil_iff,List.filter_eq_nil_iff]at this
  have:=this p hp
  simpa [hne] using this
 ·intro h o ho
  rw[List.map_eq_nil_iff,List.filter_eq_nil_iff]
  intro p hp
  by_cases hne:o.name=who
  ·simp[hne]
  ·simp[h o ho hne p hp]
theorem kept_same {stays:List UInt8->List UInt8->Bool}:∀ (l:List Own),(∀ o∈l,o.paths≠[]/\∀ p∈o.paths,stays o.name p=true)->keptF stays l=l
 | [],_=>rfl
 | o :: l,h=>by
  have ih:=kept_same l fun x hx=>h x (by simp[hx])
  obtain⟨h1,h2⟩:=h o (by simp)
  unfold keptF at ih ⊢
  rw[List.map_cons]
  have e:o.paths.filter (stays o.name)=o.paths:=List.filter_eq_self.2 h2
  rw[e,List.filter_cons_of_pos (by cases hp:o.paths with | nil=>exact absurd hp h1 | cons a r=>rfl),ih]
theorem kept_append (stays:List UInt8->List UInt8->Bool) (a b:List Own):keptF stays (a++b)=keptF stays a++keptF stays b:=by simp[keptF]
theorem kept_gone {stays:List UInt8->List UInt8->Bool} {o:Own} (h:∀ p∈o.paths,stays o.name p=false) (l:List Own):keptF stays (o :: l)=keptF stays l:=by
 unfold keptF
 rw[List.map_cons]
 have e:o.paths.filter (stays o.name)=[]:=List.filter_eq_nil_iff.2 fun p hp=>by rw[h p hp];simp
 rw[e,List.filter_cons_of_neg (by simp)]
theorem kept_with {stays:List UInt8->List UInt8->Bool} {l:List Own} {o:Own} (h:∀ x∈l,x.paths≠[]/\∀ p∈x.paths,stays x.name p=true) (ho:∀ p∈o.paths,stays o.name p=false):keptF stays (withOwnF l o)=l:=by
 unfold withOwnF
 split
 ·exact kept_same l h
 ·rw[kept_append,kept_gone ho,<-kept_append,List.take_append_drop,kept_same l h]
theorem apply_ok {v:V} {l:List Own} {who:List UInt8} {want:V} {force:Bool} {w:V} {m:List Own} {c:List (List UInt8 × List UInt8)} (h:applyF v l who want force=(w,m,c,0)) :
 ApOk v l who want/\w=resultF v want l who/\m=withOwnF (othersF v want l who) ⟨who,leavesF want⟩/\c=[]/\goodV w=true/\m.length<=6/\(force=false->foundF (blockedF want v (leavesF want)) who l=[]):=by
 unfold applyF at h
 split at h
 ·rename_i h1
  split at h
  ·simp at h
  ·rename_i h2
   split at h
   ·rename_i h3
    simp only[Prod.mk.injEq]at h
    obtain⟨rfl,rfl,rfl,-⟩:=h
    refine⟨⟨h1.1.1,h1.1.2,h1.2.1.1,h1.2.1.2,h1.2.2.1,h1.2.2.2⟩,rfl,rfl,rfl,h3.1,h3.2,fun hf=>?_⟩
    apply Classical.byContradiction
    intro h9
    exact h2 ⟨h9,hf⟩
   ·simp at h
 ·simp at h
theorem apply_err {v:V} {l:List Own} {who:List UInt8} {want:V} {force:Bool} (h:(applyF v l who want force).2.2.2≠0) :
 (applyF v l who want force).1=v/\(applyF v l who want force).2.1=l/\((applyF v l who want force).2.2.2=5↔(applyF v l who want force).2.2.1≠[])/\(force=true->(applyF v l who want force).2.2.2≠5):=by
 unfold applyF at h ⊢
 split
 ·split
  ·rename_i h2
   exact⟨rfl,rfl,by simp[h2.1],fun hf=>by rw[h2.2]at hf;cases hf⟩
  ·split
   ·rename_i h1 h2 h3
    rw[if_pos h1,if_neg h2,if_pos h3]at h
    exact absurd rfl h
   ·exact⟨rfl,rfl,by simp,fun _=>by simp⟩
 ·exact⟨rfl,rfl,by simp,fun _=>by simp⟩
theorem apply_good {v:V} {l:List Own} {who:List UInt8} {want:V} {force:Bool} {w:V} {m:List Own} {c:List (List UInt8 × List UInt8)} (h:applyF v l who want force=(w,m,c,0)) :
 goodOs m=true/\pathsOfF m who=leavesF want/\w.kind=5:=by
 obtain⟨A,hw,hm,-,hg,h6,-⟩:=apply_ok h
 obtain⟨k1,k2⟩:=kept_good (stays:=fun n p=>n != who&&!blockedF want v (leavesF want) p) A.lg
 have hr:Rises (m.map Own.name):=by rw[hm];exact with_rises k2 others_names
 refine⟨own_good h6 (fun o ho=>?_) hr,?_,?_⟩
 ·rw[hm,with_mem]at ho
  rcases ho with ho | ⟨h1,rfl⟩
  ·exact k1 o ho
  ·exact⟨A.whog,gps_of h1 A.lv.good A.lv.rises⟩
 ·by_cases he:leavesF want=[]
  ·rw[he]
   refine paths_none fun o ho=>?_
   rw[hm,with_mem]at ho
   rcases ho with ho | ⟨h1,-⟩
   ·exact others_names o ho
   ·exact absurd he h1
  ·have hin:(⟨who,leavesF want⟩:Own)∈m:=by rw[hm,with_mem];exact .inr ⟨he,rfl⟩
   exact paths_of hr hin
 ·rw[hw,result_eq A]
  exact(layAll_obs (obs_good A.wg) _ _ (fun a ha=>lvs_ne ((A.lv.names a).1 ha)) (A.cleared _).1 (A.cleared _).2).2
theorem apply_again {v:V} {l:List Own} {who:List UInt8} {want:V} {force:Bool} {w:V} {m:List Own} {c:List (List UInt8 × List UInt8)} (h:applyF v l who want force=(w,m,c,0)) :
 applyF w m who want false=(w,m,[],0):=by
 obtain⟨A,hw,hm,-,hg,h6,-⟩:=apply_ok h
 obtain⟨gm,pm,kw⟩:=apply_good h
 have B:ApOk w m who want:=⟨kw,hg,A.wk,A.wg,gm,A.whog⟩
 have hat:∀ p∈leavesF want,∃ y,thr (namesP p) w=some y/\(y=(thr (namesP p) want).getD zeroT\/y.kind=5/\((thr (namesP p) want).getD zeroT).kind=5):=by
  intro p hp
  rw[hw]
  exact A.at (List.mem_map.2 ⟨p,hp,rfl⟩)
 have hblk:∀ p,blockedF want v (leavesF want) p=false->blockedF want w (leavesF want) p=false:=by
  intro p hp
  unfold blockedF at hp ⊢
  split
  ·rename_i hc
   obtain⟨y,h1,h2⟩:=hat p (by simpa using hc)
   exact other_no h1 h2
  ·rename_i hc
   rwa [if_neg hc]at hp
 have hst:∀ o∈othersF v want l who,o.paths≠[]/\∀ p∈o.paths,(o.name != who&&!blockedF want w (leavesF want) p)=true:=by
  intro o ho
  have hn:=others_names o ho
  obtain⟨x,hx,rfl,hne⟩:=kept_in ho
  refine⟨hne,fun p hp=>?_⟩
  have h9:=(List.mem_filter.1 hp).2
  rw[Bool.and_eq_true]at h9
  rw[Bool.and_eq_true]
  refine⟨h9.1,?_⟩
  rw[hblk p (by simpa using h9.2)];rfl
 have ho:othersF w want m who=othersF v want l who:=by
  conv=>lhs;unfold othersF;rw[hm]
  exact kept_with hst fun p _=>by simp
 have hf:foundF (blockedF want w (leavesF want)) who m=[]:=by
  rw[found_none]
  intro o h1 h2 p hp
  rw[hm,with_mem]at h1
  rcases h1 with h1 | ⟨-,rfl⟩
  ·have:=(hst o h1).2 p hp
   rw[Bool.and_eq_true]at this
   simpa using this.2
  ·exact absurd rfl h2
 have hres:resultF w want m who=w:=by
  rw[result_eq B,pm]
  rw[clear_none _ _ (fun p hp=>by
   obtain⟨q,hq,rfl⟩:=List.mem_map.1 hp
   unfold keepN
   rw[(gp_names (A.lv.good q hq)).2.2]
   simp[hq])]
  exact layAll_same _ _ (obs_good hg) fun b hb=>by
   obtain⟨q,hq,rfl⟩:=List.mem_map.1 hb
   exact hat q hq
 unfold applyF
 rw[if_pos ⟨⟨kw,hg⟩,⟨A.wk,A.wg⟩,gm,A.whog⟩,if_neg (fun h9=>h9.1 hf),hres,ho,<-hm,if_pos ⟨hg,h6⟩]
theorem apply_leaf {v:V} {l:List Own} {who:List UInt8} {want:V} {force:Bool} {w:V} {m:List Own} {c:List (List UInt8 × List UInt8)} (h:applyF v l who want force=(w,m,c,0)) {p:List UInt8} (hp:p∈leavesF want) :
 ∃ x y,getR (splitP p) want=(x,0)/\getR (splitP p) w=(y,0)/\(x=y\/x.kind=5/\y.kind=5):=by
 obtain⟨A,hw,hm,-,hg,h6,-⟩:=apply_ok h
 have hin:namesP p∈(leavesF want).map namesP:=List.mem_map.2 ⟨p,hp,rfl⟩
 obtain⟨x,hx,-⟩:=A.leaf hin
 obtain⟨y,h1,h2⟩:=A.at hin
 rw[<-hw]at h1
 rw[hx,Option.getD_some]at h2
 have hs:=(gp_names (A.lv.good p hp)).1
 refine⟨x,y,?_,?_,?_⟩
 ·rw[hs];exact get_ok rfl A.wg (thr_get _ _ _ hx)
 ·rw[hs];exact get_ok rfl hg (thr_get _ _ _ h1)
 ·rcases h2 with h2 | h2
  ·exact .inl h2.symm
  ·exact .inr ⟨h2.2,h2.1⟩
end Go.Proofs.YtmdemcjmcnfjmaaGreatDoor
